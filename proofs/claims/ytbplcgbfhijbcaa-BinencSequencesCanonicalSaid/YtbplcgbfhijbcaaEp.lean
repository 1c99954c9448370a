import Derived.Test.YtbplcgbfhijbcaaEo
import Derived.Test.YtbplcgbfhijbcaaEm
namespace Go.Proofs.Ytbplcgbfhijbcaa
open Go.RowKit
set_option linter.unusedVariables false
set_option linter.unusedSimpArgs false
theorem ri_out (a : Option Addr) (n c : Nat) (at' most : Int) (w : World) (hn : n ≤ 4611686018427387904) (hb : at' < 0 ∨ (n : Int) < at') :
    Calls Try.prog 37 #[.slice a n c, .int .i64 at', .int .i64 most] w fun e w' => e = trs (.slice none 0 0) 0 2 ∧ Below w.heap.size w w' := by
  go_enter Try.func37, Try.ntmps37
  go_wp2_with ((go_at_call 14; go_loud ((with_reducible refine (ru_out _ _ _ _ _ hn hb).mono ?_); rintro e1 w1 ⟨rfl, rfl⟩; unfold tri)))
  go_ret3
  exact ⟨rfl, Below.refl _ _⟩
theorem ri_len (a : Option Addr) (n c k : Nat) (most : Int) (l : List (BitVec 8)) (w : World) (hn : l.length = n) (hl : n ≤ 4611686018427387904) (hm : most ≤ 9223372036854775807) (hr : Rd w a l) (hk : k ≤ n) (hu : lenE (l.drop k) most ≠ 0) :
    Calls Try.prog 37 #[.slice a n c, .int .i64 k, .int .i64 most] w fun e w' => e = trs (.slice none 0 0) 0 (lenE (l.drop k) most) ∧ Below w.heap.size w w' := by
  subst hn
  by_cases h3 : uvE (l.drop k) = 0
  · have hcon := ru_ok a _ c k l w rfl hl hr hk h3
    by_cases h4 : most < 0 ∨ most < (uvV (l.drop k) : Int)
    · rw [lenE_lim h3 h4]
      obtain ⟨x, hx⟩ : ∃ x, uvV (l.drop k) = x := ⟨_, rfl⟩
      rw [hx] at hcon h4
      have HC := Lib.hid hcon
      have h4' : most < 0 ∨ (0 ≤ most ∧ most < (x : Int)) := by omega
      clear h4 hcon hx hu
      rcases h4' with h4 | ⟨h4, h5⟩
      · have d1 : decide (most < 0) = true := by simp; omega
        go_enter Try.func37, Try.ntmps37
        go_wp2_with ((go_at_call 14; go_loud ((with_reducible refine HC.out.mono ?_); rintro e1 w1 ⟨rfl, rfl⟩; unfold tri)))
        go_ret3
        exact ⟨rfl, Below.refl _ _⟩
      · have d1 : decide (most < 0) = false := by simp; omega
        have d2 : decide (most < (x : Int)) = true := by simp; omega
        go_enter Try.func37, Try.ntmps37
        go_wp2_with ((go_at_call 14; go_loud ((with_reducible refine HC.out.mono ?_); rintro e1 w1 ⟨rfl, rfl⟩; unfold tri)))
        go_ret3
        exact ⟨rfl, Below.refl _ _⟩
    · exact absurd (lenE_fine h3 h4) hu
  · have hcon := ru_bad a _ c k l w rfl hl hr hk h3
    rw [lenE_bad h3]
    obtain ⟨E, hEE⟩ : ∃ E, uvE (l.drop k) = E := ⟨_, rfl⟩
    rw [hEE] at hcon h3 ⊢
    have q1 : ((E : Int) == 0) = false := by simp; exact h3
    have q2 : ((E : Int) != 0) = true := by simp; exact h3
    have HC := Lib.hid hcon
    clear hcon hEE h3 hu
    go_enter Try.func37, Try.ntmps37
    go_wp2_with ((go_at_call 14; go_loud ((with_reducible refine HC.out.mono ?_); rintro e1 w1 ⟨rfl, rfl⟩; unfold tri)))
    go_ret3
    exact ⟨rfl, Below.refl _ _⟩
def RiR (w : World) (l : List (BitVec 8)) (n : Nat) (F : List Int × Nat × Nat) (ne v la i : Value) (wr : World) : Prop := ∃ (j r p : Nat) (L : Int) (acc : List Int), j + r = n ∧ i = .int .u64 j ∧ ne = .int .i64 p ∧ la = .int .i64 L ∧ (-9223372036854775808 ≤ L ∧ L ≤ 9223372036854775807) ∧
  Hid (idec l r p L acc = F) ∧ Hid (acc.length ≤ p ∧ p ≤ l.length ∧ acc.length = j) ∧ wr.ownsRow w.heap.size 3 1 v acc.length (iv acc) ∧ Below w.heap.size w wr
set_option maxRecDepth 50000 in
set_option maxHeartbeats 1000000 in
theorem ri_dec (a : Option Addr) (n c k : Nat) (most : Int) (l : List (BitVec 8)) (w : World) (hn : l.length = n) (hl : n ≤ 1000000) (hm : most ≤ 9223372036854775807) (hr : Rd w a l) (hk : k ≤ n) (hu : lenE (l.drop k) most = 0) :
    Calls Try.prog 37 #[.slice a n c, .int .i64 k, .int .i64 most] w (IsA w (idec l (uvV (l.drop k)) (k + uvN (l.drop k)) 0 [])) := by
  subst hn
  obtain ⟨h3, h4, h5⟩ := lenE_ok hu
  have hcon := ru_ok a _ c k l w rfl (by omega) hr hk h3
  have hN := uvE_len _ h3
  rw [List.length_drop] at hN
  obtain ⟨x, hx⟩ : ∃ x, uvV (l.drop k) = x := ⟨_, rfl⟩
  obtain ⟨p, hpp⟩ : ∃ p, k + uvN (l.drop k) = p := ⟨_, rfl⟩
  rw [hpp, hx] at hcon ⊢
  rw [hx] at h5
  have hpl : p ≤ l.length := by omega
  obtain ⟨F, hF⟩ : ∃ F, idec l x p 0 [] = F := ⟨_, rfl⟩
  rw [hF]
  have HF := Lib.hid hF
  have HC := Lib.hid hcon
  have hcl : l.length ≤ 4611686018427387904 := by omega
  have d1 : decide (most < 0) = false := by simp; omega
  have d2 : decide (most < (x : Int)) = false := by simp; omega
  have hxl : x < 9223372036854775808 := by omega
  clear hcon hx hpp hF hN hu h3
  go_enter Try.func37, Try.ntmps37
  go_wp2_with ((go_at_call 14; go_loud ((with_reducible refine HC.out.mono ?_); rintro e1 w1 ⟨rfl, rfl⟩; unfold tri)))
  go_loopw [10, 12, 13, 14] (fun ne v la i wr => RiR w l x F ne v la i wr) (fun _ _ _ i _ => x - (intOf i).toNat)
  case atStart => exact ⟨0, x, p, 0, [], by omega, rfl, rfl, rfl, by omega, HF.out, ⟨by simp, hpl, rfl⟩, fresh_rowi _, Below.alloc (Below.refl _ _) (Nat.le_refl _) _⟩
  case round =>
    obtain ⟨j, r, p, L, acc, hj, rfl, rfl, rfl, hLb, hid, hap, hown, hb⟩ := hrel
    have hz := hb.size
    rcases r with _ | r
    · obtain rfl : j = x := by omega
      rw [idec_zero] at hid
      go_wp2
      go_ret3
      exact IsA.good hid.out.symm hown hb
    · have hrw := hr.below hb
      by_cases he : uvE (l.drop p) = 0
      · have hcv := rv_ok a _ c p l wr rfl hcl hrw hap.out.2.1 he
        have hNl := uvE_len _ he
        rw [List.length_drop] at hNl
        rw [idec_ok he, ← wrap64_wr] at hid
        have huz := unzz_in (uvV_lt _ he)
        obtain ⟨y, hy⟩ : ∃ y, unzz (uvV (l.drop p)) = y := ⟨_, rfl⟩
        obtain ⟨N, hNN⟩ : ∃ N, uvN (l.drop p) = N := ⟨_, rfl⟩
        have hN0 : 0 < N := by rw [← hNN]; unfold uvN; omega
        rw [hNN] at hid hcv hNl
        rw [hy] at hid hcv huz
        have HV := Lib.hid hcv
        have hn1 := Lib.hid (show acc.length + 1 ≤ 100000000 by have := hap.out; omega)
        have HS := Lib.hid (add64 L y hLb.1 hLb.2 huz.1 huz.2)
        clear hcv hy hNN he
        go_wp2_with (first
          | (go_at_call 20; go_loud ((with_reducible refine HV.out.mono ?_); unfold dri; rintro e w3 ⟨rfl, rfl⟩))
          | (at_builtin; go_loud (refine wpList_snoci (B := w.heap.size) rfl _ _ rfl hown hz hn1.out (wrap64 (IntKind.u64.wrap (IntKind.u64.wrap L + IntKind.u64.wrap y))) rfl rfl ?_; intro v' w4 hown4 hb4 _)))
        go_roundw
        case rel =>
          have hw : -9223372036854775808 ≤ wrap64 (L + y) ∧ wrap64 (L + y) ≤ 9223372036854775807 := by rw [wrap64_wr]; exact wr_in _
          rw [HS.out] at hown4
          refine ⟨j + 1, r, p + N, wrap64 (L + y), acc ++ [wrap64 (L + y)], by omega, by go_num, by go_num, by rw [HS.out], hw, hid.out, ?_, by simpa using hown4, hb.trans hb4⟩
          have := hap.out
          exact ⟨by rw [List.length_append, List.length_singleton]; omega, by omega, by rw [List.length_append, List.length_singleton]; omega⟩
        case measure => (simp [intOf]; try omega)
      · have hcv := rv_bad a _ c p l wr rfl hcl hrw hap.out.2.1 he
        rw [idec_bad he] at hid
        obtain ⟨E, hE⟩ : ∃ E, uvE (l.drop p) = E := ⟨_, rfl⟩
        rw [hE] at hid hcv he
        have q1 : ((E : Int) == 0) = false := by simp; exact he
        have q2 : ((E : Int) != 0) = true := by simp; exact he
        have HV := Lib.hid hcv
        have HE := Lib.hid he
        clear hcv hE he
        go_wp2_with (go_at_call 20; go_loud ((with_reducible refine HV.out.mono ?_); unfold dri; rintro e w3 ⟨rfl, rfl⟩))
        go_ret3
        exact IsA.bad hid.out.symm HE.out hb
/-- Both sides, whatever the offset. -/
theorem bi_any (a : Option Addr) (n c : Nat) (at' most : Int) (l : List (BitVec 8)) (w : World) (hn : l.length = n) (hc : n ≤ c) (hl : n ≤ 1000000) (hm : most ≤ 9223372036854775807) (hr : Rd w a l) :
    Calls Try.prog 36 #[.slice a n c, .int .i64 at', .int .i64 most] w (IsA w (intsM l at' most)) := by
  unfold intsM
  by_cases h : at' < 0 ∨ (l.length : Int) < at'
  · rw [if_pos h]
    exact (bi_out a n c at' most w (by omega) (by omega)).mono fun e w' ⟨h1, h2⟩ => by subst h1; exact IsA.bad rfl (by decide) h2
  · rw [if_neg h]
    obtain ⟨k, rfl⟩ := Int.eq_ofNat_of_zero_le (show 0 ≤ at' by omega)
    rw [show ((k : Int)).toNat = k from rfl]
    by_cases hu : lenE (l.drop k) most = 0
    · rw [if_neg (by omega)]
      exact bi_dec a n c k most l w hn hc hl hm hr (by omega) hu
    · rw [if_pos hu]
      exact (bi_len a n c k most l w hn hc (by omega) hm hr (by omega) hu).mono fun e w' ⟨h1, h2⟩ => by subst h1; exact IsA.bad rfl hu h2
theorem ri_any (a : Option Addr) (n c : Nat) (at' most : Int) (l : List (BitVec 8)) (w : World) (hn : l.length = n) (hl : n ≤ 1000000) (hm : most ≤ 9223372036854775807) (hr : Rd w a l) :
    Calls Try.prog 37 #[.slice a n c, .int .i64 at', .int .i64 most] w (IsA w (intsM l at' most)) := by
  unfold intsM
  by_cases h : at' < 0 ∨ (l.length : Int) < at'
  · rw [if_pos h]
    exact (ri_out a n c at' most w (by omega) (by omega)).mono fun e w' ⟨h1, h2⟩ => by subst h1; exact IsA.bad rfl (by decide) h2
  · rw [if_neg h]
    obtain ⟨k, rfl⟩ := Int.eq_ofNat_of_zero_le (show 0 ≤ at' by omega)
    rw [show ((k : Int)).toNat = k from rfl]
    by_cases hu : lenE (l.drop k) most = 0
    · rw [if_neg (by omega)]
      exact ri_dec a n c k most l w hn hl hm hr (by omega) hu
    · rw [if_pos hu]
      exact (ri_len a n c k most l w hn (by omega) hm hr (by omega) hu).mono fun e w' ⟨h1, h2⟩ => by subst h1; exact IsA.bad rfl hu h2
end Go.Proofs.Ytbplcgbfhijbcaa
