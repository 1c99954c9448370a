import Derived.Test.YtbplcgbfhijbcaaEl
namespace Go.Proofs.Ytbplcgbfhijbcaa
open Go.RowKit
set_option linter.unusedVariables false
set_option linter.unusedSimpArgs false
theorem rb_out (a : Option Addr) (n c : Nat) (at' most : Int) (w : World) (hn : n ≤ 4611686018427387904) (hb : at' < 0 ∨ (n : Int) < at') :
    Calls Try.prog 24 #[.slice a n c, .int .i64 at', .int .i64 most] w fun e w' => e = trs (.slice none 0 0) 0 2 ∧ w = w' := by
  go_enter Try.func24, Try.ntmps24
  go_wp2_with ((go_at_call 14; go_loud ((with_reducible refine (ru_out _ _ _ _ _ hn hb).mono ?_); rintro e1 w1 ⟨rfl, rfl⟩; unfold tri)))
  go_ret3
  exact ⟨rfl, rfl⟩
theorem trs_eq {v : Value} {p p' : Int} (h : p = p') : Ending.returned (.tuple #[v, .int .i64 p, .int .i64 0]) = trs v p' 0 := by rw [h]; rfl
theorem hY_nat {y : Nat} (h : y < 256) : y = (BitVec.ofNat 8 y).toNat := by rw [BitVec.toNat_ofNat]; omega
theorem rb_ok (a : Option Addr) (n c k : Nat) (most : Int) (l : List (BitVec 8)) (w : World) (hn : l.length = n) (hl : n ≤ 100000000) (hm : most ≤ 9223372036854775807) (hr : Rd w a l) (hk : k ≤ n) (hu : bytE (l.drop k) most = 0) :
    Calls Try.prog 24 #[.slice a n c, .int .i64 k, .int .i64 most] w (TkA w (l.drop k) k) := by
  subst hn
  obtain ⟨h1, h2⟩ := bytE_ok hu
  obtain ⟨h3, h4, h5⟩ := lenE_ok h1
  have hcon := ru_ok a _ c k l w rfl (by omega) hr hk h3
  unfold TkA
  obtain ⟨d, hd⟩ : ∃ d, l.drop k = d := ⟨_, rfl⟩
  have hdl : d.length = l.length - k := by rw [← hd, List.length_drop]
  rw [hd] at hcon h2 h5 ⊢
  obtain ⟨x, hx⟩ : ∃ x, uvV d = x := ⟨_, rfl⟩
  obtain ⟨m, hmm⟩ : ∃ m, uvN d = m := ⟨_, rfl⟩
  rw [hx, hmm] at hcon h2 ⊢
  rw [hx] at h5
  have HC := Lib.hid hcon
  have HK := Lib.hid (show ((d.drop m).take x).length = x by rw [List.length_take, List.length_drop]; omega)
  have hrd : Rd w (a.map (·.add k)) d := by rw [← hd]; exact hr.drop k
  have hcell : ∀ j, j < x → ∃ ad, a = some ad ∧ w.cell? (ad.add (k + m + j)) = some (.int .u8 (byA ((d.drop m).take x) j : Int)) := by
    intro j hj
    obtain ⟨ad, e, hc⟩ := byA_cell hr (k + m + j) (by omega)
    refine ⟨ad, e, ?_⟩
    rw [hc, ← hd]
    simp [byA, List.getD, List.getElem?_take, hj, Nat.add_assoc]
  have d1 : decide (most < 0) = false := by simp; omega
  have d2 : decide (most < (x : Int)) = false := by simp; omega
  have d3 : decide (((l.length : Int) - ((k + m : Nat) : Int)) < (x : Int)) = false := by simp; omega
  have HX : x ≤ 100000000 := by omega
  have HKM : k + m + x ≤ l.length := by omega
  obtain ⟨T, hT⟩ : ∃ T, (d.drop m).take x = T := ⟨_, rfl⟩
  rw [hT] at HK hcell ⊢
  clear hx hmm hcon hd hdl hu h1 hT hrd h2
  go_enter Try.func24, Try.ntmps24
  go_wp2_with ((go_at_call 14; go_loud ((with_reducible refine HC.out.mono ?_); rintro e1 w1 ⟨rfl, rfl⟩; unfold tri)))
  go_loopw [12, 13] (fun v i wr => ∃ j : Nat, j ≤ x ∧ i = .int .i64 j ∧ wr.ownsRow w.heap.size 5 1 v j (bv8 (T.take j)) ∧ Below w.heap.size w wr) (fun _ i _ => x - (intOf i).toNat)
  case atStart => exact ⟨0, Nat.zero_le _, rfl, fresh_row8 _, Below.alloc (Below.refl _ _) (Nat.le_refl _) _⟩
  case round =>
    obtain ⟨j, hj, rfl, hown, hb⟩ := hrel
    have hz := hb.size
    have hn1 : j + 1 ≤ 100000000 ∨ ¬ j < x := by omega
    by_cases hlt : j < x
    · obtain ⟨ad, rfl, hc⟩ := hcell j hlt
      have hc2 := (hb.cell (p := ad.add (k + m + j)) (World.block_lt_of_cell? w _ hc)).trans hc
      obtain ⟨y, hy⟩ : ∃ y, byA T j = y := ⟨_, rfl⟩
      have hyb := byA_lt T j
      rw [hy] at hc2 hyb
      have hY := Lib.hid (b8nat y hyb)
      have HY := Lib.hid hy
      have hn2 : j + 1 ≤ 100000000 := by omega
      clear hn1 hy hc
      go_wp2_with (at_builtin; go_loud (refine wpList_snoc8 (B := w.heap.size) rfl _ _ rfl hown hz hn2 (BitVec.ofNat 8 y) hY.out rfl rfl ?_; intro v' w2 hown2 hb2 _ _))
      go_roundw
      case rel =>
        have hjT : j < T.length := by rw [HK.out]; omega
        refine ⟨j + 1, by omega, by go_num, ?_, hb.trans hb2⟩
        rw [List.take_succ_eq_append_getElem hjT]
        have e : BitVec.ofNat 8 y = T[j] := BitVec.eq_of_toNat_eq (by rw [← hY_nat hyb, ← HY.out, byA_in T j hjT])
        rw [← e]
        exact hown2
      case measure => (simp [intOf]; try omega)
    · obtain rfl : j = x := by omega
      rw [List.take_of_length_le (by rw [HK.out]; omega)] at hown
      go_wp2
      obtain ⟨a2, c2, rfl⟩ := own_slice hown
      go_ret3
      exact ⟨a2, c2, trs_eq (v := .slice a2 j c2) (p := (k : Int) + (m : Int) + (j : Int)) (by omega), own_cap hown, HK.out, hown, hb⟩
theorem rb_bad (a : Option Addr) (n c k : Nat) (most : Int) (l : List (BitVec 8)) (w : World) (hn : l.length = n) (hl : n ≤ 4611686018427387904) (hm : most ≤ 9223372036854775807) (hr : Rd w a l) (hk : k ≤ n) (hu : bytE (l.drop k) most ≠ 0) :
    Calls Try.prog 24 #[.slice a n c, .int .i64 k, .int .i64 most] w fun e w' => e = trs (.slice none 0 0) 0 (bytE (l.drop k) most) ∧ w = w' := by
  subst hn
  by_cases h3 : uvE (l.drop k) = 0
  · have hcon := ru_ok a _ c k l w rfl hl hr hk h3
    have hlen := uvE_len _ h3
    obtain ⟨d, hd⟩ : ∃ d, l.drop k = d := ⟨_, rfl⟩
    have hdl : d.length = l.length - k := by rw [← hd, List.length_drop]
    rw [hd] at hcon hlen h3 hu ⊢
    by_cases h4 : most < 0 ∨ most < (uvV d : Int)
    · have hE : bytE d most = 5 := by unfold bytE; rw [lenE_lim h3 h4, if_pos (by decide)]
      rw [hE]
      obtain ⟨x, hx⟩ : ∃ x, uvV d = x := ⟨_, rfl⟩
      rw [hx] at hcon h4
      have HC := Lib.hid hcon
      have h4' : most < 0 ∨ (0 ≤ most ∧ most < (x : Int)) := by omega
      clear h4 hcon hx hu hE hd hdl
      rcases h4' with h4 | ⟨h4, h5⟩
      · have d1 : decide (most < 0) = true := by simp; omega
        go_enter Try.func24, Try.ntmps24
        go_wp2_with ((go_at_call 14; go_loud ((with_reducible refine HC.out.mono ?_); rintro e1 w1 ⟨rfl, rfl⟩; unfold tri)))
        go_ret3
        exact ⟨rfl, rfl⟩
      · have d1 : decide (most < 0) = false := by simp; omega
        have d2 : decide (most < (x : Int)) = true := by simp; omega
        go_enter Try.func24, Try.ntmps24
        go_wp2_with ((go_at_call 14; go_loud ((with_reducible refine HC.out.mono ?_); rintro e1 w1 ⟨rfl, rfl⟩; unfold tri)))
        go_ret3
        exact ⟨rfl, rfl⟩
    · have hf := lenE_fine h3 h4
      unfold bytE at hu ⊢
      rw [if_neg (by omega)] at hu ⊢
      by_cases h2 : d.length < uvN d + uvV d
      · rw [if_pos h2]
        obtain ⟨x, hx⟩ : ∃ x, uvV d = x := ⟨_, rfl⟩
        obtain ⟨m, hmm⟩ : ∃ m, uvN d = m := ⟨_, rfl⟩
        rw [hx, hmm] at hcon h2
        rw [hmm] at hlen
        rw [hx] at h4
        have HC := Lib.hid hcon
        have h6 : 0 ≤ most := by omega
        have d1 : decide (most < 0) = false := by simp; omega
        have d2 : decide (most < (x : Int)) = false := by simp; omega
        have hkm : k + m ≤ l.length := by omega
        have d3 : l.length - (k + m) < x := by omega
        have d4 : (l.length : Int) - ((k : Int) + (m : Int)) < (x : Int) := by omega
        clear h4 hcon hx hmm hu hd hdl h2 hf
        go_enter Try.func24, Try.ntmps24
        go_wp2_with ((go_at_call 14; go_loud ((with_reducible refine HC.out.mono ?_); rintro e1 w1 ⟨rfl, rfl⟩; unfold tri)))
        go_ret3
        exact ⟨rfl, rfl⟩
      · rw [if_neg h2] at hu
        exact absurd rfl hu
  · have hcon := ru_bad a _ c k l w rfl hl hr hk h3
    have hE : bytE (l.drop k) most = uvE (l.drop k) := by unfold bytE; rw [lenE_bad h3, if_pos h3]
    rw [hE]
    obtain ⟨E, hEE⟩ : ∃ E, uvE (l.drop k) = E := ⟨_, rfl⟩
    rw [hEE] at hcon h3 ⊢
    have q1 : ((E : Int) == 0) = false := by simp; exact h3
    have q2 : ((E : Int) != 0) = true := by simp; exact h3
    have HC := Lib.hid hcon
    clear hcon hEE h3 hu hE
    go_enter Try.func24, Try.ntmps24
    go_wp2_with ((go_at_call 14; go_loud ((with_reducible refine HC.out.mono ?_); rintro e1 w1 ⟨rfl, rfl⟩; unfold tri)))
    go_ret3
    exact ⟨rfl, rfl⟩
end Go.Proofs.Ytbplcgbfhijbcaa
