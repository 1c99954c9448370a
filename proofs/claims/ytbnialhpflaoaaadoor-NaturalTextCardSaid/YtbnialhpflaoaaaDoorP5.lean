import Derived.Test.YtbnialhpflaoaaaDoorP4
import Derived.Deep.RegionHeld3
namespace Go.Proofs.YtbnialhpflaoaaaDoor
open Go.RowKit
set_option linter.unusedVariables false
set_option linter.unusedSimpArgs false
theorem dec007 (w : World) : Calls Tryd.prog 55 #[.string { data := #[48, 48, 55] }] w fun e w' => e = .returned (.bool false) ∧ w' = w := by
  go_enter Tryd.func55, Tryd.ntmps55
  go_wp2
  go_ret
  exact ⟨rfl, rfl⟩
theorem parse007 (w : World) : Calls Tryd.prog 38 #[.string { data := #[48, 48, 55] }] w fun e w' => e = .returned (.tuple #[.slice none 0 0, .int .i64 3]) ∧ w' = w := by
  go_enter Tryd.func38, Tryd.ntmps38
  go_wp2_with (go_at_call 55; (with_reducible refine (dec007 _).mono ?_); rintro e w1 ⟨rfl, rfl⟩)
  go_ret2
  exact ⟨rfl, rfl⟩
theorem pw_two' : pw 2 = 18446744073709551616 := by decide
theorem val_two {l : List (BitVec 32)} (h : l.length ≤ 2) : valD l < 18446744073709551616 := by
  have := valD_lt l
  have h2 := pw_mono h
  rw [pw_two'] at h2
  omega
theorem nfromR (n : Nat) (hn : n < 18446744073709551616) (w : World) : Calls Tryd.prog 15 #[.int .u64 n] w (FrR w (canon n)) := (nfrom_any n hn w).mono fun _ _ h => FrR.of_own h
set_option maxRecDepth 50000 in
set_option maxHeartbeats 2000000 in
theorem ndm_small (a b : Option Addr) (n c m d : Nat) (l k : List (BitVec 32)) (w : World) (hn : l.length = n) (hm : k.length = m) (hnc : n ≤ c) (hmd : m ≤ d) (hl : n ≤ 1000000) (hl2 : m ≤ 1000000) (hr : Rw w a l) (hs : Rw w b k) (hpos : 0 < valD k) (hge : valD k ≤ valD l) (hsm : (trimD l).length ≤ 2) :
    Calls Tryd.prog 31 #[.slice a n c, .slice b m d] w fun e w' => ∃ a1 c1 a2 c2, e = .returned (.tuple #[.slice a1 (canon (valD l / valD k)).length c1, .slice a2 (canon (valD l % valD k)).length c2, .int .i64 0]) ∧ (canon (valD l / valD k)).length ≤ c1 ∧ (canon (valD l % valD k)).length ≤ c2 ∧ RwF w.heap.size w' a1 (canon (valD l / valD k)) ∧ RwF w.heap.size w' a2 (canon (valD l % valD k)) ∧ Below w.heap.size w w' := by
  subst hn hm
  have f1 := trim_len_le l
  have f2 := trim_len_le k
  have hrt := hr.trim
  have hst := hs.trim
  have t2 : trimD (trimD k) = trimD k := by rw [← canon_val k, trim_canon]
  have hkz : ((trimD k).length == 0) = false := by
    rw [beq_eq_false_iff_ne]
    have := canon_len_pos hpos
    rw [canon_val] at this
    omega
  have hkzi : (((trimD k).length : Int) == 0) = false := by
    rw [beq_eq_false_iff_ne] at hkz ⊢
    omega
  rw [← valD_trim l, ← valD_trim k] at hge ⊢
  rw [← valD_trim k] at hpos
  have hkl : (trimD k).length ≤ (trimD l).length := by
    rcases Nat.lt_or_ge (trimD l).length (trimD k).length with h | h
    · have := valD_len_lt _ _ t2 h
      omega
    · exact h
  obtain ⟨cv, hcv, hcv2⟩ := cmpN_ge hge
  have hcmp := Lib.hid hcv
  clear hcv t2
  have T1 : ∀ W, Rw W a l → Calls Tryd.prog 43 #[.slice a l.length c] W fun e w' => e = .returned (.slice a (trimD l).length c) ∧ W = w' := fun W h => trim_any a _ c l W rfl hnc (by omega) h
  have T2 : ∀ W, Rw W b k → Calls Tryd.prog 43 #[.slice b k.length d] W fun e w' => e = .returned (.slice b (trimD k).length d) ∧ W = w' := fun W h => trim_any b _ d k W rfl hmd (by omega) h
  have H1 := Lib.hid (T1 w hr)
  have H2 := Lib.hid (T2 w hs)
  clear T1 T2 hr hs hge
  generalize trimD l = lt at *
  generalize trimD k = kt at *
  have vm := val_two hsm
  have vn := val_two (Nat.le_trans hkl hsm)
  have hs1 : ∀ W, Rw W a lt → Calls Tryd.prog 47 #[.slice a lt.length c] W fun e w' => e = .returned (.tuple #[.int .u64 (valD lt : Nat), .bool true]) ∧ ∃ k, w' = W.drewN k := fun W h => to64_small a _ c lt W rfl hsm h
  have hs2 : ∀ W, Rw W b kt → Calls Tryd.prog 47 #[.slice b kt.length d] W fun e w' => e = .returned (.tuple #[.int .u64 (valD kt : Nat), .bool true]) ∧ ∃ k, w' = W.drewN k := fun W h => to64_small b _ d kt W rfl (Nat.le_trans hkl hsm) h
  have HS1 := Lib.hid hs1
  have HS2 := Lib.hid hs2
  clear hs1 hs2
  obtain ⟨M, hM⟩ : ∃ M, valD lt = M := ⟨_, rfl⟩
  obtain ⟨N, hN⟩ : ∃ N, valD kt = N := ⟨_, rfl⟩
  rw [hM] at HS1 vm
  rw [hN] at HS2 vn hpos
  rw [hM, hN] at hcmp
  have HM := Lib.hid hM
  have HN := Lib.hid hN
  rw [hM, hN]
  clear hM hN
  obtain ⟨Qv, hQv⟩ : ∃ q, M / N = q := ⟨_, rfl⟩
  obtain ⟨Rv, hRv⟩ : ∃ r, M % N = r := ⟨_, rfl⟩
  have hqi : (M : Int) / (N : Int) = (Qv : Int) := by rw [← hQv]; simp
  have hri : (M : Int) % (N : Int) = (Rv : Int) := by rw [← hRv]; simp
  have hqt : (M : Int).tdiv (N : Int) = (Qv : Int) := by rw [← hQv, Int.tdiv_eq_ediv_of_nonneg (by omega)]; simp
  have hrt2 : (M : Int).tmod (N : Int) = (Rv : Int) := by rw [← hRv, Int.tmod_eq_emod_of_nonneg (by omega)]; simp
  have hql : Qv < 18446744073709551616 := by rw [← hQv]; exact Nat.lt_of_le_of_lt (Nat.div_le_self _ _) vm
  have hrl : Rv < 18446744073709551616 := by rw [← hRv]; exact Nat.lt_of_le_of_lt (Nat.mod_le _ _) vm
  rw [hQv, hRv]
  have hnz : ((N : Int) == 0) = false := by rw [beq_eq_false_iff_ne]; omega
  have hnz2 : (N == 0) = false := by rw [beq_eq_false_iff_ne]; omega
  have hnz3 : ¬ N = 0 := by omega
  have HQ := Lib.hid hQv
  have HR := Lib.hid hRv
  have G1 := Lib.hid (nfromR Qv hql)
  have G2 := Lib.hid (nfromR Rv hrl)
  have hwq : IntKind.u64.wrap (Qv : Int) = Qv := by rw [IntKind.wrap_u64]; omega
  have hwr : IntKind.u64.wrap (Rv : Int) = Rv := by rw [IntKind.wrap_u64]; omega
  clear hQv hRv hpos hql hrl vm vn
  go_enter Tryd.func31, Tryd.ntmps31
  go_wp2_with (first
    | (go_at_call 43; (with_reducible refine H1.out.mono ?_); rintro e w1 ⟨rfl, rfl⟩)
    | (go_at_call 43; (with_reducible refine H2.out.mono ?_); rintro e w1 ⟨rfl, rfl⟩)
    | (go_at_call 21; (with_reducible refine (ncmp_any a b _ c _ d lt kt _ rfl rfl (by omega) (by omega) (by omega) (by omega) hrt hst).mono ?_); rintro e wb ⟨rfl, hw1⟩; have hb0 := drew_below hw1; have hz0 := hb0.size; have hrb := hrt.below hb0; have hsb := hst.below hb0; clear hw1; rw [HM.out, HN.out, hcmp.out])
    | (go_at_call 47; (with_reducible refine (HS1.out _ hrb).mono ?_); rintro e wc ⟨rfl, hw2⟩; have hb1 := drew_below hw2; have hz1 := hb1.size; have hsb1 := hsb.below hb1; have hbc := hb0.trans (hb1.mono hz0); clear hw2 hb1)
    | (go_at_call 47; (with_reducible refine (HS2.out _ hsb1).mono ?_); rintro e wd ⟨rfl, hw3⟩; have hb2 := drew_below hw3; have hbd := hbc.trans (hb2.mono hbc.size); clear hw3 hb2))
  have hbe := hbd.drew
  have hze := hbe.size
  go_region_held3 (fun _ => True) (trivial) ((first
    | (go_at_call 15; (with_reducible refine (G1.out _).mono ?_); rintro e wf ⟨a1, c1, rfl, hc1, hr1, hbf⟩; have hbf2 := hbe.trans (hbf.mono hze); have hzf := hbf2.size)
    | (go_at_call 15; (with_reducible refine (G2.out _).mono ?_); rintro e wg ⟨a2, c2, rfl, hc2, hr2, hbg⟩; have hbg2 := hbf2.trans (hbg.mono hzf); have hr1' := hr1.below hbg)
    ))
  go_wp2
  go_ret3
  exact ⟨a1, c1, a2, c2, rfl, hc1, hc2, hr1'.mono hze, hr2.mono hzf, hbg2⟩
end Go.Proofs.YtbnialhpflaoaaaDoor
