import Derived.Test.YtbnialhpflaoaaaDoorP9
import Derived.Test.YtbnialhpflaoaaaDoorFrm
namespace Go.Proofs.YtbnialhpflaoaaaDoor
open Go.RowKit
set_option linter.unusedVariables false
set_option linter.unusedSimpArgs false
theorem canon_fit_u64 {n : Nat} (h : n < 18446744073709551616) : (canon n).length ≤ 2 := by
  rw [canon_len_le, pw_two']
  exact h
set_option maxRecDepth 50000 in
set_option maxHeartbeats 4000000 in
theorem basics_w (a b : Option Addr) (n c q d v : Nat) (l k : List (BitVec 32)) (w : World) (hn : l.length = n) (hm : k.length = q) (hnc : n ≤ c) (hmd : q ≤ d) (hv : v < 18446744073709551616) (hr : Rw w a l) (hs : Rw w b k) (hN : Tb w) :
    Calls Tryd.prog 3 #[.slice a n c, .slice b q d, .int .u64 v] w fun e w' => e = .returned (.bool true) ∧ Below w.heap.size w w' := by
  subst hn hm
  by_cases hf : (l.length : Int) ≤ 500 ∧ (k.length : Int) ≤ 500
  case neg =>
    have hfew : decide ((l.length : Int) ≤ 500 ∧ (k.length : Int) ≤ 500) = false := by simpa using hf
    go_enter Tryd.func3, Tryd.ntmps3
    go_wp2_with (first
      | (go_at_call 12; (with_reducible refine (few_any a b _ c _ d 500 _).mono ?_); rintro e w0 ⟨rfl, rfl⟩; rw [hfew])
      | (go_at_call 13; (with_reducible refine (example_any _ hN).mono ?_); rintro e w1 ⟨rfl, hb1⟩))
    go_ret
    exact ⟨rfl, hb1⟩
  have hfew : decide ((l.length : Int) ≤ 500 ∧ (k.length : Int) ≤ 500) = true := by simpa using hf
  obtain ⟨hf1, hf2⟩ := hf
  have fE := canon_fit_u64 hv
  obtain ⟨E, hE⟩ := ex_canon v
  rw [hE.out] at fE
  have G1 := Lib.hid (nfrom_any v hv)
  have G2 := Lib.hid (from_any v hv)
  rw [hE.out] at G1 G2
  have fT := trim_len_le l
  obtain ⟨D, hD⟩ : ∃ D, Hid (trimD l = D) := ⟨_, rfl⟩
  rw [hD.out] at fT
  obtain ⟨tt, htt⟩ : ∃ t, decide (trimD l = l) = t := ⟨_, rfl⟩
  have HTT := Lib.hid htt
  obtain ⟨cv, hcv⟩ : ∃ t, cmpN (valD l) (valD k) = t := ⟨_, rfl⟩
  have HCV := Lib.hid hcv
  have hb0 := Below.refl w.heap.size w
  have hz0 := hb0.size
  clear htt hcv hv
  go_enter Tryd.func3, Tryd.ntmps3
  go_wp2_with (first
    | (go_at_call 12; (with_reducible refine (few_any a b _ c _ d 500 _).mono ?_); rintro e w0 ⟨rfl, rfl⟩; rw [hfew])
    | (go_at_call 15; (with_reducible refine (G1.out _).mono ?_); rintro e w1 ⟨a1, c1, rfl, hx1, hb1'⟩; have h1 := Rw.of_own hx1; have hb1 := hb0.trans (hb1'.mono hz0); have hz1 := hb1.size; clear hx1 hb1')
    | (go_at_call 16; (with_reducible refine (G2.out _).mono ?_); rintro e w2 ⟨a2, c2, rfl, hx2, hb2'⟩; have h2 := Rw.of_own hx2; have h12 := h1.below hb2'; have hb2 := hb1.trans (hb2'.mono hz1); have hz2 := hb2.size; clear hx2 hb2' h1)
    | (go_at_call 14; (with_reducible refine (same_yes _ _ _ _ _ _ E E _ rfl rfl (by omega) h12 h2 rfl).mono ?_); rintro e w3 ⟨rfl, hb3'⟩; have hb3 := hb2.trans (hb3'.mono hz2); have hz3 := hb3.size; have hr3 := hr.below hb3; have hs3 := hs.below hb3; clear hb3' h12 h2)
    | (go_at_call 17; (with_reducible refine (nisnorm_any a _ c l _ rfl (by omega) hr3).mono ?_); rintro e w4 ⟨rfl, rfl⟩; rw [HTT.out])
    | (go_at_call 18; (with_reducible refine (isnorm_any a _ c l _ rfl (by omega) hr3).mono ?_); rintro e w4 ⟨rfl, rfl⟩; rw [HTT.out])
    | (go_at_call 19; (with_reducible refine (nnorm_any a _ c l _ rfl hnc (by omega) hr3).mono ?_); rintro e w5 ⟨a5, c5, rfl, hx5, hb5'⟩; have h5 := Rw.of_own hx5; rw [hD.out] at h5; rw [hD.out]; have hb5 := hb3.trans (hb5'.mono hz3); have hz5 := hb5.size; have hr5 := hr3.below hb5'; clear hx5 hb5')
    | (go_at_call 20; (with_reducible refine (norm_any a _ c l _ rfl (by omega) hr5).mono ?_); rintro e w6 ⟨a6, c6, rfl, hx6, hb6'⟩; have h6 := Rw.of_own hx6; rw [hD.out] at h6; rw [hD.out]; have h56 := h5.below hb6'; have hb6 := hb5.trans (hb6'.mono hz5); have hz6 := hb6.size; clear hx6 hb6' h5)
    | (go_at_call 14; (with_reducible refine (same_yes _ _ _ _ _ _ D D _ rfl rfl (by omega) h56 h6 rfl).mono ?_); rintro e w7 ⟨rfl, hb7'⟩; have hb7 := hb6.trans (hb7'.mono hz6); have hz7 := hb7.size; have hr7 := hr.below hb7; have hs7 := hs.below hb7; clear hb7' h56 h6)
    | (go_at_call 21; (with_reducible refine (ncmp_any a b _ c _ d l k _ rfl rfl hnc hmd (by omega) (by omega) hr7 hs7).mono ?_); rintro e w8 ⟨rfl, hw8⟩; have hb8' := drew_below hw8; have hb8 := hb7.trans (hb8'.mono hz7); have hz8 := hb8.size; have hr8 := hr7.below hb8'; have hs8 := hs7.below hb8'; rw [HCV.out]; clear hw8 hb8')
    | (go_at_call 22; (with_reducible refine (rcmp_any a b _ c _ d l k _ rfl rfl (by omega) (by omega) hr8 hs8).mono ?_); rintro e w9 ⟨rfl, rfl⟩; rw [HCV.out])
    | (go_at_call 23; (with_reducible refine (nbl_any a _ c l _ rfl hnc (by omega) hr8).mono ?_); rintro e w10 ⟨y, rfl, hy, rfl⟩)
    | (go_at_call 24; (with_reducible refine (rbl_any a _ c l _ rfl (by omega) hr8).mono ?_); rintro e w11 ⟨y2, rfl, hy2, _, hb11'⟩; have hyy := isBl_uniq hy2 hy; rw [hyy]; have hb11 := hb8.trans (hb11'.mono hz8); have hz11 := hb11.size)
    | (go_at_call 13; (with_reducible refine (example_any _ (hN.below hb11)).mono ?_); rintro e wz ⟨rfl, hbz⟩; have hbe := hb11.trans (hbz.mono hz11)))
  go_ret
  exact ⟨rfl, hbe⟩
end Go.Proofs.YtbnialhpflaoaaaDoor
