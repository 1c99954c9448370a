import Derived.Test.YtbnialhpflaoaaaDoorPF
import Derived.Test.YtbnialhpflaoaaaDoorPC
namespace Go.Proofs.YtbnialhpflaoaaaDoor
open Go.RowKit
set_option linter.unusedVariables false
set_option linter.unusedSimpArgs false
/-- The answer of a division. -/
def DmR (w : World) (V U : Nat) (e : Ending) (w' : World) : Prop := ∃ a1 c1 a2 c2, e = .returned (.tuple #[.slice a1 (canon (V / U)).length c1, .slice a2 (canon (V % U)).length c2, .int .i64 0]) ∧ (canon (V / U)).length ≤ c1 ∧ (canon (V % U)).length ≤ c2 ∧ RwF w.heap.size w' a1 (canon (V / U)) ∧ RwF w.heap.size w' a2 (canon (V % U)) ∧ Below w.heap.size w w'
theorem own_or (W : World) (B : Nat) (a : Option Addr) (n c : Nat) (xs : List Value) (h : W.ownsRow B 39 1 (.slice a n c) n xs) (hn : 0 < n) : ∃ g, a = some ⟨g, 0, none⟩ ∧ B ≤ g := own_form h hn
theorem cell_first {w : World} {b0 : Addr} {kt : List (BitVec 32)} {y : Nat} (h : Rw w (some b0) kt) (hl : kt.length = 1) (hv : valD kt = y) : w.cell? b0 = some (.int .u32 (y : Int)) := by
  obtain ⟨x, rfl⟩ := List.length_eq_one_iff.1 hl
  obtain ⟨_, e, hc⟩ := h 0 (by simp)
  cases e
  subst hv
  rw [show ((valD [x] : Nat) : Int) = (x.toNat : Int) by simp [valD_cons, valD_nil]]
  exact hc
set_option maxRecDepth 50000 in
set_option maxHeartbeats 2000000 in
theorem ndm_zero (a b : Option Addr) (n c m d : Nat) (l k : List (BitVec 32)) (w : World) (hn : l.length = n) (hm : k.length = m) (hnc : n ≤ c) (hmd : m ≤ d) (hl : n ≤ 900000) (hl2 : m ≤ 900000) (hr : Rw w a l) (hs : Rw w b k) (hz : valD k = 0) :
    Calls Tryd.prog 31 #[.slice a n c, .slice b m d] w fun e w' => e = .returned (.tuple #[.slice none 0 0, .slice none 0 0, .int .i64 9]) ∧ w = w' := by
  subst hn hm
  have f1 := trim_len_le l
  have f2 := trim_len_le k
  have hrt := hr.trim
  have hst := hs.trim
  have t1 : trimD (trimD l) = trimD l := by rw [← canon_val l, trim_canon]
  have t2 : trimD (trimD k) = trimD k := by rw [← canon_val k, trim_canon]
  have T1 : ∀ W, Rw W a l → Calls Tryd.prog 43 #[.slice a l.length c] W fun e w' => e = .returned (.slice a (trimD l).length c) ∧ W = w' := fun W h => trim_any a _ c l W rfl hnc (by omega) h
  have T2 : ∀ W, Rw W b k → Calls Tryd.prog 43 #[.slice b k.length d] W fun e w' => e = .returned (.slice b (trimD k).length d) ∧ W = w' := fun W h => trim_any b _ d k W rfl hmd (by omega) h
  have H1 := Lib.hid (T1 w hr)
  have H2 := Lib.hid (T2 w hs)
  have HT1 := Lib.hid t1
  have HT2 := Lib.hid t2
  have hk : trimD k = [] := by rw [← canon_val, hz, canon_zero]
  rw [hk] at H2
  clear T1 T2 hr hs hz t1 t2
  go_enter Tryd.func31, Tryd.ntmps31
  go_wp2_with (first
    | (go_at_call 43; (with_reducible refine H1.out.mono ?_); rintro e w1 ⟨rfl, rfl⟩)
    | (go_at_call 43; (with_reducible refine H2.out.mono ?_); rintro e w1 ⟨rfl, rfl⟩))
  go_ret3
  exact ⟨rfl, rfl⟩
set_option maxRecDepth 50000 in
set_option maxHeartbeats 2000000 in
theorem ndm_lt (a b : Option Addr) (n c m d : Nat) (l k : List (BitVec 32)) (w : World) (hn : l.length = n) (hm : k.length = m) (hnc : n ≤ c) (hmd : m ≤ d) (hl : n ≤ 900000) (hl2 : m ≤ 900000) (hr : Rw w a l) (hs : Rw w b k) (hlt : valD l < valD k) :
    Calls Tryd.prog 31 #[.slice a n c, .slice b m d] w (DmR w (valD l) (valD k)) := by
  have hpos : 0 < valD k := by omega
  have hq : canon (valD l / valD k) = [] := by rw [Nat.div_eq_of_lt hlt, canon_zero]
  have hm2 : canon (valD l % valD k) = trimD l := by rw [Nat.mod_eq_of_lt hlt, canon_val]
  unfold DmR
  rw [hq, hm2]
  subst hn hm
  have f1 := trim_len_le l
  have f2 := trim_len_le k
  have hrt := hr.trim
  have hst := hs.trim
  have t1 : trimD (trimD l) = trimD l := by rw [← canon_val l, trim_canon]
  have t2 : trimD (trimD k) = trimD k := by rw [← canon_val k, trim_canon]
  have T1 : ∀ W, Rw W a l → Calls Tryd.prog 43 #[.slice a l.length c] W fun e w' => e = .returned (.slice a (trimD l).length c) ∧ W = w' := fun W h => trim_any a _ c l W rfl hnc (by omega) h
  have T2 : ∀ W, Rw W b k → Calls Tryd.prog 43 #[.slice b k.length d] W fun e w' => e = .returned (.slice b (trimD k).length d) ∧ W = w' := fun W h => trim_any b _ d k W rfl hmd (by omega) h
  have H1 := Lib.hid (T1 w hr)
  have H2 := Lib.hid (T2 w hs)
  have HT1 := Lib.hid t1
  have HT2 := Lib.hid t2
  have hkl : 0 < (trimD k).length := by
    have := canon_len_pos hpos
    rwa [canon_val] at this
  have hkz : ((trimD k).length == 0) = false := by rw [beq_eq_false_iff_ne]; omega
  have hkzi : (((trimD k).length : Int) == 0) = false := by rw [beq_eq_false_iff_ne]; omega
  have hcmp := Lib.hid (cmpN_lt hlt)
  rw [← valD_trim l, ← valD_trim k] at hcmp
  clear T1 T2 hr hs hlt t1 t2 hq hm2 hpos
  generalize trimD l = lt at *
  generalize trimD k = kt at *
  go_enter Tryd.func31, Tryd.ntmps31
  go_wp2_with (first
    | (go_at_call 43; (with_reducible refine H1.out.mono ?_); rintro e w1 ⟨rfl, rfl⟩)
    | (go_at_call 43; (with_reducible refine H2.out.mono ?_); rintro e w1 ⟨rfl, rfl⟩)
    | (go_at_call 21; (with_reducible refine (ncmp_any a b _ c _ d lt kt _ rfl rfl (by omega) (by omega) (by omega) (by omega) hrt hst).mono ?_); rintro e wb ⟨rfl, hw1⟩; have hb0 := drew_below hw1; have hz0 := hb0.size; have hrb := hrt.below hb0; have hsb := hst.below hb0; clear hw1; rw [hcmp.out])
    | (go_at_call 42; (with_reducible refine (clone32_any a _ c lt _ rfl (by omega) hrb).mono ?_); rintro e w2 ⟨a1, c1, rfl, hown1, hb1⟩))
  go_ret3
  exact ⟨none, 0, a1, c1, rfl, Nat.le_refl _, own_cap hown1, ⟨Rw.nil _ _, fun ad h => by cases h⟩, (RwF.of_own hown1).mono hz0, hb0.trans (hb1.mono hz0)⟩
set_option maxRecDepth 50000 in
set_option maxHeartbeats 2000000 in
theorem ndm_long (a b : Option Addr) (n c m d : Nat) (l k : List (BitVec 32)) (w : World) (hn : l.length = n) (hm : k.length = m) (hnc : n ≤ c) (hmd : m ≤ d) (hl : n ≤ 900000) (hl2 : m ≤ 900000) (hr : Rw w a l) (hs : Rw w b k) (hge : valD k ≤ valD l) (hbig : 2 < (trimD l).length) (h2 : 2 ≤ (trimD k).length) :
    Calls Tryd.prog 31 #[.slice a n c, .slice b m d] w (DmR w (valD l) (valD k)) := by
  have hpos : 0 < valD k := by
    rcases Nat.eq_zero_or_pos (valD k) with h | h
    · rw [← canon_val, h, canon_zero] at h2
      simp at h2
    · exact h
  subst hn hm
  have f1 := trim_len_le l
  have f2 := trim_len_le k
  have hrt := hr.trim
  have hst := hs.trim
  have t1 : trimD (trimD l) = trimD l := by rw [← canon_val l, trim_canon]
  have t2 : trimD (trimD k) = trimD k := by rw [← canon_val k, trim_canon]
  have T1 : ∀ W, Rw W a l → Calls Tryd.prog 43 #[.slice a l.length c] W fun e w' => e = .returned (.slice a (trimD l).length c) ∧ W = w' := fun W h => trim_any a _ c l W rfl hnc (by omega) h
  have T2 : ∀ W, Rw W b k → Calls Tryd.prog 43 #[.slice b k.length d] W fun e w' => e = .returned (.slice b (trimD k).length d) ∧ W = w' := fun W h => trim_any b _ d k W rfl hmd (by omega) h
  have H1 := Lib.hid (T1 w hr)
  have H2 := Lib.hid (T2 w hs)
  have HT1 := Lib.hid t1
  have HT2 := Lib.hid t2
  have hkl : 0 < (trimD k).length := by
    have := canon_len_pos hpos
    rwa [canon_val] at this
  have hkz : ((trimD k).length == 0) = false := by rw [beq_eq_false_iff_ne]; omega
  have hkzi : (((trimD k).length : Int) == 0) = false := by rw [beq_eq_false_iff_ne]; omega
  rw [← valD_trim l, ← valD_trim k] at hge
  rw [← valD_trim k] at hpos
  rw [← valD_trim l, ← valD_trim k]
  obtain ⟨cv, hcv, hcv2⟩ := cmpN_ge hge
  have hcmp := Lib.hid hcv
  have hkn : (trimD k).length ≤ (trimD l).length := by
    rcases Nat.lt_or_ge (trimD l).length (trimD k).length with h | h
    · have := valD_len_lt _ _ t2 h
      omega
    · exact h
  have hk1 : (((trimD k).length : Int) == 1) = false := by rw [beq_eq_false_iff_ne]; omega
  clear T1 T2 hr hs hge t1 t2 hcv hpos
  generalize trimD l = lt at *
  generalize trimD k = kt at *
  go_enter Tryd.func31, Tryd.ntmps31
  go_wp2_with (first
    | (go_at_call 43; (with_reducible refine H1.out.mono ?_); rintro e w1 ⟨rfl, rfl⟩)
    | (go_at_call 43; (with_reducible refine H2.out.mono ?_); rintro e w1 ⟨rfl, rfl⟩)
    | (go_at_call 21; (with_reducible refine (ncmp_any a b _ c _ d lt kt _ rfl rfl (by omega) (by omega) (by omega) (by omega) hrt hst).mono ?_); rintro e wb ⟨rfl, hw1⟩; have hb0 := drew_below hw1; have hz0 := hb0.size; have hrb := hrt.below hb0; have hsb := hst.below hb0; clear hw1; rw [hcmp.out])
    | (go_at_call 47; (with_reducible refine (to64_big a _ c _ hbig (by omega)).mono ?_); rintro e wc ⟨rfl, hw2⟩; have hb1 := drew_below hw2; have hbc := hb0.trans (hb1.mono hz0); have hzc := hbc.size; have hrc := hrb.below hb1; have hsc := hsb.below hb1; clear hw2)
    | (go_at_call 49; (with_reducible refine (longdiv_any a b _ c _ d lt kt _ rfl rfl (by omega) (by omega) (by omega) h2 hkn HT2.out hrc hsc).mono ?_); rintro e wd ⟨a1, c1, a2, c2, rfl, hc1, hc2, hf1, hf2, hbd⟩))
  go_ret3
  exact ⟨a1, c1, a2, c2, rfl, hc1, hc2, hf1.mono hzc, hf2.mono hzc, hbc.trans (hbd.mono hzc)⟩
theorem one_digit {kt : List (BitVec 32)} (h : kt.length = 1) (ht : trimD kt = kt) : ∃ y : Nat, 0 < y ∧ y < 4294967296 ∧ kt = [BitVec.ofNat 32 y] ∧ valD kt = y := by
  obtain ⟨x, rfl⟩ := List.length_eq_one_iff.1 h
  have hx := x.isLt
  refine ⟨x.toNat, ?_, hx, by simp, by simp [valD_cons, valD_nil]⟩
  rcases Nat.eq_zero_or_pos x.toNat with h | h
  · exfalso
    have : x = 0#32 := BitVec.eq_of_toNat_eq (by simpa using h)
    subst this
    simp [trimD] at ht
  · exact h
set_option maxRecDepth 50000 in
set_option maxHeartbeats 2000000 in
theorem ndm_one (a b : Option Addr) (n c m d : Nat) (l k : List (BitVec 32)) (w : World) (hn : l.length = n) (hm : k.length = m) (hnc : n ≤ c) (hmd : m ≤ d) (hl : n ≤ 900000) (hl2 : m ≤ 900000) (hr : Rw w a l) (hs : Rw w b k) (hge : valD k ≤ valD l) (hbig : 2 < (trimD l).length) (h2 : (trimD k).length = 1) :
    Calls Tryd.prog 31 #[.slice a n c, .slice b m d] w (DmR w (valD l) (valD k)) := by
  have hpos : 0 < valD k := by
    rcases Nat.eq_zero_or_pos (valD k) with h | h
    · rw [← canon_val, h, canon_zero] at h2
      simp at h2
    · exact h
  subst hn hm
  have f1 := trim_len_le l
  have f2 := trim_len_le k
  have hrt := hr.trim
  have hst := hs.trim
  have t1 : trimD (trimD l) = trimD l := by rw [← canon_val l, trim_canon]
  have t2 : trimD (trimD k) = trimD k := by rw [← canon_val k, trim_canon]
  have T1 : ∀ W, Rw W a l → Calls Tryd.prog 43 #[.slice a l.length c] W fun e w' => e = .returned (.slice a (trimD l).length c) ∧ W = w' := fun W h => trim_any a _ c l W rfl hnc (by omega) h
  have T2 : ∀ W, Rw W b k → Calls Tryd.prog 43 #[.slice b k.length d] W fun e w' => e = .returned (.slice b (trimD k).length d) ∧ W = w' := fun W h => trim_any b _ d k W rfl hmd (by omega) h
  have H1 := Lib.hid (T1 w hr)
  have H2 := Lib.hid (T2 w hs)
  have HT1 := Lib.hid t1
  have HT2 := Lib.hid t2
  have hkl : 0 < (trimD k).length := by
    have := canon_len_pos hpos
    rwa [canon_val] at this
  have hkz : ((trimD k).length == 0) = false := by rw [beq_eq_false_iff_ne]; omega
  have hkzi : (((trimD k).length : Int) == 0) = false := by rw [beq_eq_false_iff_ne]; omega
  rw [← valD_trim l, ← valD_trim k] at hge
  rw [← valD_trim k] at hpos
  rw [← valD_trim l, ← valD_trim k]
  obtain ⟨cv, hcv, hcv2⟩ := cmpN_ge hge
  have hcmp := Lib.hid hcv
  have hkn : (trimD k).length ≤ (trimD l).length := by
    rcases Nat.lt_or_ge (trimD l).length (trimD k).length with h | h
    · have := valD_len_lt _ _ t2 h
      omega
    · exact h
  obtain ⟨y, hy0, hy1, hky, hyv⟩ := one_digit h2 t2
  rw [hyv]
  rw [hyv] at hcv hcmp
  rw [h2] at H2
  have hc0 : Rw w b [BitVec.ofNat 32 y] := hky ▸ hst
  obtain ⟨b0, rfl, hc1⟩ := hc0 0 (by simp)
  have hc2 : w.cell? b0 = some (.int .u32 (y : Int)) := by
    rw [show ((y : Nat) : Int) = (([BitVec.ofNat 32 y][0]).toNat : Int) by simp; omega]
    exact hc1
  clear T1 T2 hr hs hge t1 t2 hcv hpos hc1 hc0 hkz hkzi hkl
  have hyn : valD (trimD k) = y := hyv
  have HY := Lib.hid hyv
  clear hyv hyn hky
  generalize trimD l = lt at *
  generalize trimD k = kt at *
  obtain ⟨V, hV⟩ : ∃ V, valD lt = V := ⟨_, rfl⟩
  have HV := Lib.hid hV
  rw [hV]
  rw [hV] at hcmp
  obtain ⟨rv, hrv⟩ : ∃ r, V % y = r := ⟨_, rfl⟩
  obtain ⟨qv, hqv⟩ : ∃ r, V / y = r := ⟨_, rfl⟩
  have hrb2 : rv < y := by rw [← hrv]; exact Nat.mod_lt _ hy0
  unfold DmR
  rw [hrv, hqv]
  have HRV := Lib.hid hrv
  have HQV := Lib.hid hqv
  have G := Lib.hid (nfromR rv (by omega))
  clear hV hrv hqv
  go_enter Tryd.func31, Tryd.ntmps31
  have HC := ncmp_any a (some b0) _ c 1 d lt kt w rfl h2 (by omega) (by omega) (by omega) (by omega) hrt hst
  simp only [HV.out, HY.out, hcmp.out] at HC
  have HC' := Lib.hid HC
  clear HC
  go_wp2_with (first
    | (go_at_call 43; (with_reducible refine H1.out.mono ?_); rintro e w1 ⟨rfl, rfl⟩)
    | (go_at_call 43; (with_reducible refine H2.out.mono ?_); rintro e w1 ⟨rfl, rfl⟩)
    | (go_at_call 21; (with_reducible refine HC'.out.mono ?_); rintro e wb ⟨rfl, hw1⟩; have hb0 := drew_below hw1; have hz0 := hb0.size; have hrb := hrt.below hb0; have hsb := hst.below hb0; clear hw1)
    | (go_at_call 47; (with_reducible refine (to64_big a _ c _ hbig (by omega)).mono ?_); rintro e wc ⟨rfl, hw2⟩; have hb1 := drew_below hw2; have hbc := hb0.trans (hb1.mono hz0); have hzc := hbc.size; have hrc := hrb.below hb1; have hsc := hsb.below hb1; clear hw2)
    | (go_at_call 42; go_loud ((with_reducible refine (clone32_any a _ c lt _ rfl (by omega) hrc).mono ?_); rintro e wd ⟨a1, c1, rfl, hown1, hbd⟩; obtain ⟨g, rfl, hg⟩ := own_or _ _ _ _ _ _ hown1 (by omega); have hcd := cell_first (hsc.below hbd) h2 HY.out))
    | (go_at_call 48; go_loud ((with_reducible refine (dbd_any _ g _ c1 y lt wd rfl (by omega) hy0 hy1 hown1).mono ?_); rintro e we ⟨rfl, Q, hQl, hQv, hownQ, hgr⟩; rw [HV.out, HRV.out]; rw [HV.out, HQV.out] at hQv; have hbe := hbd.grown hgr hbd.size (fun k e => by injection e with e; omega); have TQ := trim_any (some ⟨g, 0, none⟩) lt.length c1 Q we hQl (own_cap hownQ) (by omega) (RwF.of_own hownQ).1; rw [← canon_val, hQv] at TQ))
    | (go_at_call 43; (with_reducible refine TQ.mono ?_); rintro e w1 ⟨rfl, rfl⟩)
    | (go_at_call 15; (with_reducible refine (G.out _).mono ?_); rintro e wf ⟨a2, c2, rfl, hc2, hr2, hbf⟩))
  go_ret3
  have hQt : trimD Q = canon qv := by rw [← canon_val, hQv]
  have hK5 := (RwF.of_own hownQ).take (trimD Q).length
  rw [← trim_prefix, hQt] at hK5
  have hKl := trim_len_le Q
  rw [hQt, hQl] at hKl
  have hbw := hbc.trans (hbe.mono hzc)
  exact ⟨some ⟨g, 0, none⟩, c1, a2, c2, rfl, Nat.le_trans hKl (own_cap hownQ), hc2, (hK5.below hbf).mono hzc, hr2.mono hbw.size, hbw.trans (hbf.mono hbw.size)⟩
theorem ndm_any (a b : Option Addr) (n c m d : Nat) (l k : List (BitVec 32)) (w : World) (hn : l.length = n) (hm : k.length = m) (hnc : n ≤ c) (hmd : m ≤ d) (hl : n ≤ 900000) (hl2 : m ≤ 900000) (hr : Rw w a l) (hs : Rw w b k) (hpos : 0 < valD k) :
    Calls Tryd.prog 31 #[.slice a n c, .slice b m d] w (DmR w (valD l) (valD k)) := by
  rcases Nat.lt_or_ge (valD l) (valD k) with h | h
  · exact ndm_lt a b n c m d l k w hn hm hnc hmd hl hl2 hr hs h
  rcases Nat.lt_or_ge 2 (trimD l).length with h2 | h2
  · have hkl : 0 < (trimD k).length := by
      have := canon_len_pos hpos
      rwa [canon_val] at this
    rcases Nat.lt_or_ge 1 (trimD k).length with h3 | h3
    · exact ndm_long a b n c m d l k w hn hm hnc hmd hl hl2 hr hs h h2 h3
    · exact ndm_one a b n c m d l k w hn hm hnc hmd hl hl2 hr hs h h2 (by omega)
  · exact (ndm_small a b n c m d l k w hn hm hnc hmd (by omega) (by omega) hr hs hpos h h2).mono fun _ _ h => h
end Go.Proofs.YtbnialhpflaoaaaDoor
