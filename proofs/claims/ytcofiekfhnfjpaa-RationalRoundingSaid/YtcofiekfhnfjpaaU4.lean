
import Derived.Test.YtcofiekfhnfjpaaU2
import Derived.Test.YtcofiekfhnfjpaaU3
import Derived.Deep.RegionHeld3
import Derived.Deep.DrawnRows
import Derived.Deep.DeepFit
import Derived.Laws.BitsAllLaws
import Derived.StillTailTactics
/- I1 -/
namespace Go.Proofs.Ytcofiekfhnfjpaa
open Go.RowKit
set_option linter.unusedVariables false
set_option linter.unusedSimpArgs false
attribute [local go_sem ↓] Go.wp_at_zero Go.wp_at_succ
/-- An integer of unlimited size is returned: its sign and its digits, in a row of its own. -/
def FrI (w : World) (s : Bool) (K : Nat) (e : Ending) (w' : World) : Prop := ∃ a c, e = .returned (.agg #[.bool s, .slice a (canon K).length c]) ∧ RwF w.heap.size w' a (canon K) ∧ Below w.heap.size w w'
theorem canon_len_zero {n : Nat} : (canon n).length = 0 ↔ n = 0 := by
  constructor
  · intro h
    rcases Nat.eq_zero_or_pos n with h0 | h0
    · exact h0
    · have := canon_len_pos h0
      omega
  · rintro rfl
    rw [canon_zero]; rfl
theorem inew_any (s : Bool) (a : Option Addr) (n c : Nat) (l : List (BitVec 32)) (w : World) (hn : l.length = n) (hl : l.length ≤ 10000000) (hr : Rw w a l) :
    Calls Try.prog 77 #[.bool s, .slice a n c] w (FrI w (s && decide (0 < valD l)) (valD l)) := by
  subst hn
  have hnc := canon_val l
  have hb0 := Below.alloc (Below.refl w.heap.size w) (Nat.le_refl _) (.cells #[Value.bool false, Value.slice none 0 0] 24)
  rcases Nat.eq_zero_or_pos (valD l) with h0 | h0
  · have hz : (canon (valD l)).length = 0 := canon_len_zero.2 h0
    rw [hnc] at hz
    have hv : Hid (canon (valD l) = trimD l ∧ (s && decide (0 < valD l)) = false) := ⟨hnc, by rw [h0]; simp⟩
    have HT := Lib.hid hz
    have hnz : decide (0 < (trimD l).length) = false := by rw [hz]; rfl
    have hnz2 : decide ((0 : Int) < ((trimD l).length : Int)) = false := by rw [hz]; rfl
    clear hz
    clear hnc h0
    cases s
    · go_enter Try.func77, Try.ntmps77
      go_wp2_with (go_at_call 86; (with_reducible refine (norm_any _ _ _ l _ rfl hl (hr.below hb0)).mono ?_); rintro e w1 ⟨a1, c1, rfl, hown1, hb1⟩; have k1_r_0 : w1.cell? ⟨w.heap.size, 0, none⟩ = some (.bool false) := bca hb1; have g1_r_0 : w1.frozen? ⟨w.heap.size, 0, none⟩ = false := bfa hb1 (v := .bool false); have k1_r_1 : w1.cell? ⟨w.heap.size, 1, none⟩ = some (.slice none 0 0) := bca hb1; have g1_r_1 : w1.frozen? ⟨w.heap.size, 1, none⟩ = false := bfa hb1 (v := .slice none 0 0); have x1_r : ¬ w.heap.size = w1.heap.size := qne k1_r_0; have y1_r : ¬ w1.heap.size = w.heap.size := fun h => qne k1_r_0 h.symm; have q1_r : w.heap.size < w1.heap.size := qlt k1_r_0; have hbw := hb0.trans (hb1.mono hb0.size); have hr1 := RwF.of_own hown1; clear hb1 hown1 hr)
      refine bodyPost_ret (v := .agg #[.bool false, .slice a1 (trimD l).length c1]) (by simp [results, Try.results77, go_sem, *]) rfl ?_
      rw [hv.out.2]
      exact ⟨a1, c1, by rw [hv.out.1], by rw [hv.out.1]; exact ((hr1.set (by simp) 0 _).set (by simp) 1 _).mono (by simp), (hbw.setCell (Nat.le_refl _) _).setCell (Nat.le_refl _) _⟩
    · go_enter Try.func77, Try.ntmps77
      go_wp2_with (go_at_call 86; (with_reducible refine (norm_any _ _ _ l _ rfl hl (hr.below hb0)).mono ?_); rintro e w1 ⟨a1, c1, rfl, hown1, hb1⟩; have k1_r_0 : w1.cell? ⟨w.heap.size, 0, none⟩ = some (.bool false) := bca hb1; have g1_r_0 : w1.frozen? ⟨w.heap.size, 0, none⟩ = false := bfa hb1 (v := .bool false); have k1_r_1 : w1.cell? ⟨w.heap.size, 1, none⟩ = some (.slice none 0 0) := bca hb1; have g1_r_1 : w1.frozen? ⟨w.heap.size, 1, none⟩ = false := bfa hb1 (v := .slice none 0 0); have x1_r : ¬ w.heap.size = w1.heap.size := qne k1_r_0; have y1_r : ¬ w1.heap.size = w.heap.size := fun h => qne k1_r_0 h.symm; have q1_r : w.heap.size < w1.heap.size := qlt k1_r_0; have hbw := hb0.trans (hb1.mono hb0.size); have hr1 := RwF.of_own hown1; clear hb1 hown1 hr)
      refine bodyPost_ret (v := .agg #[.bool false, .slice a1 (trimD l).length c1]) (by simp [results, Try.results77, go_sem, *]) rfl ?_
      rw [hv.out.2]
      exact ⟨a1, c1, by rw [hv.out.1], by rw [hv.out.1]; exact ((hr1.set (by simp) 0 _).set (by simp) 1 _).mono (by simp), (hbw.setCell (Nat.le_refl _) _).setCell (Nat.le_refl _) _⟩
  · have hz : 0 < (canon (valD l)).length := canon_len_pos h0
    rw [hnc] at hz
    have hv : Hid (canon (valD l) = trimD l ∧ (s && decide (0 < valD l)) = s) := ⟨hnc, by simp [h0]⟩
    clear hnc h0
    cases s
    · go_enter Try.func77, Try.ntmps77
      go_wp2_with (go_at_call 86; (with_reducible refine (norm_any _ _ _ l _ rfl hl (hr.below hb0)).mono ?_); rintro e w1 ⟨a1, c1, rfl, hown1, hb1⟩; have k1_r_0 : w1.cell? ⟨w.heap.size, 0, none⟩ = some (.bool false) := bca hb1; have g1_r_0 : w1.frozen? ⟨w.heap.size, 0, none⟩ = false := bfa hb1 (v := .bool false); have k1_r_1 : w1.cell? ⟨w.heap.size, 1, none⟩ = some (.slice none 0 0) := bca hb1; have g1_r_1 : w1.frozen? ⟨w.heap.size, 1, none⟩ = false := bfa hb1 (v := .slice none 0 0); have x1_r : ¬ w.heap.size = w1.heap.size := qne k1_r_0; have y1_r : ¬ w1.heap.size = w.heap.size := fun h => qne k1_r_0 h.symm; have q1_r : w.heap.size < w1.heap.size := qlt k1_r_0; have hbw := hb0.trans (hb1.mono hb0.size); have hr1 := RwF.of_own hown1; clear hb1 hown1 hr)
      refine bodyPost_ret (v := .agg #[.bool false, .slice a1 (trimD l).length c1]) (by simp [results, Try.results77, go_sem, *]) rfl ?_
      rw [hv.out.2]
      exact ⟨a1, c1, by rw [hv.out.1], by rw [hv.out.1]; exact ((hr1.set (by simp) 0 _).set (by simp) 1 _).mono (by simp), (hbw.setCell (Nat.le_refl _) _).setCell (Nat.le_refl _) _⟩
    · go_enter Try.func77, Try.ntmps77
      go_wp2_with (go_at_call 86; (with_reducible refine (norm_any _ _ _ l _ rfl hl (hr.below hb0)).mono ?_); rintro e w1 ⟨a1, c1, rfl, hown1, hb1⟩; have k1_r_0 : w1.cell? ⟨w.heap.size, 0, none⟩ = some (.bool false) := bca hb1; have g1_r_0 : w1.frozen? ⟨w.heap.size, 0, none⟩ = false := bfa hb1 (v := .bool false); have k1_r_1 : w1.cell? ⟨w.heap.size, 1, none⟩ = some (.slice none 0 0) := bca hb1; have g1_r_1 : w1.frozen? ⟨w.heap.size, 1, none⟩ = false := bfa hb1 (v := .slice none 0 0); have x1_r : ¬ w.heap.size = w1.heap.size := qne k1_r_0; have y1_r : ¬ w1.heap.size = w.heap.size := fun h => qne k1_r_0 h.symm; have q1_r : w.heap.size < w1.heap.size := qlt k1_r_0; have hbw := hb0.trans (hb1.mono hb0.size); have hr1 := RwF.of_own hown1; clear hb1 hown1 hr)
      refine bodyPost_ret (v := .agg #[.bool true, .slice a1 (trimD l).length c1]) (by simp [results, Try.results77, go_sem, *]) rfl ?_
      rw [hv.out.2]
      exact ⟨a1, c1, by rw [hv.out.1], by rw [hv.out.1]; exact ((hr1.set (by simp) 0 _).set (by simp) 1 _).mono (by simp), (hbw.setCell (Nat.le_refl _) _).setCell (Nat.le_refl _) _⟩
end Go.Proofs.Ytcofiekfhnfjpaa

/- I2 -/
namespace Go.Proofs.Ytcofiekfhnfjpaa
open Go.RowKit
set_option linter.unusedVariables false
set_option linter.unusedSimpArgs false
attribute [local go_sem ↓] Go.wp_at_zero Go.wp_at_succ
set_option maxRecDepth 50000 in
theorem two_val (n : Nat) (hn : n < 18446744073709551616) : valD [BitVec.ofNat 32 n, BitVec.ofNat 32 (n / 4294967296)] = n := by
  simp only [valD_cons, valD_nil, BitVec.toNat_ofNat]
  omega
set_option maxRecDepth 50000 in
theorem ifrom_core (v : Int) (n : Nat) (s : Bool) (hn : n < 18446744073709551616) (hp : 0 < n ∨ s = false)
    (hu : s = false ∧ v = n ∧ v < 9223372036854775808 ∨ s = true ∧ v = -(n : Int) ∧ n ≤ 9223372036854775808) (w : World) :
    Calls Try.prog 55 #[.int .i64 v] w (FrI w s n) := by
  have hb00 := Below.alloc (Below.refl w.heap.size w) (Nat.le_refl _) (.cells #[Value.bool false, Value.slice none 0 0] 24)
  have hb0 := Below.alloc hb00 (by simp) (.cells #[Value.int IntKind.u32 ((n : Int) % 4294967296), Value.int IntKind.u32 ((n : Int) / 4294967296)] 49)
  have hrow : Rw ((w.alloc (.cells #[Value.bool false, Value.slice none 0 0] 24)).alloc (.cells #[Value.int IntKind.u32 ((n : Int) % 4294967296), Value.int IntKind.u32 ((n : Int) / 4294967296)] 49)) (some ⟨w.heap.size + 1, 0, none⟩) [BitVec.ofNat 32 n, BitVec.ofNat 32 (n / 4294967296)] := Rw.of_alloc (by simp) (two_bv n hn)
  have hsv : Hid ((s && decide (0 < valD [BitVec.ofNat 32 n, BitVec.ofNat 32 (n / 4294967296)])) = s) := by
    show _ = _
    rw [two_val n hn]
    rcases hp with h | h
    · simp [h]
    · rw [h]; rfl
  rcases hu with ⟨rfl, rfl, h3⟩ | ⟨rfl, rfl, h3⟩
  · have hw1 : IntKind.u64.wrap (n : Int) = n := by rw [IntKind.wrap_u64]; omega
    have hw3 : (n : Int) / 4294967296 % 4294967296 = n / 4294967296 := by omega
    have h6 : decide ((n : Int) < 0) = false := by rw [decide_eq_false_iff_not]; omega
    have HN := Lib.hid hn
    clear hn h3 hp
    go_enter Try.func55, Try.ntmps55
    go_wp2_with (go_at_call 77; (with_reducible refine (inew_any false _ _ _ _ _ (two_len _ _) (two_le _ _) hrow).mono ?_); rintro e w1 ⟨a1, c1, rfl, hr1, hb1⟩; have k1_r_0 : w1.cell? ⟨w.heap.size, 0, none⟩ = some (.bool false) := bca hb1; have g1_r_0 : w1.frozen? ⟨w.heap.size, 0, none⟩ = false := bfa hb1 (v := .bool false); have k1_r_1 : w1.cell? ⟨w.heap.size, 1, none⟩ = some (.slice none 0 0) := bca hb1; have g1_r_1 : w1.frozen? ⟨w.heap.size, 1, none⟩ = false := bfa hb1 (v := .slice none 0 0); have x1_r : ¬ w.heap.size = w1.heap.size := qne k1_r_0; have y1_r : ¬ w1.heap.size = w.heap.size := fun h => qne k1_r_0 h.symm; have q1_r : w.heap.size < w1.heap.size := qlt k1_r_0; have hbw := hb0.trans (hb1.mono hb0.size); rw [hsv.out]; clear hb1)
    refine bodyPost_ret (v := .agg #[.bool false, .slice a1 (canon (valD [BitVec.ofNat 32 n, BitVec.ofNat 32 (n / 4294967296)])).length c1]) (by simp [results, Try.results55, go_sem, *]) rfl ?_
    rw [two_val n HN.out] at hr1 ⊢
    exact ⟨a1, c1, rfl, ((hr1.set (by simp; omega) 0 _).set (by simp; omega) 1 _).mono (by simp; omega), (hbw.setCell (Nat.le_refl _) _).setCell (Nat.le_refl _) _⟩
  · have hw1 : IntKind.u64.wrap (-IntKind.u64.wrap (-(n : Int))) = n := by rw [IntKind.wrap_u64, IntKind.wrap_u64]; omega
    have hw3 : (n : Int) / 4294967296 % 4294967296 = n / 4294967296 := by omega
    have HN := Lib.hid hn
    have h4 : 0 < n := by simpa using hp
    have h5 : decide (-(n : Int) < 0) = true := by rw [decide_eq_true_iff]; omega
    clear hn h3 hp
    go_enter Try.func55, Try.ntmps55
    go_wp2_with (go_at_call 77; (with_reducible refine (inew_any true _ _ _ _ _ (two_len _ _) (two_le _ _) hrow).mono ?_); rintro e w1 ⟨a1, c1, rfl, hr1, hb1⟩; have k1_r_0 : w1.cell? ⟨w.heap.size, 0, none⟩ = some (.bool false) := bca hb1; have g1_r_0 : w1.frozen? ⟨w.heap.size, 0, none⟩ = false := bfa hb1 (v := .bool false); have k1_r_1 : w1.cell? ⟨w.heap.size, 1, none⟩ = some (.slice none 0 0) := bca hb1; have g1_r_1 : w1.frozen? ⟨w.heap.size, 1, none⟩ = false := bfa hb1 (v := .slice none 0 0); have x1_r : ¬ w.heap.size = w1.heap.size := qne k1_r_0; have y1_r : ¬ w1.heap.size = w.heap.size := fun h => qne k1_r_0 h.symm; have q1_r : w.heap.size < w1.heap.size := qlt k1_r_0; have hbw := hb0.trans (hb1.mono hb0.size); rw [hsv.out]; clear hb1)
    refine bodyPost_ret (v := .agg #[.bool true, .slice a1 (canon (valD [BitVec.ofNat 32 n, BitVec.ofNat 32 (n / 4294967296)])).length c1]) (by simp [results, Try.results55, go_sem, *]) rfl ?_
    rw [two_val n HN.out] at hr1 ⊢
    exact ⟨a1, c1, rfl, ((hr1.set (by simp; omega) 0 _).set (by simp; omega) 1 _).mono (by simp; omega), (hbw.setCell (Nat.le_refl _) _).setCell (Nat.le_refl _) _⟩
theorem ifrom_any (v : Int) (h0 : -9223372036854775808 ≤ v) (h1 : v ≤ 9223372036854775807) (w : World) :
    Calls Try.prog 55 #[.int .i64 v] w (FrI w (decide (v < 0)) v.natAbs) := by
  by_cases h : v < 0
  · rw [show decide (v < 0) = true by simpa using h]
    exact ifrom_core v v.natAbs true (by omega) (.inl (by omega)) (.inr ⟨rfl, by omega, by omega⟩) w
  · rw [show decide (v < 0) = false by simpa using h]
    exact ifrom_core v v.natAbs false (by omega) (.inr rfl) (.inl ⟨rfl, by omega, by omega⟩) w
def sgV (s : Bool) (K : Nat) : Int := if K = 0 then 0 else if s then -1 else 1
theorem isign_any (s : Bool) (a : Option Addr) (n c : Nat) (l : List (BitVec 32)) (w : World) (hn : l.length = n) (hl : l.length ≤ 10000000) (hr : Rw w a l) :
    Calls Try.prog 43 #[.agg #[.bool s, .slice a n c]] w fun e w' => e = .returned (.int .i64 (sgV s (valD l))) ∧ Below w.heap.size w w' := by
  subst hn
  have hb0 := Below.alloc (Below.refl w.heap.size w) (Nat.le_refl _) (.cells #[Value.bool s, Value.slice a l.length c] 24)
  rcases Nat.eq_zero_or_pos (valD l) with h0 | h0
  · have hz : Hid ((canon (valD l)).length = 0) := canon_len_zero.2 h0
    have hv : Hid (sgV s (valD l) = 0) := by show _ = _; simp [sgV, h0]
    clear h0
    go_enter Try.func43, Try.ntmps43
    go_wp2_with (go_at_call 77; (with_reducible refine (inew_any s _ _ _ l _ rfl hl (hr.below hb0)).mono ?_); rintro e w1 ⟨a1, c1, rfl, hr1, hb1⟩; have hbw := hb0.trans (hb1.mono hb0.size); have hz1 := hbw.size; clear hb1; rw [hz.out])
    go_ret
    exact ⟨by rw [hv.out]; rfl, hbw.alloc hz1 _⟩
  · have hz : 0 < (canon (valD l)).length := canon_len_pos h0
    obtain ⟨L, hL⟩ : ∃ L, (canon (valD l)).length = L := ⟨_, rfl⟩
    rw [hL] at hz
    have hne : ((L : Int) == 0) = false := by rw [beq_eq_false_iff_ne]; omega
    have hne2 : (L == 0) = false := by rw [beq_eq_false_iff_ne]; omega
    have HL := Lib.hid hL
    have hs : Hid ((s && decide (0 < valD l)) = s) := by show _ = _; simp [h0]
    have hv : Hid (sgV s (valD l) = if s then -1 else 1) := by show _ = _; simp [sgV, show valD l ≠ 0 by omega]
    clear h0 hL
    cases s
    · go_enter Try.func43, Try.ntmps43
      go_wp2_with (go_at_call 77; (with_reducible refine (inew_any false _ _ _ l _ rfl hl (hr.below hb0)).mono ?_); rintro e w1 ⟨a1, c1, rfl, hr1, hb1⟩; have hbw := hb0.trans (hb1.mono hb0.size); have hz1 := hbw.size; clear hb1; rw [HL.out, hs.out])
      go_ret
      exact ⟨by rw [hv.out]; rfl, hbw.alloc hz1 _⟩
    · go_enter Try.func43, Try.ntmps43
      go_wp2_with (go_at_call 77; (with_reducible refine (inew_any true _ _ _ l _ rfl hl (hr.below hb0)).mono ?_); rintro e w1 ⟨a1, c1, rfl, hr1, hb1⟩; have hbw := hb0.trans (hb1.mono hb0.size); have hz1 := hbw.size; clear hb1; rw [HL.out, hs.out])
      go_ret
      exact ⟨by rw [hv.out]; rfl, hbw.alloc hz1 _⟩
end Go.Proofs.Ytcofiekfhnfjpaa

/- I3 -/
namespace Go.Proofs.Ytcofiekfhnfjpaa
open Go.RowKit
set_option linter.unusedVariables false
set_option linter.unusedSimpArgs false
attribute [local go_sem ↓] Go.wp_at_zero Go.wp_at_succ
end Go.Proofs.Ytcofiekfhnfjpaa

/- I4 -/
namespace Go.Proofs.Ytcofiekfhnfjpaa
open Go.RowKit
set_option linter.unusedVariables false
set_option linter.unusedSimpArgs false
attribute [local go_sem ↓] Go.wp_at_zero Go.wp_at_succ
theorem fit_dbl {A n : Nat} (h : A < pw n) : (canon (A + A)).length ≤ n + 1 := by
  rw [canon_len_le, pw_succ]; omega
theorem fit_dbl2 {A B n m : Nat} (h : A < pw n) (h2 : B < pw m) (hm : m ≤ 700000) (hn : n ≤ 700000) : (canon (A + A + B)).length ≤ 700002 := by
  rw [canon_len_le]
  have e1 : pw (700000 + 2) = pw 700000 * 4294967296 * 4294967296 := by rw [pw_succ, pw_succ]
  have e2 := pw_mono hn
  have e3 := pw_mono hm
  show _ < pw (700000 + 2)
  rw [e1]
  generalize pw 700000 = x at *
  omega
theorem sgV_ne {t : Bool} {K : Nat} (h : 0 < K) : (sgV t K == 0) = false := by
  unfold sgV
  rw [if_neg (by omega)]
  cases t <;> rfl
set_option maxRecDepth 50000 in
set_option maxHeartbeats 1000000 in
theorem idr_any (s t : Bool) (a b : Option Addr) (n c m d : Nat) (l k : List (BitVec 32)) (w : World) (hn : l.length = n) (hm : k.length = m) (hl : n ≤ 700000) (hl2 : m ≤ 700000) (hr : Rw w a l) (hs : Rw w b k) (hpos : 0 < valD k) :
    Calls Try.prog 62 #[.agg #[.bool s, .slice a n c], .agg #[.bool t, .slice b m d]] w fun e w' => ∃ a2 c2, e = .returned (.tuple #[.agg #[.bool ((s != t) && decide (0 < (valD l + valD l + valD k) / (valD k + valD k))), .slice a2 (canon ((valD l + valD l + valD k) / (valD k + valD k))).length c2], .int .i64 0]) ∧ RwF w.heap.size w' a2 (canon ((valD l + valD l + valD k) / (valD k + valD k))) ∧ Below w.heap.size w w' := by
  subst hn hm
  have f1 := fit_dbl (valD_lt l)
  have f2 := fit_dbl2 (valD_lt l) (valD_lt k) hl2 hl
  have f3 := fit_dbl (valD_lt k)
  obtain ⟨T1, h1⟩ := ex_canon (valD l + valD l)
  obtain ⟨T2, h2⟩ := ex_canon (valD l + valD l + valD k)
  obtain ⟨T3, h3⟩ := ex_canon (valD k + valD k)
  have v1 : Hid (valD T1 = valD l + valD l) := by show _ = _; rw [← h1.out, valD_canon]
  have v2 : Hid (valD T2 = valD l + valD l + valD k) := by show _ = _; rw [← h2.out, valD_canon]
  have v3 : Hid (valD T3 = valD k + valD k) := by show _ = _; rw [← h3.out, valD_canon]
  rw [h1.out] at f1
  rw [h2.out] at f2
  rw [h3.out] at f3
  have hp3 : 0 < valD T3 := by have := v3.out; omega
  obtain ⟨Q, hQ⟩ : ∃ Q, (valD l + valD l + valD k) / (valD k + valD k) = Q := ⟨_, rfl⟩
  obtain ⟨U, hU⟩ := ex_canon Q
  have hUv : Hid (valD U = Q) := by show _ = _; rw [← hU.out, valD_canon]
  have hUl : U.length ≤ 700002 := by
    rw [← hU.out, canon_len_le, ← hQ]
    refine Nat.lt_of_le_of_lt (Nat.div_le_self _ _) ?_
    rw [← canon_len_le, h2.out]; exact f2
  rw [hQ]
  have HQ : Hid (valD T2 / valD T3 = Q) := by show _ = _; rw [v2.out, v3.out]; exact hQ
  obtain ⟨sg, hsg⟩ : ∃ sg, sgV t (valD k) = sg := ⟨_, rfl⟩
  have hsn := sgV_ne (t := t) hpos
  rw [hsg] at hsn
  have HS := Lib.hid hsg
  have HP := Lib.hid hp3
  clear hQ hsg hpos hp3
  have hb1 := Below.alloc (Below.refl w.heap.size w) (Nat.le_refl _) (.cells #[Value.bool s, Value.slice a l.length c] 24)
  have hb2 := Below.alloc hb1 (by simp) (.cells #[Value.bool t, Value.slice b k.length d] 24)
  have hb3 := Below.alloc hb2 (by simp; omega) (.cells #[Value.bool false, Value.slice none 0 0] 24)
  have hz3 := hb3.size
  go_enter Try.func62, Try.ntmps62
  go_wp2_with (go_at_call 43; (with_reducible refine (isign_any t b _ d k _ rfl (by omega) (hs.below hb3)).mono ?_); rintro e w1 ⟨rfl, hc1⟩; have k1_p_0 : w1.cell? ⟨w.heap.size, 0, none⟩ = some (.bool s) := bca hc1; have g1_p_0 : w1.frozen? ⟨w.heap.size, 0, none⟩ = false := bfa hc1 (v := .bool s); have k1_p_1 : w1.cell? ⟨w.heap.size, 1, none⟩ = some (.slice a l.length c) := bca hc1; have g1_p_1 : w1.frozen? ⟨w.heap.size, 1, none⟩ = false := bfa hc1 (v := .slice a l.length c); have x1_p : ¬ w.heap.size = w1.heap.size := qne k1_p_0; have y1_p : ¬ w1.heap.size = w.heap.size := fun h => qne k1_p_0 h.symm; have q1_p : w.heap.size < w1.heap.size := qlt k1_p_0; have k1_q_0 : w1.cell? ⟨w.heap.size + 1, 0, none⟩ = some (.bool t) := bca hc1; have g1_q_0 : w1.frozen? ⟨w.heap.size + 1, 0, none⟩ = false := bfa hc1 (v := .bool t); have k1_q_1 : w1.cell? ⟨w.heap.size + 1, 1, none⟩ = some (.slice b k.length d) := bca hc1; have g1_q_1 : w1.frozen? ⟨w.heap.size + 1, 1, none⟩ = false := bfa hc1 (v := .slice b k.length d); have x1_q : ¬ w.heap.size + 1 = w1.heap.size := qne k1_q_0; have y1_q : ¬ w1.heap.size = w.heap.size + 1 := fun h => qne k1_q_0 h.symm; have q1_q : w.heap.size + 1 < w1.heap.size := qlt k1_q_0; have k1_r_0 : w1.cell? ⟨w.heap.size + 1 + 1, 0, none⟩ = some (.bool false) := bca hc1; have g1_r_0 : w1.frozen? ⟨w.heap.size + 1 + 1, 0, none⟩ = false := bfa hc1 (v := .bool false); have k1_r_1 : w1.cell? ⟨w.heap.size + 1 + 1, 1, none⟩ = some (.slice none 0 0) := bca hc1; have g1_r_1 : w1.frozen? ⟨w.heap.size + 1 + 1, 1, none⟩ = false := bfa hc1 (v := .slice none 0 0); have x1_r : ¬ w.heap.size + 1 + 1 = w1.heap.size := qne k1_r_0; have y1_r : ¬ w1.heap.size = w.heap.size + 1 + 1 := fun h => qne k1_r_0 h.symm; have q1_r : w.heap.size + 1 + 1 < w1.heap.size := qlt k1_r_0; have hbw1 := hb3.trans (hc1.mono hz3); have hz1 := hbw1.size; clear hc1 hb1 hb2 hb3 hz3; rw [HS.out])
  have hb4 := hbw1.drew
  have hz4 := hb4.size
  go_region_held3 (fun w' => w'.cell? ⟨w.heap.size, 0, none⟩ = some (.bool s) ∧ w'.cell? ⟨w.heap.size, 1, none⟩ = some (.slice a l.length c) ∧ w'.cell? ⟨w.heap.size + 1, 0, none⟩ = some (.bool t) ∧ w'.cell? ⟨w.heap.size + 1, 1, none⟩ = some (.slice b k.length d)) (first | exact ⟨k5_p_0, k5_p_1, k5_q_0, k5_q_1⟩ | exact ⟨k4_p_0, k4_p_1, k4_q_0, k4_q_1⟩ | exact ⟨k3_p_0, k3_p_1, k3_q_0, k3_q_1⟩ | exact ⟨k2_p_0, k2_p_1, k2_q_0, k2_q_1⟩ | exact ⟨k1_p_0, k1_p_1, k1_q_0, k1_q_1⟩ | (refine ⟨?_, ?_, ?_, ?_⟩ <;> go_simp)) ((first
    | (go_at_call 95; (with_reducible refine (radd_any a a _ c _ c l l _ rfl rfl (by omega) (by omega) (hr.below hb4) (hr.below hb4)).mono ?_); rintro e w2 ⟨a2, c2, rfl, hown2, hc2⟩; have k2_p_0 : w2.cell? ⟨w.heap.size, 0, none⟩ = some (.bool s) := bca hc2; have g2_p_0 : w2.frozen? ⟨w.heap.size, 0, none⟩ = false := bfa hc2 (v := .bool s); have k2_p_1 : w2.cell? ⟨w.heap.size, 1, none⟩ = some (.slice a l.length c) := bca hc2; have g2_p_1 : w2.frozen? ⟨w.heap.size, 1, none⟩ = false := bfa hc2 (v := .slice a l.length c); have x2_p : ¬ w.heap.size = w2.heap.size := qne k2_p_0; have y2_p : ¬ w2.heap.size = w.heap.size := fun h => qne k2_p_0 h.symm; have q2_p : w.heap.size < w2.heap.size := qlt k2_p_0; have k2_q_0 : w2.cell? ⟨w.heap.size + 1, 0, none⟩ = some (.bool t) := bca hc2; have g2_q_0 : w2.frozen? ⟨w.heap.size + 1, 0, none⟩ = false := bfa hc2 (v := .bool t); have k2_q_1 : w2.cell? ⟨w.heap.size + 1, 1, none⟩ = some (.slice b k.length d) := bca hc2; have g2_q_1 : w2.frozen? ⟨w.heap.size + 1, 1, none⟩ = false := bfa hc2 (v := .slice b k.length d); have x2_q : ¬ w.heap.size + 1 = w2.heap.size := qne k2_q_0; have y2_q : ¬ w2.heap.size = w.heap.size + 1 := fun h => qne k2_q_0 h.symm; have q2_q : w.heap.size + 1 < w2.heap.size := qlt k2_q_0; have k2_r_0 : w2.cell? ⟨w.heap.size + 1 + 1, 0, none⟩ = some (.bool false) := bca hc2; have g2_r_0 : w2.frozen? ⟨w.heap.size + 1 + 1, 0, none⟩ = false := bfa hc2 (v := .bool false); have k2_r_1 : w2.cell? ⟨w.heap.size + 1 + 1, 1, none⟩ = some (.slice none 0 0) := bca hc2; have g2_r_1 : w2.frozen? ⟨w.heap.size + 1 + 1, 1, none⟩ = false := bfa hc2 (v := .slice none 0 0); have x2_r : ¬ w.heap.size + 1 + 1 = w2.heap.size := qne k2_r_0; have y2_r : ¬ w2.heap.size = w.heap.size + 1 + 1 := fun h => qne k2_r_0 h.symm; have q2_r : w.heap.size + 1 + 1 < w2.heap.size := qlt k2_r_0; have hr2 := Rw.of_own hown2; have hbw2 := hb4.trans (hc2.mono hz4); have hz2 := hbw2.size; clear hc2 hown2; rw [h1.out] at hr2; rw [h1.out])
    | (go_at_call 95; (with_reducible refine (radd_any a2 b _ c2 _ d T1 k _ rfl rfl (by omega) (by omega) hr2 (hs.below hbw2)).mono ?_); rintro e w3 ⟨a3, c3, rfl, hown3, hc3⟩; have k3_p_0 : w3.cell? ⟨w.heap.size, 0, none⟩ = some (.bool s) := bca hc3; have g3_p_0 : w3.frozen? ⟨w.heap.size, 0, none⟩ = false := bfa hc3 (v := .bool s); have k3_p_1 : w3.cell? ⟨w.heap.size, 1, none⟩ = some (.slice a l.length c) := bca hc3; have g3_p_1 : w3.frozen? ⟨w.heap.size, 1, none⟩ = false := bfa hc3 (v := .slice a l.length c); have x3_p : ¬ w.heap.size = w3.heap.size := qne k3_p_0; have y3_p : ¬ w3.heap.size = w.heap.size := fun h => qne k3_p_0 h.symm; have q3_p : w.heap.size < w3.heap.size := qlt k3_p_0; have k3_q_0 : w3.cell? ⟨w.heap.size + 1, 0, none⟩ = some (.bool t) := bca hc3; have g3_q_0 : w3.frozen? ⟨w.heap.size + 1, 0, none⟩ = false := bfa hc3 (v := .bool t); have k3_q_1 : w3.cell? ⟨w.heap.size + 1, 1, none⟩ = some (.slice b k.length d) := bca hc3; have g3_q_1 : w3.frozen? ⟨w.heap.size + 1, 1, none⟩ = false := bfa hc3 (v := .slice b k.length d); have x3_q : ¬ w.heap.size + 1 = w3.heap.size := qne k3_q_0; have y3_q : ¬ w3.heap.size = w.heap.size + 1 := fun h => qne k3_q_0 h.symm; have q3_q : w.heap.size + 1 < w3.heap.size := qlt k3_q_0; have k3_r_0 : w3.cell? ⟨w.heap.size + 1 + 1, 0, none⟩ = some (.bool false) := bca hc3; have g3_r_0 : w3.frozen? ⟨w.heap.size + 1 + 1, 0, none⟩ = false := bfa hc3 (v := .bool false); have k3_r_1 : w3.cell? ⟨w.heap.size + 1 + 1, 1, none⟩ = some (.slice none 0 0) := bca hc3; have g3_r_1 : w3.frozen? ⟨w.heap.size + 1 + 1, 1, none⟩ = false := bfa hc3 (v := .slice none 0 0); have x3_r : ¬ w.heap.size + 1 + 1 = w3.heap.size := qne k3_r_0; have y3_r : ¬ w3.heap.size = w.heap.size + 1 + 1 := fun h => qne k3_r_0 h.symm; have q3_r : w.heap.size + 1 + 1 < w3.heap.size := qlt k3_r_0; have hr3 := Rw.of_own hown3; have hbw3 := hbw2.trans (hc3.mono hz2); have hz3 := hbw3.size; clear hc3 hown3; rw [v1.out, h2.out] at hr3; rw [v1.out, h2.out])
    | (go_at_call 95; (with_reducible refine (radd_any b b _ d _ d k k _ rfl rfl (by omega) (by omega) (hs.below hbw3) (hs.below hbw3)).mono ?_); rintro e w4 ⟨a4, c4, rfl, hown4, hc4⟩; have k4_p_0 : w4.cell? ⟨w.heap.size, 0, none⟩ = some (.bool s) := bca hc4; have g4_p_0 : w4.frozen? ⟨w.heap.size, 0, none⟩ = false := bfa hc4 (v := .bool s); have k4_p_1 : w4.cell? ⟨w.heap.size, 1, none⟩ = some (.slice a l.length c) := bca hc4; have g4_p_1 : w4.frozen? ⟨w.heap.size, 1, none⟩ = false := bfa hc4 (v := .slice a l.length c); have x4_p : ¬ w.heap.size = w4.heap.size := qne k4_p_0; have y4_p : ¬ w4.heap.size = w.heap.size := fun h => qne k4_p_0 h.symm; have q4_p : w.heap.size < w4.heap.size := qlt k4_p_0; have k4_q_0 : w4.cell? ⟨w.heap.size + 1, 0, none⟩ = some (.bool t) := bca hc4; have g4_q_0 : w4.frozen? ⟨w.heap.size + 1, 0, none⟩ = false := bfa hc4 (v := .bool t); have k4_q_1 : w4.cell? ⟨w.heap.size + 1, 1, none⟩ = some (.slice b k.length d) := bca hc4; have g4_q_1 : w4.frozen? ⟨w.heap.size + 1, 1, none⟩ = false := bfa hc4 (v := .slice b k.length d); have x4_q : ¬ w.heap.size + 1 = w4.heap.size := qne k4_q_0; have y4_q : ¬ w4.heap.size = w.heap.size + 1 := fun h => qne k4_q_0 h.symm; have q4_q : w.heap.size + 1 < w4.heap.size := qlt k4_q_0; have k4_r_0 : w4.cell? ⟨w.heap.size + 1 + 1, 0, none⟩ = some (.bool false) := bca hc4; have g4_r_0 : w4.frozen? ⟨w.heap.size + 1 + 1, 0, none⟩ = false := bfa hc4 (v := .bool false); have k4_r_1 : w4.cell? ⟨w.heap.size + 1 + 1, 1, none⟩ = some (.slice none 0 0) := bca hc4; have g4_r_1 : w4.frozen? ⟨w.heap.size + 1 + 1, 1, none⟩ = false := bfa hc4 (v := .slice none 0 0); have x4_r : ¬ w.heap.size + 1 + 1 = w4.heap.size := qne k4_r_0; have y4_r : ¬ w4.heap.size = w.heap.size + 1 + 1 := fun h => qne k4_r_0 h.symm; have q4_r : w.heap.size + 1 + 1 < w4.heap.size := qlt k4_r_0; have hr4 := Rw.of_own hown4; have hr34 := hr3.below hc4; have hbw4 := hbw3.trans (hc4.mono hz3); have hz4' := hbw4.size; clear hc4 hown4; rw [h3.out] at hr4; rw [h3.out])
    | (go_at_call 87; (with_reducible refine (rdm_any a3 a4 _ c3 _ c4 T2 T3 _ rfl rfl (by omega) (by omega) hr34 hr4 HP.out).mono ?_); rintro e w5 ⟨a5, c5, a6, c6, rfl, hr5, hr6, hc5⟩; have k5_p_0 : w5.cell? ⟨w.heap.size, 0, none⟩ = some (.bool s) := bca hc5; have g5_p_0 : w5.frozen? ⟨w.heap.size, 0, none⟩ = false := bfa hc5 (v := .bool s); have k5_p_1 : w5.cell? ⟨w.heap.size, 1, none⟩ = some (.slice a l.length c) := bca hc5; have g5_p_1 : w5.frozen? ⟨w.heap.size, 1, none⟩ = false := bfa hc5 (v := .slice a l.length c); have x5_p : ¬ w.heap.size = w5.heap.size := qne k5_p_0; have y5_p : ¬ w5.heap.size = w.heap.size := fun h => qne k5_p_0 h.symm; have q5_p : w.heap.size < w5.heap.size := qlt k5_p_0; have k5_q_0 : w5.cell? ⟨w.heap.size + 1, 0, none⟩ = some (.bool t) := bca hc5; have g5_q_0 : w5.frozen? ⟨w.heap.size + 1, 0, none⟩ = false := bfa hc5 (v := .bool t); have k5_q_1 : w5.cell? ⟨w.heap.size + 1, 1, none⟩ = some (.slice b k.length d) := bca hc5; have g5_q_1 : w5.frozen? ⟨w.heap.size + 1, 1, none⟩ = false := bfa hc5 (v := .slice b k.length d); have x5_q : ¬ w.heap.size + 1 = w5.heap.size := qne k5_q_0; have y5_q : ¬ w5.heap.size = w.heap.size + 1 := fun h => qne k5_q_0 h.symm; have q5_q : w.heap.size + 1 < w5.heap.size := qlt k5_q_0; have k5_r_0 : w5.cell? ⟨w.heap.size + 1 + 1, 0, none⟩ = some (.bool false) := bca hc5; have g5_r_0 : w5.frozen? ⟨w.heap.size + 1 + 1, 0, none⟩ = false := bfa hc5 (v := .bool false); have k5_r_1 : w5.cell? ⟨w.heap.size + 1 + 1, 1, none⟩ = some (.slice none 0 0) := bca hc5; have g5_r_1 : w5.frozen? ⟨w.heap.size + 1 + 1, 1, none⟩ = false := bfa hc5 (v := .slice none 0 0); have x5_r : ¬ w.heap.size + 1 + 1 = w5.heap.size := qne k5_r_0; have y5_r : ¬ w5.heap.size = w.heap.size + 1 + 1 := fun h => qne k5_r_0 h.symm; have q5_r : w.heap.size + 1 + 1 < w5.heap.size := qlt k5_r_0; have hbw5 := hbw4.trans (hc5.mono hz4'); have hz5 := hbw5.size; clear hc5 hr6; rw [HQ.out, hU.out] at hr5; rw [HQ.out, hU.out])
    ))
  go_wp2_with (go_at_call 77; (with_reducible refine (inew_any _ a5 _ c5 U _ rfl (by omega) hr5).mono ?_); rintro e w6 ⟨a7, c7, rfl, hr7, hc6⟩; have k6_p_0 : w6.cell? ⟨w.heap.size, 0, none⟩ = some (.bool s) := bca hc6; have g6_p_0 : w6.frozen? ⟨w.heap.size, 0, none⟩ = false := bfa hc6 (v := .bool s); have k6_p_1 : w6.cell? ⟨w.heap.size, 1, none⟩ = some (.slice a l.length c) := bca hc6; have g6_p_1 : w6.frozen? ⟨w.heap.size, 1, none⟩ = false := bfa hc6 (v := .slice a l.length c); have x6_p : ¬ w.heap.size = w6.heap.size := qne k6_p_0; have y6_p : ¬ w6.heap.size = w.heap.size := fun h => qne k6_p_0 h.symm; have q6_p : w.heap.size < w6.heap.size := qlt k6_p_0; have k6_q_0 : w6.cell? ⟨w.heap.size + 1, 0, none⟩ = some (.bool t) := bca hc6; have g6_q_0 : w6.frozen? ⟨w.heap.size + 1, 0, none⟩ = false := bfa hc6 (v := .bool t); have k6_q_1 : w6.cell? ⟨w.heap.size + 1, 1, none⟩ = some (.slice b k.length d) := bca hc6; have g6_q_1 : w6.frozen? ⟨w.heap.size + 1, 1, none⟩ = false := bfa hc6 (v := .slice b k.length d); have x6_q : ¬ w.heap.size + 1 = w6.heap.size := qne k6_q_0; have y6_q : ¬ w6.heap.size = w.heap.size + 1 := fun h => qne k6_q_0 h.symm; have q6_q : w.heap.size + 1 < w6.heap.size := qlt k6_q_0; have k6_r_0 : w6.cell? ⟨w.heap.size + 1 + 1, 0, none⟩ = some (.bool false) := bca hc6; have g6_r_0 : w6.frozen? ⟨w.heap.size + 1 + 1, 0, none⟩ = false := bfa hc6 (v := .bool false); have k6_r_1 : w6.cell? ⟨w.heap.size + 1 + 1, 1, none⟩ = some (.slice none 0 0) := bca hc6; have g6_r_1 : w6.frozen? ⟨w.heap.size + 1 + 1, 1, none⟩ = false := bfa hc6 (v := .slice none 0 0); have x6_r : ¬ w.heap.size + 1 + 1 = w6.heap.size := qne k6_r_0; have y6_r : ¬ w6.heap.size = w.heap.size + 1 + 1 := fun h => qne k6_r_0 h.symm; have q6_r : w.heap.size + 1 + 1 < w6.heap.size := qlt k6_r_0; have hbw6 := hbw5.trans (hc6.mono hz5))
  refine bodyPost_ret (v := .tuple #[.agg #[.bool (!(s == t) && decide (0 < valD U)), .slice a7 (canon (valD U)).length c7], .int .i64 0]) (by simp [results, Try.results62, go_sem, *]) rfl ?_
  exact ⟨a7, c7, by rw [hUv.out]; rfl, by rw [hUv.out] at hr7; exact ((hr7.set q5_r 0 _).set q5_r 1 _).mono hz5, (hbw6.setCell (by simp; omega) _).setCell (by simp; omega) _⟩
end Go.Proofs.Ytcofiekfhnfjpaa

