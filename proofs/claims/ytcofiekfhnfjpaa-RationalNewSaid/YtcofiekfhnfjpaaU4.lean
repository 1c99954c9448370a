
import Derived.Test.YtcofiekfhnfjpaaU2
import Derived.Test.YtcofiekfhnfjpaaU3
import Derived.Deep.RegionHeld3
import Derived.Deep.DrawnRows
import Derived.Deep.DeepFit
import Derived.Laws.BitsAllLaws
import Derived.StillTailTactics
/- I1 -/
namespace Go.Proofs.Ytcofiekfhnfjpaa
open Go.RowKit
set_option linter.unusedVariables false
set_option linter.unusedSimpArgs false
attribute [local go_sem ↓] Go.wp_at_zero Go.wp_at_succ
/-- An integer of unlimited size is returned: its sign and its digits, in a row of its own. -/
def FrI (w : World) (s : Bool) (K : Nat) (e : Ending) (w' : World) : Prop := ∃ a c, e = .returned (.agg #[.bool s, .slice a (canon K).length c]) ∧ RwF w.heap.size w' a (canon K) ∧ Below w.heap.size w w'
theorem canon_len_zero {n : Nat} : (canon n).length = 0 ↔ n = 0 := by
  constructor
  · intro h
    rcases Nat.eq_zero_or_pos n with h0 | h0
    · exact h0
    · have := canon_len_pos h0
      omega
  · rintro rfl
    rw [canon_zero]; rfl
theorem inew_any (s : Bool) (a : Option Addr) (n c : Nat) (l : List (BitVec 32)) (w : World) (hn : l.length = n) (hl : l.length ≤ 10000000) (hr : Rw w a l) :
    Calls Try.prog 77 #[.bool s, .slice a n c] w (FrI w (s && decide (0 < valD l)) (valD l)) := by
  subst hn
  have hnc := canon_val l
  have hb0 := Below.alloc (Below.refl w.heap.size w) (Nat.le_refl _) (.cells #[Value.bool false, Value.slice none 0 0] 24)
  rcases Nat.eq_zero_or_pos (valD l) with h0 | h0
  · have hz : (canon (valD l)).length = 0 := canon_len_zero.2 h0
    rw [hnc] at hz
    have hv : Hid (canon (valD l) = trimD l ∧ (s && decide (0 < valD l)) = false) := ⟨hnc, by rw [h0]; simp⟩
    have HT := Lib.hid hz
    have hnz : decide (0 < (trimD l).length) = false := by rw [hz]; rfl
    have hnz2 : decide ((0 : Int) < ((trimD l).length : Int)) = false := by rw [hz]; rfl
    clear hz
    clear hnc h0
    cases s
    · go_enter Try.func77, Try.ntmps77
      go_wp2_with (go_at_call 86; (with_reducible refine (norm_any _ _ _ l _ rfl hl (hr.below hb0)).mono ?_); rintro e w1 ⟨a1, c1, rfl, hown1, hb1⟩; have k1_r_0 : w1.cell? ⟨w.heap.size, 0, none⟩ = some (.bool false) := bcs hb1 (by first | with_reducible assumption | go_simp); have g1_r_0 : w1.frozen? ⟨w.heap.size, 0, none⟩ = false := bfs hb1 (v := .bool false) (by first | with_reducible assumption | go_simp) (by first | with_reducible assumption | go_simp); have k1_r_1 : w1.cell? ⟨w.heap.size, 1, none⟩ = some (.slice none 0 0) := bcs hb1 (by first | with_reducible assumption | go_simp); have g1_r_1 : w1.frozen? ⟨w.heap.size, 1, none⟩ = false := bfs hb1 (v := .slice none 0 0) (by first | with_reducible assumption | go_simp) (by first | with_reducible assumption | go_simp); have x1_r : ¬ w.heap.size = w1.heap.size := qne k1_r_0; have y1_r : ¬ w1.heap.size = w.heap.size := fun h => qne k1_r_0 h.symm; have q1_r : w.heap.size < w1.heap.size := qlt k1_r_0; have hbw := hb0.trans (hb1.mono hb0.size); have hr1 := RwF.of_own hown1; clear hb1 hown1 hr)
      refine bodyPost_ret (v := .agg #[.bool false, .slice a1 (trimD l).length c1]) (by simp [results, Try.results77, go_sem, *]) rfl ?_
      rw [hv.out.2]
      exact ⟨a1, c1, by rw [hv.out.1], by rw [hv.out.1]; exact ((hr1.set (by simp) 0 _).set (by simp) 1 _).mono (by simp), (hbw.setCell (Nat.le_refl _) _).setCell (Nat.le_refl _) _⟩
    · go_enter Try.func77, Try.ntmps77
      go_wp2_with (go_at_call 86; (with_reducible refine (norm_any _ _ _ l _ rfl hl (hr.below hb0)).mono ?_); rintro e w1 ⟨a1, c1, rfl, hown1, hb1⟩; have k1_r_0 : w1.cell? ⟨w.heap.size, 0, none⟩ = some (.bool false) := bcs hb1 (by first | with_reducible assumption | go_simp); have g1_r_0 : w1.frozen? ⟨w.heap.size, 0, none⟩ = false := bfs hb1 (v := .bool false) (by first | with_reducible assumption | go_simp) (by first | with_reducible assumption | go_simp); have k1_r_1 : w1.cell? ⟨w.heap.size, 1, none⟩ = some (.slice none 0 0) := bcs hb1 (by first | with_reducible assumption | go_simp); have g1_r_1 : w1.frozen? ⟨w.heap.size, 1, none⟩ = false := bfs hb1 (v := .slice none 0 0) (by first | with_reducible assumption | go_simp) (by first | with_reducible assumption | go_simp); have x1_r : ¬ w.heap.size = w1.heap.size := qne k1_r_0; have y1_r : ¬ w1.heap.size = w.heap.size := fun h => qne k1_r_0 h.symm; have q1_r : w.heap.size < w1.heap.size := qlt k1_r_0; have hbw := hb0.trans (hb1.mono hb0.size); have hr1 := RwF.of_own hown1; clear hb1 hown1 hr)
      refine bodyPost_ret (v := .agg #[.bool false, .slice a1 (trimD l).length c1]) (by simp [results, Try.results77, go_sem, *]) rfl ?_
      rw [hv.out.2]
      exact ⟨a1, c1, by rw [hv.out.1], by rw [hv.out.1]; exact ((hr1.set (by simp) 0 _).set (by simp) 1 _).mono (by simp), (hbw.setCell (Nat.le_refl _) _).setCell (Nat.le_refl _) _⟩
  · have hz : 0 < (canon (valD l)).length := canon_len_pos h0
    rw [hnc] at hz
    have hv : Hid (canon (valD l) = trimD l ∧ (s && decide (0 < valD l)) = s) := ⟨hnc, by simp [h0]⟩
    clear hnc h0
    cases s
    · go_enter Try.func77, Try.ntmps77
      go_wp2_with (go_at_call 86; (with_reducible refine (norm_any _ _ _ l _ rfl hl (hr.below hb0)).mono ?_); rintro e w1 ⟨a1, c1, rfl, hown1, hb1⟩; have k1_r_0 : w1.cell? ⟨w.heap.size, 0, none⟩ = some (.bool false) := bcs hb1 (by first | with_reducible assumption | go_simp); have g1_r_0 : w1.frozen? ⟨w.heap.size, 0, none⟩ = false := bfs hb1 (v := .bool false) (by first | with_reducible assumption | go_simp) (by first | with_reducible assumption | go_simp); have k1_r_1 : w1.cell? ⟨w.heap.size, 1, none⟩ = some (.slice none 0 0) := bcs hb1 (by first | with_reducible assumption | go_simp); have g1_r_1 : w1.frozen? ⟨w.heap.size, 1, none⟩ = false := bfs hb1 (v := .slice none 0 0) (by first | with_reducible assumption | go_simp) (by first | with_reducible assumption | go_simp); have x1_r : ¬ w.heap.size = w1.heap.size := qne k1_r_0; have y1_r : ¬ w1.heap.size = w.heap.size := fun h => qne k1_r_0 h.symm; have q1_r : w.heap.size < w1.heap.size := qlt k1_r_0; have hbw := hb0.trans (hb1.mono hb0.size); have hr1 := RwF.of_own hown1; clear hb1 hown1 hr)
      refine bodyPost_ret (v := .agg #[.bool false, .slice a1 (trimD l).length c1]) (by simp [results, Try.results77, go_sem, *]) rfl ?_
      rw [hv.out.2]
      exact ⟨a1, c1, by rw [hv.out.1], by rw [hv.out.1]; exact ((hr1.set (by simp) 0 _).set (by simp) 1 _).mono (by simp), (hbw.setCell (Nat.le_refl _) _).setCell (Nat.le_refl _) _⟩
    · go_enter Try.func77, Try.ntmps77
      go_wp2_with (go_at_call 86; (with_reducible refine (norm_any _ _ _ l _ rfl hl (hr.below hb0)).mono ?_); rintro e w1 ⟨a1, c1, rfl, hown1, hb1⟩; have k1_r_0 : w1.cell? ⟨w.heap.size, 0, none⟩ = some (.bool false) := bcs hb1 (by first | with_reducible assumption | go_simp); have g1_r_0 : w1.frozen? ⟨w.heap.size, 0, none⟩ = false := bfs hb1 (v := .bool false) (by first | with_reducible assumption | go_simp) (by first | with_reducible assumption | go_simp); have k1_r_1 : w1.cell? ⟨w.heap.size, 1, none⟩ = some (.slice none 0 0) := bcs hb1 (by first | with_reducible assumption | go_simp); have g1_r_1 : w1.frozen? ⟨w.heap.size, 1, none⟩ = false := bfs hb1 (v := .slice none 0 0) (by first | with_reducible assumption | go_simp) (by first | with_reducible assumption | go_simp); have x1_r : ¬ w.heap.size = w1.heap.size := qne k1_r_0; have y1_r : ¬ w1.heap.size = w.heap.size := fun h => qne k1_r_0 h.symm; have q1_r : w.heap.size < w1.heap.size := qlt k1_r_0; have hbw := hb0.trans (hb1.mono hb0.size); have hr1 := RwF.of_own hown1; clear hb1 hown1 hr)
      refine bodyPost_ret (v := .agg #[.bool true, .slice a1 (trimD l).length c1]) (by simp [results, Try.results77, go_sem, *]) rfl ?_
      rw [hv.out.2]
      exact ⟨a1, c1, by rw [hv.out.1], by rw [hv.out.1]; exact ((hr1.set (by simp) 0 _).set (by simp) 1 _).mono (by simp), (hbw.setCell (Nat.le_refl _) _).setCell (Nat.le_refl _) _⟩
end Go.Proofs.Ytcofiekfhnfjpaa

/- I2 -/
namespace Go.Proofs.Ytcofiekfhnfjpaa
open Go.RowKit
set_option linter.unusedVariables false
set_option linter.unusedSimpArgs false
attribute [local go_sem ↓] Go.wp_at_zero Go.wp_at_succ
set_option maxRecDepth 50000 in
theorem two_val (n : Nat) (hn : n < 18446744073709551616) : valD [BitVec.ofNat 32 n, BitVec.ofNat 32 (n / 4294967296)] = n := by
  simp only [valD_cons, valD_nil, BitVec.toNat_ofNat]
  omega
set_option maxRecDepth 50000 in
theorem ifrom_core (v : Int) (n : Nat) (s : Bool) (hn : n < 18446744073709551616) (hp : 0 < n ∨ s = false)
    (hu : s = false ∧ v = n ∧ v < 9223372036854775808 ∨ s = true ∧ v = -(n : Int) ∧ n ≤ 9223372036854775808) (w : World) :
    Calls Try.prog 55 #[.int .i64 v] w (FrI w s n) := by
  have hb00 := Below.alloc (Below.refl w.heap.size w) (Nat.le_refl _) (.cells #[Value.bool false, Value.slice none 0 0] 24)
  have hb0 := Below.alloc hb00 (by simp) (.cells #[Value.int IntKind.u32 ((n : Int) % 4294967296), Value.int IntKind.u32 ((n : Int) / 4294967296)] 49)
  have hrow : Rw ((w.alloc (.cells #[Value.bool false, Value.slice none 0 0] 24)).alloc (.cells #[Value.int IntKind.u32 ((n : Int) % 4294967296), Value.int IntKind.u32 ((n : Int) / 4294967296)] 49)) (some ⟨w.heap.size + 1, 0, none⟩) [BitVec.ofNat 32 n, BitVec.ofNat 32 (n / 4294967296)] := Rw.of_alloc (by simp) (two_bv n hn)
  have hsv : Hid ((s && decide (0 < valD [BitVec.ofNat 32 n, BitVec.ofNat 32 (n / 4294967296)])) = s) := by
    show _ = _
    rw [two_val n hn]
    rcases hp with h | h
    · simp [h]
    · rw [h]; rfl
  rcases hu with ⟨rfl, rfl, h3⟩ | ⟨rfl, rfl, h3⟩
  · have hw1 : IntKind.u64.wrap (n : Int) = n := by rw [IntKind.wrap_u64]; omega
    have hw3 : (n : Int) / 4294967296 % 4294967296 = n / 4294967296 := by omega
    have h6 : decide ((n : Int) < 0) = false := by rw [decide_eq_false_iff_not]; omega
    have HN := Lib.hid hn
    clear hn h3 hp
    go_enter Try.func55, Try.ntmps55
    go_wp2_with (go_at_call 77; (with_reducible refine (inew_any false _ _ _ _ _ (two_len _ _) (two_le _ _) hrow).mono ?_); rintro e w1 ⟨a1, c1, rfl, hr1, hb1⟩; have k1_r_0 : w1.cell? ⟨w.heap.size, 0, none⟩ = some (.bool false) := bcs hb1 (by first | with_reducible assumption | go_simp); have g1_r_0 : w1.frozen? ⟨w.heap.size, 0, none⟩ = false := bfs hb1 (v := .bool false) (by first | with_reducible assumption | go_simp) (by first | with_reducible assumption | go_simp); have k1_r_1 : w1.cell? ⟨w.heap.size, 1, none⟩ = some (.slice none 0 0) := bcs hb1 (by first | with_reducible assumption | go_simp); have g1_r_1 : w1.frozen? ⟨w.heap.size, 1, none⟩ = false := bfs hb1 (v := .slice none 0 0) (by first | with_reducible assumption | go_simp) (by first | with_reducible assumption | go_simp); have x1_r : ¬ w.heap.size = w1.heap.size := qne k1_r_0; have y1_r : ¬ w1.heap.size = w.heap.size := fun h => qne k1_r_0 h.symm; have q1_r : w.heap.size < w1.heap.size := qlt k1_r_0; have hbw := hb0.trans (hb1.mono hb0.size); rw [hsv.out]; clear hb1)
    refine bodyPost_ret (v := .agg #[.bool false, .slice a1 (canon (valD [BitVec.ofNat 32 n, BitVec.ofNat 32 (n / 4294967296)])).length c1]) (by simp [results, Try.results55, go_sem, *]) rfl ?_
    rw [two_val n HN.out] at hr1 ⊢
    exact ⟨a1, c1, rfl, ((hr1.set (by simp; omega) 0 _).set (by simp; omega) 1 _).mono (by simp; omega), (hbw.setCell (Nat.le_refl _) _).setCell (Nat.le_refl _) _⟩
  · have hw1 : IntKind.u64.wrap (-IntKind.u64.wrap (-(n : Int))) = n := by rw [IntKind.wrap_u64, IntKind.wrap_u64]; omega
    have hw3 : (n : Int) / 4294967296 % 4294967296 = n / 4294967296 := by omega
    have HN := Lib.hid hn
    have h4 : 0 < n := by simpa using hp
    have h5 : decide (-(n : Int) < 0) = true := by rw [decide_eq_true_iff]; omega
    clear hn h3 hp
    go_enter Try.func55, Try.ntmps55
    go_wp2_with (go_at_call 77; (with_reducible refine (inew_any true _ _ _ _ _ (two_len _ _) (two_le _ _) hrow).mono ?_); rintro e w1 ⟨a1, c1, rfl, hr1, hb1⟩; have k1_r_0 : w1.cell? ⟨w.heap.size, 0, none⟩ = some (.bool false) := bcs hb1 (by first | with_reducible assumption | go_simp); have g1_r_0 : w1.frozen? ⟨w.heap.size, 0, none⟩ = false := bfs hb1 (v := .bool false) (by first | with_reducible assumption | go_simp) (by first | with_reducible assumption | go_simp); have k1_r_1 : w1.cell? ⟨w.heap.size, 1, none⟩ = some (.slice none 0 0) := bcs hb1 (by first | with_reducible assumption | go_simp); have g1_r_1 : w1.frozen? ⟨w.heap.size, 1, none⟩ = false := bfs hb1 (v := .slice none 0 0) (by first | with_reducible assumption | go_simp) (by first | with_reducible assumption | go_simp); have x1_r : ¬ w.heap.size = w1.heap.size := qne k1_r_0; have y1_r : ¬ w1.heap.size = w.heap.size := fun h => qne k1_r_0 h.symm; have q1_r : w.heap.size < w1.heap.size := qlt k1_r_0; have hbw := hb0.trans (hb1.mono hb0.size); rw [hsv.out]; clear hb1)
    refine bodyPost_ret (v := .agg #[.bool true, .slice a1 (canon (valD [BitVec.ofNat 32 n, BitVec.ofNat 32 (n / 4294967296)])).length c1]) (by simp [results, Try.results55, go_sem, *]) rfl ?_
    rw [two_val n HN.out] at hr1 ⊢
    exact ⟨a1, c1, rfl, ((hr1.set (by simp; omega) 0 _).set (by simp; omega) 1 _).mono (by simp; omega), (hbw.setCell (Nat.le_refl _) _).setCell (Nat.le_refl _) _⟩
theorem ifrom_any (v : Int) (h0 : -9223372036854775808 ≤ v) (h1 : v ≤ 9223372036854775807) (w : World) :
    Calls Try.prog 55 #[.int .i64 v] w (FrI w (decide (v < 0)) v.natAbs) := by
  by_cases h : v < 0
  · rw [show decide (v < 0) = true by simpa using h]
    exact ifrom_core v v.natAbs true (by omega) (.inl (by omega)) (.inr ⟨rfl, by omega, by omega⟩) w
  · rw [show decide (v < 0) = false by simpa using h]
    exact ifrom_core v v.natAbs false (by omega) (.inr rfl) (.inl ⟨rfl, by omega, by omega⟩) w
def sgV (s : Bool) (K : Nat) : Int := if K = 0 then 0 else if s then -1 else 1
theorem isign_any (s : Bool) (a : Option Addr) (n c : Nat) (l : List (BitVec 32)) (w : World) (hn : l.length = n) (hl : l.length ≤ 10000000) (hr : Rw w a l) :
    Calls Try.prog 43 #[.agg #[.bool s, .slice a n c]] w fun e w' => e = .returned (.int .i64 (sgV s (valD l))) ∧ Below w.heap.size w w' := by
  subst hn
  have hb0 := Below.alloc (Below.refl w.heap.size w) (Nat.le_refl _) (.cells #[Value.bool s, Value.slice a l.length c] 24)
  rcases Nat.eq_zero_or_pos (valD l) with h0 | h0
  · have hz : Hid ((canon (valD l)).length = 0) := canon_len_zero.2 h0
    have hv : Hid (sgV s (valD l) = 0) := by show _ = _; simp [sgV, h0]
    clear h0
    go_enter Try.func43, Try.ntmps43
    go_wp2_with (go_at_call 77; (with_reducible refine (inew_any s _ _ _ l _ rfl hl (hr.below hb0)).mono ?_); rintro e w1 ⟨a1, c1, rfl, hr1, hb1⟩; have hbw := hb0.trans (hb1.mono hb0.size); have hz1 := hbw.size; clear hb1; rw [hz.out])
    go_ret
    exact ⟨by rw [hv.out]; rfl, hbw.alloc hz1 _⟩
  · have hz : 0 < (canon (valD l)).length := canon_len_pos h0
    obtain ⟨L, hL⟩ : ∃ L, (canon (valD l)).length = L := ⟨_, rfl⟩
    rw [hL] at hz
    have hne : ((L : Int) == 0) = false := by rw [beq_eq_false_iff_ne]; omega
    have hne2 : (L == 0) = false := by rw [beq_eq_false_iff_ne]; omega
    have HL := Lib.hid hL
    have hs : Hid ((s && decide (0 < valD l)) = s) := by show _ = _; simp [h0]
    have hv : Hid (sgV s (valD l) = if s then -1 else 1) := by show _ = _; simp [sgV, show valD l ≠ 0 by omega]
    clear h0 hL
    cases s
    · go_enter Try.func43, Try.ntmps43
      go_wp2_with (go_at_call 77; (with_reducible refine (inew_any false _ _ _ l _ rfl hl (hr.below hb0)).mono ?_); rintro e w1 ⟨a1, c1, rfl, hr1, hb1⟩; have hbw := hb0.trans (hb1.mono hb0.size); have hz1 := hbw.size; clear hb1; rw [HL.out, hs.out])
      go_ret
      exact ⟨by rw [hv.out]; rfl, hbw.alloc hz1 _⟩
    · go_enter Try.func43, Try.ntmps43
      go_wp2_with (go_at_call 77; (with_reducible refine (inew_any true _ _ _ l _ rfl hl (hr.below hb0)).mono ?_); rintro e w1 ⟨a1, c1, rfl, hr1, hb1⟩; have hbw := hb0.trans (hb1.mono hb0.size); have hz1 := hbw.size; clear hb1; rw [HL.out, hs.out])
      go_ret
      exact ⟨by rw [hv.out]; rfl, hbw.alloc hz1 _⟩
end Go.Proofs.Ytcofiekfhnfjpaa

/- I3 -/
namespace Go.Proofs.Ytcofiekfhnfjpaa
open Go.RowKit
set_option linter.unusedVariables false
set_option linter.unusedSimpArgs false
attribute [local go_sem ↓] Go.wp_at_zero Go.wp_at_succ
end Go.Proofs.Ytcofiekfhnfjpaa

/- I4 -/
namespace Go.Proofs.Ytcofiekfhnfjpaa
open Go.RowKit
set_option linter.unusedVariables false
set_option linter.unusedSimpArgs false
attribute [local go_sem ↓] Go.wp_at_zero Go.wp_at_succ
theorem sgV_ne {t : Bool} {K : Nat} (h : 0 < K) : (sgV t K == 0) = false := by
  unfold sgV
  rw [if_neg (by omega)]
  cases t <;> rfl
end Go.Proofs.Ytcofiekfhnfjpaa

