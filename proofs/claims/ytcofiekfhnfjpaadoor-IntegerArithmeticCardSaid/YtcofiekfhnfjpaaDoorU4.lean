
import Derived.Test.YtcofiekfhnfjpaaDoorU2
import Derived.Test.YtcofiekfhnfjpaaDoorU3
import Derived.Deep.RegionHeld3
import Derived.Deep.DrawnRows
import Derived.Deep.DeepFit
import Derived.Laws.BitsAllLaws
import Derived.StillTailTactics
/- I1 -/
namespace Go.Proofs.YtcofiekfhnfjpaaDoor
open Go.RowKit
set_option linter.unusedVariables false
set_option linter.unusedSimpArgs false
attribute [local go_sem ↓] Go.wp_at_zero Go.wp_at_succ
/-- An integer of unlimited size is returned: its sign and its digits, in a row of its own. -/
def FrI (w : World) (s : Bool) (K : Nat) (e : Ending) (w' : World) : Prop := ∃ a c, e = .returned (.agg #[.bool s, .slice a (canon K).length c]) ∧ RwF w.heap.size w' a (canon K) ∧ Below w.heap.size w w'
theorem canon_len_zero {n : Nat} : (canon n).length = 0 ↔ n = 0 := by
  constructor
  · intro h
    rcases Nat.eq_zero_or_pos n with h0 | h0
    · exact h0
    · have := canon_len_pos h0
      omega
  · rintro rfl
    rw [canon_zero]; rfl
theorem inew_any (s : Bool) (a : Option Addr) (n c : Nat) (l : List (BitVec 32)) (w : World) (hn : l.length = n) (hl : l.length ≤ 10000000) (hr : Rw w a l) :
    Calls Tryd.prog 35 #[.bool s, .slice a n c] w (FrI w (s && decide (0 < valD l)) (valD l)) := by
  subst hn
  have hnc := canon_val l
  have hb0 := Below.alloc (Below.refl w.heap.size w) (Nat.le_refl _) (.cells #[Value.bool false, Value.slice none 0 0] 24)
  rcases Nat.eq_zero_or_pos (valD l) with h0 | h0
  · have hz : (canon (valD l)).length = 0 := canon_len_zero.2 h0
    rw [hnc] at hz
    have hv : Hid (canon (valD l) = trimD l ∧ (s && decide (0 < valD l)) = false) := ⟨hnc, by rw [h0]; simp⟩
    have HT := Lib.hid hz
    have hnz : decide (0 < (trimD l).length) = false := by rw [hz]; rfl
    have hnz2 : decide ((0 : Int) < ((trimD l).length : Int)) = false := by rw [hz]; rfl
    clear hz
    clear hnc h0
    cases s
    · go_enter Tryd.func35, Tryd.ntmps35
      go_wp2_with (go_at_call 51; (with_reducible refine (norm_any _ _ _ l _ rfl hl (hr.below hb0)).mono ?_); rintro e w1 ⟨a1, c1, rfl, hown1, hb1⟩; have k1_r_0 : w1.cell? ⟨w.heap.size, 0, none⟩ = some (.bool false) := bcs hb1 (by first | with_reducible assumption | go_simp); have g1_r_0 : w1.frozen? ⟨w.heap.size, 0, none⟩ = false := bfs hb1 (v := .bool false) (by first | with_reducible assumption | go_simp) (by first | with_reducible assumption | go_simp); have k1_r_1 : w1.cell? ⟨w.heap.size, 1, none⟩ = some (.slice none 0 0) := bcs hb1 (by first | with_reducible assumption | go_simp); have g1_r_1 : w1.frozen? ⟨w.heap.size, 1, none⟩ = false := bfs hb1 (v := .slice none 0 0) (by first | with_reducible assumption | go_simp) (by first | with_reducible assumption | go_simp); have x1_r : ¬ w.heap.size = w1.heap.size := qne k1_r_0; have y1_r : ¬ w1.heap.size = w.heap.size := fun h => qne k1_r_0 h.symm; have q1_r : w.heap.size < w1.heap.size := qlt k1_r_0; have hbw := hb0.trans (hb1.mono hb0.size); have hr1 := RwF.of_own hown1; clear hb1 hown1 hr)
      refine bodyPost_ret (v := .agg #[.bool false, .slice a1 (trimD l).length c1]) (by simp [results, Tryd.results35, go_sem, *]) rfl ?_
      rw [hv.out.2]
      exact ⟨a1, c1, by rw [hv.out.1], by rw [hv.out.1]; exact ((hr1.set (by simp) 0 _).set (by simp) 1 _).mono (by simp), (hbw.setCell (Nat.le_refl _) _).setCell (Nat.le_refl _) _⟩
    · go_enter Tryd.func35, Tryd.ntmps35
      go_wp2_with (go_at_call 51; (with_reducible refine (norm_any _ _ _ l _ rfl hl (hr.below hb0)).mono ?_); rintro e w1 ⟨a1, c1, rfl, hown1, hb1⟩; have k1_r_0 : w1.cell? ⟨w.heap.size, 0, none⟩ = some (.bool false) := bcs hb1 (by first | with_reducible assumption | go_simp); have g1_r_0 : w1.frozen? ⟨w.heap.size, 0, none⟩ = false := bfs hb1 (v := .bool false) (by first | with_reducible assumption | go_simp) (by first | with_reducible assumption | go_simp); have k1_r_1 : w1.cell? ⟨w.heap.size, 1, none⟩ = some (.slice none 0 0) := bcs hb1 (by first | with_reducible assumption | go_simp); have g1_r_1 : w1.frozen? ⟨w.heap.size, 1, none⟩ = false := bfs hb1 (v := .slice none 0 0) (by first | with_reducible assumption | go_simp) (by first | with_reducible assumption | go_simp); have x1_r : ¬ w.heap.size = w1.heap.size := qne k1_r_0; have y1_r : ¬ w1.heap.size = w.heap.size := fun h => qne k1_r_0 h.symm; have q1_r : w.heap.size < w1.heap.size := qlt k1_r_0; have hbw := hb0.trans (hb1.mono hb0.size); have hr1 := RwF.of_own hown1; clear hb1 hown1 hr)
      refine bodyPost_ret (v := .agg #[.bool false, .slice a1 (trimD l).length c1]) (by simp [results, Tryd.results35, go_sem, *]) rfl ?_
      rw [hv.out.2]
      exact ⟨a1, c1, by rw [hv.out.1], by rw [hv.out.1]; exact ((hr1.set (by simp) 0 _).set (by simp) 1 _).mono (by simp), (hbw.setCell (Nat.le_refl _) _).setCell (Nat.le_refl _) _⟩
  · have hz : 0 < (canon (valD l)).length := canon_len_pos h0
    rw [hnc] at hz
    have hv : Hid (canon (valD l) = trimD l ∧ (s && decide (0 < valD l)) = s) := ⟨hnc, by simp [h0]⟩
    clear hnc h0
    cases s
    · go_enter Tryd.func35, Tryd.ntmps35
      go_wp2_with (go_at_call 51; (with_reducible refine (norm_any _ _ _ l _ rfl hl (hr.below hb0)).mono ?_); rintro e w1 ⟨a1, c1, rfl, hown1, hb1⟩; have k1_r_0 : w1.cell? ⟨w.heap.size, 0, none⟩ = some (.bool false) := bcs hb1 (by first | with_reducible assumption | go_simp); have g1_r_0 : w1.frozen? ⟨w.heap.size, 0, none⟩ = false := bfs hb1 (v := .bool false) (by first | with_reducible assumption | go_simp) (by first | with_reducible assumption | go_simp); have k1_r_1 : w1.cell? ⟨w.heap.size, 1, none⟩ = some (.slice none 0 0) := bcs hb1 (by first | with_reducible assumption | go_simp); have g1_r_1 : w1.frozen? ⟨w.heap.size, 1, none⟩ = false := bfs hb1 (v := .slice none 0 0) (by first | with_reducible assumption | go_simp) (by first | with_reducible assumption | go_simp); have x1_r : ¬ w.heap.size = w1.heap.size := qne k1_r_0; have y1_r : ¬ w1.heap.size = w.heap.size := fun h => qne k1_r_0 h.symm; have q1_r : w.heap.size < w1.heap.size := qlt k1_r_0; have hbw := hb0.trans (hb1.mono hb0.size); have hr1 := RwF.of_own hown1; clear hb1 hown1 hr)
      refine bodyPost_ret (v := .agg #[.bool false, .slice a1 (trimD l).length c1]) (by simp [results, Tryd.results35, go_sem, *]) rfl ?_
      rw [hv.out.2]
      exact ⟨a1, c1, by rw [hv.out.1], by rw [hv.out.1]; exact ((hr1.set (by simp) 0 _).set (by simp) 1 _).mono (by simp), (hbw.setCell (Nat.le_refl _) _).setCell (Nat.le_refl _) _⟩
    · go_enter Tryd.func35, Tryd.ntmps35
      go_wp2_with (go_at_call 51; (with_reducible refine (norm_any _ _ _ l _ rfl hl (hr.below hb0)).mono ?_); rintro e w1 ⟨a1, c1, rfl, hown1, hb1⟩; have k1_r_0 : w1.cell? ⟨w.heap.size, 0, none⟩ = some (.bool false) := bcs hb1 (by first | with_reducible assumption | go_simp); have g1_r_0 : w1.frozen? ⟨w.heap.size, 0, none⟩ = false := bfs hb1 (v := .bool false) (by first | with_reducible assumption | go_simp) (by first | with_reducible assumption | go_simp); have k1_r_1 : w1.cell? ⟨w.heap.size, 1, none⟩ = some (.slice none 0 0) := bcs hb1 (by first | with_reducible assumption | go_simp); have g1_r_1 : w1.frozen? ⟨w.heap.size, 1, none⟩ = false := bfs hb1 (v := .slice none 0 0) (by first | with_reducible assumption | go_simp) (by first | with_reducible assumption | go_simp); have x1_r : ¬ w.heap.size = w1.heap.size := qne k1_r_0; have y1_r : ¬ w1.heap.size = w.heap.size := fun h => qne k1_r_0 h.symm; have q1_r : w.heap.size < w1.heap.size := qlt k1_r_0; have hbw := hb0.trans (hb1.mono hb0.size); have hr1 := RwF.of_own hown1; clear hb1 hown1 hr)
      refine bodyPost_ret (v := .agg #[.bool true, .slice a1 (trimD l).length c1]) (by simp [results, Tryd.results35, go_sem, *]) rfl ?_
      rw [hv.out.2]
      exact ⟨a1, c1, by rw [hv.out.1], by rw [hv.out.1]; exact ((hr1.set (by simp) 0 _).set (by simp) 1 _).mono (by simp), (hbw.setCell (Nat.le_refl _) _).setCell (Nat.le_refl _) _⟩
end Go.Proofs.YtcofiekfhnfjpaaDoor

/- I2 -/
namespace Go.Proofs.YtcofiekfhnfjpaaDoor
open Go.RowKit
set_option linter.unusedVariables false
set_option linter.unusedSimpArgs false
attribute [local go_sem ↓] Go.wp_at_zero Go.wp_at_succ
def sgV (s : Bool) (K : Nat) : Int := if K = 0 then 0 else if s then -1 else 1
theorem isign_any (s : Bool) (a : Option Addr) (n c : Nat) (l : List (BitVec 32)) (w : World) (hn : l.length = n) (hl : l.length ≤ 10000000) (hr : Rw w a l) :
    Calls Tryd.prog 29 #[.agg #[.bool s, .slice a n c]] w fun e w' => e = .returned (.int .i64 (sgV s (valD l))) ∧ Below w.heap.size w w' := by
  subst hn
  have hb0 := Below.alloc (Below.refl w.heap.size w) (Nat.le_refl _) (.cells #[Value.bool s, Value.slice a l.length c] 24)
  rcases Nat.eq_zero_or_pos (valD l) with h0 | h0
  · have hz : Hid ((canon (valD l)).length = 0) := canon_len_zero.2 h0
    have hv : Hid (sgV s (valD l) = 0) := by show _ = _; simp [sgV, h0]
    clear h0
    go_enter Tryd.func29, Tryd.ntmps29
    go_wp2_with (go_at_call 35; (with_reducible refine (inew_any s _ _ _ l _ rfl hl (hr.below hb0)).mono ?_); rintro e w1 ⟨a1, c1, rfl, hr1, hb1⟩; have hbw := hb0.trans (hb1.mono hb0.size); have hz1 := hbw.size; clear hb1; rw [hz.out])
    go_ret
    exact ⟨by rw [hv.out]; rfl, hbw.alloc hz1 _⟩
  · have hz : 0 < (canon (valD l)).length := canon_len_pos h0
    obtain ⟨L, hL⟩ : ∃ L, (canon (valD l)).length = L := ⟨_, rfl⟩
    rw [hL] at hz
    have hne : ((L : Int) == 0) = false := by rw [beq_eq_false_iff_ne]; omega
    have hne2 : (L == 0) = false := by rw [beq_eq_false_iff_ne]; omega
    have HL := Lib.hid hL
    have hs : Hid ((s && decide (0 < valD l)) = s) := by show _ = _; simp [h0]
    have hv : Hid (sgV s (valD l) = if s then -1 else 1) := by show _ = _; simp [sgV, show valD l ≠ 0 by omega]
    clear h0 hL
    cases s
    · go_enter Tryd.func29, Tryd.ntmps29
      go_wp2_with (go_at_call 35; (with_reducible refine (inew_any false _ _ _ l _ rfl hl (hr.below hb0)).mono ?_); rintro e w1 ⟨a1, c1, rfl, hr1, hb1⟩; have hbw := hb0.trans (hb1.mono hb0.size); have hz1 := hbw.size; clear hb1; rw [HL.out, hs.out])
      go_ret
      exact ⟨by rw [hv.out]; rfl, hbw.alloc hz1 _⟩
    · go_enter Tryd.func29, Tryd.ntmps29
      go_wp2_with (go_at_call 35; (with_reducible refine (inew_any true _ _ _ l _ rfl hl (hr.below hb0)).mono ?_); rintro e w1 ⟨a1, c1, rfl, hr1, hb1⟩; have hbw := hb0.trans (hb1.mono hb0.size); have hz1 := hbw.size; clear hb1; rw [HL.out, hs.out])
      go_ret
      exact ⟨by rw [hv.out]; rfl, hbw.alloc hz1 _⟩
end Go.Proofs.YtcofiekfhnfjpaaDoor

/- I3 -/
namespace Go.Proofs.YtcofiekfhnfjpaaDoor
open Go.RowKit
set_option linter.unusedVariables false
set_option linter.unusedSimpArgs false
attribute [local go_sem ↓] Go.wp_at_zero Go.wp_at_succ
set_option maxRecDepth 50000 in
theorem imul_any (s t : Bool) (a b : Option Addr) (n c m d : Nat) (l k : List (BitVec 32)) (w : World) (hn : l.length = n) (hm : k.length = m) (hl : n ≤ 1000000) (hl2 : m ≤ 1000000) (hr : Rw w a l) (hs : Rw w b k) :
    Calls Tryd.prog 17 #[.agg #[.bool s, .slice a n c], .agg #[.bool t, .slice b m d]] w (FrI w ((s != t) && decide (0 < valD l * valD k)) (valD l * valD k)) := by
  have hfit : (canon (valD l * valD k)).length ≤ 2000000 := by
    rw [canon_len_le]
    refine Nat.lt_of_lt_of_le (Nat.mul_lt_mul_of_lt_of_lt (valD_lt l) (valD_lt k)) ?_
    rw [← pw_add]
    exact pw_mono (by omega)
  subst hn hm
  obtain ⟨T, hT⟩ := ex_canon (valD l * valD k)
  have hTv : Hid (valD T = valD l * valD k) := by show _ = _; rw [← hT.out, valD_canon]
  rw [hT.out] at hfit
  have hb1 := Below.alloc (Below.refl w.heap.size w) (Nat.le_refl _) (.cells #[Value.bool s, Value.slice a l.length c] 24)
  have hb2 := Below.alloc hb1 (by simp) (.cells #[Value.bool t, Value.slice b k.length d] 24)
  have hb3 := Below.alloc hb2 (by simp; omega) (.cells #[Value.bool false, Value.slice none 0 0] 24)
  have hb4 := hb3.drew
  have hz4 := hb4.size
  go_enter Tryd.func17, Tryd.ntmps17
  go_wp2
  go_region_held3 (fun w' => w'.cell? ⟨w.heap.size, 0, none⟩ = some (.bool s) ∧ w'.cell? ⟨w.heap.size, 1, none⟩ = some (.slice a l.length c) ∧ w'.cell? ⟨w.heap.size + 1, 0, none⟩ = some (.bool t) ∧ w'.cell? ⟨w.heap.size + 1, 1, none⟩ = some (.slice b k.length d)) (first | exact ⟨k2_p_0, k2_p_1, k2_q_0, k2_q_1⟩ | exact ⟨k1_p_0, k1_p_1, k1_q_0, k1_q_1⟩ | (refine ⟨?_, ?_, ?_, ?_⟩ <;> go_simp)) ((first
    | (go_at_call 38; (with_reducible refine (rmul_any a b _ c _ d l k _ rfl rfl hl hl2 (hr.below hb4) (hs.below hb4)).mono ?_); rintro e w1 ⟨a1, c1, rfl, hown1, hc1⟩; have k1_p_0 : w1.cell? ⟨w.heap.size, 0, none⟩ = some (.bool s) := bcs hc1 (by first | with_reducible assumption | go_simp); have g1_p_0 : w1.frozen? ⟨w.heap.size, 0, none⟩ = false := bfs hc1 (v := .bool s) (by first | with_reducible assumption | go_simp) (by first | with_reducible assumption | go_simp); have k1_p_1 : w1.cell? ⟨w.heap.size, 1, none⟩ = some (.slice a l.length c) := bcs hc1 (by first | with_reducible assumption | go_simp); have g1_p_1 : w1.frozen? ⟨w.heap.size, 1, none⟩ = false := bfs hc1 (v := .slice a l.length c) (by first | with_reducible assumption | go_simp) (by first | with_reducible assumption | go_simp); have x1_p : ¬ w.heap.size = w1.heap.size := qne k1_p_0; have y1_p : ¬ w1.heap.size = w.heap.size := fun h => qne k1_p_0 h.symm; have q1_p : w.heap.size < w1.heap.size := qlt k1_p_0; have k1_q_0 : w1.cell? ⟨w.heap.size + 1, 0, none⟩ = some (.bool t) := bcs hc1 (by first | with_reducible assumption | go_simp); have g1_q_0 : w1.frozen? ⟨w.heap.size + 1, 0, none⟩ = false := bfs hc1 (v := .bool t) (by first | with_reducible assumption | go_simp) (by first | with_reducible assumption | go_simp); have k1_q_1 : w1.cell? ⟨w.heap.size + 1, 1, none⟩ = some (.slice b k.length d) := bcs hc1 (by first | with_reducible assumption | go_simp); have g1_q_1 : w1.frozen? ⟨w.heap.size + 1, 1, none⟩ = false := bfs hc1 (v := .slice b k.length d) (by first | with_reducible assumption | go_simp) (by first | with_reducible assumption | go_simp); have x1_q : ¬ w.heap.size + 1 = w1.heap.size := qne k1_q_0; have y1_q : ¬ w1.heap.size = w.heap.size + 1 := fun h => qne k1_q_0 h.symm; have q1_q : w.heap.size + 1 < w1.heap.size := qlt k1_q_0; have k1_r_0 : w1.cell? ⟨w.heap.size + 1 + 1, 0, none⟩ = some (.bool false) := bcs hc1 (by first | with_reducible assumption | go_simp); have g1_r_0 : w1.frozen? ⟨w.heap.size + 1 + 1, 0, none⟩ = false := bfs hc1 (v := .bool false) (by first | with_reducible assumption | go_simp) (by first | with_reducible assumption | go_simp); have k1_r_1 : w1.cell? ⟨w.heap.size + 1 + 1, 1, none⟩ = some (.slice none 0 0) := bcs hc1 (by first | with_reducible assumption | go_simp); have g1_r_1 : w1.frozen? ⟨w.heap.size + 1 + 1, 1, none⟩ = false := bfs hc1 (v := .slice none 0 0) (by first | with_reducible assumption | go_simp) (by first | with_reducible assumption | go_simp); have x1_r : ¬ w.heap.size + 1 + 1 = w1.heap.size := qne k1_r_0; have y1_r : ¬ w1.heap.size = w.heap.size + 1 + 1 := fun h => qne k1_r_0 h.symm; have q1_r : w.heap.size + 1 + 1 < w1.heap.size := qlt k1_r_0; have hr1 := Rw.of_own hown1; have hbw1 := hb4.trans (hc1.mono hz4); have hz1 := hbw1.size; clear hc1 hown1; rw [hT.out] at hr1; rw [hT.out])
    | (go_at_call 35; (with_reducible refine (inew_any _ a1 _ c1 T _ rfl (by omega) hr1).mono ?_); rintro e w2 ⟨a2, c2, rfl, hr2, hc2⟩; have k2_p_0 : w2.cell? ⟨w.heap.size, 0, none⟩ = some (.bool s) := bcs hc2 (by first | with_reducible assumption | go_simp); have g2_p_0 : w2.frozen? ⟨w.heap.size, 0, none⟩ = false := bfs hc2 (v := .bool s) (by first | with_reducible assumption | go_simp) (by first | with_reducible assumption | go_simp); have k2_p_1 : w2.cell? ⟨w.heap.size, 1, none⟩ = some (.slice a l.length c) := bcs hc2 (by first | with_reducible assumption | go_simp); have g2_p_1 : w2.frozen? ⟨w.heap.size, 1, none⟩ = false := bfs hc2 (v := .slice a l.length c) (by first | with_reducible assumption | go_simp) (by first | with_reducible assumption | go_simp); have x2_p : ¬ w.heap.size = w2.heap.size := qne k2_p_0; have y2_p : ¬ w2.heap.size = w.heap.size := fun h => qne k2_p_0 h.symm; have q2_p : w.heap.size < w2.heap.size := qlt k2_p_0; have k2_q_0 : w2.cell? ⟨w.heap.size + 1, 0, none⟩ = some (.bool t) := bcs hc2 (by first | with_reducible assumption | go_simp); have g2_q_0 : w2.frozen? ⟨w.heap.size + 1, 0, none⟩ = false := bfs hc2 (v := .bool t) (by first | with_reducible assumption | go_simp) (by first | with_reducible assumption | go_simp); have k2_q_1 : w2.cell? ⟨w.heap.size + 1, 1, none⟩ = some (.slice b k.length d) := bcs hc2 (by first | with_reducible assumption | go_simp); have g2_q_1 : w2.frozen? ⟨w.heap.size + 1, 1, none⟩ = false := bfs hc2 (v := .slice b k.length d) (by first | with_reducible assumption | go_simp) (by first | with_reducible assumption | go_simp); have x2_q : ¬ w.heap.size + 1 = w2.heap.size := qne k2_q_0; have y2_q : ¬ w2.heap.size = w.heap.size + 1 := fun h => qne k2_q_0 h.symm; have q2_q : w.heap.size + 1 < w2.heap.size := qlt k2_q_0; have k2_r_0 : w2.cell? ⟨w.heap.size + 1 + 1, 0, none⟩ = some (.bool false) := bcs hc2 (by first | with_reducible assumption | go_simp); have g2_r_0 : w2.frozen? ⟨w.heap.size + 1 + 1, 0, none⟩ = false := bfs hc2 (v := .bool false) (by first | with_reducible assumption | go_simp) (by first | with_reducible assumption | go_simp); have k2_r_1 : w2.cell? ⟨w.heap.size + 1 + 1, 1, none⟩ = some (.slice none 0 0) := bcs hc2 (by first | with_reducible assumption | go_simp); have g2_r_1 : w2.frozen? ⟨w.heap.size + 1 + 1, 1, none⟩ = false := bfs hc2 (v := .slice none 0 0) (by first | with_reducible assumption | go_simp) (by first | with_reducible assumption | go_simp); have x2_r : ¬ w.heap.size + 1 + 1 = w2.heap.size := qne k2_r_0; have y2_r : ¬ w2.heap.size = w.heap.size + 1 + 1 := fun h => qne k2_r_0 h.symm; have q2_r : w.heap.size + 1 + 1 < w2.heap.size := qlt k2_r_0; have hbw2 := hbw1.trans (hc2.mono hz1))
    ))
  go_wp2
  refine bodyPost_ret (v := .agg #[.bool (!(s == t) && decide (0 < valD T)), .slice a2 (canon (valD T)).length c2]) (by simp [results, Tryd.results17, go_sem, *]) rfl ?_
  exact ⟨a2, c2, by rw [hTv.out]; rfl, by rw [hTv.out] at hr2; exact ((hr2.set q1_r 0 _).set q1_r 1 _).mono hz1, (hbw2.setCell (by simp; omega) _).setCell (by simp; omega) _⟩
end Go.Proofs.YtcofiekfhnfjpaaDoor

/- I4 -/
namespace Go.Proofs.YtcofiekfhnfjpaaDoor
open Go.RowKit
set_option linter.unusedVariables false
set_option linter.unusedSimpArgs false
attribute [local go_sem ↓] Go.wp_at_zero Go.wp_at_succ
end Go.Proofs.YtcofiekfhnfjpaaDoor

