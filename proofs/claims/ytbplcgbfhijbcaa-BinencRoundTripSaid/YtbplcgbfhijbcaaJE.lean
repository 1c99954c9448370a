import Derived.Test.YtbplcgbfhijbcaaJD
namespace Go.Proofs.Ytbplcgbfhijbcaa
open Go.RowKit
set_option linter.unusedVariables false
set_option linter.unusedSimpArgs false
attribute [local go_sem ↓] Go.wp_at_zero Go.wp_at_succ
theorem alloc_sz (w : World) (o : Obj) : (w.alloc o).heap.size = w.heap.size + 1 := by simp
theorem own_at {V : World} {B g g' : Nat} {e : TypeId} {n c : Nat} {xs : List Value} (h : V.ownsRow B e 1 (.slice (some ⟨g, 0, none⟩) n c) n xs) (hg : g = g') : V.ownsRow B e 1 (.slice (some ⟨g', 0, none⟩) n c) n xs := hg ▸ h
set_option maxRecDepth 50000 in
set_option maxHeartbeats 1000000 in
theorem rpr_neg (s t : Bool) (a b : Option Addr) (n c m d : Nat) (P Q : Int) (X Y : List (BitVec 32)) (w : World) (hP : P < 0) (hX : canon P.natAbs = X) (hY : canon Q.natAbs = Y) (hXl : X.length ≤ 1000000) (hYl : Y.length ≤ 1000000)
    (hN : ∀ W, Below w.heap.size w W → Calls Try.prog 33 #[.agg #[.bool s, .slice a n c, .bool t, .slice b m d]] W (FrG W P Q)) :
    Calls Try.prog 31 #[.agg #[.bool s, .slice a n c, .bool t, .slice b m d]] w (FrB w (putF P Q)) := by
  have hb0 := Below.alloc (Below.refl w.heap.size w) (Nat.le_refl _) (.cells #[Value.bool s, Value.slice a n c, Value.bool t, Value.slice b m d] 45)
  have hvX : valD X = P.natAbs := by rw [← hX, valD_canon]
  have hvY : valD Y = Q.natAbs := by rw [← hY, valD_canon]
  have hdX := d8_fit X
  have hdY := d8_fit Y
  have hpX := putB_len (d8 (valD X)) (by omega)
  have hpY := putB_len (d8 (valD Y)) (by omega)
  have hlX : (d8 (valD X)).length ≤ 90000000 := by omega
  have hlY : (d8 (valD Y)).length ≤ 90000000 := by omega
  have hq1 : 1 + (putB (d8 (valD X))).length ≤ 100000000 := by omega
  have hq2 : 1 + (putB (d8 (valD X))).length + (putB (d8 (valD Y))).length ≤ 100000000 := by omega
  have HN := Lib.hid (show Calls Try.prog 33 #[.agg #[.bool s, .slice a n c, .bool t, .slice b m d]] _ _ from hN _ hb0)
  have HX := Lib.hid hX
  have HY := Lib.hid hY
  have HVX := Lib.hid hvX
  have HVY := Lib.hid hvY
  have HQ1 := Lib.hid hq1
  have HQ2 := Lib.hid hq2
  have HLX := Lib.hid hlX
  have HLY := Lib.hid hlY
  have HP := Lib.hid hP
  have f1 : decide (P < 0) = true := by simp; omega
  clear hN hX hY hvX hvY hdX hdY hpX hpY hq1 hq2 hlX hlY hP
  go_enter Try.func31, Try.ntmps31
  go_wp2_with (first
    | (go_at_call 33; go_loud ((with_reducible refine HN.out.mono ?_); rintro e w1 ⟨a3, c3, b3, d3, rfl, ho3, ho4, hc1⟩; rw [HX.out] at ho3; rw [HY.out] at ho4; rw [HX.out, HY.out]; have k1_p_0 : w1.cell? ⟨w.heap.size, 0, none⟩ = some (.bool s) := bcs hc1 (by first | with_reducible assumption | go_simp); have g1_p_0 : w1.frozen? ⟨w.heap.size, 0, none⟩ = false := bfs hc1 (v := .bool s) (by first | with_reducible assumption | go_simp) (by first | with_reducible assumption | go_simp); have k1_p_1 : w1.cell? ⟨w.heap.size, 1, none⟩ = some (.slice a n c) := bcs hc1 (by first | with_reducible assumption | go_simp); have g1_p_1 : w1.frozen? ⟨w.heap.size, 1, none⟩ = false := bfs hc1 (v := .slice a n c) (by first | with_reducible assumption | go_simp) (by first | with_reducible assumption | go_simp); have k1_p_2 : w1.cell? ⟨w.heap.size, 2, none⟩ = some (.bool t) := bcs hc1 (by first | with_reducible assumption | go_simp); have g1_p_2 : w1.frozen? ⟨w.heap.size, 2, none⟩ = false := bfs hc1 (v := .bool t) (by first | with_reducible assumption | go_simp) (by first | with_reducible assumption | go_simp); have k1_p_3 : w1.cell? ⟨w.heap.size, 3, none⟩ = some (.slice b m d) := bcs hc1 (by first | with_reducible assumption | go_simp); have g1_p_3 : w1.frozen? ⟨w.heap.size, 3, none⟩ = false := bfs hc1 (v := .slice b m d) (by first | with_reducible assumption | go_simp) (by first | with_reducible assumption | go_simp); have x1_p : ¬ w.heap.size = w1.heap.size := qne k1_p_0; have y1_p : ¬ w1.heap.size = w.heap.size := fun h => qne k1_p_0 h.symm; have q1_p : w.heap.size < w1.heap.size := qlt k1_p_0; have hbw1 : Below w.heap.size w w1 := hb0.trans (hc1.mono hb0.size); have hz1 := hbw1.size; have hrX : Rw w1 a3 X := RwF.rw ho3; have hrY : Rw w1 b3 Y := RwF.rw ho4; have hal : Below w1.heap.size w1 (w1.alloc (.cells #[Value.bool true, Value.slice a3 X.length c3, Value.bool (decide (Q < 0)), Value.slice b3 Y.length d3] 45)) := Below.alloc (Below.refl _ _) (Nat.le_refl _) _; have hal2 : Below w1.heap.size w1 ((w1.alloc (.cells #[Value.bool true, Value.slice a3 X.length c3, Value.bool (decide (Q < 0)), Value.slice b3 Y.length d3] 45)).alloc (.cells #[Value.int .u8 1] 5)) := Below.alloc hal (by simp) _; have hrXV := hrX.below hal2; have hoV : (((w1.alloc (.cells #[Value.bool true, Value.slice a3 X.length c3, Value.bool (decide (Q < 0)), Value.slice b3 Y.length d3] 45)).alloc (.cells #[Value.int .u8 1] 5))).ownsRow ((w1.alloc (.cells #[Value.bool true, Value.slice a3 X.length c3, Value.bool (decide (Q < 0)), Value.slice b3 Y.length d3] 45))).heap.size 5 1 (.slice (some ⟨((w1.alloc (.cells #[Value.bool true, Value.slice a3 X.length c3, Value.bool (decide (Q < 0)), Value.slice b3 Y.length d3] 45))).heap.size, 0, none⟩) 1 1) 1 (bv8 [1#8]) := (by simpa [bv8] using own_made (w1.alloc (.cells #[Value.bool true, Value.slice a3 X.length c3, Value.bool (decide (Q < 0)), Value.slice b3 Y.length d3] 45)) #[Value.int .u8 1] 5 1 rfl (by decide)); have hzV : ((w1.alloc (.cells #[Value.bool true, Value.slice a3 X.length c3, Value.bool (decide (Q < 0)), Value.slice b3 Y.length d3] 45))).heap.size ≤ (((w1.alloc (.cells #[Value.bool true, Value.slice a3 X.length c3, Value.bool (decide (Q < 0)), Value.slice b3 Y.length d3] 45)).alloc (.cells #[Value.int .u8 1] 5))).heap.size := (by simp); have hkV : (((w1.alloc (.cells #[Value.bool true, Value.slice a3 X.length c3, Value.bool (decide (Q < 0)), Value.slice b3 Y.length d3] 45)).alloc (.cells #[Value.int .u8 1] 5))).cell? ⟨w1.heap.size, 3, none⟩ = some (.slice b3 Y.length d3) := (by go_simp); have hoV2 := own_at hoV (alloc_sz _ _)))
    | (go_at_call 58; (first
      | (go_loud ((with_reducible refine (rb256_any _ _ _ _ _ rfl hYl hrY4).mono ?_); rintro e w5 ⟨a8, c8, rfl, hc8, ho8, hb8⟩; have hr8 := Rd.of_own ho8; have ho8b := own_below hown7 hb8; have hb8m := hb8.mono hz7; have hz8 := Nat.le_trans hz7 hb8m.size))
      | (go_loud ((with_reducible refine (rb256_any _ _ _ _ _ rfl hXl hrXV).mono ?_); rintro e w2 ⟨a4, c4, rfl, hc4, ho5, hb5⟩; have hr5 := Rd.of_own ho5; have ho5b := own_below hoV2 hb5; have hb5m := hb5.mono hzV; have hz5 := hb5m.size; have hz5b := Nat.le_trans hzV hz5))))
    | (go_at_call 26; (first
      | (go_loud ((with_reducible refine (rpb_any _ _ _ _ _ rfl HLY.out hr8).mono ?_); rintro e w6 ⟨a9, c9, rfl, hc9, ho9, hb9⟩; have hr9 := Rd.of_own ho9; have ho9b := own_below ho8b hb9; have hb9m := hb9.mono hz8; have hz9 := Nat.le_trans hz8 hb9m.size))
      | (go_loud ((with_reducible refine (rpb_any _ _ _ _ _ rfl HLX.out hr5).mono ?_); rintro e w3 ⟨a5, c5, rfl, hc5, ho6, hb6⟩; have hr6 := Rd.of_own ho6; have ho6b := own_below ho5b hb6; have hb6m := hb6.mono hz5b; have hz6b := Nat.le_trans hz5b hb6m.size))))
    | (at_builtin; (first
      | (go_loud (refine wpList_apps8 (B := ((w1.alloc (.cells #[Value.bool true, Value.slice a3 X.length c3, Value.bool (decide (Q < 0)), Value.slice b3 Y.length d3] 45))).heap.size) (l := [1#8] ++ putB (d8 (valD X))) rfl _ _ rfl ho9b hz9 (k := putB (d8 (valD Y))) rfl hr9 HQ2.out rfl rfl ?_; intro v7 w7 hown10 hb10))
      | (go_loud (refine wpList_apps8 (B := ((w1.alloc (.cells #[Value.bool true, Value.slice a3 X.length c3, Value.bool (decide (Q < 0)), Value.slice b3 Y.length d3] 45))).heap.size) (l := [1#8]) rfl _ _ rfl ho6b hz6b (k := putB (d8 (valD X))) rfl hr6 HQ1.out rfl rfl ?_; intro v4 w4 hown7 hb7; have hbV4 := (hb5m.trans hb6m).trans hb7; have k4_p_3 : w4.cell? ⟨w1.heap.size, 3, none⟩ = some (.slice b3 Y.length d3) := (hbV4.cell (p := ⟨w1.heap.size, 3, none⟩) (by simp)).trans hkV; have hrY4 := hrY.below (hal2.trans (hbV4.mono (by simp))); have hz7 := Nat.le_trans hz6b hb7.size)))))
  go_ret
  have hfin := ((hbV4.trans hb8m).trans hb9m).trans hb10
  have hzf : w.heap.size ≤ ((w1.alloc (.cells #[Value.bool true, Value.slice a3 X.length c3, Value.bool (decide (Q < 0)), Value.slice b3 Y.length d3] 45))).heap.size := Nat.le_trans hz1 hal.size
  refine (FrB.mk' (w := w) (l := [1#8] ++ putB (d8 (valD X)) ++ putB (d8 (valD Y))) (by rw [List.length_append, List.length_append]; rfl) (own_mono hown10 hzf) ((hbw1.trans (hal2.mono hz1)).trans (hfin.mono hzf))).eq ?_
  unfold putF sgB
  rw [HVX.out, HVY.out]
  rw [if_pos HP.out]
set_option maxRecDepth 50000 in
set_option maxHeartbeats 1000000 in
theorem rpr_pos (s t : Bool) (a b : Option Addr) (n c m d : Nat) (P Q : Int) (X Y : List (BitVec 32)) (w : World) (hP : ¬ P < 0) (hX : canon P.natAbs = X) (hY : canon Q.natAbs = Y) (hXl : X.length ≤ 1000000) (hYl : Y.length ≤ 1000000)
    (hN : ∀ W, Below w.heap.size w W → Calls Try.prog 33 #[.agg #[.bool s, .slice a n c, .bool t, .slice b m d]] W (FrG W P Q)) :
    Calls Try.prog 31 #[.agg #[.bool s, .slice a n c, .bool t, .slice b m d]] w (FrB w (putF P Q)) := by
  have hb0 := Below.alloc (Below.refl w.heap.size w) (Nat.le_refl _) (.cells #[Value.bool s, Value.slice a n c, Value.bool t, Value.slice b m d] 45)
  have hvX : valD X = P.natAbs := by rw [← hX, valD_canon]
  have hvY : valD Y = Q.natAbs := by rw [← hY, valD_canon]
  have hdX := d8_fit X
  have hdY := d8_fit Y
  have hpX := putB_len (d8 (valD X)) (by omega)
  have hpY := putB_len (d8 (valD Y)) (by omega)
  have hlX : (d8 (valD X)).length ≤ 90000000 := by omega
  have hlY : (d8 (valD Y)).length ≤ 90000000 := by omega
  have hq1 : 1 + (putB (d8 (valD X))).length ≤ 100000000 := by omega
  have hq2 : 1 + (putB (d8 (valD X))).length + (putB (d8 (valD Y))).length ≤ 100000000 := by omega
  have HN := Lib.hid (show Calls Try.prog 33 #[.agg #[.bool s, .slice a n c, .bool t, .slice b m d]] _ _ from hN _ hb0)
  have HX := Lib.hid hX
  have HY := Lib.hid hY
  have HVX := Lib.hid hvX
  have HVY := Lib.hid hvY
  have HQ1 := Lib.hid hq1
  have HQ2 := Lib.hid hq2
  have HLX := Lib.hid hlX
  have HLY := Lib.hid hlY
  have HP := Lib.hid hP
  have f1 : decide (P < 0) = false := by simp; omega
  clear hN hX hY hvX hvY hdX hdY hpX hpY hq1 hq2 hlX hlY hP
  go_enter Try.func31, Try.ntmps31
  go_wp2_with (first
    | (go_at_call 33; go_loud ((with_reducible refine HN.out.mono ?_); rintro e w1 ⟨a3, c3, b3, d3, rfl, ho3, ho4, hc1⟩; rw [HX.out] at ho3; rw [HY.out] at ho4; rw [HX.out, HY.out]; have k1_p_0 : w1.cell? ⟨w.heap.size, 0, none⟩ = some (.bool s) := bcs hc1 (by first | with_reducible assumption | go_simp); have g1_p_0 : w1.frozen? ⟨w.heap.size, 0, none⟩ = false := bfs hc1 (v := .bool s) (by first | with_reducible assumption | go_simp) (by first | with_reducible assumption | go_simp); have k1_p_1 : w1.cell? ⟨w.heap.size, 1, none⟩ = some (.slice a n c) := bcs hc1 (by first | with_reducible assumption | go_simp); have g1_p_1 : w1.frozen? ⟨w.heap.size, 1, none⟩ = false := bfs hc1 (v := .slice a n c) (by first | with_reducible assumption | go_simp) (by first | with_reducible assumption | go_simp); have k1_p_2 : w1.cell? ⟨w.heap.size, 2, none⟩ = some (.bool t) := bcs hc1 (by first | with_reducible assumption | go_simp); have g1_p_2 : w1.frozen? ⟨w.heap.size, 2, none⟩ = false := bfs hc1 (v := .bool t) (by first | with_reducible assumption | go_simp) (by first | with_reducible assumption | go_simp); have k1_p_3 : w1.cell? ⟨w.heap.size, 3, none⟩ = some (.slice b m d) := bcs hc1 (by first | with_reducible assumption | go_simp); have g1_p_3 : w1.frozen? ⟨w.heap.size, 3, none⟩ = false := bfs hc1 (v := .slice b m d) (by first | with_reducible assumption | go_simp) (by first | with_reducible assumption | go_simp); have x1_p : ¬ w.heap.size = w1.heap.size := qne k1_p_0; have y1_p : ¬ w1.heap.size = w.heap.size := fun h => qne k1_p_0 h.symm; have q1_p : w.heap.size < w1.heap.size := qlt k1_p_0; have hbw1 : Below w.heap.size w w1 := hb0.trans (hc1.mono hb0.size); have hz1 := hbw1.size; have hrX : Rw w1 a3 X := RwF.rw ho3; have hrY : Rw w1 b3 Y := RwF.rw ho4; have hal : Below w1.heap.size w1 (w1.alloc (.cells #[Value.bool false, Value.slice a3 X.length c3, Value.bool (decide (Q < 0)), Value.slice b3 Y.length d3] 45)) := Below.alloc (Below.refl _ _) (Nat.le_refl _) _; have hal2 : Below w1.heap.size w1 ((w1.alloc (.cells #[Value.bool false, Value.slice a3 X.length c3, Value.bool (decide (Q < 0)), Value.slice b3 Y.length d3] 45)).alloc (.cells #[Value.int .u8 0] 5)) := Below.alloc hal (by simp) _; have hrXV := hrX.below hal2; have hoV : (((w1.alloc (.cells #[Value.bool false, Value.slice a3 X.length c3, Value.bool (decide (Q < 0)), Value.slice b3 Y.length d3] 45)).alloc (.cells #[Value.int .u8 0] 5))).ownsRow ((w1.alloc (.cells #[Value.bool false, Value.slice a3 X.length c3, Value.bool (decide (Q < 0)), Value.slice b3 Y.length d3] 45))).heap.size 5 1 (.slice (some ⟨((w1.alloc (.cells #[Value.bool false, Value.slice a3 X.length c3, Value.bool (decide (Q < 0)), Value.slice b3 Y.length d3] 45))).heap.size, 0, none⟩) 1 1) 1 (bv8 [0#8]) := (by simpa [bv8] using own_made (w1.alloc (.cells #[Value.bool false, Value.slice a3 X.length c3, Value.bool (decide (Q < 0)), Value.slice b3 Y.length d3] 45)) #[Value.int .u8 0] 5 1 rfl (by decide)); have hzV : ((w1.alloc (.cells #[Value.bool false, Value.slice a3 X.length c3, Value.bool (decide (Q < 0)), Value.slice b3 Y.length d3] 45))).heap.size ≤ (((w1.alloc (.cells #[Value.bool false, Value.slice a3 X.length c3, Value.bool (decide (Q < 0)), Value.slice b3 Y.length d3] 45)).alloc (.cells #[Value.int .u8 0] 5))).heap.size := (by simp); have hkV : (((w1.alloc (.cells #[Value.bool false, Value.slice a3 X.length c3, Value.bool (decide (Q < 0)), Value.slice b3 Y.length d3] 45)).alloc (.cells #[Value.int .u8 0] 5))).cell? ⟨w1.heap.size, 3, none⟩ = some (.slice b3 Y.length d3) := (by go_simp); have hoV2 := own_at hoV (alloc_sz _ _)))
    | (go_at_call 58; (first
      | (go_loud ((with_reducible refine (rb256_any _ _ _ _ _ rfl hYl hrY4).mono ?_); rintro e w5 ⟨a8, c8, rfl, hc8, ho8, hb8⟩; have hr8 := Rd.of_own ho8; have ho8b := own_below hown7 hb8; have hb8m := hb8.mono hz7; have hz8 := Nat.le_trans hz7 hb8m.size))
      | (go_loud ((with_reducible refine (rb256_any _ _ _ _ _ rfl hXl hrXV).mono ?_); rintro e w2 ⟨a4, c4, rfl, hc4, ho5, hb5⟩; have hr5 := Rd.of_own ho5; have ho5b := own_below hoV2 hb5; have hb5m := hb5.mono hzV; have hz5 := hb5m.size; have hz5b := Nat.le_trans hzV hz5))))
    | (go_at_call 26; (first
      | (go_loud ((with_reducible refine (rpb_any _ _ _ _ _ rfl HLY.out hr8).mono ?_); rintro e w6 ⟨a9, c9, rfl, hc9, ho9, hb9⟩; have hr9 := Rd.of_own ho9; have ho9b := own_below ho8b hb9; have hb9m := hb9.mono hz8; have hz9 := Nat.le_trans hz8 hb9m.size))
      | (go_loud ((with_reducible refine (rpb_any _ _ _ _ _ rfl HLX.out hr5).mono ?_); rintro e w3 ⟨a5, c5, rfl, hc5, ho6, hb6⟩; have hr6 := Rd.of_own ho6; have ho6b := own_below ho5b hb6; have hb6m := hb6.mono hz5b; have hz6b := Nat.le_trans hz5b hb6m.size))))
    | (at_builtin; (first
      | (go_loud (refine wpList_apps8 (B := ((w1.alloc (.cells #[Value.bool false, Value.slice a3 X.length c3, Value.bool (decide (Q < 0)), Value.slice b3 Y.length d3] 45))).heap.size) (l := [0#8] ++ putB (d8 (valD X))) rfl _ _ rfl ho9b hz9 (k := putB (d8 (valD Y))) rfl hr9 HQ2.out rfl rfl ?_; intro v7 w7 hown10 hb10))
      | (go_loud (refine wpList_apps8 (B := ((w1.alloc (.cells #[Value.bool false, Value.slice a3 X.length c3, Value.bool (decide (Q < 0)), Value.slice b3 Y.length d3] 45))).heap.size) (l := [0#8]) rfl _ _ rfl ho6b hz6b (k := putB (d8 (valD X))) rfl hr6 HQ1.out rfl rfl ?_; intro v4 w4 hown7 hb7; have hbV4 := (hb5m.trans hb6m).trans hb7; have k4_p_3 : w4.cell? ⟨w1.heap.size, 3, none⟩ = some (.slice b3 Y.length d3) := (hbV4.cell (p := ⟨w1.heap.size, 3, none⟩) (by simp)).trans hkV; have hrY4 := hrY.below (hal2.trans (hbV4.mono (by simp))); have hz7 := Nat.le_trans hz6b hb7.size)))))
  go_ret
  have hfin := ((hbV4.trans hb8m).trans hb9m).trans hb10
  have hzf : w.heap.size ≤ ((w1.alloc (.cells #[Value.bool false, Value.slice a3 X.length c3, Value.bool (decide (Q < 0)), Value.slice b3 Y.length d3] 45))).heap.size := Nat.le_trans hz1 hal.size
  refine (FrB.mk' (w := w) (l := [0#8] ++ putB (d8 (valD X)) ++ putB (d8 (valD Y))) (by rw [List.length_append, List.length_append]; rfl) (own_mono hown10 hzf) ((hbw1.trans (hal2.mono hz1)).trans (hfin.mono hzf))).eq ?_
  unfold putF sgB
  rw [HVX.out, HVY.out]
  rw [if_neg (by have := HP.out; omega)]
end Go.Proofs.Ytbplcgbfhijbcaa
