
import Derived.Test.YtdkbmpncohhioaaGreatDoorNtd
namespace Go.Proofs.YtdkbmpncohhioaaGreatDoor
open Go.RowKit
set_option linter.unusedVariables false
set_option linter.unusedSimpArgs false
attribute [local go_sem ↓] Go.wp_at_zero Go.wp_at_succ
theorem small_any (s t : Bool) (a b : Option Addr) (n c m d : Nat) (w : World) (hn : n ≤ 9223372036854775807) (hm : m ≤ 9223372036854775807) :
    Calls Tryz.prog 13 #[.agg #[.bool s, .slice a n c, .bool t, .slice b m d]] w fun e w' => e = .returned (.bool (decide (n ≤ 40) && decide (m ≤ 40))) ∧ Below w.heap.size w w' := by
  have hb0 := Below.alloc (Below.refl w.heap.size w) (Nat.le_refl _) (.cells #[Value.bool s, Value.slice a n c, Value.bool t, Value.slice b m d] 33)
  by_cases h : n ≤ 40
  · by_cases h2 : m ≤ 40
    · have d1 : decide ((n : Int) ≤ 40) = true := by simp; omega
      have d2 : decide ((m : Int) ≤ 40) = true := by simp; omega
      have e1 : (decide (n ≤ 40) && decide (m ≤ 40)) = true := by simp; omega
      rw [e1]
      go_enter Tryz.func13, Tryz.ntmps13
      go_wp2
      go_ret
      exact ⟨rfl, hb0⟩
    · have d1 : decide ((n : Int) ≤ 40) = true := by simp; omega
      have d2 : decide ((m : Int) ≤ 40) = false := by simp; omega
      have e1 : (decide (n ≤ 40) && decide (m ≤ 40)) = false := by simp; omega
      rw [e1]
      go_enter Tryz.func13, Tryz.ntmps13
      go_wp2
      go_ret
      exact ⟨rfl, hb0⟩
  · have d1 : decide ((n : Int) ≤ 40) = false := by simp; omega
    have e1 : (decide (n ≤ 40) && decide (m ≤ 40)) = false := by simp; omega
    rw [e1]
    go_enter Tryz.func13, Tryz.ntmps13
    go_wp2
    go_ret
    exact ⟨rfl, hb0⟩
theorem srat_nil (w : World) : Calls Tryz.prog 18 #[.agg #[.bool false, .slice none 0 0, .bool false, .slice none 0 0], .agg #[.bool false, .slice none 0 0, .bool false, .slice none 0 0]] w fun e w' => e = .returned (.bool true) ∧ Below w.heap.size w w' :=
  srat_yes false false none none none none 0 0 0 0 [] [] w (by decide) (by decide) (Rw.nil _ _) (Rw.nil _ _) (Rw.nil _ _) (Rw.nil _ _)
theorem nra_big (s t : Bool) (a b : Option Addr) (n c m d : Nat) (S : ByteArray) (w : World) (hn9 : n ≤ 9223372036854775807) (hm9 : m ≤ 9223372036854775807) (hs9 : S.size ≤ 9223372036854775807) (h : ¬ (n ≤ 40 ∧ m ≤ 40) ∨ 2100 < S.size) (hT : Tb w) (hM : Mx w) :
    Calls Tryz.prog 4 #[.agg #[.bool s, .slice a n c, .bool t, .slice b m d], .string S] w fun e w' => e = .returned (.bool true) ∧ Below w.heap.size w w' := by
  have hb0 := Below.alloc (Below.refl w.heap.size w) (Nat.le_refl _) (.cells #[Value.bool s, Value.slice a n c, Value.bool t, Value.slice b m d] 33)
  have hz0 := hb0.size
  obtain ⟨q, hq⟩ : ∃ q, S.size = q := ⟨_, rfl⟩
  rw [hq] at h hs9
  have hs : (decide (n ≤ 40) && decide (m ≤ 40)) = false ∨ ((decide (n ≤ 40) && decide (m ≤ 40)) = true ∧ 2100 < q) := by
    by_cases h1 : n ≤ 40 ∧ m ≤ 40
    · exact .inr ⟨by simp; omega, by rcases h with h | h; exact absurd h1 h; exact h⟩
    · exact .inl (by simp; omega)
  clear h
  have hsm := fun W => small_any s t a b n c m d W hn9 hm9
  rcases hs with h | ⟨h, h2⟩
  all_goals simp only [h] at hsm
  all_goals have HS := Lib.hid hsm
  all_goals clear h hsm
  all_goals
    go_enter Tryz.func4, Tryz.ntmps4
    go_wp2_with (first
      | (go_at_call 13; go_loud ((with_reducible refine (HS.out _).mono ?_); rintro e w1 ⟨rfl, hc1⟩; have hbw1 := hb0.trans (hc1.mono hz0)))
      | (go_at_call 6; go_loud ((with_reducible refine (ex_any _ (hT.below hbw1) (hM.below hbw1)).mono ?_); rintro e w2 ⟨rfl, hc2⟩; have hbw2 := hbw1.trans (hc2.mono hbw1.size))))
    go_ret
    exact ⟨rfl, hbw2⟩
set_option maxRecDepth 50000 in
set_option maxHeartbeats 8000000 in
theorem nra_err (s t : Bool) (a b : Option Addr) (n c m d : Nat) (S : ByteArray) (w : World) (l k : List (BitVec 32)) (hn : l.length = n) (hm : k.length = m) (hnc : n ≤ c) (hmd : m ≤ d) (hn4 : n ≤ 40) (hm4 : m ≤ 40) (hs2 : S.size ≤ 2100) (hr : Rw w a l) (hs : Rw w b k) (hT : Tb w) (hM : Mx w) (hq : qE S.data.toList ≠ 0) :
    Calls Tryz.prog 4 #[.agg #[.bool s, .slice a n c, .bool t, .slice b m d], .string S] w fun e w' => e = .returned (.bool true) ∧ Below w.heap.size w w' := by
  subst hn hm
  obtain ⟨ls, hS⟩ : ∃ l, S.data.toList = l := ⟨_, rfl⟩
  rw [hS] at hq
  have hsz := str_size hS
  have hsm := fun W => small_any s t a b l.length c k.length d W (by omega) (by omega)
  have e0 : (decide (l.length ≤ 40) && decide (k.length ≤ 40)) = true := by simp; omega
  simp only [e0] at hsm
  have hfr := fun W (h1 : Rw W a l) (h2 : Rw W b k) (h3 : Tb W) => fmtr_any s t a b _ c _ d l k W rfl rfl hnc hmd (by omega) (by omega) h1 h2 h3
  have hgr := fun W (h1 : Rw W a l) (h2 : Rw W b k) => rfmtr_any s t a b _ c _ d l k W rfl rfl (by omega) (by omega) h1 h2
  unfold sv at hfr hgr
  obtain ⟨S2, hS2⟩ : ∃ S : ByteArray, (⟨(fmtR (rnN (zv s (valD l)) (zv t (valD k))) (rnD (zv s (valD l)) (zv t (valD k)))).toArray⟩ : ByteArray) = S := ⟨_, rfl⟩
  simp only [hS2] at hfr hgr
  have hpr : ∀ W, Mx W → Calls Tryz.prog 14 #[.string S] W fun e w' => e = qerr (qE ls) ∧ Below W.heap.size W w' := fun W h => (prat_any S ls W hS (by omega) h).mono fun e w' h => by
    rcases h with ⟨_, h⟩ | ⟨h, _⟩
    · exact h
    · exact absurd h hq
  have hpq : ∀ W, Calls Tryz.prog 15 #[.string S] W fun e w' => e = qerr (qE ls) ∧ Below W.heap.size W w' := fun W => (rprat_any S ls W hS (by omega)).mono fun e w' h => by
    rcases h with ⟨_, h⟩ | ⟨h, _⟩
    · exact h
    · exact absurd h hq
  obtain ⟨E, hE⟩ : ∃ E, qE ls = E := ⟨_, rfl⟩
  simp only [hE] at hpr hpq
  have HS := Lib.hid hsm
  have HFR := Lib.hid hfr
  have HGR := Lib.hid hgr
  have HPR := Lib.hid hpr
  have HPQ := Lib.hid hpq
  obtain ⟨zq, hzq⟩ : ∃ q, S.size = q := ⟨_, rfl⟩
  rw [hzq] at hs2
  clear hsm e0 hfr hgr hS2 hpr hpq hS hsz hq hE
  have hb0 := Below.alloc (Below.refl w.heap.size w) (Nat.le_refl _) (.cells #[Value.bool s, Value.slice a l.length c, Value.bool t, Value.slice b k.length d] 33)
  have hz0 := hb0.size
  go_enter Tryz.func4, Tryz.ntmps4
  go_wp2_with (first
    | (go_at_call 13; go_loud ((with_reducible refine (HS.out _).mono ?_); rintro e w1 ⟨rfl, hc1⟩; have k1_f_0 : w1.cell? ⟨w.heap.size, 0, none⟩ = some (.bool s) := bcs hc1 (by first | with_reducible assumption | go_simp); have k1_f_1 : w1.cell? ⟨w.heap.size, 1, none⟩ = some (.slice a l.length c) := bcs hc1 (by first | with_reducible assumption | go_simp); have k1_f_2 : w1.cell? ⟨w.heap.size, 2, none⟩ = some (.bool t) := bcs hc1 (by first | with_reducible assumption | go_simp); have k1_f_3 : w1.cell? ⟨w.heap.size, 3, none⟩ = some (.slice b k.length d) := bcs hc1 (by first | with_reducible assumption | go_simp); have x1_f : ¬ w.heap.size = w1.heap.size := qne k1_f_0; have y1_f : ¬ w1.heap.size = w.heap.size := fun h => qne k1_f_0 h.symm; have q1_f : w.heap.size < w1.heap.size := qlt k1_f_0; have hb1 := hb0.trans (hc1.mono hz0)))
    | (go_at_call 14; go_loud ((with_reducible refine (HPR.out _ (hM.below hb1)).mono ?_); unfold qerr; rintro e w2 ⟨rfl, hc2⟩; have k2_f_0 : w2.cell? ⟨w.heap.size, 0, none⟩ = some (.bool s) := bcs hc2 (by first | with_reducible assumption | go_simp); have k2_f_1 : w2.cell? ⟨w.heap.size, 1, none⟩ = some (.slice a l.length c) := bcs hc2 (by first | with_reducible assumption | go_simp); have k2_f_2 : w2.cell? ⟨w.heap.size, 2, none⟩ = some (.bool t) := bcs hc2 (by first | with_reducible assumption | go_simp); have k2_f_3 : w2.cell? ⟨w.heap.size, 3, none⟩ = some (.slice b k.length d) := bcs hc2 (by first | with_reducible assumption | go_simp); have x2_f : ¬ w.heap.size = w2.heap.size := qne k2_f_0; have y2_f : ¬ w2.heap.size = w.heap.size := fun h => qne k2_f_0 h.symm; have q2_f : w.heap.size < w2.heap.size := qlt k2_f_0; have hb2 := bel_step hb1 hc2; have hb2a := belAl hb2 (.cells #[Value.bool false, Value.slice none 0 0, Value.bool false, Value.slice none 0 0] 33)))
    | (go_at_call 15; go_loud ((with_reducible refine (HPQ.out _).mono ?_); unfold qerr; rintro e w3 ⟨rfl, hc3⟩; have k3_f_0 : w3.cell? ⟨w.heap.size, 0, none⟩ = some (.bool s) := bcs hc3 (by first | with_reducible assumption | go_simp); have k3_f_1 : w3.cell? ⟨w.heap.size, 1, none⟩ = some (.slice a l.length c) := bcs hc3 (by first | with_reducible assumption | go_simp); have k3_f_2 : w3.cell? ⟨w.heap.size, 2, none⟩ = some (.bool t) := bcs hc3 (by first | with_reducible assumption | go_simp); have k3_f_3 : w3.cell? ⟨w.heap.size, 3, none⟩ = some (.slice b k.length d) := bcs hc3 (by first | with_reducible assumption | go_simp); have k3_x_0 : w3.cell? ⟨w2.heap.size, 0, none⟩ = some (.bool false) := bcs hc3 (by first | with_reducible assumption | go_simp); have k3_x_1 : w3.cell? ⟨w2.heap.size, 1, none⟩ = some (.slice none 0 0) := bcs hc3 (by first | with_reducible assumption | go_simp); have k3_x_2 : w3.cell? ⟨w2.heap.size, 2, none⟩ = some (.bool false) := bcs hc3 (by first | with_reducible assumption | go_simp); have k3_x_3 : w3.cell? ⟨w2.heap.size, 3, none⟩ = some (.slice none 0 0) := bcs hc3 (by first | with_reducible assumption | go_simp); have x3_f : ¬ w.heap.size = w3.heap.size := qne k3_f_0; have y3_f : ¬ w3.heap.size = w.heap.size := fun h => qne k3_f_0 h.symm; have q3_f : w.heap.size < w3.heap.size := qlt k3_f_0; have x3_x : ¬ w2.heap.size = w3.heap.size := qne k3_x_0; have y3_x : ¬ w3.heap.size = w2.heap.size := fun h => qne k3_x_0 h.symm; have q3_x : w2.heap.size < w3.heap.size := qlt k3_x_0; have hb3 := bel_step hb2a hc3)))
  refine wp_region_held_drew (S := (fun w' => w'.cell? ⟨w.heap.size, 0, none⟩ = some (.bool s) ∧ w'.cell? ⟨w.heap.size, 1, none⟩ = some (.slice a l.length c) ∧ w'.cell? ⟨w.heap.size, 2, none⟩ = some (.bool t) ∧ w'.cell? ⟨w.heap.size, 3, none⟩ = some (.slice b k.length d) ∧ w'.cell? ⟨w2.heap.size, 0, none⟩ = some (.bool false) ∧ w'.cell? ⟨w2.heap.size, 1, none⟩ = some (.slice none 0 0) ∧ w'.cell? ⟨w2.heap.size, 2, none⟩ = some (.bool false) ∧ w'.cell? ⟨w2.heap.size, 3, none⟩ = some (.slice none 0 0) ∧ w'.cell? ⟨w3.heap.size, 0, none⟩ = some (.bool false) ∧ w'.cell? ⟨w3.heap.size, 1, none⟩ = some (.slice none 0 0) ∧ w'.cell? ⟨w3.heap.size, 2, none⟩ = some (.bool false) ∧ w'.cell? ⟨w3.heap.size, 3, none⟩ = some (.slice none 0 0))) (by kernel_rfl) ?_ (fun hHeld => ?_)
  · (try dsimp only); (first | with_reducible exact ⟨k7_f_0, k7_f_1, k7_f_2, k7_f_3, k7_x_0, k7_x_1, k7_x_2, k7_x_3, k7_y_0, k7_y_1, k7_y_2, k7_y_3⟩ | with_reducible exact ⟨k6_f_0, k6_f_1, k6_f_2, k6_f_3, k6_x_0, k6_x_1, k6_x_2, k6_x_3, k6_y_0, k6_y_1, k6_y_2, k6_y_3⟩ | with_reducible exact ⟨k5_f_0, k5_f_1, k5_f_2, k5_f_3, k5_x_0, k5_x_1, k5_x_2, k5_x_3, k5_y_0, k5_y_1, k5_y_2, k5_y_3⟩ | with_reducible exact ⟨k4_f_0, k4_f_1, k4_f_2, k4_f_3, k4_x_0, k4_x_1, k4_x_2, k4_x_3, k4_y_0, k4_y_1, k4_y_2, k4_y_3⟩ | (refine ⟨?_, ?_, ?_, ?_, ?_, ?_, ?_, ?_, ?_, ?_, ?_, ?_⟩ <;> (first | with_reducible assumption | ((repeat' first | with_reducible assumption | (with_reducible refine celAl ?_ _) | (with_reducible refine celDr ?_)); done) | (go_simp; done))))
  refine wpAnyH_take (i := 0) (oi := { dst := some 28, op := Op.load 33 (Operand.tmp 2), type := 33, pos := "law.go:43", after := #[], guard := none }) (v := ?_) rfl (by kernel_rfl) (by kernel_rfl) (by kernel_rfl) (fun _ _ _ h => h) (Or.inl ⟨by rfl, ?_⟩) hHeld ?_
  rotate_left
  · (intro w hSw; (try dsimp only at hSw); go_simp; try with_reducible rfl)
  try simp only [Act.put, List.setIfInBounds_toArray, List.set_cons_zero, List.set_cons_succ]
  refine wpAnyH_take (i := 2) (oi := { dst := some 30, op := Op.load 33 (Operand.tmp 2), type := 33, pos := "law.go:43", after := #[], guard := none }) (v := ?_) rfl (by kernel_rfl) (by kernel_rfl) (by kernel_rfl) (fun _ _ _ h => h) (Or.inl ⟨by rfl, ?_⟩) hHeld ?_
  rotate_left
  · (intro w hSw; (try dsimp only at hSw); go_simp; try with_reducible rfl)
  try simp only [Act.put, List.setIfInBounds_toArray, List.set_cons_zero, List.set_cons_succ]
  refine wpAnyH_ready (rs := [1]) (by kernel_rfl) (by simp) ?_
  refine AllReadyH.cons (o := { dst := some 29, op := Op.call { callee := Callee.value (Operand.func 16), args := #[Operand.tmp 28], argTypes := #[33] }, type := 9, pos := "law.go:43", after := #[{ on := 0, ground := Ground.data }], guard := none }) rfl (fun K hK => ?_) AllReadyH.nil
  go_simp
  (go_at_call 16; go_loud ((with_reducible refine (HFR.out _ (hr.below (by (repeat' first | with_reducible assumption | with_reducible refine belDr ?_ | with_reducible refine belAl ?_ _))) (hs.below (by (repeat' first | with_reducible assumption | with_reducible refine belDr ?_ | with_reducible refine belAl ?_ _))) (hT.below (by (repeat' first | with_reducible assumption | with_reducible refine belDr ?_ | with_reducible refine belAl ?_ _)))).mono ?_); rintro e w4 ⟨rfl, hc4⟩; have k4_f_0 : w4.cell? ⟨w.heap.size, 0, none⟩ = some (.bool s) := bcs hc4 (by first | with_reducible assumption | go_simp); have k4_f_1 : w4.cell? ⟨w.heap.size, 1, none⟩ = some (.slice a l.length c) := bcs hc4 (by first | with_reducible assumption | go_simp); have k4_f_2 : w4.cell? ⟨w.heap.size, 2, none⟩ = some (.bool t) := bcs hc4 (by first | with_reducible assumption | go_simp); have k4_f_3 : w4.cell? ⟨w.heap.size, 3, none⟩ = some (.slice b k.length d) := bcs hc4 (by first | with_reducible assumption | go_simp); have k4_x_0 : w4.cell? ⟨w2.heap.size, 0, none⟩ = some (.bool false) := bcs hc4 (by first | with_reducible assumption | go_simp); have k4_x_1 : w4.cell? ⟨w2.heap.size, 1, none⟩ = some (.slice none 0 0) := bcs hc4 (by first | with_reducible assumption | go_simp); have k4_x_2 : w4.cell? ⟨w2.heap.size, 2, none⟩ = some (.bool false) := bcs hc4 (by first | with_reducible assumption | go_simp); have k4_x_3 : w4.cell? ⟨w2.heap.size, 3, none⟩ = some (.slice none 0 0) := bcs hc4 (by first | with_reducible assumption | go_simp); have k4_y_0 : w4.cell? ⟨w3.heap.size, 0, none⟩ = some (.bool false) := bcs hc4 (by first | with_reducible assumption | go_simp); have k4_y_1 : w4.cell? ⟨w3.heap.size, 1, none⟩ = some (.slice none 0 0) := bcs hc4 (by first | with_reducible assumption | go_simp); have k4_y_2 : w4.cell? ⟨w3.heap.size, 2, none⟩ = some (.bool false) := bcs hc4 (by first | with_reducible assumption | go_simp); have k4_y_3 : w4.cell? ⟨w3.heap.size, 3, none⟩ = some (.slice none 0 0) := bcs hc4 (by first | with_reducible assumption | go_simp); have x4_f : ¬ w.heap.size = w4.heap.size := qne k4_f_0; have y4_f : ¬ w4.heap.size = w.heap.size := fun h => qne k4_f_0 h.symm; have q4_f : w.heap.size < w4.heap.size := qlt k4_f_0; have x4_x : ¬ w2.heap.size = w4.heap.size := qne k4_x_0; have y4_x : ¬ w4.heap.size = w2.heap.size := fun h => qne k4_x_0 h.symm; have q4_x : w2.heap.size < w4.heap.size := qlt k4_x_0; have x4_y : ¬ w3.heap.size = w4.heap.size := qne k4_y_0; have y4_y : ¬ w4.heap.size = w3.heap.size := fun h => qne k4_y_0 h.symm; have q4_y : w3.heap.size < w4.heap.size := qlt k4_y_0; have hb4 : Below w.heap.size w w4 := bel_step (by (repeat' first | with_reducible assumption | with_reducible refine belDr ?_ | with_reducible refine belAl ?_ _)) hc4))
  refine hK.out _ _ ?_ (fun hHeld2 => ?_)
  · (try dsimp only); (first | with_reducible exact ⟨k7_f_0, k7_f_1, k7_f_2, k7_f_3, k7_x_0, k7_x_1, k7_x_2, k7_x_3, k7_y_0, k7_y_1, k7_y_2, k7_y_3⟩ | with_reducible exact ⟨k6_f_0, k6_f_1, k6_f_2, k6_f_3, k6_x_0, k6_x_1, k6_x_2, k6_x_3, k6_y_0, k6_y_1, k6_y_2, k6_y_3⟩ | with_reducible exact ⟨k5_f_0, k5_f_1, k5_f_2, k5_f_3, k5_x_0, k5_x_1, k5_x_2, k5_x_3, k5_y_0, k5_y_1, k5_y_2, k5_y_3⟩ | with_reducible exact ⟨k4_f_0, k4_f_1, k4_f_2, k4_f_3, k4_x_0, k4_x_1, k4_x_2, k4_x_3, k4_y_0, k4_y_1, k4_y_2, k4_y_3⟩ | (refine ⟨?_, ?_, ?_, ?_, ?_, ?_, ?_, ?_, ?_, ?_, ?_, ?_⟩ <;> (first | with_reducible assumption | ((repeat' first | with_reducible assumption | (with_reducible refine celAl ?_ _) | (with_reducible refine celDr ?_)); done) | (go_simp; done))))
  clear hK K hHeld
  have hHeld := hHeld2; clear hHeld2
  try simp only [Act.put, List.setIfInBounds_toArray, List.set_cons_zero, List.set_cons_succ]
  refine wpAnyH_ready (rs := [3]) (by kernel_rfl) (by simp) ?_
  refine AllReadyH.cons (o := { dst := some 31, op := Op.call { callee := Callee.value (Operand.func 17), args := #[Operand.tmp 30], argTypes := #[33] }, type := 9, pos := "law.go:43", after := #[{ on := 2, ground := Ground.data }, { on := 1, ground := Ground.chain }], guard := none }) rfl (fun K hK => ?_) AllReadyH.nil
  go_simp
  (go_at_call 17; go_loud ((with_reducible refine (HGR.out _ (hr.below hb4) (hs.below hb4)).mono ?_); rintro e w5 ⟨rfl, hc5⟩; have k5_f_0 : w5.cell? ⟨w.heap.size, 0, none⟩ = some (.bool s) := bcs hc5 (by first | with_reducible assumption | go_simp); have k5_f_1 : w5.cell? ⟨w.heap.size, 1, none⟩ = some (.slice a l.length c) := bcs hc5 (by first | with_reducible assumption | go_simp); have k5_f_2 : w5.cell? ⟨w.heap.size, 2, none⟩ = some (.bool t) := bcs hc5 (by first | with_reducible assumption | go_simp); have k5_f_3 : w5.cell? ⟨w.heap.size, 3, none⟩ = some (.slice b k.length d) := bcs hc5 (by first | with_reducible assumption | go_simp); have k5_x_0 : w5.cell? ⟨w2.heap.size, 0, none⟩ = some (.bool false) := bcs hc5 (by first | with_reducible assumption | go_simp); have k5_x_1 : w5.cell? ⟨w2.heap.size, 1, none⟩ = some (.slice none 0 0) := bcs hc5 (by first | with_reducible assumption | go_simp); have k5_x_2 : w5.cell? ⟨w2.heap.size, 2, none⟩ = some (.bool false) := bcs hc5 (by first | with_reducible assumption | go_simp); have k5_x_3 : w5.cell? ⟨w2.heap.size, 3, none⟩ = some (.slice none 0 0) := bcs hc5 (by first | with_reducible assumption | go_simp); have k5_y_0 : w5.cell? ⟨w3.heap.size, 0, none⟩ = some (.bool false) := bcs hc5 (by first | with_reducible assumption | go_simp); have k5_y_1 : w5.cell? ⟨w3.heap.size, 1, none⟩ = some (.slice none 0 0) := bcs hc5 (by first | with_reducible assumption | go_simp); have k5_y_2 : w5.cell? ⟨w3.heap.size, 2, none⟩ = some (.bool false) := bcs hc5 (by first | with_reducible assumption | go_simp); have k5_y_3 : w5.cell? ⟨w3.heap.size, 3, none⟩ = some (.slice none 0 0) := bcs hc5 (by first | with_reducible assumption | go_simp); have x5_f : ¬ w.heap.size = w5.heap.size := qne k5_f_0; have y5_f : ¬ w5.heap.size = w.heap.size := fun h => qne k5_f_0 h.symm; have q5_f : w.heap.size < w5.heap.size := qlt k5_f_0; have x5_x : ¬ w2.heap.size = w5.heap.size := qne k5_x_0; have y5_x : ¬ w5.heap.size = w2.heap.size := fun h => qne k5_x_0 h.symm; have q5_x : w2.heap.size < w5.heap.size := qlt k5_x_0; have x5_y : ¬ w3.heap.size = w5.heap.size := qne k5_y_0; have y5_y : ¬ w5.heap.size = w3.heap.size := fun h => qne k5_y_0 h.symm; have q5_y : w3.heap.size < w5.heap.size := qlt k5_y_0; have hb5 := bel_step hb4 hc5))
  refine hK.out _ _ ?_ (fun hHeld2 => ?_)
  · (try dsimp only); (first | with_reducible exact ⟨k7_f_0, k7_f_1, k7_f_2, k7_f_3, k7_x_0, k7_x_1, k7_x_2, k7_x_3, k7_y_0, k7_y_1, k7_y_2, k7_y_3⟩ | with_reducible exact ⟨k6_f_0, k6_f_1, k6_f_2, k6_f_3, k6_x_0, k6_x_1, k6_x_2, k6_x_3, k6_y_0, k6_y_1, k6_y_2, k6_y_3⟩ | with_reducible exact ⟨k5_f_0, k5_f_1, k5_f_2, k5_f_3, k5_x_0, k5_x_1, k5_x_2, k5_x_3, k5_y_0, k5_y_1, k5_y_2, k5_y_3⟩ | with_reducible exact ⟨k4_f_0, k4_f_1, k4_f_2, k4_f_3, k4_x_0, k4_x_1, k4_x_2, k4_x_3, k4_y_0, k4_y_1, k4_y_2, k4_y_3⟩ | (refine ⟨?_, ?_, ?_, ?_, ?_, ?_, ?_, ?_, ?_, ?_, ?_, ?_⟩ <;> (first | with_reducible assumption | ((repeat' first | with_reducible assumption | (with_reducible refine celAl ?_ _) | (with_reducible refine celDr ?_)); done) | (go_simp; done))))
  clear hK K hHeld
  have hHeld := hHeld2; clear hHeld2
  try simp only [Act.put, List.setIfInBounds_toArray, List.set_cons_zero, List.set_cons_succ]
  refine wpAnyH_take (i := 4) (oi := { dst := some 32, op := Op.binOp BinOp.eql 9 (Operand.tmp 29) (Operand.tmp 31) 9, type := 4, pos := "law.go:43", after := #[{ on := 1, ground := Ground.data }, { on := 3, ground := Ground.data }], guard := none }) (v := ?_) rfl (by kernel_rfl) (by kernel_rfl) (by kernel_rfl) (fun _ _ _ h => h) (Or.inl ⟨by rfl, ?_⟩) hHeld ?_
  rotate_left
  · (intro w hSw; (try dsimp only at hSw); go_simp; try with_reducible rfl)
  try simp only [Act.put, List.setIfInBounds_toArray, List.set_cons_zero, List.set_cons_succ]
  refine wpAnyH_take (i := 5) (oi := { dst := some 33, op := Op.move (Operand.tmp 32), type := 4, pos := "law.go:43", after := #[{ on := 4, ground := Ground.data }, { on := 3, ground := Ground.chain }], guard := none }) (v := ?_) rfl (by kernel_rfl) (by kernel_rfl) (by kernel_rfl) (fun _ _ _ h => h) (Or.inl ⟨by rfl, ?_⟩) hHeld ?_
  rotate_left
  · (intro w hSw; (try dsimp only at hSw); go_simp; try with_reducible rfl)
  try simp only [Act.put, List.setIfInBounds_toArray, List.set_cons_zero, List.set_cons_succ]
  refine wpAnyH_take (i := 6) (oi := { dst := some 34, op := Op.load 33 (Operand.tmp 5), type := 33, pos := "law.go:43", after := #[{ on := 5, ground := Ground.guard }], guard := some (5, true) }) (v := ?_) rfl (by kernel_rfl) (by kernel_rfl) (by kernel_rfl) (fun _ _ _ h => h) (Or.inl ⟨by rfl, ?_⟩) hHeld ?_
  rotate_left
  · (intro w hSw; (try dsimp only at hSw); go_simp; try with_reducible rfl)
  try simp only [Act.put, List.setIfInBounds_toArray, List.set_cons_zero, List.set_cons_succ]
  refine wpAnyH_take (i := 7) (oi := { dst := some 35, op := Op.load 33 (Operand.tmp 7), type := 33, pos := "law.go:43", after := #[{ on := 5, ground := Ground.guard }], guard := some (5, true) }) (v := ?_) rfl (by kernel_rfl) (by kernel_rfl) (by kernel_rfl) (fun _ _ _ h => h) (Or.inl ⟨by rfl, ?_⟩) hHeld ?_
  rotate_left
  · (intro w hSw; (try dsimp only at hSw); go_simp; try with_reducible rfl)
  try simp only [Act.put, List.setIfInBounds_toArray, List.set_cons_zero, List.set_cons_succ]
  refine wpAnyH_ready (rs := [8]) (by kernel_rfl) (by simp) ?_
  refine AllReadyH.cons (o := { dst := some 36, op := Op.call { callee := Callee.value (Operand.func 18), args := #[Operand.tmp 34, Operand.tmp 35], argTypes := #[33, 33] }, type := 4, pos := "law.go:43", after := #[{ on := 6, ground := Ground.data }, { on := 7, ground := Ground.data }, { on := 5, ground := Ground.chain }, { on := 5, ground := Ground.guard }], guard := some (5, true) }) rfl (fun K hK => ?_) AllReadyH.nil
  go_simp
  (go_at_call 18; go_loud ((with_reducible refine (srat_nil _).mono ?_); rintro e w6 ⟨rfl, hc6⟩; have k6_f_0 : w6.cell? ⟨w.heap.size, 0, none⟩ = some (.bool s) := bcs hc6 (by first | with_reducible assumption | go_simp); have k6_f_1 : w6.cell? ⟨w.heap.size, 1, none⟩ = some (.slice a l.length c) := bcs hc6 (by first | with_reducible assumption | go_simp); have k6_f_2 : w6.cell? ⟨w.heap.size, 2, none⟩ = some (.bool t) := bcs hc6 (by first | with_reducible assumption | go_simp); have k6_f_3 : w6.cell? ⟨w.heap.size, 3, none⟩ = some (.slice b k.length d) := bcs hc6 (by first | with_reducible assumption | go_simp); have k6_x_0 : w6.cell? ⟨w2.heap.size, 0, none⟩ = some (.bool false) := bcs hc6 (by first | with_reducible assumption | go_simp); have k6_x_1 : w6.cell? ⟨w2.heap.size, 1, none⟩ = some (.slice none 0 0) := bcs hc6 (by first | with_reducible assumption | go_simp); have k6_x_2 : w6.cell? ⟨w2.heap.size, 2, none⟩ = some (.bool false) := bcs hc6 (by first | with_reducible assumption | go_simp); have k6_x_3 : w6.cell? ⟨w2.heap.size, 3, none⟩ = some (.slice none 0 0) := bcs hc6 (by first | with_reducible assumption | go_simp); have k6_y_0 : w6.cell? ⟨w3.heap.size, 0, none⟩ = some (.bool false) := bcs hc6 (by first | with_reducible assumption | go_simp); have k6_y_1 : w6.cell? ⟨w3.heap.size, 1, none⟩ = some (.slice none 0 0) := bcs hc6 (by first | with_reducible assumption | go_simp); have k6_y_2 : w6.cell? ⟨w3.heap.size, 2, none⟩ = some (.bool false) := bcs hc6 (by first | with_reducible assumption | go_simp); have k6_y_3 : w6.cell? ⟨w3.heap.size, 3, none⟩ = some (.slice none 0 0) := bcs hc6 (by first | with_reducible assumption | go_simp); have x6_f : ¬ w.heap.size = w6.heap.size := qne k6_f_0; have y6_f : ¬ w6.heap.size = w.heap.size := fun h => qne k6_f_0 h.symm; have q6_f : w.heap.size < w6.heap.size := qlt k6_f_0; have x6_x : ¬ w2.heap.size = w6.heap.size := qne k6_x_0; have y6_x : ¬ w6.heap.size = w2.heap.size := fun h => qne k6_x_0 h.symm; have q6_x : w2.heap.size < w6.heap.size := qlt k6_x_0; have x6_y : ¬ w3.heap.size = w6.heap.size := qne k6_y_0; have y6_y : ¬ w6.heap.size = w3.heap.size := fun h => qne k6_y_0 h.symm; have q6_y : w3.heap.size < w6.heap.size := qlt k6_y_0; have hb6 := bel_step hb5 hc6))
  refine hK.out _ _ ?_ (fun hHeld2 => ?_)
  · (try dsimp only); (first | with_reducible exact ⟨k7_f_0, k7_f_1, k7_f_2, k7_f_3, k7_x_0, k7_x_1, k7_x_2, k7_x_3, k7_y_0, k7_y_1, k7_y_2, k7_y_3⟩ | with_reducible exact ⟨k6_f_0, k6_f_1, k6_f_2, k6_f_3, k6_x_0, k6_x_1, k6_x_2, k6_x_3, k6_y_0, k6_y_1, k6_y_2, k6_y_3⟩ | with_reducible exact ⟨k5_f_0, k5_f_1, k5_f_2, k5_f_3, k5_x_0, k5_x_1, k5_x_2, k5_x_3, k5_y_0, k5_y_1, k5_y_2, k5_y_3⟩ | with_reducible exact ⟨k4_f_0, k4_f_1, k4_f_2, k4_f_3, k4_x_0, k4_x_1, k4_x_2, k4_x_3, k4_y_0, k4_y_1, k4_y_2, k4_y_3⟩ | (refine ⟨?_, ?_, ?_, ?_, ?_, ?_, ?_, ?_, ?_, ?_, ?_, ?_⟩ <;> (first | with_reducible assumption | ((repeat' first | with_reducible assumption | (with_reducible refine celAl ?_ _) | (with_reducible refine celDr ?_)); done) | (go_simp; done))))
  clear hK K hHeld
  have hHeld := hHeld2; clear hHeld2
  try simp only [Act.put, List.setIfInBounds_toArray, List.set_cons_zero, List.set_cons_succ]
  refine wpAnyH_take (i := 9) (oi := { dst := some 37, op := Op.pick (Operand.tmp 33) (Operand.tmp 36) (Operand.const (Value.bool false)), type := 4, pos := "law.go:43", after := #[{ on := 5, ground := Ground.data }, { on := 8, ground := Ground.data }], guard := none }) (v := ?_) rfl (by kernel_rfl) (by kernel_rfl) (by kernel_rfl) (fun _ _ _ h => h) (Or.inl ⟨by rfl, ?_⟩) hHeld ?_
  rotate_left
  · (intro w hSw; (try dsimp only at hSw); go_simp; try with_reducible rfl)
  try simp only [Act.put, List.setIfInBounds_toArray, List.set_cons_zero, List.set_cons_succ]
  refine wpAnyH_take (i := 10) (oi := { dst := some 38, op := Op.move (Operand.tmp 37), type := 4, pos := "law.go:43", after := #[{ on := 9, ground := Ground.data }, { on := 8, ground := Ground.chain }], guard := none }) (v := ?_) rfl (by kernel_rfl) (by kernel_rfl) (by kernel_rfl) (fun _ _ _ h => h) (Or.inl ⟨by rfl, ?_⟩) hHeld ?_
  rotate_left
  · (intro w hSw; (try dsimp only at hSw); go_simp; try with_reducible rfl)
  try simp only [Act.put, List.setIfInBounds_toArray, List.set_cons_zero, List.set_cons_succ]
  refine wpAnyH_take (i := 11) (oi := { dst := some 39, op := Op.move (Operand.tmp 6), type := 23, pos := "law.go:43", after := #[{ on := 10, ground := Ground.guard }], guard := some (10, true) }) (v := ?_) rfl (by kernel_rfl) (by kernel_rfl) (by kernel_rfl) (fun _ _ _ h => h) (Or.inl ⟨by rfl, ?_⟩) hHeld ?_
  rotate_left
  · (intro w hSw; (try dsimp only at hSw); go_simp; try with_reducible rfl)
  try simp only [Act.put, List.setIfInBounds_toArray, List.set_cons_zero, List.set_cons_succ]
  refine wpAnyH_take (i := 12) (oi := { dst := some 40, op := Op.move (Operand.tmp 8), type := 23, pos := "law.go:43", after := #[{ on := 10, ground := Ground.guard }], guard := some (10, true) }) (v := ?_) rfl (by kernel_rfl) (by kernel_rfl) (by kernel_rfl) (fun _ _ _ h => h) (Or.inl ⟨by rfl, ?_⟩) hHeld ?_
  rotate_left
  · (intro w hSw; (try dsimp only at hSw); go_simp; try with_reducible rfl)
  try simp only [Act.put, List.setIfInBounds_toArray, List.set_cons_zero, List.set_cons_succ]
  refine wpAnyH_take (i := 13) (oi := { dst := some 41, op := Op.binOp BinOp.eql 23 (Operand.tmp 39) (Operand.tmp 40) 23, type := 4, pos := "law.go:43", after := #[{ on := 11, ground := Ground.data }, { on := 12, ground := Ground.data }, { on := 10, ground := Ground.guard }], guard := some (10, true) }) (v := ?_) rfl (by kernel_rfl) (by kernel_rfl) (by kernel_rfl) (fun _ _ _ h => h) (Or.inl ⟨by rfl, ?_⟩) hHeld ?_
  rotate_left
  · (intro w hSw; (try dsimp only at hSw); go_simp; try with_reducible rfl)
  try simp only [Act.put, List.setIfInBounds_toArray, List.set_cons_zero, List.set_cons_succ]
  refine wpAnyH_take (i := 14) (oi := { dst := some 42, op := Op.pick (Operand.tmp 38) (Operand.tmp 41) (Operand.const (Value.bool false)), type := 4, pos := "law.go:43", after := #[{ on := 10, ground := Ground.data }, { on := 13, ground := Ground.data }], guard := none }) (v := ?_) rfl (by kernel_rfl) (by kernel_rfl) (by kernel_rfl) (fun _ _ _ h => h) (Or.inl ⟨by rfl, ?_⟩) hHeld ?_
  rotate_left
  · (intro w hSw; (try dsimp only at hSw); go_simp; try with_reducible rfl)
  try simp only [Act.put, List.setIfInBounds_toArray, List.set_cons_zero, List.set_cons_succ]
  refine wpAnyH_take (i := 15) (oi := { dst := some 43, op := Op.move (Operand.tmp 42), type := 4, pos := "law.go:43", after := #[{ on := 14, ground := Ground.data }, { on := 10, ground := Ground.chain }], guard := none }) (v := ?_) rfl (by kernel_rfl) (by kernel_rfl) (by kernel_rfl) (fun _ _ _ h => h) (Or.inl ⟨by rfl, ?_⟩) hHeld ?_
  rotate_left
  · (intro w hSw; (try dsimp only at hSw); go_simp; try with_reducible rfl)
  try simp only [Act.put, List.setIfInBounds_toArray, List.set_cons_zero, List.set_cons_succ]
  refine wpAnyH_ready (rs := [16]) (by kernel_rfl) (by simp) ?_
  refine AllReadyH.cons (o := { dst := some 44, op := Op.call { callee := Callee.value (Operand.func 6), args := #[], argTypes := #[] }, type := 4, pos := "law.go:43", after := #[{ on := 15, ground := Ground.chain }, { on := 15, ground := Ground.guard }], guard := some (15, true) }) rfl (fun K hK => ?_) AllReadyH.nil
  go_simp
  (go_at_call 6; go_loud ((with_reducible refine (ex_any _ (hT.below hb6) (hM.below hb6)).mono ?_); rintro e w7 ⟨rfl, hc7⟩; have k7_f_0 : w7.cell? ⟨w.heap.size, 0, none⟩ = some (.bool s) := bcs hc7 (by first | with_reducible assumption | go_simp); have k7_f_1 : w7.cell? ⟨w.heap.size, 1, none⟩ = some (.slice a l.length c) := bcs hc7 (by first | with_reducible assumption | go_simp); have k7_f_2 : w7.cell? ⟨w.heap.size, 2, none⟩ = some (.bool t) := bcs hc7 (by first | with_reducible assumption | go_simp); have k7_f_3 : w7.cell? ⟨w.heap.size, 3, none⟩ = some (.slice b k.length d) := bcs hc7 (by first | with_reducible assumption | go_simp); have k7_x_0 : w7.cell? ⟨w2.heap.size, 0, none⟩ = some (.bool false) := bcs hc7 (by first | with_reducible assumption | go_simp); have k7_x_1 : w7.cell? ⟨w2.heap.size, 1, none⟩ = some (.slice none 0 0) := bcs hc7 (by first | with_reducible assumption | go_simp); have k7_x_2 : w7.cell? ⟨w2.heap.size, 2, none⟩ = some (.bool false) := bcs hc7 (by first | with_reducible assumption | go_simp); have k7_x_3 : w7.cell? ⟨w2.heap.size, 3, none⟩ = some (.slice none 0 0) := bcs hc7 (by first | with_reducible assumption | go_simp); have k7_y_0 : w7.cell? ⟨w3.heap.size, 0, none⟩ = some (.bool false) := bcs hc7 (by first | with_reducible assumption | go_simp); have k7_y_1 : w7.cell? ⟨w3.heap.size, 1, none⟩ = some (.slice none 0 0) := bcs hc7 (by first | with_reducible assumption | go_simp); have k7_y_2 : w7.cell? ⟨w3.heap.size, 2, none⟩ = some (.bool false) := bcs hc7 (by first | with_reducible assumption | go_simp); have k7_y_3 : w7.cell? ⟨w3.heap.size, 3, none⟩ = some (.slice none 0 0) := bcs hc7 (by first | with_reducible assumption | go_simp); have x7_f : ¬ w.heap.size = w7.heap.size := qne k7_f_0; have y7_f : ¬ w7.heap.size = w.heap.size := fun h => qne k7_f_0 h.symm; have q7_f : w.heap.size < w7.heap.size := qlt k7_f_0; have x7_x : ¬ w2.heap.size = w7.heap.size := qne k7_x_0; have y7_x : ¬ w7.heap.size = w2.heap.size := fun h => qne k7_x_0 h.symm; have q7_x : w2.heap.size < w7.heap.size := qlt k7_x_0; have x7_y : ¬ w3.heap.size = w7.heap.size := qne k7_y_0; have y7_y : ¬ w7.heap.size = w3.heap.size := fun h => qne k7_y_0 h.symm; have q7_y : w3.heap.size < w7.heap.size := qlt k7_y_0; have hb7 := bel_step hb6 hc7))
  refine hK.out _ _ ?_ (fun hHeld2 => ?_)
  · (try dsimp only); (first | with_reducible exact ⟨k7_f_0, k7_f_1, k7_f_2, k7_f_3, k7_x_0, k7_x_1, k7_x_2, k7_x_3, k7_y_0, k7_y_1, k7_y_2, k7_y_3⟩ | with_reducible exact ⟨k6_f_0, k6_f_1, k6_f_2, k6_f_3, k6_x_0, k6_x_1, k6_x_2, k6_x_3, k6_y_0, k6_y_1, k6_y_2, k6_y_3⟩ | with_reducible exact ⟨k5_f_0, k5_f_1, k5_f_2, k5_f_3, k5_x_0, k5_x_1, k5_x_2, k5_x_3, k5_y_0, k5_y_1, k5_y_2, k5_y_3⟩ | with_reducible exact ⟨k4_f_0, k4_f_1, k4_f_2, k4_f_3, k4_x_0, k4_x_1, k4_x_2, k4_x_3, k4_y_0, k4_y_1, k4_y_2, k4_y_3⟩ | (refine ⟨?_, ?_, ?_, ?_, ?_, ?_, ?_, ?_, ?_, ?_, ?_, ?_⟩ <;> (first | with_reducible assumption | ((repeat' first | with_reducible assumption | (with_reducible refine celAl ?_ _) | (with_reducible refine celDr ?_)); done) | (go_simp; done))))
  clear hK K hHeld
  have hHeld := hHeld2; clear hHeld2
  try simp only [Act.put, List.setIfInBounds_toArray, List.set_cons_zero, List.set_cons_succ]
  refine wpAnyH_take (i := 17) (oi := { dst := some 45, op := Op.pick (Operand.tmp 43) (Operand.tmp 44) (Operand.const (Value.bool false)), type := 4, pos := "law.go:43", after := #[{ on := 15, ground := Ground.data }, { on := 16, ground := Ground.data }], guard := none }) (v := ?_) rfl (by kernel_rfl) (by kernel_rfl) (by kernel_rfl) (fun _ _ _ h => h) (Or.inl ⟨by rfl, ?_⟩) hHeld ?_
  rotate_left
  · (intro w hSw; (try dsimp only at hSw); go_simp; try with_reducible rfl)
  try simp only [Act.put, List.setIfInBounds_toArray, List.set_cons_zero, List.set_cons_succ]
  refine wpAnyH_take (i := 18) (oi := { dst := some 4, op := Op.assign (Operand.tmp 45), type := 4, pos := "law.go:43", after := #[{ on := 17, ground := Ground.data }, { on := 16, ground := Ground.chain }, { on := 0, ground := Ground.phase }, { on := 1, ground := Ground.phase }, { on := 2, ground := Ground.phase }, { on := 3, ground := Ground.phase }, { on := 4, ground := Ground.phase }, { on := 5, ground := Ground.phase }, { on := 6, ground := Ground.phase }, { on := 7, ground := Ground.phase }, { on := 8, ground := Ground.phase }, { on := 9, ground := Ground.phase }, { on := 10, ground := Ground.phase }, { on := 11, ground := Ground.phase }, { on := 12, ground := Ground.phase }, { on := 13, ground := Ground.phase }, { on := 14, ground := Ground.phase }, { on := 15, ground := Ground.phase }, { on := 16, ground := Ground.phase }, { on := 17, ground := Ground.phase }], guard := none }) (v := ?_) rfl (by kernel_rfl) (by kernel_rfl) (by kernel_rfl) (fun _ _ _ h => h) (Or.inl ⟨by rfl, ?_⟩) hHeld ?_
  rotate_left
  · (intro w hSw; (try dsimp only at hSw); go_simp; try with_reducible rfl)
  try simp only [Act.put, List.setIfInBounds_toArray, List.set_cons_zero, List.set_cons_succ]
  refine wpAnyH_done (by kernel_rfl) ?_ _
  go_wp2
  go_ret
  exact ⟨rfl, hb7⟩
set_option maxRecDepth 50000 in
set_option maxHeartbeats 8000000 in
theorem nra_ok (s t : Bool) (a b : Option Addr) (n c m d : Nat) (S : ByteArray) (w : World) (l k : List (BitVec 32)) (hn : l.length = n) (hm : k.length = m) (hnc : n ≤ c) (hmd : m ≤ d) (hn4 : n ≤ 40) (hm4 : m ≤ 40) (hs2 : S.size ≤ 2100) (hr : Rw w a l) (hs : Rw w b k) (hT : Tb w) (hM : Mx w) (hq : qE S.data.toList = 0) :
    Calls Tryz.prog 4 #[.agg #[.bool s, .slice a n c, .bool t, .slice b m d], .string S] w fun e w' => e = .returned (.bool true) ∧ Below w.heap.size w w' := by
  subst hn hm
  obtain ⟨ls, hS⟩ : ∃ l, S.data.toList = l := ⟨_, rfl⟩
  rw [hS] at hq
  have hsz := str_size hS
  have hsm := fun W => small_any s t a b l.length c k.length d W (by omega) (by omega)
  have e0 : (decide (l.length ≤ 40) && decide (k.length ≤ 40)) = true := by simp; omega
  simp only [e0] at hsm
  have hfr := fun W (h1 : Rw W a l) (h2 : Rw W b k) (h3 : Tb W) => fmtr_any s t a b _ c _ d l k W rfl rfl hnc hmd (by omega) (by omega) h1 h2 h3
  have hgr := fun W (h1 : Rw W a l) (h2 : Rw W b k) => rfmtr_any s t a b _ c _ d l k W rfl rfl (by omega) (by omega) h1 h2
  unfold sv at hfr hgr
  obtain ⟨S2, hS2⟩ : ∃ S : ByteArray, (⟨(fmtR (rnN (zv s (valD l)) (zv t (valD k))) (rnD (zv s (valD l)) (zv t (valD k)))).toArray⟩ : ByteArray) = S := ⟨_, rfl⟩
  simp only [hS2] at hfr hgr
  obtain ⟨r1, r2, r3, r4, r5⟩ := qE_back hq
  have r6 := pZ_len r4
  have hpr : ∀ W, Mx W → Calls Tryz.prog 14 #[.string S] W (FrL W (decide (pZ (cA ls) < 0)) (canon (pZ (cA ls)).natAbs) (canon (qD ls).natAbs)) := fun W h => (prat_any S ls W hS (by omega) h).mono fun e w' h => by
    rcases h with ⟨h, _⟩ | ⟨_, a9, c9, b9, d9, g1, g2, g3, g4, g5, g6⟩
    · exact absurd hq h
    · rw [show decide (qD ls < 0) = false by simp; omega] at g1
      exact ⟨a9, c9, b9, d9, g1, g2.rw, g3.rw, g6⟩
  have hpq : ∀ W, Calls Tryz.prog 15 #[.string S] W (FrL W (decide (pZ (cA ls) < 0)) (canon (pZ (cA ls)).natAbs) (canon (qD ls).natAbs)) := fun W => (rprat_any S ls W hS (by omega)).mono fun e w' h => by
    rcases h with ⟨h, _⟩ | ⟨_, h⟩
    · exact absurd hq h
    · exact h
  obtain ⟨X, hX⟩ : ∃ X, canon (pZ (cA ls)).natAbs = X := ⟨_, rfl⟩
  obtain ⟨Y, hY⟩ : ∃ X, canon (qD ls).natAbs = X := ⟨_, rfl⟩
  obtain ⟨sg, hsg⟩ : ∃ s, decide (pZ (cA ls) < 0) = s := ⟨_, rfl⟩
  simp only [hX, hY, hsg] at hpr hpq
  rw [hX] at r6
  rw [hY] at r5
  have HXY := Lib.hid (show X.length ≤ 1000000 ∧ Y.length ≤ 1000000 by omega)
  have HS := Lib.hid hsm
  have HFR := Lib.hid hfr
  have HGR := Lib.hid hgr
  have HPR := Lib.hid hpr
  have HPQ := Lib.hid hpq
  obtain ⟨zq, hzq⟩ : ∃ q, S.size = q := ⟨_, rfl⟩
  rw [hzq] at hs2
  clear hsm e0 hfr hgr hS2 hpr hpq hS hsz hq r1 r2 r3 r4 r5 r6 hX hY hsg
  have hb0 := Below.alloc (Below.refl w.heap.size w) (Nat.le_refl _) (.cells #[Value.bool s, Value.slice a l.length c, Value.bool t, Value.slice b k.length d] 33)
  have hz0 := hb0.size
  go_enter Tryz.func4, Tryz.ntmps4
  go_wp2_with (first
    | (go_at_call 13; go_loud ((with_reducible refine (HS.out _).mono ?_); rintro e w1 ⟨rfl, hc1⟩; have k1_f_0 : w1.cell? ⟨w.heap.size, 0, none⟩ = some (.bool s) := bcs hc1 (by first | with_reducible assumption | go_simp); have k1_f_1 : w1.cell? ⟨w.heap.size, 1, none⟩ = some (.slice a l.length c) := bcs hc1 (by first | with_reducible assumption | go_simp); have k1_f_2 : w1.cell? ⟨w.heap.size, 2, none⟩ = some (.bool t) := bcs hc1 (by first | with_reducible assumption | go_simp); have k1_f_3 : w1.cell? ⟨w.heap.size, 3, none⟩ = some (.slice b k.length d) := bcs hc1 (by first | with_reducible assumption | go_simp); have x1_f : ¬ w.heap.size = w1.heap.size := qne k1_f_0; have y1_f : ¬ w1.heap.size = w.heap.size := fun h => qne k1_f_0 h.symm; have q1_f : w.heap.size < w1.heap.size := qlt k1_f_0; have hb1 := hb0.trans (hc1.mono hz0)))
    | (go_at_call 14; go_loud ((with_reducible refine (HPR.out _ (hM.below hb1)).mono ?_); unfold FrL; rintro e w2 ⟨a2, c2, b2, d2, rfl, hX2, hY2, hc2⟩; have k2_f_0 : w2.cell? ⟨w.heap.size, 0, none⟩ = some (.bool s) := bcs hc2 (by first | with_reducible assumption | go_simp); have k2_f_1 : w2.cell? ⟨w.heap.size, 1, none⟩ = some (.slice a l.length c) := bcs hc2 (by first | with_reducible assumption | go_simp); have k2_f_2 : w2.cell? ⟨w.heap.size, 2, none⟩ = some (.bool t) := bcs hc2 (by first | with_reducible assumption | go_simp); have k2_f_3 : w2.cell? ⟨w.heap.size, 3, none⟩ = some (.slice b k.length d) := bcs hc2 (by first | with_reducible assumption | go_simp); have x2_f : ¬ w.heap.size = w2.heap.size := qne k2_f_0; have y2_f : ¬ w2.heap.size = w.heap.size := fun h => qne k2_f_0 h.symm; have q2_f : w.heap.size < w2.heap.size := qlt k2_f_0; have hb2 := bel_step hb1 hc2; have hb2a := belAl hb2 (.cells #[Value.bool sg, Value.slice a2 X.length c2, Value.bool false, Value.slice b2 Y.length d2] 33); have hX2a := hX2.al (.cells #[Value.bool sg, Value.slice a2 X.length c2, Value.bool false, Value.slice b2 Y.length d2] 33); have hY2a := hY2.al (.cells #[Value.bool sg, Value.slice a2 X.length c2, Value.bool false, Value.slice b2 Y.length d2] 33)))
    | (go_at_call 15; go_loud ((with_reducible refine (HPQ.out _).mono ?_); unfold FrL; rintro e w3 ⟨a3, c3, b3, d3, rfl, hX3, hY3, hc3⟩; have k3_f_0 : w3.cell? ⟨w.heap.size, 0, none⟩ = some (.bool s) := bcs hc3 (by first | with_reducible assumption | go_simp); have k3_f_1 : w3.cell? ⟨w.heap.size, 1, none⟩ = some (.slice a l.length c) := bcs hc3 (by first | with_reducible assumption | go_simp); have k3_f_2 : w3.cell? ⟨w.heap.size, 2, none⟩ = some (.bool t) := bcs hc3 (by first | with_reducible assumption | go_simp); have k3_f_3 : w3.cell? ⟨w.heap.size, 3, none⟩ = some (.slice b k.length d) := bcs hc3 (by first | with_reducible assumption | go_simp); have k3_x_0 : w3.cell? ⟨w2.heap.size, 0, none⟩ = some (.bool sg) := bcs hc3 (by first | with_reducible assumption | go_simp); have k3_x_1 : w3.cell? ⟨w2.heap.size, 1, none⟩ = some (.slice a2 X.length c2) := bcs hc3 (by first | with_reducible assumption | go_simp); have k3_x_2 : w3.cell? ⟨w2.heap.size, 2, none⟩ = some (.bool false) := bcs hc3 (by first | with_reducible assumption | go_simp); have k3_x_3 : w3.cell? ⟨w2.heap.size, 3, none⟩ = some (.slice b2 Y.length d2) := bcs hc3 (by first | with_reducible assumption | go_simp); have x3_f : ¬ w.heap.size = w3.heap.size := qne k3_f_0; have y3_f : ¬ w3.heap.size = w.heap.size := fun h => qne k3_f_0 h.symm; have q3_f : w.heap.size < w3.heap.size := qlt k3_f_0; have x3_x : ¬ w2.heap.size = w3.heap.size := qne k3_x_0; have y3_x : ¬ w3.heap.size = w2.heap.size := fun h => qne k3_x_0 h.symm; have q3_x : w2.heap.size < w3.heap.size := qlt k3_x_0; have hb3 := bel_step hb2a hc3; have hX23 := hX2a.below hc3; have hY23 := hY2a.below hc3)))
  refine wp_region_held_drew (S := (fun w' => w'.cell? ⟨w.heap.size, 0, none⟩ = some (.bool s) ∧ w'.cell? ⟨w.heap.size, 1, none⟩ = some (.slice a l.length c) ∧ w'.cell? ⟨w.heap.size, 2, none⟩ = some (.bool t) ∧ w'.cell? ⟨w.heap.size, 3, none⟩ = some (.slice b k.length d) ∧ w'.cell? ⟨w2.heap.size, 0, none⟩ = some (.bool sg) ∧ w'.cell? ⟨w2.heap.size, 1, none⟩ = some (.slice a2 X.length c2) ∧ w'.cell? ⟨w2.heap.size, 2, none⟩ = some (.bool false) ∧ w'.cell? ⟨w2.heap.size, 3, none⟩ = some (.slice b2 Y.length d2) ∧ w'.cell? ⟨w3.heap.size, 0, none⟩ = some (.bool sg) ∧ w'.cell? ⟨w3.heap.size, 1, none⟩ = some (.slice a3 X.length c3) ∧ w'.cell? ⟨w3.heap.size, 2, none⟩ = some (.bool false) ∧ w'.cell? ⟨w3.heap.size, 3, none⟩ = some (.slice b3 Y.length d3))) (by kernel_rfl) ?_ (fun hHeld => ?_)
  · (try dsimp only); (first | with_reducible exact ⟨k7_f_0, k7_f_1, k7_f_2, k7_f_3, k7_x_0, k7_x_1, k7_x_2, k7_x_3, k7_y_0, k7_y_1, k7_y_2, k7_y_3⟩ | with_reducible exact ⟨k6_f_0, k6_f_1, k6_f_2, k6_f_3, k6_x_0, k6_x_1, k6_x_2, k6_x_3, k6_y_0, k6_y_1, k6_y_2, k6_y_3⟩ | with_reducible exact ⟨k5_f_0, k5_f_1, k5_f_2, k5_f_3, k5_x_0, k5_x_1, k5_x_2, k5_x_3, k5_y_0, k5_y_1, k5_y_2, k5_y_3⟩ | with_reducible exact ⟨k4_f_0, k4_f_1, k4_f_2, k4_f_3, k4_x_0, k4_x_1, k4_x_2, k4_x_3, k4_y_0, k4_y_1, k4_y_2, k4_y_3⟩ | (refine ⟨?_, ?_, ?_, ?_, ?_, ?_, ?_, ?_, ?_, ?_, ?_, ?_⟩ <;> (first | with_reducible assumption | ((repeat' first | with_reducible assumption | (with_reducible refine celAl ?_ _) | (with_reducible refine celDr ?_)); done) | (go_simp; done))))
  refine wpAnyH_take (i := 0) (oi := { dst := some 28, op := Op.load 33 (Operand.tmp 2), type := 33, pos := "law.go:43", after := #[], guard := none }) (v := ?_) rfl (by kernel_rfl) (by kernel_rfl) (by kernel_rfl) (fun _ _ _ h => h) (Or.inl ⟨by rfl, ?_⟩) hHeld ?_
  rotate_left
  · (intro w hSw; (try dsimp only at hSw); go_simp; try with_reducible rfl)
  try simp only [Act.put, List.setIfInBounds_toArray, List.set_cons_zero, List.set_cons_succ]
  refine wpAnyH_take (i := 2) (oi := { dst := some 30, op := Op.load 33 (Operand.tmp 2), type := 33, pos := "law.go:43", after := #[], guard := none }) (v := ?_) rfl (by kernel_rfl) (by kernel_rfl) (by kernel_rfl) (fun _ _ _ h => h) (Or.inl ⟨by rfl, ?_⟩) hHeld ?_
  rotate_left
  · (intro w hSw; (try dsimp only at hSw); go_simp; try with_reducible rfl)
  try simp only [Act.put, List.setIfInBounds_toArray, List.set_cons_zero, List.set_cons_succ]
  refine wpAnyH_ready (rs := [1]) (by kernel_rfl) (by simp) ?_
  refine AllReadyH.cons (o := { dst := some 29, op := Op.call { callee := Callee.value (Operand.func 16), args := #[Operand.tmp 28], argTypes := #[33] }, type := 9, pos := "law.go:43", after := #[{ on := 0, ground := Ground.data }], guard := none }) rfl (fun K hK => ?_) AllReadyH.nil
  go_simp
  (go_at_call 16; go_loud ((with_reducible refine (HFR.out _ (hr.below (by (repeat' first | with_reducible assumption | with_reducible refine belDr ?_ | with_reducible refine belAl ?_ _))) (hs.below (by (repeat' first | with_reducible assumption | with_reducible refine belDr ?_ | with_reducible refine belAl ?_ _))) (hT.below (by (repeat' first | with_reducible assumption | with_reducible refine belDr ?_ | with_reducible refine belAl ?_ _)))).mono ?_); rintro e w4 ⟨rfl, hc4⟩; have k4_f_0 : w4.cell? ⟨w.heap.size, 0, none⟩ = some (.bool s) := bcs hc4 (by first | with_reducible assumption | go_simp); have k4_f_1 : w4.cell? ⟨w.heap.size, 1, none⟩ = some (.slice a l.length c) := bcs hc4 (by first | with_reducible assumption | go_simp); have k4_f_2 : w4.cell? ⟨w.heap.size, 2, none⟩ = some (.bool t) := bcs hc4 (by first | with_reducible assumption | go_simp); have k4_f_3 : w4.cell? ⟨w.heap.size, 3, none⟩ = some (.slice b k.length d) := bcs hc4 (by first | with_reducible assumption | go_simp); have k4_x_0 : w4.cell? ⟨w2.heap.size, 0, none⟩ = some (.bool sg) := bcs hc4 (by first | with_reducible assumption | go_simp); have k4_x_1 : w4.cell? ⟨w2.heap.size, 1, none⟩ = some (.slice a2 X.length c2) := bcs hc4 (by first | with_reducible assumption | go_simp); have k4_x_2 : w4.cell? ⟨w2.heap.size, 2, none⟩ = some (.bool false) := bcs hc4 (by first | with_reducible assumption | go_simp); have k4_x_3 : w4.cell? ⟨w2.heap.size, 3, none⟩ = some (.slice b2 Y.length d2) := bcs hc4 (by first | with_reducible assumption | go_simp); have k4_y_0 : w4.cell? ⟨w3.heap.size, 0, none⟩ = some (.bool sg) := bcs hc4 (by first | with_reducible assumption | go_simp); have k4_y_1 : w4.cell? ⟨w3.heap.size, 1, none⟩ = some (.slice a3 X.length c3) := bcs hc4 (by first | with_reducible assumption | go_simp); have k4_y_2 : w4.cell? ⟨w3.heap.size, 2, none⟩ = some (.bool false) := bcs hc4 (by first | with_reducible assumption | go_simp); have k4_y_3 : w4.cell? ⟨w3.heap.size, 3, none⟩ = some (.slice b3 Y.length d3) := bcs hc4 (by first | with_reducible assumption | go_simp); have x4_f : ¬ w.heap.size = w4.heap.size := qne k4_f_0; have y4_f : ¬ w4.heap.size = w.heap.size := fun h => qne k4_f_0 h.symm; have q4_f : w.heap.size < w4.heap.size := qlt k4_f_0; have x4_x : ¬ w2.heap.size = w4.heap.size := qne k4_x_0; have y4_x : ¬ w4.heap.size = w2.heap.size := fun h => qne k4_x_0 h.symm; have q4_x : w2.heap.size < w4.heap.size := qlt k4_x_0; have x4_y : ¬ w3.heap.size = w4.heap.size := qne k4_y_0; have y4_y : ¬ w4.heap.size = w3.heap.size := fun h => qne k4_y_0 h.symm; have q4_y : w3.heap.size < w4.heap.size := qlt k4_y_0; have hb4 : Below w.heap.size w w4 := bel_step (by (repeat' first | with_reducible assumption | with_reducible refine belDr ?_ | with_reducible refine belAl ?_ _)) hc4; have hX4_4 : Rw w4 a2 X := Rw.below (by (repeat' first | with_reducible assumption | with_reducible refine Rw.dr ?_ | with_reducible refine Rw.al ?_ _)) hc4; have hY4_4 : Rw w4 b2 Y := Rw.below (by (repeat' first | with_reducible assumption | with_reducible refine Rw.dr ?_ | with_reducible refine Rw.al ?_ _)) hc4; have hX5_4 : Rw w4 a3 X := Rw.below (by (repeat' first | with_reducible assumption | with_reducible refine Rw.dr ?_ | with_reducible refine Rw.al ?_ _)) hc4; have hY5_4 : Rw w4 b3 Y := Rw.below (by (repeat' first | with_reducible assumption | with_reducible refine Rw.dr ?_ | with_reducible refine Rw.al ?_ _)) hc4))
  refine hK.out _ _ ?_ (fun hHeld2 => ?_)
  · (try dsimp only); (first | with_reducible exact ⟨k7_f_0, k7_f_1, k7_f_2, k7_f_3, k7_x_0, k7_x_1, k7_x_2, k7_x_3, k7_y_0, k7_y_1, k7_y_2, k7_y_3⟩ | with_reducible exact ⟨k6_f_0, k6_f_1, k6_f_2, k6_f_3, k6_x_0, k6_x_1, k6_x_2, k6_x_3, k6_y_0, k6_y_1, k6_y_2, k6_y_3⟩ | with_reducible exact ⟨k5_f_0, k5_f_1, k5_f_2, k5_f_3, k5_x_0, k5_x_1, k5_x_2, k5_x_3, k5_y_0, k5_y_1, k5_y_2, k5_y_3⟩ | with_reducible exact ⟨k4_f_0, k4_f_1, k4_f_2, k4_f_3, k4_x_0, k4_x_1, k4_x_2, k4_x_3, k4_y_0, k4_y_1, k4_y_2, k4_y_3⟩ | (refine ⟨?_, ?_, ?_, ?_, ?_, ?_, ?_, ?_, ?_, ?_, ?_, ?_⟩ <;> (first | with_reducible assumption | ((repeat' first | with_reducible assumption | (with_reducible refine celAl ?_ _) | (with_reducible refine celDr ?_)); done) | (go_simp; done))))
  clear hK K hHeld
  have hHeld := hHeld2; clear hHeld2
  try simp only [Act.put, List.setIfInBounds_toArray, List.set_cons_zero, List.set_cons_succ]
  refine wpAnyH_ready (rs := [3]) (by kernel_rfl) (by simp) ?_
  refine AllReadyH.cons (o := { dst := some 31, op := Op.call { callee := Callee.value (Operand.func 17), args := #[Operand.tmp 30], argTypes := #[33] }, type := 9, pos := "law.go:43", after := #[{ on := 2, ground := Ground.data }, { on := 1, ground := Ground.chain }], guard := none }) rfl (fun K hK => ?_) AllReadyH.nil
  go_simp
  (go_at_call 17; go_loud ((with_reducible refine (HGR.out _ (hr.below hb4) (hs.below hb4)).mono ?_); rintro e w5 ⟨rfl, hc5⟩; have k5_f_0 : w5.cell? ⟨w.heap.size, 0, none⟩ = some (.bool s) := bcs hc5 (by first | with_reducible assumption | go_simp); have k5_f_1 : w5.cell? ⟨w.heap.size, 1, none⟩ = some (.slice a l.length c) := bcs hc5 (by first | with_reducible assumption | go_simp); have k5_f_2 : w5.cell? ⟨w.heap.size, 2, none⟩ = some (.bool t) := bcs hc5 (by first | with_reducible assumption | go_simp); have k5_f_3 : w5.cell? ⟨w.heap.size, 3, none⟩ = some (.slice b k.length d) := bcs hc5 (by first | with_reducible assumption | go_simp); have k5_x_0 : w5.cell? ⟨w2.heap.size, 0, none⟩ = some (.bool sg) := bcs hc5 (by first | with_reducible assumption | go_simp); have k5_x_1 : w5.cell? ⟨w2.heap.size, 1, none⟩ = some (.slice a2 X.length c2) := bcs hc5 (by first | with_reducible assumption | go_simp); have k5_x_2 : w5.cell? ⟨w2.heap.size, 2, none⟩ = some (.bool false) := bcs hc5 (by first | with_reducible assumption | go_simp); have k5_x_3 : w5.cell? ⟨w2.heap.size, 3, none⟩ = some (.slice b2 Y.length d2) := bcs hc5 (by first | with_reducible assumption | go_simp); have k5_y_0 : w5.cell? ⟨w3.heap.size, 0, none⟩ = some (.bool sg) := bcs hc5 (by first | with_reducible assumption | go_simp); have k5_y_1 : w5.cell? ⟨w3.heap.size, 1, none⟩ = some (.slice a3 X.length c3) := bcs hc5 (by first | with_reducible assumption | go_simp); have k5_y_2 : w5.cell? ⟨w3.heap.size, 2, none⟩ = some (.bool false) := bcs hc5 (by first | with_reducible assumption | go_simp); have k5_y_3 : w5.cell? ⟨w3.heap.size, 3, none⟩ = some (.slice b3 Y.length d3) := bcs hc5 (by first | with_reducible assumption | go_simp); have x5_f : ¬ w.heap.size = w5.heap.size := qne k5_f_0; have y5_f : ¬ w5.heap.size = w.heap.size := fun h => qne k5_f_0 h.symm; have q5_f : w.heap.size < w5.heap.size := qlt k5_f_0; have x5_x : ¬ w2.heap.size = w5.heap.size := qne k5_x_0; have y5_x : ¬ w5.heap.size = w2.heap.size := fun h => qne k5_x_0 h.symm; have q5_x : w2.heap.size < w5.heap.size := qlt k5_x_0; have x5_y : ¬ w3.heap.size = w5.heap.size := qne k5_y_0; have y5_y : ¬ w5.heap.size = w3.heap.size := fun h => qne k5_y_0 h.symm; have q5_y : w3.heap.size < w5.heap.size := qlt k5_y_0; have hb5 := bel_step hb4 hc5; have hX4_5 : Rw w5 a2 X := Rw.below (by (repeat' first | with_reducible assumption | with_reducible refine Rw.dr ?_ | with_reducible refine Rw.al ?_ _)) hc5; have hY4_5 : Rw w5 b2 Y := Rw.below (by (repeat' first | with_reducible assumption | with_reducible refine Rw.dr ?_ | with_reducible refine Rw.al ?_ _)) hc5; have hX5_5 : Rw w5 a3 X := Rw.below (by (repeat' first | with_reducible assumption | with_reducible refine Rw.dr ?_ | with_reducible refine Rw.al ?_ _)) hc5; have hY5_5 : Rw w5 b3 Y := Rw.below (by (repeat' first | with_reducible assumption | with_reducible refine Rw.dr ?_ | with_reducible refine Rw.al ?_ _)) hc5))
  refine hK.out _ _ ?_ (fun hHeld2 => ?_)
  · (try dsimp only); (first | with_reducible exact ⟨k7_f_0, k7_f_1, k7_f_2, k7_f_3, k7_x_0, k7_x_1, k7_x_2, k7_x_3, k7_y_0, k7_y_1, k7_y_2, k7_y_3⟩ | with_reducible exact ⟨k6_f_0, k6_f_1, k6_f_2, k6_f_3, k6_x_0, k6_x_1, k6_x_2, k6_x_3, k6_y_0, k6_y_1, k6_y_2, k6_y_3⟩ | with_reducible exact ⟨k5_f_0, k5_f_1, k5_f_2, k5_f_3, k5_x_0, k5_x_1, k5_x_2, k5_x_3, k5_y_0, k5_y_1, k5_y_2, k5_y_3⟩ | with_reducible exact ⟨k4_f_0, k4_f_1, k4_f_2, k4_f_3, k4_x_0, k4_x_1, k4_x_2, k4_x_3, k4_y_0, k4_y_1, k4_y_2, k4_y_3⟩ | (refine ⟨?_, ?_, ?_, ?_, ?_, ?_, ?_, ?_, ?_, ?_, ?_, ?_⟩ <;> (first | with_reducible assumption | ((repeat' first | with_reducible assumption | (with_reducible refine celAl ?_ _) | (with_reducible refine celDr ?_)); done) | (go_simp; done))))
  clear hK K hHeld
  have hHeld := hHeld2; clear hHeld2
  try simp only [Act.put, List.setIfInBounds_toArray, List.set_cons_zero, List.set_cons_succ]
  refine wpAnyH_take (i := 4) (oi := { dst := some 32, op := Op.binOp BinOp.eql 9 (Operand.tmp 29) (Operand.tmp 31) 9, type := 4, pos := "law.go:43", after := #[{ on := 1, ground := Ground.data }, { on := 3, ground := Ground.data }], guard := none }) (v := ?_) rfl (by kernel_rfl) (by kernel_rfl) (by kernel_rfl) (fun _ _ _ h => h) (Or.inl ⟨by rfl, ?_⟩) hHeld ?_
  rotate_left
  · (intro w hSw; (try dsimp only at hSw); go_simp; try with_reducible rfl)
  try simp only [Act.put, List.setIfInBounds_toArray, List.set_cons_zero, List.set_cons_succ]
  refine wpAnyH_take (i := 5) (oi := { dst := some 33, op := Op.move (Operand.tmp 32), type := 4, pos := "law.go:43", after := #[{ on := 4, ground := Ground.data }, { on := 3, ground := Ground.chain }], guard := none }) (v := ?_) rfl (by kernel_rfl) (by kernel_rfl) (by kernel_rfl) (fun _ _ _ h => h) (Or.inl ⟨by rfl, ?_⟩) hHeld ?_
  rotate_left
  · (intro w hSw; (try dsimp only at hSw); go_simp; try with_reducible rfl)
  try simp only [Act.put, List.setIfInBounds_toArray, List.set_cons_zero, List.set_cons_succ]
  refine wpAnyH_take (i := 6) (oi := { dst := some 34, op := Op.load 33 (Operand.tmp 5), type := 33, pos := "law.go:43", after := #[{ on := 5, ground := Ground.guard }], guard := some (5, true) }) (v := ?_) rfl (by kernel_rfl) (by kernel_rfl) (by kernel_rfl) (fun _ _ _ h => h) (Or.inl ⟨by rfl, ?_⟩) hHeld ?_
  rotate_left
  · (intro w hSw; (try dsimp only at hSw); go_simp; try with_reducible rfl)
  try simp only [Act.put, List.setIfInBounds_toArray, List.set_cons_zero, List.set_cons_succ]
  refine wpAnyH_take (i := 7) (oi := { dst := some 35, op := Op.load 33 (Operand.tmp 7), type := 33, pos := "law.go:43", after := #[{ on := 5, ground := Ground.guard }], guard := some (5, true) }) (v := ?_) rfl (by kernel_rfl) (by kernel_rfl) (by kernel_rfl) (fun _ _ _ h => h) (Or.inl ⟨by rfl, ?_⟩) hHeld ?_
  rotate_left
  · (intro w hSw; (try dsimp only at hSw); go_simp; try with_reducible rfl)
  try simp only [Act.put, List.setIfInBounds_toArray, List.set_cons_zero, List.set_cons_succ]
  refine wpAnyH_ready (rs := [8]) (by kernel_rfl) (by simp) ?_
  refine AllReadyH.cons (o := { dst := some 36, op := Op.call { callee := Callee.value (Operand.func 18), args := #[Operand.tmp 34, Operand.tmp 35], argTypes := #[33, 33] }, type := 4, pos := "law.go:43", after := #[{ on := 6, ground := Ground.data }, { on := 7, ground := Ground.data }, { on := 5, ground := Ground.chain }, { on := 5, ground := Ground.guard }], guard := some (5, true) }) rfl (fun K hK => ?_) AllReadyH.nil
  go_simp
  (go_at_call 18; go_loud ((with_reducible refine (srat_yes sg false a2 b2 a3 b3 c2 d2 c3 d3 X Y _ HXY.out.1 HXY.out.2 hX4_5 hY4_5 hX5_5 hY5_5).mono ?_); rintro e w6 ⟨rfl, hc6⟩; have k6_f_0 : w6.cell? ⟨w.heap.size, 0, none⟩ = some (.bool s) := bcs hc6 (by first | with_reducible assumption | go_simp); have k6_f_1 : w6.cell? ⟨w.heap.size, 1, none⟩ = some (.slice a l.length c) := bcs hc6 (by first | with_reducible assumption | go_simp); have k6_f_2 : w6.cell? ⟨w.heap.size, 2, none⟩ = some (.bool t) := bcs hc6 (by first | with_reducible assumption | go_simp); have k6_f_3 : w6.cell? ⟨w.heap.size, 3, none⟩ = some (.slice b k.length d) := bcs hc6 (by first | with_reducible assumption | go_simp); have k6_x_0 : w6.cell? ⟨w2.heap.size, 0, none⟩ = some (.bool sg) := bcs hc6 (by first | with_reducible assumption | go_simp); have k6_x_1 : w6.cell? ⟨w2.heap.size, 1, none⟩ = some (.slice a2 X.length c2) := bcs hc6 (by first | with_reducible assumption | go_simp); have k6_x_2 : w6.cell? ⟨w2.heap.size, 2, none⟩ = some (.bool false) := bcs hc6 (by first | with_reducible assumption | go_simp); have k6_x_3 : w6.cell? ⟨w2.heap.size, 3, none⟩ = some (.slice b2 Y.length d2) := bcs hc6 (by first | with_reducible assumption | go_simp); have k6_y_0 : w6.cell? ⟨w3.heap.size, 0, none⟩ = some (.bool sg) := bcs hc6 (by first | with_reducible assumption | go_simp); have k6_y_1 : w6.cell? ⟨w3.heap.size, 1, none⟩ = some (.slice a3 X.length c3) := bcs hc6 (by first | with_reducible assumption | go_simp); have k6_y_2 : w6.cell? ⟨w3.heap.size, 2, none⟩ = some (.bool false) := bcs hc6 (by first | with_reducible assumption | go_simp); have k6_y_3 : w6.cell? ⟨w3.heap.size, 3, none⟩ = some (.slice b3 Y.length d3) := bcs hc6 (by first | with_reducible assumption | go_simp); have x6_f : ¬ w.heap.size = w6.heap.size := qne k6_f_0; have y6_f : ¬ w6.heap.size = w.heap.size := fun h => qne k6_f_0 h.symm; have q6_f : w.heap.size < w6.heap.size := qlt k6_f_0; have x6_x : ¬ w2.heap.size = w6.heap.size := qne k6_x_0; have y6_x : ¬ w6.heap.size = w2.heap.size := fun h => qne k6_x_0 h.symm; have q6_x : w2.heap.size < w6.heap.size := qlt k6_x_0; have x6_y : ¬ w3.heap.size = w6.heap.size := qne k6_y_0; have y6_y : ¬ w6.heap.size = w3.heap.size := fun h => qne k6_y_0 h.symm; have q6_y : w3.heap.size < w6.heap.size := qlt k6_y_0; have hb6 := bel_step hb5 hc6))
  refine hK.out _ _ ?_ (fun hHeld2 => ?_)
  · (try dsimp only); (first | with_reducible exact ⟨k7_f_0, k7_f_1, k7_f_2, k7_f_3, k7_x_0, k7_x_1, k7_x_2, k7_x_3, k7_y_0, k7_y_1, k7_y_2, k7_y_3⟩ | with_reducible exact ⟨k6_f_0, k6_f_1, k6_f_2, k6_f_3, k6_x_0, k6_x_1, k6_x_2, k6_x_3, k6_y_0, k6_y_1, k6_y_2, k6_y_3⟩ | with_reducible exact ⟨k5_f_0, k5_f_1, k5_f_2, k5_f_3, k5_x_0, k5_x_1, k5_x_2, k5_x_3, k5_y_0, k5_y_1, k5_y_2, k5_y_3⟩ | with_reducible exact ⟨k4_f_0, k4_f_1, k4_f_2, k4_f_3, k4_x_0, k4_x_1, k4_x_2, k4_x_3, k4_y_0, k4_y_1, k4_y_2, k4_y_3⟩ | (refine ⟨?_, ?_, ?_, ?_, ?_, ?_, ?_, ?_, ?_, ?_, ?_, ?_⟩ <;> (first | with_reducible assumption | ((repeat' first | with_reducible assumption | (with_reducible refine celAl ?_ _) | (with_reducible refine celDr ?_)); done) | (go_simp; done))))
  clear hK K hHeld
  have hHeld := hHeld2; clear hHeld2
  try simp only [Act.put, List.setIfInBounds_toArray, List.set_cons_zero, List.set_cons_succ]
  refine wpAnyH_take (i := 9) (oi := { dst := some 37, op := Op.pick (Operand.tmp 33) (Operand.tmp 36) (Operand.const (Value.bool false)), type := 4, pos := "law.go:43", after := #[{ on := 5, ground := Ground.data }, { on := 8, ground := Ground.data }], guard := none }) (v := ?_) rfl (by kernel_rfl) (by kernel_rfl) (by kernel_rfl) (fun _ _ _ h => h) (Or.inl ⟨by rfl, ?_⟩) hHeld ?_
  rotate_left
  · (intro w hSw; (try dsimp only at hSw); go_simp; try with_reducible rfl)
  try simp only [Act.put, List.setIfInBounds_toArray, List.set_cons_zero, List.set_cons_succ]
  refine wpAnyH_take (i := 10) (oi := { dst := some 38, op := Op.move (Operand.tmp 37), type := 4, pos := "law.go:43", after := #[{ on := 9, ground := Ground.data }, { on := 8, ground := Ground.chain }], guard := none }) (v := ?_) rfl (by kernel_rfl) (by kernel_rfl) (by kernel_rfl) (fun _ _ _ h => h) (Or.inl ⟨by rfl, ?_⟩) hHeld ?_
  rotate_left
  · (intro w hSw; (try dsimp only at hSw); go_simp; try with_reducible rfl)
  try simp only [Act.put, List.setIfInBounds_toArray, List.set_cons_zero, List.set_cons_succ]
  refine wpAnyH_take (i := 11) (oi := { dst := some 39, op := Op.move (Operand.tmp 6), type := 23, pos := "law.go:43", after := #[{ on := 10, ground := Ground.guard }], guard := some (10, true) }) (v := ?_) rfl (by kernel_rfl) (by kernel_rfl) (by kernel_rfl) (fun _ _ _ h => h) (Or.inl ⟨by rfl, ?_⟩) hHeld ?_
  rotate_left
  · (intro w hSw; (try dsimp only at hSw); go_simp; try with_reducible rfl)
  try simp only [Act.put, List.setIfInBounds_toArray, List.set_cons_zero, List.set_cons_succ]
  refine wpAnyH_take (i := 12) (oi := { dst := some 40, op := Op.move (Operand.tmp 8), type := 23, pos := "law.go:43", after := #[{ on := 10, ground := Ground.guard }], guard := some (10, true) }) (v := ?_) rfl (by kernel_rfl) (by kernel_rfl) (by kernel_rfl) (fun _ _ _ h => h) (Or.inl ⟨by rfl, ?_⟩) hHeld ?_
  rotate_left
  · (intro w hSw; (try dsimp only at hSw); go_simp; try with_reducible rfl)
  try simp only [Act.put, List.setIfInBounds_toArray, List.set_cons_zero, List.set_cons_succ]
  refine wpAnyH_take (i := 13) (oi := { dst := some 41, op := Op.binOp BinOp.eql 23 (Operand.tmp 39) (Operand.tmp 40) 23, type := 4, pos := "law.go:43", after := #[{ on := 11, ground := Ground.data }, { on := 12, ground := Ground.data }, { on := 10, ground := Ground.guard }], guard := some (10, true) }) (v := ?_) rfl (by kernel_rfl) (by kernel_rfl) (by kernel_rfl) (fun _ _ _ h => h) (Or.inl ⟨by rfl, ?_⟩) hHeld ?_
  rotate_left
  · (intro w hSw; (try dsimp only at hSw); go_simp; try with_reducible rfl)
  try simp only [Act.put, List.setIfInBounds_toArray, List.set_cons_zero, List.set_cons_succ]
  refine wpAnyH_take (i := 14) (oi := { dst := some 42, op := Op.pick (Operand.tmp 38) (Operand.tmp 41) (Operand.const (Value.bool false)), type := 4, pos := "law.go:43", after := #[{ on := 10, ground := Ground.data }, { on := 13, ground := Ground.data }], guard := none }) (v := ?_) rfl (by kernel_rfl) (by kernel_rfl) (by kernel_rfl) (fun _ _ _ h => h) (Or.inl ⟨by rfl, ?_⟩) hHeld ?_
  rotate_left
  · (intro w hSw; (try dsimp only at hSw); go_simp; try with_reducible rfl)
  try simp only [Act.put, List.setIfInBounds_toArray, List.set_cons_zero, List.set_cons_succ]
  refine wpAnyH_take (i := 15) (oi := { dst := some 43, op := Op.move (Operand.tmp 42), type := 4, pos := "law.go:43", after := #[{ on := 14, ground := Ground.data }, { on := 10, ground := Ground.chain }], guard := none }) (v := ?_) rfl (by kernel_rfl) (by kernel_rfl) (by kernel_rfl) (fun _ _ _ h => h) (Or.inl ⟨by rfl, ?_⟩) hHeld ?_
  rotate_left
  · (intro w hSw; (try dsimp only at hSw); go_simp; try with_reducible rfl)
  try simp only [Act.put, List.setIfInBounds_toArray, List.set_cons_zero, List.set_cons_succ]
  refine wpAnyH_ready (rs := [16]) (by kernel_rfl) (by simp) ?_
  refine AllReadyH.cons (o := { dst := some 44, op := Op.call { callee := Callee.value (Operand.func 6), args := #[], argTypes := #[] }, type := 4, pos := "law.go:43", after := #[{ on := 15, ground := Ground.chain }, { on := 15, ground := Ground.guard }], guard := some (15, true) }) rfl (fun K hK => ?_) AllReadyH.nil
  go_simp
  (go_at_call 6; go_loud ((with_reducible refine (ex_any _ (hT.below hb6) (hM.below hb6)).mono ?_); rintro e w7 ⟨rfl, hc7⟩; have k7_f_0 : w7.cell? ⟨w.heap.size, 0, none⟩ = some (.bool s) := bcs hc7 (by first | with_reducible assumption | go_simp); have k7_f_1 : w7.cell? ⟨w.heap.size, 1, none⟩ = some (.slice a l.length c) := bcs hc7 (by first | with_reducible assumption | go_simp); have k7_f_2 : w7.cell? ⟨w.heap.size, 2, none⟩ = some (.bool t) := bcs hc7 (by first | with_reducible assumption | go_simp); have k7_f_3 : w7.cell? ⟨w.heap.size, 3, none⟩ = some (.slice b k.length d) := bcs hc7 (by first | with_reducible assumption | go_simp); have k7_x_0 : w7.cell? ⟨w2.heap.size, 0, none⟩ = some (.bool sg) := bcs hc7 (by first | with_reducible assumption | go_simp); have k7_x_1 : w7.cell? ⟨w2.heap.size, 1, none⟩ = some (.slice a2 X.length c2) := bcs hc7 (by first | with_reducible assumption | go_simp); have k7_x_2 : w7.cell? ⟨w2.heap.size, 2, none⟩ = some (.bool false) := bcs hc7 (by first | with_reducible assumption | go_simp); have k7_x_3 : w7.cell? ⟨w2.heap.size, 3, none⟩ = some (.slice b2 Y.length d2) := bcs hc7 (by first | with_reducible assumption | go_simp); have k7_y_0 : w7.cell? ⟨w3.heap.size, 0, none⟩ = some (.bool sg) := bcs hc7 (by first | with_reducible assumption | go_simp); have k7_y_1 : w7.cell? ⟨w3.heap.size, 1, none⟩ = some (.slice a3 X.length c3) := bcs hc7 (by first | with_reducible assumption | go_simp); have k7_y_2 : w7.cell? ⟨w3.heap.size, 2, none⟩ = some (.bool false) := bcs hc7 (by first | with_reducible assumption | go_simp); have k7_y_3 : w7.cell? ⟨w3.heap.size, 3, none⟩ = some (.slice b3 Y.length d3) := bcs hc7 (by first | with_reducible assumption | go_simp); have x7_f : ¬ w.heap.size = w7.heap.size := qne k7_f_0; have y7_f : ¬ w7.heap.size = w.heap.size := fun h => qne k7_f_0 h.symm; have q7_f : w.heap.size < w7.heap.size := qlt k7_f_0; have x7_x : ¬ w2.heap.size = w7.heap.size := qne k7_x_0; have y7_x : ¬ w7.heap.size = w2.heap.size := fun h => qne k7_x_0 h.symm; have q7_x : w2.heap.size < w7.heap.size := qlt k7_x_0; have x7_y : ¬ w3.heap.size = w7.heap.size := qne k7_y_0; have y7_y : ¬ w7.heap.size = w3.heap.size := fun h => qne k7_y_0 h.symm; have q7_y : w3.heap.size < w7.heap.size := qlt k7_y_0; have hb7 := bel_step hb6 hc7))
  refine hK.out _ _ ?_ (fun hHeld2 => ?_)
  · (try dsimp only); (first | with_reducible exact ⟨k7_f_0, k7_f_1, k7_f_2, k7_f_3, k7_x_0, k7_x_1, k7_x_2, k7_x_3, k7_y_0, k7_y_1, k7_y_2, k7_y_3⟩ | with_reducible exact ⟨k6_f_0, k6_f_1, k6_f_2, k6_f_3, k6_x_0, k6_x_1, k6_x_2, k6_x_3, k6_y_0, k6_y_1, k6_y_2, k6_y_3⟩ | with_reducible exact ⟨k5_f_0, k5_f_1, k5_f_2, k5_f_3, k5_x_0, k5_x_1, k5_x_2, k5_x_3, k5_y_0, k5_y_1, k5_y_2, k5_y_3⟩ | with_reducible exact ⟨k4_f_0, k4_f_1, k4_f_2, k4_f_3, k4_x_0, k4_x_1, k4_x_2, k4_x_3, k4_y_0, k4_y_1, k4_y_2, k4_y_3⟩ | (refine ⟨?_, ?_, ?_, ?_, ?_, ?_, ?_, ?_, ?_, ?_, ?_, ?_⟩ <;> (first | with_reducible assumption | ((repeat' first | with_reducible assumption | (with_reducible refine celAl ?_ _) | (with_reducible refine celDr ?_)); done) | (go_simp; done))))
  clear hK K hHeld
  have hHeld := hHeld2; clear hHeld2
  try simp only [Act.put, List.setIfInBounds_toArray, List.set_cons_zero, List.set_cons_succ]
  refine wpAnyH_take (i := 17) (oi := { dst := some 45, op := Op.pick (Operand.tmp 43) (Operand.tmp 44) (Operand.const (Value.bool false)), type := 4, pos := "law.go:43", after := #[{ on := 15, ground := Ground.data }, { on := 16, ground := Ground.data }], guard := none }) (v := ?_) rfl (by kernel_rfl) (by kernel_rfl) (by kernel_rfl) (fun _ _ _ h => h) (Or.inl ⟨by rfl, ?_⟩) hHeld ?_
  rotate_left
  · (intro w hSw; (try dsimp only at hSw); go_simp; try with_reducible rfl)
  try simp only [Act.put, List.setIfInBounds_toArray, List.set_cons_zero, List.set_cons_succ]
  refine wpAnyH_take (i := 18) (oi := { dst := some 4, op := Op.assign (Operand.tmp 45), type := 4, pos := "law.go:43", after := #[{ on := 17, ground := Ground.data }, { on := 16, ground := Ground.chain }, { on := 0, ground := Ground.phase }, { on := 1, ground := Ground.phase }, { on := 2, ground := Ground.phase }, { on := 3, ground := Ground.phase }, { on := 4, ground := Ground.phase }, { on := 5, ground := Ground.phase }, { on := 6, ground := Ground.phase }, { on := 7, ground := Ground.phase }, { on := 8, ground := Ground.phase }, { on := 9, ground := Ground.phase }, { on := 10, ground := Ground.phase }, { on := 11, ground := Ground.phase }, { on := 12, ground := Ground.phase }, { on := 13, ground := Ground.phase }, { on := 14, ground := Ground.phase }, { on := 15, ground := Ground.phase }, { on := 16, ground := Ground.phase }, { on := 17, ground := Ground.phase }], guard := none }) (v := ?_) rfl (by kernel_rfl) (by kernel_rfl) (by kernel_rfl) (fun _ _ _ h => h) (Or.inl ⟨by rfl, ?_⟩) hHeld ?_
  rotate_left
  · (intro w hSw; (try dsimp only at hSw); go_simp; try with_reducible rfl)
  try simp only [Act.put, List.setIfInBounds_toArray, List.set_cons_zero, List.set_cons_succ]
  refine wpAnyH_done (by kernel_rfl) ?_ _
  go_wp2
  go_ret
  exact ⟨rfl, hb7⟩
theorem nra_w (s t : Bool) (a b : Option Addr) (n c m d : Nat) (S : ByteArray) (w : World) (l k : List (BitVec 32)) (hn : l.length = n) (hm : k.length = m) (hnc : n ≤ c) (hmd : m ≤ d) (hn9 : n ≤ 9223372036854775807) (hm9 : m ≤ 9223372036854775807) (hs9 : S.size ≤ 9223372036854775807) (hr : Rw w a l) (hs : Rw w b k) (hT : Tb w) (hM : Mx w) :
    Calls Tryz.prog 4 #[.agg #[.bool s, .slice a n c, .bool t, .slice b m d], .string S] w fun e w' => e = .returned (.bool true) ∧ Below w.heap.size w w' := by
  by_cases h : ¬ (n ≤ 40 ∧ m ≤ 40) ∨ 2100 < S.size
  · exact nra_big s t a b n c m d S w hn9 hm9 hs9 h hT hM
  · have h1 : n ≤ 40 ∧ m ≤ 40 := by omega
    by_cases hq : qE S.data.toList = 0
    · exact nra_ok s t a b n c m d S w l k hn hm hnc hmd h1.1 h1.2 (by omega) hr hs hT hM hq
    · exact nra_err s t a b n c m d S w l k hn hm hnc hmd h1.1 h1.2 (by omega) hr hs hT hM hq
end Go.Proofs.YtdkbmpncohhioaaGreatDoor
