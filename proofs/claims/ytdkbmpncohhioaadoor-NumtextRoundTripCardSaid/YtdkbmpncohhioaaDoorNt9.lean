
import Derived.Test.YtdkbmpncohhioaaDoorNt8
import Derived.Test.YtdkbmpncohhioaaDoorNt5
namespace Go.Proofs.YtdkbmpncohhioaaDoor
open Go.RowKit
set_option linter.unusedVariables false
set_option linter.unusedSimpArgs false
attribute [local go_sem ↓] Go.wp_at_zero Go.wp_at_succ
theorem small_any (s t : Bool) (a b : Option Addr) (n c m d : Nat) (w : World) (hn : n ≤ 9223372036854775807) (hm : m ≤ 9223372036854775807) :
    Calls Tryd.prog 7 #[.agg #[.bool s, .slice a n c, .bool t, .slice b m d]] w fun e w' => e = .returned (.bool (decide (n ≤ 40) && decide (m ≤ 40))) ∧ Below w.heap.size w w' := by
  have hb0 := Below.alloc (Below.refl w.heap.size w) (Nat.le_refl _) (.cells #[Value.bool s, Value.slice a n c, Value.bool t, Value.slice b m d] 26)
  by_cases h : n ≤ 40
  · by_cases h2 : m ≤ 40
    · have d1 : decide ((n : Int) ≤ 40) = true := by simp; omega
      have d2 : decide ((m : Int) ≤ 40) = true := by simp; omega
      have e1 : (decide (n ≤ 40) && decide (m ≤ 40)) = true := by simp; omega
      rw [e1]
      go_enter Tryd.func7, Tryd.ntmps7
      go_wp2
      go_ret
      exact ⟨rfl, hb0⟩
    · have d1 : decide ((n : Int) ≤ 40) = true := by simp; omega
      have d2 : decide ((m : Int) ≤ 40) = false := by simp; omega
      have e1 : (decide (n ≤ 40) && decide (m ≤ 40)) = false := by simp; omega
      rw [e1]
      go_enter Tryd.func7, Tryd.ntmps7
      go_wp2
      go_ret
      exact ⟨rfl, hb0⟩
  · have d1 : decide ((n : Int) ≤ 40) = false := by simp; omega
    have e1 : (decide (n ≤ 40) && decide (m ≤ 40)) = false := by simp; omega
    rw [e1]
    go_enter Tryd.func7, Tryd.ntmps7
    go_wp2
    go_ret
    exact ⟨rfl, hb0⟩
theorem celAl {W : World} {b o : Nat} {v : Value} (h : W.cell? ⟨b, o, none⟩ = some v) (x : Obj) : (W.alloc x).cell? ⟨b, o, none⟩ = some v := bcs (Below.alloc (Below.refl _ _) (Nat.le_refl _) x) h
theorem celDr {W : World} {b o : Nat} {v : Value} (h : W.cell? ⟨b, o, none⟩ = some v) : W.drew.cell? ⟨b, o, none⟩ = some v := bcs (Below.refl _ _).drew h
/-- A fraction in rows, with no error. -/
def FrK (w : World) (sg : Bool) (X Y : List (BitVec 32)) (e : Ending) (w' : World) : Prop := ∃ (a : Option Addr) (c : Nat) (b : Option Addr) (d : Nat), e = .returned (.tuple #[.agg #[.bool sg, .slice a X.length c, .bool false, .slice b Y.length d], .int .i64 0]) ∧ Rw w' a X ∧ Rw w' b Y ∧ X.length ≤ c ∧ Y.length ≤ d ∧ Below w.heap.size w w'
theorem nrt_big (nn : Int) (s t : Bool) (a b : Option Addr) (n c m d : Nat) (S : ByteArray) (w : World) (hn9 : n ≤ 9223372036854775807) (hm9 : m ≤ 9223372036854775807) (hs9 : S.size ≤ 9223372036854775807) (h : ¬ (n ≤ 40 ∧ m ≤ 40) ∨ 2100 < S.size) (hT : Tb w) (hM : Mx w) :
    Calls Tryd.prog 3 #[.int .i64 nn, .agg #[.bool s, .slice a n c, .bool t, .slice b m d], .string S] w fun e w' => e = .returned (.bool true) ∧ Below w.heap.size w w' := by
  have hb0 := Below.alloc (Below.refl w.heap.size w) (Nat.le_refl _) (.cells #[Value.bool s, Value.slice a n c, Value.bool t, Value.slice b m d] 26)
  have hz0 := hb0.size
  obtain ⟨q, hq⟩ : ∃ q, S.size = q := ⟨_, rfl⟩
  rw [hq] at h hs9
  have hs : (decide (n ≤ 40) && decide (m ≤ 40)) = false ∨ ((decide (n ≤ 40) && decide (m ≤ 40)) = true ∧ 2100 < q) := by
    by_cases h1 : n ≤ 40 ∧ m ≤ 40
    · exact .inr ⟨by simp; omega, by rcases h with h | h; exact absurd h1 h; exact h⟩
    · exact .inl (by simp; omega)
  clear h
  have hsm := fun W => small_any s t a b n c m d W hn9 hm9
  rcases hs with h | ⟨h, h2⟩
  all_goals simp only [h] at hsm
  all_goals have HS := Lib.hid hsm
  all_goals clear h hsm
  all_goals
    go_enter Tryd.func3, Tryd.ntmps3
    go_wp2_with (first
      | (go_at_call 7; go_loud ((with_reducible refine (HS.out _).mono ?_); rintro e w1 ⟨rfl, hc1⟩; have hbw1 := hb0.trans (hc1.mono hz0)))
      | (go_at_call 8; go_loud ((with_reducible refine (ex_any _ (hT.below hbw1) (hM.below hbw1)).mono ?_); rintro e w2 ⟨rfl, hc2⟩; have hbw2 := hbw1.trans (hc2.mono hbw1.size))))
    go_ret
    exact ⟨rfl, hbw2⟩
set_option maxRecDepth 50000 in
set_option maxHeartbeats 8000000 in
theorem nrt_00 (nn : Int) (s t : Bool) (a b : Option Addr) (n c m d : Nat) (S : ByteArray) (w : World) (l k : List (BitVec 32)) (h0 : -9223372036854775808 ≤ nn) (h9 : nn ≤ 9223372036854775807) (hn : l.length = n) (hm : k.length = m) (hnc : n ≤ c) (hmd : m ≤ d) (hn4 : n ≤ 40) (hm4 : m ≤ 40) (hs2 : S.size ≤ 2100) (hr : Rw w a l) (hs : Rw w b k) (hT : Tb w) (hM : Mx w) (hi : iE S.data.toList ≠ 0) (hq : qE S.data.toList ≠ 0) :
    Calls Tryd.prog 3 #[.int .i64 nn, .agg #[.bool s, .slice a n c, .bool t, .slice b m d], .string S] w fun e w' => e = .returned (.bool true) ∧ Below w.heap.size w w' := by
  subst hn hm
  obtain ⟨ls, hS⟩ : ∃ l, S.data.toList = l := ⟨_, rfl⟩
  rw [hS] at hi hq
  have hsz := str_size hS
  have hsm := fun W => small_any s t a b l.length c k.length d W (by omega) (by omega)
  have e0 : (decide (l.length ≤ 40) && decide (k.length ≤ 40)) = true := by simp; omega
  simp only [e0] at hsm
  have hfi := fun W (h : Tb W) => fmti_any nn W h0 h9 h
  have lP := zfmt_len (z := nn) (n := 2) (canon_in h0 h9) (by decide)
  unfold sv at hfi
  obtain ⟨S1, hS1⟩ : ∃ S : ByteArray, (⟨(zfmt nn).toArray⟩ : ByteArray) = S := ⟨_, rfl⟩
  have hS1l : S1.data.toList = zfmt nn := by rw [← hS1]
  have hpi := fun W => pint_any S1 (zfmt nn) W hS1l (by omega)
  rw [(iE_fmt h0 h9).1, (iE_fmt h0 h9).2] at hpi
  simp only [hS1] at hfi
  have hXl := rnN_len s t l k
  have hYl := rnD_len s t l k
  have hfr := fun W (h1 : Rw W a l) (h2 : Rw W b k) (h3 : Tb W) => fmtr_any s t a b _ c _ d l k W rfl rfl hnc hmd (by omega) (by omega) h1 h2 h3
  have hqf := qE_fmt (zv s (valD l)) (zv t (valD k)) (by omega) (by omega)
  have hnm := fun W (h1 : Rw W a l) (h2 : Rw W b k) => ratn_any s t a b _ c _ d l k W rfl rfl hnc hmd (by omega) (by omega) h1 h2
  have hQp := (rn_form (zv s (valD l)) (zv t (valD k))).1
  obtain ⟨P, hP⟩ : ∃ P, rnN (zv s (valD l)) (zv t (valD k)) = P := ⟨_, rfl⟩
  obtain ⟨Q, hQ⟩ : ∃ Q, rnD (zv s (valD l)) (zv t (valD k)) = Q := ⟨_, rfl⟩
  simp only [hP, hQ] at hXl hYl hfr hqf hnm hQp
  have lR : (fmtR P Q).length ≤ 2000000 := by
    have e1 := zfmt_len (z := P) (n := 90) (by omega) (by decide)
    have e2 := zfmt_len (z := Q) (n := 90) (by omega) (by decide)
    unfold fmtR
    split
    · omega
    · simp only [List.length_append, List.length_cons, List.length_nil]; omega
  have lR1 : (fmtR P Q).length ≤ 1000000 := by
    have f1 := dec_fit (canon P.natAbs) 90 (by omega)
    have f2 := dec_fit (canon Q.natAbs) 90 (by omega)
    rw [valD_canon] at f1 f2
    have g1 : (zfmt P).length ≤ 1000 := by unfold zfmt; split; (rw [List.length_cons]; omega); omega
    have g2 : (zfmt Q).length ≤ 1000 := by unfold zfmt; split; (rw [List.length_cons]; omega); omega
    unfold fmtR
    split
    · omega
    · simp only [List.length_append, List.length_cons, List.length_nil]; omega
  unfold sv at hfr
  obtain ⟨S2, hS2⟩ : ∃ S : ByteArray, (⟨(fmtR P Q).toArray⟩ : ByteArray) = S := ⟨_, rfl⟩
  have hS2l : S2.data.toList = fmtR P Q := by rw [← hS2]
  simp only [hS2] at hfr
  obtain ⟨X, hX⟩ : ∃ X, canon P.natAbs = X := ⟨_, rfl⟩
  obtain ⟨Y, hY⟩ : ∃ X, canon Q.natAbs = X := ⟨_, rfl⟩
  obtain ⟨sg, hsg⟩ : ∃ s, decide (P < 0) = s := ⟨_, rfl⟩
  have hsq : decide (Q < 0) = false := by simp; omega
  have hpr : ∀ W, Mx W → Calls Tryd.prog 11 #[.string S2] W (FrK W sg X Y) := fun W h => (prat_any S2 (fmtR P Q) W hS2l lR1 h).mono fun e w' h => by
    rcases h with ⟨h, _⟩ | ⟨_, a9, c9, b9, d9, g1, g2, g3, g4, g5, g6⟩
    · exact absurd hqf.1 h
    · rw [hqf.2.1] at g1 g2 g4
      rw [hqf.2.2] at g1 g3 g5
      rw [hX, hY, hsg, hsq] at g1
      rw [hX] at g2 g4
      rw [hY] at g3 g5
      exact ⟨a9, c9, b9, d9, g1, g2.rw, g3.rw, g4, g5, g6⟩
  have hnm2 : ∀ W, Rw W a l → Rw W b k → Calls Tryd.prog 14 #[.agg #[.bool s, .slice a l.length c, .bool t, .slice b k.length d]] W fun e w' => ∃ a9 c9 b9 d9, e = .returned (.agg #[.bool sg, .slice a9 X.length c9, .bool false, .slice b9 Y.length d9]) ∧ Rw w' a9 X ∧ Rw w' b9 Y ∧ Below W.heap.size W w' := fun W h1 h2 => by
    refine (hnm W h1 h2).mono ?_
    rintro e w' ⟨a9, c9, b9, d9, g1, g2, g3, g4, g5⟩
    rw [hX, hY, hsg, hsq] at g1
    rw [hX] at g2
    rw [hY] at g3
    exact ⟨a9, c9, b9, d9, g1, Rw.of_own g2, Rw.of_own g3, g5⟩
  rw [hX] at hXl
  rw [hY] at hYl
  have hpi2 := fun W => pint_any S ls W hS (by omega)
  have hv0 := iV_zero hi
  obtain ⟨E1, hE1⟩ : ∃ E, iE ls = E := ⟨_, rfl⟩
  simp only [hv0, hE1] at hpi2
  rw [hE1] at hi
  have qa1 : ((E1 : Int) == 0) = false := by simp; exact hi
  have qa2 : ((E1 : Int) != 0) = true := by simp; exact hi
  have hpr2 : ∀ W, Mx W → Calls Tryd.prog 11 #[.string S] W fun e w' => e = qerr (qE ls) ∧ Below W.heap.size W w' := fun W h => (prat_any S ls W hS (by omega) h).mono fun e w' h => by
    rcases h with ⟨_, h⟩ | ⟨h, _⟩
    · exact h
    · exact absurd h hq
  obtain ⟨E2, hE2⟩ : ∃ E, qE ls = E := ⟨_, rfl⟩
  simp only [hE2] at hpr2
  rw [hE2] at hq
  have qb1 : ((E2 : Int) == 0) = false := by simp; exact hq
  have qb2 : ((E2 : Int) != 0) = true := by simp; exact hq
  have HPR2 := Lib.hid hpr2
  have hXY : X.length ≤ 1000000 ∧ Y.length ≤ 1000000 := by omega
  have HXY := Lib.hid hXY
  have HS := Lib.hid hsm
  have HFI := Lib.hid hfi
  have HPI := Lib.hid hpi
  have HFR := Lib.hid hfr
  have HPR := Lib.hid hpr
  have HNM := Lib.hid hnm2
  have HPI2 := Lib.hid hpi2
  obtain ⟨zq, hzq⟩ : ∃ q, S.size = q := ⟨_, rfl⟩
  rw [hzq] at hs2
  clear hsm e0 hfi lP hS1 hS1l hpi hXl hYl hfr hqf hnm hQp hP hQ lR lR1 hS2 hS2l hX hY hsg hsq hpr hnm2 hpi2 hS hsz hXY hi hq hv0 hE1 hE2 hpr2
  have hb0 := Below.alloc (Below.refl w.heap.size w) (Nat.le_refl _) (.cells #[Value.bool s, Value.slice a l.length c, Value.bool t, Value.slice b k.length d] 26)
  have hz0 := hb0.size
  go_enter Tryd.func3, Tryd.ntmps3
  go_wp2_with (first
    | (go_at_call 7; go_loud ((with_reducible refine (HS.out _).mono ?_); rintro e w1 ⟨rfl, hc1⟩; have k1_f_0 : w1.cell? ⟨w.heap.size, 0, none⟩ = some (.bool s) := bcs hc1 (by first | with_reducible assumption | with_reducible refine celAl ?_ _ <;> assumption | go_simp); have k1_f_1 : w1.cell? ⟨w.heap.size, 1, none⟩ = some (.slice a l.length c) := bcs hc1 (by first | with_reducible assumption | with_reducible refine celAl ?_ _ <;> assumption | go_simp); have k1_f_2 : w1.cell? ⟨w.heap.size, 2, none⟩ = some (.bool t) := bcs hc1 (by first | with_reducible assumption | with_reducible refine celAl ?_ _ <;> assumption | go_simp); have k1_f_3 : w1.cell? ⟨w.heap.size, 3, none⟩ = some (.slice b k.length d) := bcs hc1 (by first | with_reducible assumption | with_reducible refine celAl ?_ _ <;> assumption | go_simp); have hb1 := hb0.trans (hc1.mono hz0)))
    | (go_at_call 10; go_loud ((with_reducible refine (HFI.out _ (hT.below hb1)).mono ?_); rintro e w2 ⟨rfl, hc2⟩; have k2_f_0 : w2.cell? ⟨w.heap.size, 0, none⟩ = some (.bool s) := bcs hc2 (by first | with_reducible assumption | with_reducible refine celAl ?_ _ <;> assumption | go_simp); have k2_f_1 : w2.cell? ⟨w.heap.size, 1, none⟩ = some (.slice a l.length c) := bcs hc2 (by first | with_reducible assumption | with_reducible refine celAl ?_ _ <;> assumption | go_simp); have k2_f_2 : w2.cell? ⟨w.heap.size, 2, none⟩ = some (.bool t) := bcs hc2 (by first | with_reducible assumption | with_reducible refine celAl ?_ _ <;> assumption | go_simp); have k2_f_3 : w2.cell? ⟨w.heap.size, 3, none⟩ = some (.slice b k.length d) := bcs hc2 (by first | with_reducible assumption | with_reducible refine celAl ?_ _ <;> assumption | go_simp); have hb2 := bel_step hb1 hc2))
    | (go_at_call 9; go_loud ((with_reducible refine (HPI.out _).mono ?_); unfold dui; rintro e w3 ⟨rfl, hc3⟩; have k3_f_0 : w3.cell? ⟨w.heap.size, 0, none⟩ = some (.bool s) := bcs hc3 (by first | with_reducible assumption | with_reducible refine celAl ?_ _ <;> assumption | go_simp); have k3_f_1 : w3.cell? ⟨w.heap.size, 1, none⟩ = some (.slice a l.length c) := bcs hc3 (by first | with_reducible assumption | with_reducible refine celAl ?_ _ <;> assumption | go_simp); have k3_f_2 : w3.cell? ⟨w.heap.size, 2, none⟩ = some (.bool t) := bcs hc3 (by first | with_reducible assumption | with_reducible refine celAl ?_ _ <;> assumption | go_simp); have k3_f_3 : w3.cell? ⟨w.heap.size, 3, none⟩ = some (.slice b k.length d) := bcs hc3 (by first | with_reducible assumption | with_reducible refine celAl ?_ _ <;> assumption | go_simp); have hb3 := bel_step hb2 hc3))
    | (go_at_call 12; go_loud ((with_reducible refine (HFR.out _ (hr.below hb3) (hs.below hb3) (hT.below hb3)).mono ?_); rintro e w4 ⟨rfl, hc4⟩; have k4_f_0 : w4.cell? ⟨w.heap.size, 0, none⟩ = some (.bool s) := bcs hc4 (by first | with_reducible assumption | with_reducible refine celAl ?_ _ <;> assumption | go_simp); have k4_f_1 : w4.cell? ⟨w.heap.size, 1, none⟩ = some (.slice a l.length c) := bcs hc4 (by first | with_reducible assumption | with_reducible refine celAl ?_ _ <;> assumption | go_simp); have k4_f_2 : w4.cell? ⟨w.heap.size, 2, none⟩ = some (.bool t) := bcs hc4 (by first | with_reducible assumption | with_reducible refine celAl ?_ _ <;> assumption | go_simp); have k4_f_3 : w4.cell? ⟨w.heap.size, 3, none⟩ = some (.slice b k.length d) := bcs hc4 (by first | with_reducible assumption | with_reducible refine celAl ?_ _ <;> assumption | go_simp); have hb4 := bel_step hb3 hc4))
    | (go_at_call 11; go_loud ((with_reducible refine (HPR.out _ (hM.below hb4)).mono ?_); unfold FrK; rintro e w5 ⟨a5, c5, b5, d5, rfl, hX5, hY5, hcX, hcY, hc5⟩; have k5_f_0 : w5.cell? ⟨w.heap.size, 0, none⟩ = some (.bool s) := bcs hc5 (by first | with_reducible assumption | with_reducible refine celAl ?_ _ <;> assumption | go_simp); have k5_f_1 : w5.cell? ⟨w.heap.size, 1, none⟩ = some (.slice a l.length c) := bcs hc5 (by first | with_reducible assumption | with_reducible refine celAl ?_ _ <;> assumption | go_simp); have k5_f_2 : w5.cell? ⟨w.heap.size, 2, none⟩ = some (.bool t) := bcs hc5 (by first | with_reducible assumption | with_reducible refine celAl ?_ _ <;> assumption | go_simp); have k5_f_3 : w5.cell? ⟨w.heap.size, 3, none⟩ = some (.slice b k.length d) := bcs hc5 (by first | with_reducible assumption | with_reducible refine celAl ?_ _ <;> assumption | go_simp); have hb5 := bel_step hb4 hc5; have hb5a := belAl hb5 (.cells #[Value.bool sg, Value.slice a5 X.length c5, Value.bool false, Value.slice b5 Y.length d5] 26))))
  refine wp_region_held_drew (S := (fun w' => w'.cell? ⟨w.heap.size, 0, none⟩ = some (.bool s) ∧ w'.cell? ⟨w.heap.size, 1, none⟩ = some (.slice a l.length c) ∧ w'.cell? ⟨w.heap.size, 2, none⟩ = some (.bool t) ∧ w'.cell? ⟨w.heap.size, 3, none⟩ = some (.slice b k.length d) ∧ w'.cell? ⟨w5.heap.size, 0, none⟩ = some (.bool sg) ∧ w'.cell? ⟨w5.heap.size, 1, none⟩ = some (.slice a5 X.length c5) ∧ w'.cell? ⟨w5.heap.size, 2, none⟩ = some (.bool false) ∧ w'.cell? ⟨w5.heap.size, 3, none⟩ = some (.slice b5 Y.length d5))) (by kernel_rfl) ?_ (fun hHeld => ?_)
  · (try dsimp only); (first | with_reducible exact ⟨k7_f_0, k7_f_1, k7_f_2, k7_f_3, k7_b_0, k7_b_1, k7_b_2, k7_b_3⟩ | with_reducible exact ⟨k6_f_0, k6_f_1, k6_f_2, k6_f_3, k6_b_0, k6_b_1, k6_b_2, k6_b_3⟩ | (refine ⟨?_, ?_, ?_, ?_, ?_, ?_, ?_, ?_⟩ <;> (first | with_reducible assumption | ((repeat' first | with_reducible assumption | (with_reducible refine celAl ?_ _) | (with_reducible refine celDr ?_)); done) | (go_simp; done))))
  refine wpAnyH_take (i := 0) (oi := { dst := some 36, op := Op.move (Operand.tmp 7), type := 3, pos := "law.go:53", after := #[], guard := none }) (v := ?_) rfl (by kernel_rfl) (by kernel_rfl) (by kernel_rfl) (fun _ _ _ h => h) (Or.inl ⟨by rfl, ?_⟩) hHeld ?_
  rotate_left
  · (intro w hSw; (try dsimp only at hSw); go_simp; try with_reducible rfl)
  try simp only [Act.put, List.setIfInBounds_toArray, List.set_cons_zero, List.set_cons_succ]
  refine wpAnyH_take (i := 1) (oi := { dst := some 37, op := Op.move (Operand.tmp 0), type := 3, pos := "law.go:53", after := #[], guard := none }) (v := ?_) rfl (by kernel_rfl) (by kernel_rfl) (by kernel_rfl) (fun _ _ _ h => h) (Or.inl ⟨by rfl, ?_⟩) hHeld ?_
  rotate_left
  · (intro w hSw; (try dsimp only at hSw); go_simp; try with_reducible rfl)
  try simp only [Act.put, List.setIfInBounds_toArray, List.set_cons_zero, List.set_cons_succ]
  refine wpAnyH_take (i := 2) (oi := { dst := some 38, op := Op.binOp BinOp.neq 3 (Operand.tmp 36) (Operand.tmp 37) 3, type := 4, pos := "law.go:53", after := #[{ on := 0, ground := Ground.data }, { on := 1, ground := Ground.data }], guard := none }) (v := ?_) rfl (by kernel_rfl) (by kernel_rfl) (by kernel_rfl) (fun _ _ _ h => h) (Or.inl ⟨by rfl, ?_⟩) hHeld ?_
  rotate_left
  · (intro w hSw; (try dsimp only at hSw); go_simp; try with_reducible rfl)
  try simp only [Act.put, List.setIfInBounds_toArray, List.set_cons_zero, List.set_cons_succ]
  refine wpAnyH_take (i := 3) (oi := { dst := some 39, op := Op.move (Operand.tmp 38), type := 4, pos := "law.go:53", after := #[{ on := 2, ground := Ground.data }], guard := none }) (v := ?_) rfl (by kernel_rfl) (by kernel_rfl) (by kernel_rfl) (fun _ _ _ h => h) (Or.inl ⟨by rfl, ?_⟩) hHeld ?_
  rotate_left
  · (intro w hSw; (try dsimp only at hSw); go_simp; try with_reducible rfl)
  try simp only [Act.put, List.setIfInBounds_toArray, List.set_cons_zero, List.set_cons_succ]
  refine wpAnyH_take (i := 4) (oi := { dst := some 40, op := Op.move (Operand.tmp 8), type := 29, pos := "law.go:53", after := #[{ on := 3, ground := Ground.guard }], guard := some (3, false) }) (v := ?_) rfl (by kernel_rfl) (by kernel_rfl) (by kernel_rfl) (fun _ _ _ h => h) (Or.inl ⟨by rfl, ?_⟩) hHeld ?_
  rotate_left
  · (intro w hSw; (try dsimp only at hSw); go_simp; try with_reducible rfl)
  try simp only [Act.put, List.setIfInBounds_toArray, List.set_cons_zero, List.set_cons_succ]
  refine wpAnyH_take (i := 5) (oi := { dst := some 41, op := Op.binOp BinOp.neq 29 (Operand.tmp 40) (Operand.const (Value.int IntKind.i64 0)) 29, type := 4, pos := "law.go:53", after := #[{ on := 4, ground := Ground.data }, { on := 3, ground := Ground.guard }], guard := some (3, false) }) (v := ?_) rfl (by kernel_rfl) (by kernel_rfl) (by kernel_rfl) (fun _ _ _ h => h) (Or.inl ⟨by rfl, ?_⟩) hHeld ?_
  rotate_left
  · (intro w hSw; (try dsimp only at hSw); go_simp; try with_reducible rfl)
  try simp only [Act.put, List.setIfInBounds_toArray, List.set_cons_zero, List.set_cons_succ]
  refine wpAnyH_take (i := 6) (oi := { dst := some 42, op := Op.pick (Operand.tmp 39) (Operand.const (Value.bool true)) (Operand.tmp 41), type := 4, pos := "law.go:53", after := #[{ on := 3, ground := Ground.data }, { on := 5, ground := Ground.data }], guard := none }) (v := ?_) rfl (by kernel_rfl) (by kernel_rfl) (by kernel_rfl) (fun _ _ _ h => h) (Or.inl ⟨by rfl, ?_⟩) hHeld ?_
  rotate_left
  · (intro w hSw; (try dsimp only at hSw); go_simp; try with_reducible rfl)
  try simp only [Act.put, List.setIfInBounds_toArray, List.set_cons_zero, List.set_cons_succ]
  refine wpAnyH_take (i := 7) (oi := { dst := some 43, op := Op.move (Operand.tmp 42), type := 4, pos := "law.go:53", after := #[{ on := 6, ground := Ground.data }, { on := 3, ground := Ground.chain }], guard := none }) (v := ?_) rfl (by kernel_rfl) (by kernel_rfl) (by kernel_rfl) (fun _ _ _ h => h) (Or.inl ⟨by rfl, ?_⟩) hHeld ?_
  rotate_left
  · (intro w hSw; (try dsimp only at hSw); go_simp; try with_reducible rfl)
  try simp only [Act.put, List.setIfInBounds_toArray, List.set_cons_zero, List.set_cons_succ]
  refine wpAnyH_take (i := 8) (oi := { dst := some 44, op := Op.move (Operand.tmp 10), type := 29, pos := "law.go:53", after := #[{ on := 7, ground := Ground.guard }], guard := some (7, false) }) (v := ?_) rfl (by kernel_rfl) (by kernel_rfl) (by kernel_rfl) (fun _ _ _ h => h) (Or.inl ⟨by rfl, ?_⟩) hHeld ?_
  rotate_left
  · (intro w hSw; (try dsimp only at hSw); go_simp; try with_reducible rfl)
  try simp only [Act.put, List.setIfInBounds_toArray, List.set_cons_zero, List.set_cons_succ]
  refine wpAnyH_take (i := 9) (oi := { dst := some 45, op := Op.binOp BinOp.neq 29 (Operand.tmp 44) (Operand.const (Value.int IntKind.i64 0)) 29, type := 4, pos := "law.go:53", after := #[{ on := 8, ground := Ground.data }, { on := 7, ground := Ground.guard }], guard := some (7, false) }) (v := ?_) rfl (by kernel_rfl) (by kernel_rfl) (by kernel_rfl) (fun _ _ _ h => h) (Or.inl ⟨by rfl, ?_⟩) hHeld ?_
  rotate_left
  · (intro w hSw; (try dsimp only at hSw); go_simp; try with_reducible rfl)
  try simp only [Act.put, List.setIfInBounds_toArray, List.set_cons_zero, List.set_cons_succ]
  refine wpAnyH_take (i := 10) (oi := { dst := some 46, op := Op.pick (Operand.tmp 43) (Operand.const (Value.bool true)) (Operand.tmp 45), type := 4, pos := "law.go:53", after := #[{ on := 7, ground := Ground.data }, { on := 9, ground := Ground.data }], guard := none }) (v := ?_) rfl (by kernel_rfl) (by kernel_rfl) (by kernel_rfl) (fun _ _ _ h => h) (Or.inl ⟨by rfl, ?_⟩) hHeld ?_
  rotate_left
  · (intro w hSw; (try dsimp only at hSw); go_simp; try with_reducible rfl)
  try simp only [Act.put, List.setIfInBounds_toArray, List.set_cons_zero, List.set_cons_succ]
  refine wpAnyH_take (i := 11) (oi := { dst := some 47, op := Op.move (Operand.tmp 46), type := 4, pos := "law.go:53", after := #[{ on := 10, ground := Ground.data }, { on := 7, ground := Ground.chain }], guard := none }) (v := ?_) rfl (by kernel_rfl) (by kernel_rfl) (by kernel_rfl) (fun _ _ _ h => h) (Or.inl ⟨by rfl, ?_⟩) hHeld ?_
  rotate_left
  · (intro w hSw; (try dsimp only at hSw); go_simp; try with_reducible rfl)
  try simp only [Act.put, List.setIfInBounds_toArray, List.set_cons_zero, List.set_cons_succ]
  refine wpAnyH_take (i := 12) (oi := { dst := some 48, op := Op.load 26 (Operand.tmp 9), type := 26, pos := "law.go:53", after := #[{ on := 11, ground := Ground.guard }], guard := some (11, false) }) (v := ?_) rfl (by kernel_rfl) (by kernel_rfl) (by kernel_rfl) (fun _ _ _ h => h) (Or.inl ⟨by rfl, ?_⟩) hHeld ?_
  rotate_left
  · (intro w hSw; (try dsimp only at hSw); go_simp; try with_reducible rfl)
  try simp only [Act.put, List.setIfInBounds_toArray, List.set_cons_zero, List.set_cons_succ]
  refine wpAnyH_take (i := 13) (oi := { dst := some 49, op := Op.load 26 (Operand.tmp 4), type := 26, pos := "law.go:53", after := #[{ on := 11, ground := Ground.guard }], guard := some (11, false) }) (v := ?_) rfl (by kernel_rfl) (by kernel_rfl) (by kernel_rfl) (fun _ _ _ h => h) (Or.inl ⟨by rfl, ?_⟩) hHeld ?_
  rotate_left
  · (intro w hSw; (try dsimp only at hSw); go_simp; try with_reducible rfl)
  try simp only [Act.put, List.setIfInBounds_toArray, List.set_cons_zero, List.set_cons_succ]
  refine wpAnyH_ready (rs := [14]) (by kernel_rfl) (by simp) ?_
  refine AllReadyH.cons (o := { dst := some 50, op := Op.call { callee := Callee.value (Operand.func 14), args := #[Operand.tmp 49], argTypes := #[26] }, type := 26, pos := "law.go:53", after := #[{ on := 13, ground := Ground.data }, { on := 11, ground := Ground.chain }, { on := 11, ground := Ground.guard }], guard := some (11, false) }) rfl (fun K hK => ?_) AllReadyH.nil
  go_simp
  (go_at_call 14; go_loud ((with_reducible refine (HNM.out _ (hr.below (by (repeat' first | with_reducible assumption | with_reducible refine belDr ?_ | with_reducible refine belAl ?_ _))) (hs.below (by (repeat' first | with_reducible assumption | with_reducible refine belDr ?_ | with_reducible refine belAl ?_ _)))).mono ?_); rintro e w6 ⟨a6, c6, b6, d6, rfl, hX6, hY6, hc6⟩; have k6_f_0 : w6.cell? ⟨w.heap.size, 0, none⟩ = some (.bool s) := bcs hc6 (by first | with_reducible assumption | with_reducible refine celAl ?_ _ <;> assumption | go_simp); have k6_f_1 : w6.cell? ⟨w.heap.size, 1, none⟩ = some (.slice a l.length c) := bcs hc6 (by first | with_reducible assumption | with_reducible refine celAl ?_ _ <;> assumption | go_simp); have k6_f_2 : w6.cell? ⟨w.heap.size, 2, none⟩ = some (.bool t) := bcs hc6 (by first | with_reducible assumption | with_reducible refine celAl ?_ _ <;> assumption | go_simp); have k6_f_3 : w6.cell? ⟨w.heap.size, 3, none⟩ = some (.slice b k.length d) := bcs hc6 (by first | with_reducible assumption | with_reducible refine celAl ?_ _ <;> assumption | go_simp); have k6_b_0 : w6.cell? ⟨w5.heap.size, 0, none⟩ = some (.bool sg) := bcs hc6 (by first | with_reducible assumption | with_reducible refine celAl ?_ _ <;> assumption | go_simp); have k6_b_1 : w6.cell? ⟨w5.heap.size, 1, none⟩ = some (.slice a5 X.length c5) := bcs hc6 (by first | with_reducible assumption | with_reducible refine celAl ?_ _ <;> assumption | go_simp); have k6_b_2 : w6.cell? ⟨w5.heap.size, 2, none⟩ = some (.bool false) := bcs hc6 (by first | with_reducible assumption | with_reducible refine celAl ?_ _ <;> assumption | go_simp); have k6_b_3 : w6.cell? ⟨w5.heap.size, 3, none⟩ = some (.slice b5 Y.length d5) := bcs hc6 (by first | with_reducible assumption | with_reducible refine celAl ?_ _ <;> assumption | go_simp); have hb6 : Below w.heap.size w w6 := bel_step (by (repeat' first | with_reducible assumption | with_reducible refine belDr ?_ | with_reducible refine belAl ?_ _)) hc6; have hX5b : Rw w6 a5 X := Rw.below (by (repeat' first | with_reducible assumption | with_reducible refine Rw.dr ?_ | with_reducible refine Rw.al ?_ _)) hc6; have hY5b : Rw w6 b5 Y := Rw.below (by (repeat' first | with_reducible assumption | with_reducible refine Rw.dr ?_ | with_reducible refine Rw.al ?_ _)) hc6))
  refine hK.out _ _ ?_ (fun hHeld2 => ?_)
  · (try dsimp only); (first | with_reducible exact ⟨k7_f_0, k7_f_1, k7_f_2, k7_f_3, k7_b_0, k7_b_1, k7_b_2, k7_b_3⟩ | with_reducible exact ⟨k6_f_0, k6_f_1, k6_f_2, k6_f_3, k6_b_0, k6_b_1, k6_b_2, k6_b_3⟩ | (refine ⟨?_, ?_, ?_, ?_, ?_, ?_, ?_, ?_⟩ <;> (first | with_reducible assumption | ((repeat' first | with_reducible assumption | (with_reducible refine celAl ?_ _) | (with_reducible refine celDr ?_)); done) | (go_simp; done))))
  clear hK K hHeld
  have hHeld := hHeld2; clear hHeld2
  try simp only [Act.put, List.setIfInBounds_toArray, List.set_cons_zero, List.set_cons_succ]
  refine wpAnyH_ready (rs := [15]) (by kernel_rfl) (by simp) ?_
  refine AllReadyH.cons (o := { dst := some 51, op := Op.call { callee := Callee.value (Operand.func 13), args := #[Operand.tmp 48, Operand.tmp 50], argTypes := #[26, 26] }, type := 4, pos := "law.go:53", after := #[{ on := 12, ground := Ground.data }, { on := 14, ground := Ground.data }, { on := 14, ground := Ground.chain }, { on := 11, ground := Ground.guard }], guard := some (11, false) }) rfl (fun K hK => ?_) AllReadyH.nil
  go_simp
  (go_at_call 13; go_loud ((with_reducible refine (srat_yes sg false a5 b5 a6 b6 c5 d5 c6 d6 X Y _ HXY.out.1 HXY.out.2 hX5b hY5b hX6 hY6).mono ?_); rintro e w7 ⟨rfl, hc7⟩; have k7_f_0 : w7.cell? ⟨w.heap.size, 0, none⟩ = some (.bool s) := bcs hc7 (by first | with_reducible assumption | with_reducible refine celAl ?_ _ <;> assumption | go_simp); have k7_f_1 : w7.cell? ⟨w.heap.size, 1, none⟩ = some (.slice a l.length c) := bcs hc7 (by first | with_reducible assumption | with_reducible refine celAl ?_ _ <;> assumption | go_simp); have k7_f_2 : w7.cell? ⟨w.heap.size, 2, none⟩ = some (.bool t) := bcs hc7 (by first | with_reducible assumption | with_reducible refine celAl ?_ _ <;> assumption | go_simp); have k7_f_3 : w7.cell? ⟨w.heap.size, 3, none⟩ = some (.slice b k.length d) := bcs hc7 (by first | with_reducible assumption | with_reducible refine celAl ?_ _ <;> assumption | go_simp); have k7_b_0 : w7.cell? ⟨w5.heap.size, 0, none⟩ = some (.bool sg) := bcs hc7 (by first | with_reducible assumption | with_reducible refine celAl ?_ _ <;> assumption | go_simp); have k7_b_1 : w7.cell? ⟨w5.heap.size, 1, none⟩ = some (.slice a5 X.length c5) := bcs hc7 (by first | with_reducible assumption | with_reducible refine celAl ?_ _ <;> assumption | go_simp); have k7_b_2 : w7.cell? ⟨w5.heap.size, 2, none⟩ = some (.bool false) := bcs hc7 (by first | with_reducible assumption | with_reducible refine celAl ?_ _ <;> assumption | go_simp); have k7_b_3 : w7.cell? ⟨w5.heap.size, 3, none⟩ = some (.slice b5 Y.length d5) := bcs hc7 (by first | with_reducible assumption | with_reducible refine celAl ?_ _ <;> assumption | go_simp); have hb7 := bel_step hb6 hc7))
  refine hK.out _ _ ?_ (fun hHeld2 => ?_)
  · (try dsimp only); (first | with_reducible exact ⟨k7_f_0, k7_f_1, k7_f_2, k7_f_3, k7_b_0, k7_b_1, k7_b_2, k7_b_3⟩ | with_reducible exact ⟨k6_f_0, k6_f_1, k6_f_2, k6_f_3, k6_b_0, k6_b_1, k6_b_2, k6_b_3⟩ | (refine ⟨?_, ?_, ?_, ?_, ?_, ?_, ?_, ?_⟩ <;> (first | with_reducible assumption | ((repeat' first | with_reducible assumption | (with_reducible refine celAl ?_ _) | (with_reducible refine celDr ?_)); done) | (go_simp; done))))
  clear hK K hHeld
  have hHeld := hHeld2; clear hHeld2
  try simp only [Act.put, List.setIfInBounds_toArray, List.set_cons_zero, List.set_cons_succ]
  refine wpAnyH_take (i := 16) (oi := { dst := some 52, op := Op.unOp UnOp.not 4 (Operand.tmp 51), type := 4, pos := "law.go:53", after := #[{ on := 15, ground := Ground.data }, { on := 11, ground := Ground.guard }], guard := some (11, false) }) (v := ?_) rfl (by kernel_rfl) (by kernel_rfl) (by kernel_rfl) (fun _ _ _ h => h) (Or.inl ⟨by rfl, ?_⟩) hHeld ?_
  rotate_left
  · (intro w hSw; (try dsimp only at hSw); go_simp; try with_reducible rfl)
  try simp only [Act.put, List.setIfInBounds_toArray, List.set_cons_zero, List.set_cons_succ]
  refine wpAnyH_take (i := 17) (oi := { dst := some 53, op := Op.pick (Operand.tmp 47) (Operand.const (Value.bool true)) (Operand.tmp 52), type := 4, pos := "law.go:53", after := #[{ on := 11, ground := Ground.data }, { on := 16, ground := Ground.data }], guard := none }) (v := ?_) rfl (by kernel_rfl) (by kernel_rfl) (by kernel_rfl) (fun _ _ _ h => h) (Or.inl ⟨by rfl, ?_⟩) hHeld ?_
  rotate_left
  · (intro w hSw; (try dsimp only at hSw); go_simp; try with_reducible rfl)
  try simp only [Act.put, List.setIfInBounds_toArray, List.set_cons_zero, List.set_cons_succ]
  refine wpAnyH_done (by kernel_rfl) ?_ _
  go_wp2_with (first
    | (go_at_call 9; go_loud ((with_reducible refine (HPI2.out _).mono ?_); unfold dui; rintro e w8 ⟨rfl, hc8⟩; have hb8 := bel_step hb7 hc8))
    | (go_at_call 11; go_loud ((with_reducible refine (HPR2.out _ (hM.below hb8)).mono ?_); unfold qerr; rintro e w9 ⟨rfl, hc9⟩; have hb9 := bel_step hb8 hc9; have hbE := belAl hb9 (.cells #[Value.bool false, Value.slice none 0 0, Value.bool false, Value.slice none 0 0] 26)))
    | (go_at_call 8; go_loud ((with_reducible refine (ex_any _ (hT.below hbE) (hM.below hbE)).mono ?_); rintro e w12 ⟨rfl, hc12⟩; have hb12 := bel_step hbE hc12)))
  go_ret
  exact ⟨rfl, hb12⟩
set_option maxRecDepth 50000 in
set_option maxHeartbeats 8000000 in
theorem nrt_01 (nn : Int) (s t : Bool) (a b : Option Addr) (n c m d : Nat) (S : ByteArray) (w : World) (l k : List (BitVec 32)) (h0 : -9223372036854775808 ≤ nn) (h9 : nn ≤ 9223372036854775807) (hn : l.length = n) (hm : k.length = m) (hnc : n ≤ c) (hmd : m ≤ d) (hn4 : n ≤ 40) (hm4 : m ≤ 40) (hs2 : S.size ≤ 2100) (hr : Rw w a l) (hs : Rw w b k) (hT : Tb w) (hM : Mx w) (hi : iE S.data.toList ≠ 0) (hq : qE S.data.toList = 0) :
    Calls Tryd.prog 3 #[.int .i64 nn, .agg #[.bool s, .slice a n c, .bool t, .slice b m d], .string S] w fun e w' => e = .returned (.bool true) ∧ Below w.heap.size w w' := by
  subst hn hm
  obtain ⟨ls, hS⟩ : ∃ l, S.data.toList = l := ⟨_, rfl⟩
  rw [hS] at hi hq
  have hsz := str_size hS
  have hsm := fun W => small_any s t a b l.length c k.length d W (by omega) (by omega)
  have e0 : (decide (l.length ≤ 40) && decide (k.length ≤ 40)) = true := by simp; omega
  simp only [e0] at hsm
  have hfi := fun W (h : Tb W) => fmti_any nn W h0 h9 h
  have lP := zfmt_len (z := nn) (n := 2) (canon_in h0 h9) (by decide)
  unfold sv at hfi
  obtain ⟨S1, hS1⟩ : ∃ S : ByteArray, (⟨(zfmt nn).toArray⟩ : ByteArray) = S := ⟨_, rfl⟩
  have hS1l : S1.data.toList = zfmt nn := by rw [← hS1]
  have hpi := fun W => pint_any S1 (zfmt nn) W hS1l (by omega)
  rw [(iE_fmt h0 h9).1, (iE_fmt h0 h9).2] at hpi
  simp only [hS1] at hfi
  have hXl := rnN_len s t l k
  have hYl := rnD_len s t l k
  have hfr := fun W (h1 : Rw W a l) (h2 : Rw W b k) (h3 : Tb W) => fmtr_any s t a b _ c _ d l k W rfl rfl hnc hmd (by omega) (by omega) h1 h2 h3
  have hqf := qE_fmt (zv s (valD l)) (zv t (valD k)) (by omega) (by omega)
  have hnm := fun W (h1 : Rw W a l) (h2 : Rw W b k) => ratn_any s t a b _ c _ d l k W rfl rfl hnc hmd (by omega) (by omega) h1 h2
  have hQp := (rn_form (zv s (valD l)) (zv t (valD k))).1
  obtain ⟨P, hP⟩ : ∃ P, rnN (zv s (valD l)) (zv t (valD k)) = P := ⟨_, rfl⟩
  obtain ⟨Q, hQ⟩ : ∃ Q, rnD (zv s (valD l)) (zv t (valD k)) = Q := ⟨_, rfl⟩
  simp only [hP, hQ] at hXl hYl hfr hqf hnm hQp
  have lR : (fmtR P Q).length ≤ 2000000 := by
    have e1 := zfmt_len (z := P) (n := 90) (by omega) (by decide)
    have e2 := zfmt_len (z := Q) (n := 90) (by omega) (by decide)
    unfold fmtR
    split
    · omega
    · simp only [List.length_append, List.length_cons, List.length_nil]; omega
  have lR1 : (fmtR P Q).length ≤ 1000000 := by
    have f1 := dec_fit (canon P.natAbs) 90 (by omega)
    have f2 := dec_fit (canon Q.natAbs) 90 (by omega)
    rw [valD_canon] at f1 f2
    have g1 : (zfmt P).length ≤ 1000 := by unfold zfmt; split; (rw [List.length_cons]; omega); omega
    have g2 : (zfmt Q).length ≤ 1000 := by unfold zfmt; split; (rw [List.length_cons]; omega); omega
    unfold fmtR
    split
    · omega
    · simp only [List.length_append, List.length_cons, List.length_nil]; omega
  unfold sv at hfr
  obtain ⟨S2, hS2⟩ : ∃ S : ByteArray, (⟨(fmtR P Q).toArray⟩ : ByteArray) = S := ⟨_, rfl⟩
  have hS2l : S2.data.toList = fmtR P Q := by rw [← hS2]
  simp only [hS2] at hfr
  obtain ⟨X, hX⟩ : ∃ X, canon P.natAbs = X := ⟨_, rfl⟩
  obtain ⟨Y, hY⟩ : ∃ X, canon Q.natAbs = X := ⟨_, rfl⟩
  obtain ⟨sg, hsg⟩ : ∃ s, decide (P < 0) = s := ⟨_, rfl⟩
  have hsq : decide (Q < 0) = false := by simp; omega
  have hpr : ∀ W, Mx W → Calls Tryd.prog 11 #[.string S2] W (FrK W sg X Y) := fun W h => (prat_any S2 (fmtR P Q) W hS2l lR1 h).mono fun e w' h => by
    rcases h with ⟨h, _⟩ | ⟨_, a9, c9, b9, d9, g1, g2, g3, g4, g5, g6⟩
    · exact absurd hqf.1 h
    · rw [hqf.2.1] at g1 g2 g4
      rw [hqf.2.2] at g1 g3 g5
      rw [hX, hY, hsg, hsq] at g1
      rw [hX] at g2 g4
      rw [hY] at g3 g5
      exact ⟨a9, c9, b9, d9, g1, g2.rw, g3.rw, g4, g5, g6⟩
  have hnm2 : ∀ W, Rw W a l → Rw W b k → Calls Tryd.prog 14 #[.agg #[.bool s, .slice a l.length c, .bool t, .slice b k.length d]] W fun e w' => ∃ a9 c9 b9 d9, e = .returned (.agg #[.bool sg, .slice a9 X.length c9, .bool false, .slice b9 Y.length d9]) ∧ Rw w' a9 X ∧ Rw w' b9 Y ∧ Below W.heap.size W w' := fun W h1 h2 => by
    refine (hnm W h1 h2).mono ?_
    rintro e w' ⟨a9, c9, b9, d9, g1, g2, g3, g4, g5⟩
    rw [hX, hY, hsg, hsq] at g1
    rw [hX] at g2
    rw [hY] at g3
    exact ⟨a9, c9, b9, d9, g1, Rw.of_own g2, Rw.of_own g3, g5⟩
  rw [hX] at hXl
  rw [hY] at hYl
  have hpi2 := fun W => pint_any S ls W hS (by omega)
  have hv0 := iV_zero hi
  obtain ⟨E1, hE1⟩ : ∃ E, iE ls = E := ⟨_, rfl⟩
  simp only [hv0, hE1] at hpi2
  rw [hE1] at hi
  have qa1 : ((E1 : Int) == 0) = false := by simp; exact hi
  have qa2 : ((E1 : Int) != 0) = true := by simp; exact hi
  obtain ⟨r1, r2, r3, r4, r5⟩ := qE_back hq
  have r6 := pZ_len r4
  obtain ⟨P2, hP2⟩ : ∃ P, pZ (cA ls) = P := ⟨_, rfl⟩
  obtain ⟨Q2, hQ2⟩ : ∃ P, qD ls = P := ⟨_, rfl⟩
  rw [hP2] at r2 r3 r6
  rw [hQ2] at r1 r2 r3 r5
  obtain ⟨g7, g8⟩ := low_gcd (n := P2) r1 r2
  have hnrm := rn_norm P2 Q2
  rw [g7, g8] at hnrm
  have hzP2 := zv_canon P2
  have hzQ2 : zv false (valD (canon Q2.natAbs)) = Q2 := by have := zv_canon Q2; rwa [show decide (Q2 < 0) = false by simp; omega] at this
  obtain ⟨X2, hX2⟩ : ∃ X, canon P2.natAbs = X := ⟨_, rfl⟩
  obtain ⟨Y2, hY2⟩ : ∃ X, canon Q2.natAbs = X := ⟨_, rfl⟩
  obtain ⟨sg2, hsg2⟩ : ∃ s, decide (P2 < 0) = s := ⟨_, rfl⟩
  have hsq2 : decide (Q2 < 0) = false := by simp; omega
  rw [hsg2, hX2, hY2] at hnrm
  rw [hsg2, hX2] at hzP2
  rw [hY2] at hzQ2 r5
  rw [hX2] at r6
  have hpr2 : ∀ W, Mx W → Calls Tryd.prog 11 #[.string S] W (FrK W sg2 X2 Y2) := fun W h => (prat_any S ls W hS (by omega) h).mono fun e w' h => by
    rcases h with ⟨h, _⟩ | ⟨_, a9, c9, b9, d9, g1, g2, g3, g4, g5, g6⟩
    · exact absurd hq h
    · rw [hP2] at g1 g2 g4
      rw [hQ2] at g1 g3 g5
      rw [hX2, hY2, hsg2, hsq2] at g1
      rw [hX2] at g2 g4
      rw [hY2] at g3 g5
      exact ⟨a9, c9, b9, d9, g1, g2.rw, g3.rw, g4, g5, g6⟩
  have hin : ∀ W (a9 : Option Addr) (c9 : Nat) (b9 : Option Addr) (d9 : Nat), X2.length ≤ c9 → Y2.length ≤ d9 → Rw W a9 X2 → Rw W b9 Y2 → Calls Tryd.prog 15 #[.agg #[.bool sg2, .slice a9 X2.length c9, .bool false, .slice b9 Y2.length d9]] W fun e W' => e = .returned (.bool true) ∧ Below W.heap.size W W' := fun W a9 c9 b9 d9 e1 e2 e3 e4 => by
    have := isn_any sg2 false a9 b9 _ c9 _ d9 X2 Y2 W rfl rfl e1 e2 (by omega) (by omega) e3 e4
    rw [hnrm] at this
    exact this
  have hfr2 : ∀ W (a9 : Option Addr) (c9 : Nat) (b9 : Option Addr) (d9 : Nat), X2.length ≤ c9 → Y2.length ≤ d9 → Rw W a9 X2 → Rw W b9 Y2 → Tb W → Calls Tryd.prog 12 #[.agg #[.bool sg2, .slice a9 X2.length c9, .bool false, .slice b9 Y2.length d9]] W fun e W' => e = .returned (.string S) ∧ Below W.heap.size W W' := fun W a9 c9 b9 d9 e1 e2 e3 e4 e5 => by
    have := fmtr_any sg2 false a9 b9 _ c9 _ d9 X2 Y2 W rfl rfl e1 e2 (by omega) (by omega) e3 e4 e5
    rw [hzP2, hzQ2, g7, g8, r3] at this
    rw [show sv ls = .string S by unfold sv; rw [show (⟨ls.toArray⟩ : ByteArray) = S from nt_inj hS.symm]] at this
    exact this
  have HPR2 := Lib.hid hpr2
  have HIN := Lib.hid hin
  have HFR2 := Lib.hid hfr2
  have hXY : X.length ≤ 1000000 ∧ Y.length ≤ 1000000 := by omega
  have HXY := Lib.hid hXY
  have HS := Lib.hid hsm
  have HFI := Lib.hid hfi
  have HPI := Lib.hid hpi
  have HFR := Lib.hid hfr
  have HPR := Lib.hid hpr
  have HNM := Lib.hid hnm2
  have HPI2 := Lib.hid hpi2
  obtain ⟨zq, hzq⟩ : ∃ q, S.size = q := ⟨_, rfl⟩
  rw [hzq] at hs2
  clear hsm e0 hfi lP hS1 hS1l hpi hXl hYl hfr hqf hnm hQp hP hQ lR lR1 hS2 hS2l hX hY hsg hsq hpr hnm2 hpi2 hS hsz hXY hi hq hv0 hE1 r1 r2 r3 r4 r5 r6 hP2 hQ2 g7 g8 hnrm hzP2 hzQ2 hX2 hY2 hsg2 hsq2 hpr2 hin hfr2
  have hb0 := Below.alloc (Below.refl w.heap.size w) (Nat.le_refl _) (.cells #[Value.bool s, Value.slice a l.length c, Value.bool t, Value.slice b k.length d] 26)
  have hz0 := hb0.size
  go_enter Tryd.func3, Tryd.ntmps3
  go_wp2_with (first
    | (go_at_call 7; go_loud ((with_reducible refine (HS.out _).mono ?_); rintro e w1 ⟨rfl, hc1⟩; have k1_f_0 : w1.cell? ⟨w.heap.size, 0, none⟩ = some (.bool s) := bcs hc1 (by first | with_reducible assumption | with_reducible refine celAl ?_ _ <;> assumption | go_simp); have k1_f_1 : w1.cell? ⟨w.heap.size, 1, none⟩ = some (.slice a l.length c) := bcs hc1 (by first | with_reducible assumption | with_reducible refine celAl ?_ _ <;> assumption | go_simp); have k1_f_2 : w1.cell? ⟨w.heap.size, 2, none⟩ = some (.bool t) := bcs hc1 (by first | with_reducible assumption | with_reducible refine celAl ?_ _ <;> assumption | go_simp); have k1_f_3 : w1.cell? ⟨w.heap.size, 3, none⟩ = some (.slice b k.length d) := bcs hc1 (by first | with_reducible assumption | with_reducible refine celAl ?_ _ <;> assumption | go_simp); have hb1 := hb0.trans (hc1.mono hz0)))
    | (go_at_call 10; go_loud ((with_reducible refine (HFI.out _ (hT.below hb1)).mono ?_); rintro e w2 ⟨rfl, hc2⟩; have k2_f_0 : w2.cell? ⟨w.heap.size, 0, none⟩ = some (.bool s) := bcs hc2 (by first | with_reducible assumption | with_reducible refine celAl ?_ _ <;> assumption | go_simp); have k2_f_1 : w2.cell? ⟨w.heap.size, 1, none⟩ = some (.slice a l.length c) := bcs hc2 (by first | with_reducible assumption | with_reducible refine celAl ?_ _ <;> assumption | go_simp); have k2_f_2 : w2.cell? ⟨w.heap.size, 2, none⟩ = some (.bool t) := bcs hc2 (by first | with_reducible assumption | with_reducible refine celAl ?_ _ <;> assumption | go_simp); have k2_f_3 : w2.cell? ⟨w.heap.size, 3, none⟩ = some (.slice b k.length d) := bcs hc2 (by first | with_reducible assumption | with_reducible refine celAl ?_ _ <;> assumption | go_simp); have hb2 := bel_step hb1 hc2))
    | (go_at_call 9; go_loud ((with_reducible refine (HPI.out _).mono ?_); unfold dui; rintro e w3 ⟨rfl, hc3⟩; have k3_f_0 : w3.cell? ⟨w.heap.size, 0, none⟩ = some (.bool s) := bcs hc3 (by first | with_reducible assumption | with_reducible refine celAl ?_ _ <;> assumption | go_simp); have k3_f_1 : w3.cell? ⟨w.heap.size, 1, none⟩ = some (.slice a l.length c) := bcs hc3 (by first | with_reducible assumption | with_reducible refine celAl ?_ _ <;> assumption | go_simp); have k3_f_2 : w3.cell? ⟨w.heap.size, 2, none⟩ = some (.bool t) := bcs hc3 (by first | with_reducible assumption | with_reducible refine celAl ?_ _ <;> assumption | go_simp); have k3_f_3 : w3.cell? ⟨w.heap.size, 3, none⟩ = some (.slice b k.length d) := bcs hc3 (by first | with_reducible assumption | with_reducible refine celAl ?_ _ <;> assumption | go_simp); have hb3 := bel_step hb2 hc3))
    | (go_at_call 12; go_loud ((with_reducible refine (HFR.out _ (hr.below hb3) (hs.below hb3) (hT.below hb3)).mono ?_); rintro e w4 ⟨rfl, hc4⟩; have k4_f_0 : w4.cell? ⟨w.heap.size, 0, none⟩ = some (.bool s) := bcs hc4 (by first | with_reducible assumption | with_reducible refine celAl ?_ _ <;> assumption | go_simp); have k4_f_1 : w4.cell? ⟨w.heap.size, 1, none⟩ = some (.slice a l.length c) := bcs hc4 (by first | with_reducible assumption | with_reducible refine celAl ?_ _ <;> assumption | go_simp); have k4_f_2 : w4.cell? ⟨w.heap.size, 2, none⟩ = some (.bool t) := bcs hc4 (by first | with_reducible assumption | with_reducible refine celAl ?_ _ <;> assumption | go_simp); have k4_f_3 : w4.cell? ⟨w.heap.size, 3, none⟩ = some (.slice b k.length d) := bcs hc4 (by first | with_reducible assumption | with_reducible refine celAl ?_ _ <;> assumption | go_simp); have hb4 := bel_step hb3 hc4))
    | (go_at_call 11; go_loud ((with_reducible refine (HPR.out _ (hM.below hb4)).mono ?_); unfold FrK; rintro e w5 ⟨a5, c5, b5, d5, rfl, hX5, hY5, hcX, hcY, hc5⟩; have k5_f_0 : w5.cell? ⟨w.heap.size, 0, none⟩ = some (.bool s) := bcs hc5 (by first | with_reducible assumption | with_reducible refine celAl ?_ _ <;> assumption | go_simp); have k5_f_1 : w5.cell? ⟨w.heap.size, 1, none⟩ = some (.slice a l.length c) := bcs hc5 (by first | with_reducible assumption | with_reducible refine celAl ?_ _ <;> assumption | go_simp); have k5_f_2 : w5.cell? ⟨w.heap.size, 2, none⟩ = some (.bool t) := bcs hc5 (by first | with_reducible assumption | with_reducible refine celAl ?_ _ <;> assumption | go_simp); have k5_f_3 : w5.cell? ⟨w.heap.size, 3, none⟩ = some (.slice b k.length d) := bcs hc5 (by first | with_reducible assumption | with_reducible refine celAl ?_ _ <;> assumption | go_simp); have hb5 := bel_step hb4 hc5; have hb5a := belAl hb5 (.cells #[Value.bool sg, Value.slice a5 X.length c5, Value.bool false, Value.slice b5 Y.length d5] 26))))
  refine wp_region_held_drew (S := (fun w' => w'.cell? ⟨w.heap.size, 0, none⟩ = some (.bool s) ∧ w'.cell? ⟨w.heap.size, 1, none⟩ = some (.slice a l.length c) ∧ w'.cell? ⟨w.heap.size, 2, none⟩ = some (.bool t) ∧ w'.cell? ⟨w.heap.size, 3, none⟩ = some (.slice b k.length d) ∧ w'.cell? ⟨w5.heap.size, 0, none⟩ = some (.bool sg) ∧ w'.cell? ⟨w5.heap.size, 1, none⟩ = some (.slice a5 X.length c5) ∧ w'.cell? ⟨w5.heap.size, 2, none⟩ = some (.bool false) ∧ w'.cell? ⟨w5.heap.size, 3, none⟩ = some (.slice b5 Y.length d5))) (by kernel_rfl) ?_ (fun hHeld => ?_)
  · (try dsimp only); (first | with_reducible exact ⟨k7_f_0, k7_f_1, k7_f_2, k7_f_3, k7_b_0, k7_b_1, k7_b_2, k7_b_3⟩ | with_reducible exact ⟨k6_f_0, k6_f_1, k6_f_2, k6_f_3, k6_b_0, k6_b_1, k6_b_2, k6_b_3⟩ | (refine ⟨?_, ?_, ?_, ?_, ?_, ?_, ?_, ?_⟩ <;> (first | with_reducible assumption | ((repeat' first | with_reducible assumption | (with_reducible refine celAl ?_ _) | (with_reducible refine celDr ?_)); done) | (go_simp; done))))
  refine wpAnyH_take (i := 0) (oi := { dst := some 36, op := Op.move (Operand.tmp 7), type := 3, pos := "law.go:53", after := #[], guard := none }) (v := ?_) rfl (by kernel_rfl) (by kernel_rfl) (by kernel_rfl) (fun _ _ _ h => h) (Or.inl ⟨by rfl, ?_⟩) hHeld ?_
  rotate_left
  · (intro w hSw; (try dsimp only at hSw); go_simp; try with_reducible rfl)
  try simp only [Act.put, List.setIfInBounds_toArray, List.set_cons_zero, List.set_cons_succ]
  refine wpAnyH_take (i := 1) (oi := { dst := some 37, op := Op.move (Operand.tmp 0), type := 3, pos := "law.go:53", after := #[], guard := none }) (v := ?_) rfl (by kernel_rfl) (by kernel_rfl) (by kernel_rfl) (fun _ _ _ h => h) (Or.inl ⟨by rfl, ?_⟩) hHeld ?_
  rotate_left
  · (intro w hSw; (try dsimp only at hSw); go_simp; try with_reducible rfl)
  try simp only [Act.put, List.setIfInBounds_toArray, List.set_cons_zero, List.set_cons_succ]
  refine wpAnyH_take (i := 2) (oi := { dst := some 38, op := Op.binOp BinOp.neq 3 (Operand.tmp 36) (Operand.tmp 37) 3, type := 4, pos := "law.go:53", after := #[{ on := 0, ground := Ground.data }, { on := 1, ground := Ground.data }], guard := none }) (v := ?_) rfl (by kernel_rfl) (by kernel_rfl) (by kernel_rfl) (fun _ _ _ h => h) (Or.inl ⟨by rfl, ?_⟩) hHeld ?_
  rotate_left
  · (intro w hSw; (try dsimp only at hSw); go_simp; try with_reducible rfl)
  try simp only [Act.put, List.setIfInBounds_toArray, List.set_cons_zero, List.set_cons_succ]
  refine wpAnyH_take (i := 3) (oi := { dst := some 39, op := Op.move (Operand.tmp 38), type := 4, pos := "law.go:53", after := #[{ on := 2, ground := Ground.data }], guard := none }) (v := ?_) rfl (by kernel_rfl) (by kernel_rfl) (by kernel_rfl) (fun _ _ _ h => h) (Or.inl ⟨by rfl, ?_⟩) hHeld ?_
  rotate_left
  · (intro w hSw; (try dsimp only at hSw); go_simp; try with_reducible rfl)
  try simp only [Act.put, List.setIfInBounds_toArray, List.set_cons_zero, List.set_cons_succ]
  refine wpAnyH_take (i := 4) (oi := { dst := some 40, op := Op.move (Operand.tmp 8), type := 29, pos := "law.go:53", after := #[{ on := 3, ground := Ground.guard }], guard := some (3, false) }) (v := ?_) rfl (by kernel_rfl) (by kernel_rfl) (by kernel_rfl) (fun _ _ _ h => h) (Or.inl ⟨by rfl, ?_⟩) hHeld ?_
  rotate_left
  · (intro w hSw; (try dsimp only at hSw); go_simp; try with_reducible rfl)
  try simp only [Act.put, List.setIfInBounds_toArray, List.set_cons_zero, List.set_cons_succ]
  refine wpAnyH_take (i := 5) (oi := { dst := some 41, op := Op.binOp BinOp.neq 29 (Operand.tmp 40) (Operand.const (Value.int IntKind.i64 0)) 29, type := 4, pos := "law.go:53", after := #[{ on := 4, ground := Ground.data }, { on := 3, ground := Ground.guard }], guard := some (3, false) }) (v := ?_) rfl (by kernel_rfl) (by kernel_rfl) (by kernel_rfl) (fun _ _ _ h => h) (Or.inl ⟨by rfl, ?_⟩) hHeld ?_
  rotate_left
  · (intro w hSw; (try dsimp only at hSw); go_simp; try with_reducible rfl)
  try simp only [Act.put, List.setIfInBounds_toArray, List.set_cons_zero, List.set_cons_succ]
  refine wpAnyH_take (i := 6) (oi := { dst := some 42, op := Op.pick (Operand.tmp 39) (Operand.const (Value.bool true)) (Operand.tmp 41), type := 4, pos := "law.go:53", after := #[{ on := 3, ground := Ground.data }, { on := 5, ground := Ground.data }], guard := none }) (v := ?_) rfl (by kernel_rfl) (by kernel_rfl) (by kernel_rfl) (fun _ _ _ h => h) (Or.inl ⟨by rfl, ?_⟩) hHeld ?_
  rotate_left
  · (intro w hSw; (try dsimp only at hSw); go_simp; try with_reducible rfl)
  try simp only [Act.put, List.setIfInBounds_toArray, List.set_cons_zero, List.set_cons_succ]
  refine wpAnyH_take (i := 7) (oi := { dst := some 43, op := Op.move (Operand.tmp 42), type := 4, pos := "law.go:53", after := #[{ on := 6, ground := Ground.data }, { on := 3, ground := Ground.chain }], guard := none }) (v := ?_) rfl (by kernel_rfl) (by kernel_rfl) (by kernel_rfl) (fun _ _ _ h => h) (Or.inl ⟨by rfl, ?_⟩) hHeld ?_
  rotate_left
  · (intro w hSw; (try dsimp only at hSw); go_simp; try with_reducible rfl)
  try simp only [Act.put, List.setIfInBounds_toArray, List.set_cons_zero, List.set_cons_succ]
  refine wpAnyH_take (i := 8) (oi := { dst := some 44, op := Op.move (Operand.tmp 10), type := 29, pos := "law.go:53", after := #[{ on := 7, ground := Ground.guard }], guard := some (7, false) }) (v := ?_) rfl (by kernel_rfl) (by kernel_rfl) (by kernel_rfl) (fun _ _ _ h => h) (Or.inl ⟨by rfl, ?_⟩) hHeld ?_
  rotate_left
  · (intro w hSw; (try dsimp only at hSw); go_simp; try with_reducible rfl)
  try simp only [Act.put, List.setIfInBounds_toArray, List.set_cons_zero, List.set_cons_succ]
  refine wpAnyH_take (i := 9) (oi := { dst := some 45, op := Op.binOp BinOp.neq 29 (Operand.tmp 44) (Operand.const (Value.int IntKind.i64 0)) 29, type := 4, pos := "law.go:53", after := #[{ on := 8, ground := Ground.data }, { on := 7, ground := Ground.guard }], guard := some (7, false) }) (v := ?_) rfl (by kernel_rfl) (by kernel_rfl) (by kernel_rfl) (fun _ _ _ h => h) (Or.inl ⟨by rfl, ?_⟩) hHeld ?_
  rotate_left
  · (intro w hSw; (try dsimp only at hSw); go_simp; try with_reducible rfl)
  try simp only [Act.put, List.setIfInBounds_toArray, List.set_cons_zero, List.set_cons_succ]
  refine wpAnyH_take (i := 10) (oi := { dst := some 46, op := Op.pick (Operand.tmp 43) (Operand.const (Value.bool true)) (Operand.tmp 45), type := 4, pos := "law.go:53", after := #[{ on := 7, ground := Ground.data }, { on := 9, ground := Ground.data }], guard := none }) (v := ?_) rfl (by kernel_rfl) (by kernel_rfl) (by kernel_rfl) (fun _ _ _ h => h) (Or.inl ⟨by rfl, ?_⟩) hHeld ?_
  rotate_left
  · (intro w hSw; (try dsimp only at hSw); go_simp; try with_reducible rfl)
  try simp only [Act.put, List.setIfInBounds_toArray, List.set_cons_zero, List.set_cons_succ]
  refine wpAnyH_take (i := 11) (oi := { dst := some 47, op := Op.move (Operand.tmp 46), type := 4, pos := "law.go:53", after := #[{ on := 10, ground := Ground.data }, { on := 7, ground := Ground.chain }], guard := none }) (v := ?_) rfl (by kernel_rfl) (by kernel_rfl) (by kernel_rfl) (fun _ _ _ h => h) (Or.inl ⟨by rfl, ?_⟩) hHeld ?_
  rotate_left
  · (intro w hSw; (try dsimp only at hSw); go_simp; try with_reducible rfl)
  try simp only [Act.put, List.setIfInBounds_toArray, List.set_cons_zero, List.set_cons_succ]
  refine wpAnyH_take (i := 12) (oi := { dst := some 48, op := Op.load 26 (Operand.tmp 9), type := 26, pos := "law.go:53", after := #[{ on := 11, ground := Ground.guard }], guard := some (11, false) }) (v := ?_) rfl (by kernel_rfl) (by kernel_rfl) (by kernel_rfl) (fun _ _ _ h => h) (Or.inl ⟨by rfl, ?_⟩) hHeld ?_
  rotate_left
  · (intro w hSw; (try dsimp only at hSw); go_simp; try with_reducible rfl)
  try simp only [Act.put, List.setIfInBounds_toArray, List.set_cons_zero, List.set_cons_succ]
  refine wpAnyH_take (i := 13) (oi := { dst := some 49, op := Op.load 26 (Operand.tmp 4), type := 26, pos := "law.go:53", after := #[{ on := 11, ground := Ground.guard }], guard := some (11, false) }) (v := ?_) rfl (by kernel_rfl) (by kernel_rfl) (by kernel_rfl) (fun _ _ _ h => h) (Or.inl ⟨by rfl, ?_⟩) hHeld ?_
  rotate_left
  · (intro w hSw; (try dsimp only at hSw); go_simp; try with_reducible rfl)
  try simp only [Act.put, List.setIfInBounds_toArray, List.set_cons_zero, List.set_cons_succ]
  refine wpAnyH_ready (rs := [14]) (by kernel_rfl) (by simp) ?_
  refine AllReadyH.cons (o := { dst := some 50, op := Op.call { callee := Callee.value (Operand.func 14), args := #[Operand.tmp 49], argTypes := #[26] }, type := 26, pos := "law.go:53", after := #[{ on := 13, ground := Ground.data }, { on := 11, ground := Ground.chain }, { on := 11, ground := Ground.guard }], guard := some (11, false) }) rfl (fun K hK => ?_) AllReadyH.nil
  go_simp
  (go_at_call 14; go_loud ((with_reducible refine (HNM.out _ (hr.below (by (repeat' first | with_reducible assumption | with_reducible refine belDr ?_ | with_reducible refine belAl ?_ _))) (hs.below (by (repeat' first | with_reducible assumption | with_reducible refine belDr ?_ | with_reducible refine belAl ?_ _)))).mono ?_); rintro e w6 ⟨a6, c6, b6, d6, rfl, hX6, hY6, hc6⟩; have k6_f_0 : w6.cell? ⟨w.heap.size, 0, none⟩ = some (.bool s) := bcs hc6 (by first | with_reducible assumption | with_reducible refine celAl ?_ _ <;> assumption | go_simp); have k6_f_1 : w6.cell? ⟨w.heap.size, 1, none⟩ = some (.slice a l.length c) := bcs hc6 (by first | with_reducible assumption | with_reducible refine celAl ?_ _ <;> assumption | go_simp); have k6_f_2 : w6.cell? ⟨w.heap.size, 2, none⟩ = some (.bool t) := bcs hc6 (by first | with_reducible assumption | with_reducible refine celAl ?_ _ <;> assumption | go_simp); have k6_f_3 : w6.cell? ⟨w.heap.size, 3, none⟩ = some (.slice b k.length d) := bcs hc6 (by first | with_reducible assumption | with_reducible refine celAl ?_ _ <;> assumption | go_simp); have k6_b_0 : w6.cell? ⟨w5.heap.size, 0, none⟩ = some (.bool sg) := bcs hc6 (by first | with_reducible assumption | with_reducible refine celAl ?_ _ <;> assumption | go_simp); have k6_b_1 : w6.cell? ⟨w5.heap.size, 1, none⟩ = some (.slice a5 X.length c5) := bcs hc6 (by first | with_reducible assumption | with_reducible refine celAl ?_ _ <;> assumption | go_simp); have k6_b_2 : w6.cell? ⟨w5.heap.size, 2, none⟩ = some (.bool false) := bcs hc6 (by first | with_reducible assumption | with_reducible refine celAl ?_ _ <;> assumption | go_simp); have k6_b_3 : w6.cell? ⟨w5.heap.size, 3, none⟩ = some (.slice b5 Y.length d5) := bcs hc6 (by first | with_reducible assumption | with_reducible refine celAl ?_ _ <;> assumption | go_simp); have hb6 : Below w.heap.size w w6 := bel_step (by (repeat' first | with_reducible assumption | with_reducible refine belDr ?_ | with_reducible refine belAl ?_ _)) hc6; have hX5b : Rw w6 a5 X := Rw.below (by (repeat' first | with_reducible assumption | with_reducible refine Rw.dr ?_ | with_reducible refine Rw.al ?_ _)) hc6; have hY5b : Rw w6 b5 Y := Rw.below (by (repeat' first | with_reducible assumption | with_reducible refine Rw.dr ?_ | with_reducible refine Rw.al ?_ _)) hc6))
  refine hK.out _ _ ?_ (fun hHeld2 => ?_)
  · (try dsimp only); (first | with_reducible exact ⟨k7_f_0, k7_f_1, k7_f_2, k7_f_3, k7_b_0, k7_b_1, k7_b_2, k7_b_3⟩ | with_reducible exact ⟨k6_f_0, k6_f_1, k6_f_2, k6_f_3, k6_b_0, k6_b_1, k6_b_2, k6_b_3⟩ | (refine ⟨?_, ?_, ?_, ?_, ?_, ?_, ?_, ?_⟩ <;> (first | with_reducible assumption | ((repeat' first | with_reducible assumption | (with_reducible refine celAl ?_ _) | (with_reducible refine celDr ?_)); done) | (go_simp; done))))
  clear hK K hHeld
  have hHeld := hHeld2; clear hHeld2
  try simp only [Act.put, List.setIfInBounds_toArray, List.set_cons_zero, List.set_cons_succ]
  refine wpAnyH_ready (rs := [15]) (by kernel_rfl) (by simp) ?_
  refine AllReadyH.cons (o := { dst := some 51, op := Op.call { callee := Callee.value (Operand.func 13), args := #[Operand.tmp 48, Operand.tmp 50], argTypes := #[26, 26] }, type := 4, pos := "law.go:53", after := #[{ on := 12, ground := Ground.data }, { on := 14, ground := Ground.data }, { on := 14, ground := Ground.chain }, { on := 11, ground := Ground.guard }], guard := some (11, false) }) rfl (fun K hK => ?_) AllReadyH.nil
  go_simp
  (go_at_call 13; go_loud ((with_reducible refine (srat_yes sg false a5 b5 a6 b6 c5 d5 c6 d6 X Y _ HXY.out.1 HXY.out.2 hX5b hY5b hX6 hY6).mono ?_); rintro e w7 ⟨rfl, hc7⟩; have k7_f_0 : w7.cell? ⟨w.heap.size, 0, none⟩ = some (.bool s) := bcs hc7 (by first | with_reducible assumption | with_reducible refine celAl ?_ _ <;> assumption | go_simp); have k7_f_1 : w7.cell? ⟨w.heap.size, 1, none⟩ = some (.slice a l.length c) := bcs hc7 (by first | with_reducible assumption | with_reducible refine celAl ?_ _ <;> assumption | go_simp); have k7_f_2 : w7.cell? ⟨w.heap.size, 2, none⟩ = some (.bool t) := bcs hc7 (by first | with_reducible assumption | with_reducible refine celAl ?_ _ <;> assumption | go_simp); have k7_f_3 : w7.cell? ⟨w.heap.size, 3, none⟩ = some (.slice b k.length d) := bcs hc7 (by first | with_reducible assumption | with_reducible refine celAl ?_ _ <;> assumption | go_simp); have k7_b_0 : w7.cell? ⟨w5.heap.size, 0, none⟩ = some (.bool sg) := bcs hc7 (by first | with_reducible assumption | with_reducible refine celAl ?_ _ <;> assumption | go_simp); have k7_b_1 : w7.cell? ⟨w5.heap.size, 1, none⟩ = some (.slice a5 X.length c5) := bcs hc7 (by first | with_reducible assumption | with_reducible refine celAl ?_ _ <;> assumption | go_simp); have k7_b_2 : w7.cell? ⟨w5.heap.size, 2, none⟩ = some (.bool false) := bcs hc7 (by first | with_reducible assumption | with_reducible refine celAl ?_ _ <;> assumption | go_simp); have k7_b_3 : w7.cell? ⟨w5.heap.size, 3, none⟩ = some (.slice b5 Y.length d5) := bcs hc7 (by first | with_reducible assumption | with_reducible refine celAl ?_ _ <;> assumption | go_simp); have hb7 := bel_step hb6 hc7))
  refine hK.out _ _ ?_ (fun hHeld2 => ?_)
  · (try dsimp only); (first | with_reducible exact ⟨k7_f_0, k7_f_1, k7_f_2, k7_f_3, k7_b_0, k7_b_1, k7_b_2, k7_b_3⟩ | with_reducible exact ⟨k6_f_0, k6_f_1, k6_f_2, k6_f_3, k6_b_0, k6_b_1, k6_b_2, k6_b_3⟩ | (refine ⟨?_, ?_, ?_, ?_, ?_, ?_, ?_, ?_⟩ <;> (first | with_reducible assumption | ((repeat' first | with_reducible assumption | (with_reducible refine celAl ?_ _) | (with_reducible refine celDr ?_)); done) | (go_simp; done))))
  clear hK K hHeld
  have hHeld := hHeld2; clear hHeld2
  try simp only [Act.put, List.setIfInBounds_toArray, List.set_cons_zero, List.set_cons_succ]
  refine wpAnyH_take (i := 16) (oi := { dst := some 52, op := Op.unOp UnOp.not 4 (Operand.tmp 51), type := 4, pos := "law.go:53", after := #[{ on := 15, ground := Ground.data }, { on := 11, ground := Ground.guard }], guard := some (11, false) }) (v := ?_) rfl (by kernel_rfl) (by kernel_rfl) (by kernel_rfl) (fun _ _ _ h => h) (Or.inl ⟨by rfl, ?_⟩) hHeld ?_
  rotate_left
  · (intro w hSw; (try dsimp only at hSw); go_simp; try with_reducible rfl)
  try simp only [Act.put, List.setIfInBounds_toArray, List.set_cons_zero, List.set_cons_succ]
  refine wpAnyH_take (i := 17) (oi := { dst := some 53, op := Op.pick (Operand.tmp 47) (Operand.const (Value.bool true)) (Operand.tmp 52), type := 4, pos := "law.go:53", after := #[{ on := 11, ground := Ground.data }, { on := 16, ground := Ground.data }], guard := none }) (v := ?_) rfl (by kernel_rfl) (by kernel_rfl) (by kernel_rfl) (fun _ _ _ h => h) (Or.inl ⟨by rfl, ?_⟩) hHeld ?_
  rotate_left
  · (intro w hSw; (try dsimp only at hSw); go_simp; try with_reducible rfl)
  try simp only [Act.put, List.setIfInBounds_toArray, List.set_cons_zero, List.set_cons_succ]
  refine wpAnyH_done (by kernel_rfl) ?_ _
  go_wp2_with (first
    | (go_at_call 9; go_loud ((with_reducible refine (HPI2.out _).mono ?_); unfold dui; rintro e w8 ⟨rfl, hc8⟩; have hb8 := bel_step hb7 hc8))
    | (go_at_call 11; go_loud ((with_reducible refine (HPR2.out _ (hM.below hb8)).mono ?_); unfold FrK; rintro e w9 ⟨a9, c9, b9, d9, rfl, hX9, hY9, hcX9, hcY9, hc9⟩; have hb9 := bel_step hb8 hc9; have hb9a := belAl hb9 (.cells #[Value.bool sg2, Value.slice a9 X2.length c9, Value.bool false, Value.slice b9 Y2.length d9] 26); have hX9a := hX9.al (.cells #[Value.bool sg2, Value.slice a9 X2.length c9, Value.bool false, Value.slice b9 Y2.length d9] 26); have hY9a := hY9.al (.cells #[Value.bool sg2, Value.slice a9 X2.length c9, Value.bool false, Value.slice b9 Y2.length d9] 26)))
    | (go_at_call 15; go_loud ((with_reducible refine (HIN.out _ _ _ _ _ hcX9 hcY9 hX9a hY9a).mono ?_); rintro e w10 ⟨rfl, hc10⟩; have k10_d_0 : w10.cell? ⟨w9.heap.size, 0, none⟩ = some (.bool sg2) := bcs hc10 (by first | with_reducible assumption | with_reducible refine celAl ?_ _ <;> assumption | go_simp); have k10_d_1 : w10.cell? ⟨w9.heap.size, 1, none⟩ = some (.slice a9 X2.length c9) := bcs hc10 (by first | with_reducible assumption | with_reducible refine celAl ?_ _ <;> assumption | go_simp); have k10_d_2 : w10.cell? ⟨w9.heap.size, 2, none⟩ = some (.bool false) := bcs hc10 (by first | with_reducible assumption | with_reducible refine celAl ?_ _ <;> assumption | go_simp); have k10_d_3 : w10.cell? ⟨w9.heap.size, 3, none⟩ = some (.slice b9 Y2.length d9) := bcs hc10 (by first | with_reducible assumption | with_reducible refine celAl ?_ _ <;> assumption | go_simp); have hb10 := bel_step hb9a hc10))
    | (go_at_call 12; go_loud ((with_reducible refine (HFR2.out _ _ _ _ _ hcX9 hcY9 (hX9a.below hc10) (hY9a.below hc10) (hT.below hb10)).mono ?_); rintro e w11 ⟨rfl, hc11⟩; have hbE := bel_step hb10 hc11))
    | (go_at_call 8; go_loud ((with_reducible refine (ex_any _ (hT.below hbE) (hM.below hbE)).mono ?_); rintro e w12 ⟨rfl, hc12⟩; have hb12 := bel_step hbE hc12)))
  go_ret
  exact ⟨rfl, hb12⟩
set_option maxRecDepth 50000 in
set_option maxHeartbeats 8000000 in
theorem nrt_10 (nn : Int) (s t : Bool) (a b : Option Addr) (n c m d : Nat) (S : ByteArray) (w : World) (l k : List (BitVec 32)) (h0 : -9223372036854775808 ≤ nn) (h9 : nn ≤ 9223372036854775807) (hn : l.length = n) (hm : k.length = m) (hnc : n ≤ c) (hmd : m ≤ d) (hn4 : n ≤ 40) (hm4 : m ≤ 40) (hs2 : S.size ≤ 2100) (hr : Rw w a l) (hs : Rw w b k) (hT : Tb w) (hM : Mx w) (hi : iE S.data.toList = 0) (hq : qE S.data.toList ≠ 0) :
    Calls Tryd.prog 3 #[.int .i64 nn, .agg #[.bool s, .slice a n c, .bool t, .slice b m d], .string S] w fun e w' => e = .returned (.bool true) ∧ Below w.heap.size w w' := by
  subst hn hm
  obtain ⟨ls, hS⟩ : ∃ l, S.data.toList = l := ⟨_, rfl⟩
  rw [hS] at hi hq
  have hsz := str_size hS
  have hsm := fun W => small_any s t a b l.length c k.length d W (by omega) (by omega)
  have e0 : (decide (l.length ≤ 40) && decide (k.length ≤ 40)) = true := by simp; omega
  simp only [e0] at hsm
  have hfi := fun W (h : Tb W) => fmti_any nn W h0 h9 h
  have lP := zfmt_len (z := nn) (n := 2) (canon_in h0 h9) (by decide)
  unfold sv at hfi
  obtain ⟨S1, hS1⟩ : ∃ S : ByteArray, (⟨(zfmt nn).toArray⟩ : ByteArray) = S := ⟨_, rfl⟩
  have hS1l : S1.data.toList = zfmt nn := by rw [← hS1]
  have hpi := fun W => pint_any S1 (zfmt nn) W hS1l (by omega)
  rw [(iE_fmt h0 h9).1, (iE_fmt h0 h9).2] at hpi
  simp only [hS1] at hfi
  have hXl := rnN_len s t l k
  have hYl := rnD_len s t l k
  have hfr := fun W (h1 : Rw W a l) (h2 : Rw W b k) (h3 : Tb W) => fmtr_any s t a b _ c _ d l k W rfl rfl hnc hmd (by omega) (by omega) h1 h2 h3
  have hqf := qE_fmt (zv s (valD l)) (zv t (valD k)) (by omega) (by omega)
  have hnm := fun W (h1 : Rw W a l) (h2 : Rw W b k) => ratn_any s t a b _ c _ d l k W rfl rfl hnc hmd (by omega) (by omega) h1 h2
  have hQp := (rn_form (zv s (valD l)) (zv t (valD k))).1
  obtain ⟨P, hP⟩ : ∃ P, rnN (zv s (valD l)) (zv t (valD k)) = P := ⟨_, rfl⟩
  obtain ⟨Q, hQ⟩ : ∃ Q, rnD (zv s (valD l)) (zv t (valD k)) = Q := ⟨_, rfl⟩
  simp only [hP, hQ] at hXl hYl hfr hqf hnm hQp
  have lR : (fmtR P Q).length ≤ 2000000 := by
    have e1 := zfmt_len (z := P) (n := 90) (by omega) (by decide)
    have e2 := zfmt_len (z := Q) (n := 90) (by omega) (by decide)
    unfold fmtR
    split
    · omega
    · simp only [List.length_append, List.length_cons, List.length_nil]; omega
  have lR1 : (fmtR P Q).length ≤ 1000000 := by
    have f1 := dec_fit (canon P.natAbs) 90 (by omega)
    have f2 := dec_fit (canon Q.natAbs) 90 (by omega)
    rw [valD_canon] at f1 f2
    have g1 : (zfmt P).length ≤ 1000 := by unfold zfmt; split; (rw [List.length_cons]; omega); omega
    have g2 : (zfmt Q).length ≤ 1000 := by unfold zfmt; split; (rw [List.length_cons]; omega); omega
    unfold fmtR
    split
    · omega
    · simp only [List.length_append, List.length_cons, List.length_nil]; omega
  unfold sv at hfr
  obtain ⟨S2, hS2⟩ : ∃ S : ByteArray, (⟨(fmtR P Q).toArray⟩ : ByteArray) = S := ⟨_, rfl⟩
  have hS2l : S2.data.toList = fmtR P Q := by rw [← hS2]
  simp only [hS2] at hfr
  obtain ⟨X, hX⟩ : ∃ X, canon P.natAbs = X := ⟨_, rfl⟩
  obtain ⟨Y, hY⟩ : ∃ X, canon Q.natAbs = X := ⟨_, rfl⟩
  obtain ⟨sg, hsg⟩ : ∃ s, decide (P < 0) = s := ⟨_, rfl⟩
  have hsq : decide (Q < 0) = false := by simp; omega
  have hpr : ∀ W, Mx W → Calls Tryd.prog 11 #[.string S2] W (FrK W sg X Y) := fun W h => (prat_any S2 (fmtR P Q) W hS2l lR1 h).mono fun e w' h => by
    rcases h with ⟨h, _⟩ | ⟨_, a9, c9, b9, d9, g1, g2, g3, g4, g5, g6⟩
    · exact absurd hqf.1 h
    · rw [hqf.2.1] at g1 g2 g4
      rw [hqf.2.2] at g1 g3 g5
      rw [hX, hY, hsg, hsq] at g1
      rw [hX] at g2 g4
      rw [hY] at g3 g5
      exact ⟨a9, c9, b9, d9, g1, g2.rw, g3.rw, g4, g5, g6⟩
  have hnm2 : ∀ W, Rw W a l → Rw W b k → Calls Tryd.prog 14 #[.agg #[.bool s, .slice a l.length c, .bool t, .slice b k.length d]] W fun e w' => ∃ a9 c9 b9 d9, e = .returned (.agg #[.bool sg, .slice a9 X.length c9, .bool false, .slice b9 Y.length d9]) ∧ Rw w' a9 X ∧ Rw w' b9 Y ∧ Below W.heap.size W w' := fun W h1 h2 => by
    refine (hnm W h1 h2).mono ?_
    rintro e w' ⟨a9, c9, b9, d9, g1, g2, g3, g4, g5⟩
    rw [hX, hY, hsg, hsq] at g1
    rw [hX] at g2
    rw [hY] at g3
    exact ⟨a9, c9, b9, d9, g1, Rw.of_own g2, Rw.of_own g3, g5⟩
  rw [hX] at hXl
  rw [hY] at hYl
  have hpi2 := fun W => pint_any S ls W hS (by omega)
  have hv := iV_in ls
  have hib := iE_back hi
  obtain ⟨V, hV⟩ : ∃ V, iV ls = V := ⟨_, rfl⟩
  simp only [hi, hV] at hpi2
  rw [hV] at hv hib
  have hfi2 := fun W (h : Tb W) => fmti_any V W hv.1 hv.2 h
  unfold sv at hfi2
  have hSe : (⟨(zfmt V).toArray⟩ : ByteArray) = S := by rw [hib]; exact nt_inj hS.symm
  simp only [hSe] at hfi2
  have HFI2 := Lib.hid hfi2
  have hpr2 : ∀ W, Mx W → Calls Tryd.prog 11 #[.string S] W fun e w' => e = qerr (qE ls) ∧ Below W.heap.size W w' := fun W h => (prat_any S ls W hS (by omega) h).mono fun e w' h => by
    rcases h with ⟨_, h⟩ | ⟨h, _⟩
    · exact h
    · exact absurd h hq
  obtain ⟨E2, hE2⟩ : ∃ E, qE ls = E := ⟨_, rfl⟩
  simp only [hE2] at hpr2
  rw [hE2] at hq
  have qb1 : ((E2 : Int) == 0) = false := by simp; exact hq
  have qb2 : ((E2 : Int) != 0) = true := by simp; exact hq
  have HPR2 := Lib.hid hpr2
  have hXY : X.length ≤ 1000000 ∧ Y.length ≤ 1000000 := by omega
  have HXY := Lib.hid hXY
  have HS := Lib.hid hsm
  have HFI := Lib.hid hfi
  have HPI := Lib.hid hpi
  have HFR := Lib.hid hfr
  have HPR := Lib.hid hpr
  have HNM := Lib.hid hnm2
  have HPI2 := Lib.hid hpi2
  obtain ⟨zq, hzq⟩ : ∃ q, S.size = q := ⟨_, rfl⟩
  rw [hzq] at hs2
  clear hsm e0 hfi lP hS1 hS1l hpi hXl hYl hfr hqf hnm hQp hP hQ lR lR1 hS2 hS2l hX hY hsg hsq hpr hnm2 hpi2 hS hsz hXY hi hq hv hib hV hfi2 hSe hE2 hpr2
  have hb0 := Below.alloc (Below.refl w.heap.size w) (Nat.le_refl _) (.cells #[Value.bool s, Value.slice a l.length c, Value.bool t, Value.slice b k.length d] 26)
  have hz0 := hb0.size
  go_enter Tryd.func3, Tryd.ntmps3
  go_wp2_with (first
    | (go_at_call 7; go_loud ((with_reducible refine (HS.out _).mono ?_); rintro e w1 ⟨rfl, hc1⟩; have k1_f_0 : w1.cell? ⟨w.heap.size, 0, none⟩ = some (.bool s) := bcs hc1 (by first | with_reducible assumption | with_reducible refine celAl ?_ _ <;> assumption | go_simp); have k1_f_1 : w1.cell? ⟨w.heap.size, 1, none⟩ = some (.slice a l.length c) := bcs hc1 (by first | with_reducible assumption | with_reducible refine celAl ?_ _ <;> assumption | go_simp); have k1_f_2 : w1.cell? ⟨w.heap.size, 2, none⟩ = some (.bool t) := bcs hc1 (by first | with_reducible assumption | with_reducible refine celAl ?_ _ <;> assumption | go_simp); have k1_f_3 : w1.cell? ⟨w.heap.size, 3, none⟩ = some (.slice b k.length d) := bcs hc1 (by first | with_reducible assumption | with_reducible refine celAl ?_ _ <;> assumption | go_simp); have hb1 := hb0.trans (hc1.mono hz0)))
    | (go_at_call 10; go_loud ((with_reducible refine (HFI.out _ (hT.below hb1)).mono ?_); rintro e w2 ⟨rfl, hc2⟩; have k2_f_0 : w2.cell? ⟨w.heap.size, 0, none⟩ = some (.bool s) := bcs hc2 (by first | with_reducible assumption | with_reducible refine celAl ?_ _ <;> assumption | go_simp); have k2_f_1 : w2.cell? ⟨w.heap.size, 1, none⟩ = some (.slice a l.length c) := bcs hc2 (by first | with_reducible assumption | with_reducible refine celAl ?_ _ <;> assumption | go_simp); have k2_f_2 : w2.cell? ⟨w.heap.size, 2, none⟩ = some (.bool t) := bcs hc2 (by first | with_reducible assumption | with_reducible refine celAl ?_ _ <;> assumption | go_simp); have k2_f_3 : w2.cell? ⟨w.heap.size, 3, none⟩ = some (.slice b k.length d) := bcs hc2 (by first | with_reducible assumption | with_reducible refine celAl ?_ _ <;> assumption | go_simp); have hb2 := bel_step hb1 hc2))
    | (go_at_call 9; go_loud ((with_reducible refine (HPI.out _).mono ?_); unfold dui; rintro e w3 ⟨rfl, hc3⟩; have k3_f_0 : w3.cell? ⟨w.heap.size, 0, none⟩ = some (.bool s) := bcs hc3 (by first | with_reducible assumption | with_reducible refine celAl ?_ _ <;> assumption | go_simp); have k3_f_1 : w3.cell? ⟨w.heap.size, 1, none⟩ = some (.slice a l.length c) := bcs hc3 (by first | with_reducible assumption | with_reducible refine celAl ?_ _ <;> assumption | go_simp); have k3_f_2 : w3.cell? ⟨w.heap.size, 2, none⟩ = some (.bool t) := bcs hc3 (by first | with_reducible assumption | with_reducible refine celAl ?_ _ <;> assumption | go_simp); have k3_f_3 : w3.cell? ⟨w.heap.size, 3, none⟩ = some (.slice b k.length d) := bcs hc3 (by first | with_reducible assumption | with_reducible refine celAl ?_ _ <;> assumption | go_simp); have hb3 := bel_step hb2 hc3))
    | (go_at_call 12; go_loud ((with_reducible refine (HFR.out _ (hr.below hb3) (hs.below hb3) (hT.below hb3)).mono ?_); rintro e w4 ⟨rfl, hc4⟩; have k4_f_0 : w4.cell? ⟨w.heap.size, 0, none⟩ = some (.bool s) := bcs hc4 (by first | with_reducible assumption | with_reducible refine celAl ?_ _ <;> assumption | go_simp); have k4_f_1 : w4.cell? ⟨w.heap.size, 1, none⟩ = some (.slice a l.length c) := bcs hc4 (by first | with_reducible assumption | with_reducible refine celAl ?_ _ <;> assumption | go_simp); have k4_f_2 : w4.cell? ⟨w.heap.size, 2, none⟩ = some (.bool t) := bcs hc4 (by first | with_reducible assumption | with_reducible refine celAl ?_ _ <;> assumption | go_simp); have k4_f_3 : w4.cell? ⟨w.heap.size, 3, none⟩ = some (.slice b k.length d) := bcs hc4 (by first | with_reducible assumption | with_reducible refine celAl ?_ _ <;> assumption | go_simp); have hb4 := bel_step hb3 hc4))
    | (go_at_call 11; go_loud ((with_reducible refine (HPR.out _ (hM.below hb4)).mono ?_); unfold FrK; rintro e w5 ⟨a5, c5, b5, d5, rfl, hX5, hY5, hcX, hcY, hc5⟩; have k5_f_0 : w5.cell? ⟨w.heap.size, 0, none⟩ = some (.bool s) := bcs hc5 (by first | with_reducible assumption | with_reducible refine celAl ?_ _ <;> assumption | go_simp); have k5_f_1 : w5.cell? ⟨w.heap.size, 1, none⟩ = some (.slice a l.length c) := bcs hc5 (by first | with_reducible assumption | with_reducible refine celAl ?_ _ <;> assumption | go_simp); have k5_f_2 : w5.cell? ⟨w.heap.size, 2, none⟩ = some (.bool t) := bcs hc5 (by first | with_reducible assumption | with_reducible refine celAl ?_ _ <;> assumption | go_simp); have k5_f_3 : w5.cell? ⟨w.heap.size, 3, none⟩ = some (.slice b k.length d) := bcs hc5 (by first | with_reducible assumption | with_reducible refine celAl ?_ _ <;> assumption | go_simp); have hb5 := bel_step hb4 hc5; have hb5a := belAl hb5 (.cells #[Value.bool sg, Value.slice a5 X.length c5, Value.bool false, Value.slice b5 Y.length d5] 26))))
  refine wp_region_held_drew (S := (fun w' => w'.cell? ⟨w.heap.size, 0, none⟩ = some (.bool s) ∧ w'.cell? ⟨w.heap.size, 1, none⟩ = some (.slice a l.length c) ∧ w'.cell? ⟨w.heap.size, 2, none⟩ = some (.bool t) ∧ w'.cell? ⟨w.heap.size, 3, none⟩ = some (.slice b k.length d) ∧ w'.cell? ⟨w5.heap.size, 0, none⟩ = some (.bool sg) ∧ w'.cell? ⟨w5.heap.size, 1, none⟩ = some (.slice a5 X.length c5) ∧ w'.cell? ⟨w5.heap.size, 2, none⟩ = some (.bool false) ∧ w'.cell? ⟨w5.heap.size, 3, none⟩ = some (.slice b5 Y.length d5))) (by kernel_rfl) ?_ (fun hHeld => ?_)
  · (try dsimp only); (first | with_reducible exact ⟨k7_f_0, k7_f_1, k7_f_2, k7_f_3, k7_b_0, k7_b_1, k7_b_2, k7_b_3⟩ | with_reducible exact ⟨k6_f_0, k6_f_1, k6_f_2, k6_f_3, k6_b_0, k6_b_1, k6_b_2, k6_b_3⟩ | (refine ⟨?_, ?_, ?_, ?_, ?_, ?_, ?_, ?_⟩ <;> (first | with_reducible assumption | ((repeat' first | with_reducible assumption | (with_reducible refine celAl ?_ _) | (with_reducible refine celDr ?_)); done) | (go_simp; done))))
  refine wpAnyH_take (i := 0) (oi := { dst := some 36, op := Op.move (Operand.tmp 7), type := 3, pos := "law.go:53", after := #[], guard := none }) (v := ?_) rfl (by kernel_rfl) (by kernel_rfl) (by kernel_rfl) (fun _ _ _ h => h) (Or.inl ⟨by rfl, ?_⟩) hHeld ?_
  rotate_left
  · (intro w hSw; (try dsimp only at hSw); go_simp; try with_reducible rfl)
  try simp only [Act.put, List.setIfInBounds_toArray, List.set_cons_zero, List.set_cons_succ]
  refine wpAnyH_take (i := 1) (oi := { dst := some 37, op := Op.move (Operand.tmp 0), type := 3, pos := "law.go:53", after := #[], guard := none }) (v := ?_) rfl (by kernel_rfl) (by kernel_rfl) (by kernel_rfl) (fun _ _ _ h => h) (Or.inl ⟨by rfl, ?_⟩) hHeld ?_
  rotate_left
  · (intro w hSw; (try dsimp only at hSw); go_simp; try with_reducible rfl)
  try simp only [Act.put, List.setIfInBounds_toArray, List.set_cons_zero, List.set_cons_succ]
  refine wpAnyH_take (i := 2) (oi := { dst := some 38, op := Op.binOp BinOp.neq 3 (Operand.tmp 36) (Operand.tmp 37) 3, type := 4, pos := "law.go:53", after := #[{ on := 0, ground := Ground.data }, { on := 1, ground := Ground.data }], guard := none }) (v := ?_) rfl (by kernel_rfl) (by kernel_rfl) (by kernel_rfl) (fun _ _ _ h => h) (Or.inl ⟨by rfl, ?_⟩) hHeld ?_
  rotate_left
  · (intro w hSw; (try dsimp only at hSw); go_simp; try with_reducible rfl)
  try simp only [Act.put, List.setIfInBounds_toArray, List.set_cons_zero, List.set_cons_succ]
  refine wpAnyH_take (i := 3) (oi := { dst := some 39, op := Op.move (Operand.tmp 38), type := 4, pos := "law.go:53", after := #[{ on := 2, ground := Ground.data }], guard := none }) (v := ?_) rfl (by kernel_rfl) (by kernel_rfl) (by kernel_rfl) (fun _ _ _ h => h) (Or.inl ⟨by rfl, ?_⟩) hHeld ?_
  rotate_left
  · (intro w hSw; (try dsimp only at hSw); go_simp; try with_reducible rfl)
  try simp only [Act.put, List.setIfInBounds_toArray, List.set_cons_zero, List.set_cons_succ]
  refine wpAnyH_take (i := 4) (oi := { dst := some 40, op := Op.move (Operand.tmp 8), type := 29, pos := "law.go:53", after := #[{ on := 3, ground := Ground.guard }], guard := some (3, false) }) (v := ?_) rfl (by kernel_rfl) (by kernel_rfl) (by kernel_rfl) (fun _ _ _ h => h) (Or.inl ⟨by rfl, ?_⟩) hHeld ?_
  rotate_left
  · (intro w hSw; (try dsimp only at hSw); go_simp; try with_reducible rfl)
  try simp only [Act.put, List.setIfInBounds_toArray, List.set_cons_zero, List.set_cons_succ]
  refine wpAnyH_take (i := 5) (oi := { dst := some 41, op := Op.binOp BinOp.neq 29 (Operand.tmp 40) (Operand.const (Value.int IntKind.i64 0)) 29, type := 4, pos := "law.go:53", after := #[{ on := 4, ground := Ground.data }, { on := 3, ground := Ground.guard }], guard := some (3, false) }) (v := ?_) rfl (by kernel_rfl) (by kernel_rfl) (by kernel_rfl) (fun _ _ _ h => h) (Or.inl ⟨by rfl, ?_⟩) hHeld ?_
  rotate_left
  · (intro w hSw; (try dsimp only at hSw); go_simp; try with_reducible rfl)
  try simp only [Act.put, List.setIfInBounds_toArray, List.set_cons_zero, List.set_cons_succ]
  refine wpAnyH_take (i := 6) (oi := { dst := some 42, op := Op.pick (Operand.tmp 39) (Operand.const (Value.bool true)) (Operand.tmp 41), type := 4, pos := "law.go:53", after := #[{ on := 3, ground := Ground.data }, { on := 5, ground := Ground.data }], guard := none }) (v := ?_) rfl (by kernel_rfl) (by kernel_rfl) (by kernel_rfl) (fun _ _ _ h => h) (Or.inl ⟨by rfl, ?_⟩) hHeld ?_
  rotate_left
  · (intro w hSw; (try dsimp only at hSw); go_simp; try with_reducible rfl)
  try simp only [Act.put, List.setIfInBounds_toArray, List.set_cons_zero, List.set_cons_succ]
  refine wpAnyH_take (i := 7) (oi := { dst := some 43, op := Op.move (Operand.tmp 42), type := 4, pos := "law.go:53", after := #[{ on := 6, ground := Ground.data }, { on := 3, ground := Ground.chain }], guard := none }) (v := ?_) rfl (by kernel_rfl) (by kernel_rfl) (by kernel_rfl) (fun _ _ _ h => h) (Or.inl ⟨by rfl, ?_⟩) hHeld ?_
  rotate_left
  · (intro w hSw; (try dsimp only at hSw); go_simp; try with_reducible rfl)
  try simp only [Act.put, List.setIfInBounds_toArray, List.set_cons_zero, List.set_cons_succ]
  refine wpAnyH_take (i := 8) (oi := { dst := some 44, op := Op.move (Operand.tmp 10), type := 29, pos := "law.go:53", after := #[{ on := 7, ground := Ground.guard }], guard := some (7, false) }) (v := ?_) rfl (by kernel_rfl) (by kernel_rfl) (by kernel_rfl) (fun _ _ _ h => h) (Or.inl ⟨by rfl, ?_⟩) hHeld ?_
  rotate_left
  · (intro w hSw; (try dsimp only at hSw); go_simp; try with_reducible rfl)
  try simp only [Act.put, List.setIfInBounds_toArray, List.set_cons_zero, List.set_cons_succ]
  refine wpAnyH_take (i := 9) (oi := { dst := some 45, op := Op.binOp BinOp.neq 29 (Operand.tmp 44) (Operand.const (Value.int IntKind.i64 0)) 29, type := 4, pos := "law.go:53", after := #[{ on := 8, ground := Ground.data }, { on := 7, ground := Ground.guard }], guard := some (7, false) }) (v := ?_) rfl (by kernel_rfl) (by kernel_rfl) (by kernel_rfl) (fun _ _ _ h => h) (Or.inl ⟨by rfl, ?_⟩) hHeld ?_
  rotate_left
  · (intro w hSw; (try dsimp only at hSw); go_simp; try with_reducible rfl)
  try simp only [Act.put, List.setIfInBounds_toArray, List.set_cons_zero, List.set_cons_succ]
  refine wpAnyH_take (i := 10) (oi := { dst := some 46, op := Op.pick (Operand.tmp 43) (Operand.const (Value.bool true)) (Operand.tmp 45), type := 4, pos := "law.go:53", after := #[{ on := 7, ground := Ground.data }, { on := 9, ground := Ground.data }], guard := none }) (v := ?_) rfl (by kernel_rfl) (by kernel_rfl) (by kernel_rfl) (fun _ _ _ h => h) (Or.inl ⟨by rfl, ?_⟩) hHeld ?_
  rotate_left
  · (intro w hSw; (try dsimp only at hSw); go_simp; try with_reducible rfl)
  try simp only [Act.put, List.setIfInBounds_toArray, List.set_cons_zero, List.set_cons_succ]
  refine wpAnyH_take (i := 11) (oi := { dst := some 47, op := Op.move (Operand.tmp 46), type := 4, pos := "law.go:53", after := #[{ on := 10, ground := Ground.data }, { on := 7, ground := Ground.chain }], guard := none }) (v := ?_) rfl (by kernel_rfl) (by kernel_rfl) (by kernel_rfl) (fun _ _ _ h => h) (Or.inl ⟨by rfl, ?_⟩) hHeld ?_
  rotate_left
  · (intro w hSw; (try dsimp only at hSw); go_simp; try with_reducible rfl)
  try simp only [Act.put, List.setIfInBounds_toArray, List.set_cons_zero, List.set_cons_succ]
  refine wpAnyH_take (i := 12) (oi := { dst := some 48, op := Op.load 26 (Operand.tmp 9), type := 26, pos := "law.go:53", after := #[{ on := 11, ground := Ground.guard }], guard := some (11, false) }) (v := ?_) rfl (by kernel_rfl) (by kernel_rfl) (by kernel_rfl) (fun _ _ _ h => h) (Or.inl ⟨by rfl, ?_⟩) hHeld ?_
  rotate_left
  · (intro w hSw; (try dsimp only at hSw); go_simp; try with_reducible rfl)
  try simp only [Act.put, List.setIfInBounds_toArray, List.set_cons_zero, List.set_cons_succ]
  refine wpAnyH_take (i := 13) (oi := { dst := some 49, op := Op.load 26 (Operand.tmp 4), type := 26, pos := "law.go:53", after := #[{ on := 11, ground := Ground.guard }], guard := some (11, false) }) (v := ?_) rfl (by kernel_rfl) (by kernel_rfl) (by kernel_rfl) (fun _ _ _ h => h) (Or.inl ⟨by rfl, ?_⟩) hHeld ?_
  rotate_left
  · (intro w hSw; (try dsimp only at hSw); go_simp; try with_reducible rfl)
  try simp only [Act.put, List.setIfInBounds_toArray, List.set_cons_zero, List.set_cons_succ]
  refine wpAnyH_ready (rs := [14]) (by kernel_rfl) (by simp) ?_
  refine AllReadyH.cons (o := { dst := some 50, op := Op.call { callee := Callee.value (Operand.func 14), args := #[Operand.tmp 49], argTypes := #[26] }, type := 26, pos := "law.go:53", after := #[{ on := 13, ground := Ground.data }, { on := 11, ground := Ground.chain }, { on := 11, ground := Ground.guard }], guard := some (11, false) }) rfl (fun K hK => ?_) AllReadyH.nil
  go_simp
  (go_at_call 14; go_loud ((with_reducible refine (HNM.out _ (hr.below (by (repeat' first | with_reducible assumption | with_reducible refine belDr ?_ | with_reducible refine belAl ?_ _))) (hs.below (by (repeat' first | with_reducible assumption | with_reducible refine belDr ?_ | with_reducible refine belAl ?_ _)))).mono ?_); rintro e w6 ⟨a6, c6, b6, d6, rfl, hX6, hY6, hc6⟩; have k6_f_0 : w6.cell? ⟨w.heap.size, 0, none⟩ = some (.bool s) := bcs hc6 (by first | with_reducible assumption | with_reducible refine celAl ?_ _ <;> assumption | go_simp); have k6_f_1 : w6.cell? ⟨w.heap.size, 1, none⟩ = some (.slice a l.length c) := bcs hc6 (by first | with_reducible assumption | with_reducible refine celAl ?_ _ <;> assumption | go_simp); have k6_f_2 : w6.cell? ⟨w.heap.size, 2, none⟩ = some (.bool t) := bcs hc6 (by first | with_reducible assumption | with_reducible refine celAl ?_ _ <;> assumption | go_simp); have k6_f_3 : w6.cell? ⟨w.heap.size, 3, none⟩ = some (.slice b k.length d) := bcs hc6 (by first | with_reducible assumption | with_reducible refine celAl ?_ _ <;> assumption | go_simp); have k6_b_0 : w6.cell? ⟨w5.heap.size, 0, none⟩ = some (.bool sg) := bcs hc6 (by first | with_reducible assumption | with_reducible refine celAl ?_ _ <;> assumption | go_simp); have k6_b_1 : w6.cell? ⟨w5.heap.size, 1, none⟩ = some (.slice a5 X.length c5) := bcs hc6 (by first | with_reducible assumption | with_reducible refine celAl ?_ _ <;> assumption | go_simp); have k6_b_2 : w6.cell? ⟨w5.heap.size, 2, none⟩ = some (.bool false) := bcs hc6 (by first | with_reducible assumption | with_reducible refine celAl ?_ _ <;> assumption | go_simp); have k6_b_3 : w6.cell? ⟨w5.heap.size, 3, none⟩ = some (.slice b5 Y.length d5) := bcs hc6 (by first | with_reducible assumption | with_reducible refine celAl ?_ _ <;> assumption | go_simp); have hb6 : Below w.heap.size w w6 := bel_step (by (repeat' first | with_reducible assumption | with_reducible refine belDr ?_ | with_reducible refine belAl ?_ _)) hc6; have hX5b : Rw w6 a5 X := Rw.below (by (repeat' first | with_reducible assumption | with_reducible refine Rw.dr ?_ | with_reducible refine Rw.al ?_ _)) hc6; have hY5b : Rw w6 b5 Y := Rw.below (by (repeat' first | with_reducible assumption | with_reducible refine Rw.dr ?_ | with_reducible refine Rw.al ?_ _)) hc6))
  refine hK.out _ _ ?_ (fun hHeld2 => ?_)
  · (try dsimp only); (first | with_reducible exact ⟨k7_f_0, k7_f_1, k7_f_2, k7_f_3, k7_b_0, k7_b_1, k7_b_2, k7_b_3⟩ | with_reducible exact ⟨k6_f_0, k6_f_1, k6_f_2, k6_f_3, k6_b_0, k6_b_1, k6_b_2, k6_b_3⟩ | (refine ⟨?_, ?_, ?_, ?_, ?_, ?_, ?_, ?_⟩ <;> (first | with_reducible assumption | ((repeat' first | with_reducible assumption | (with_reducible refine celAl ?_ _) | (with_reducible refine celDr ?_)); done) | (go_simp; done))))
  clear hK K hHeld
  have hHeld := hHeld2; clear hHeld2
  try simp only [Act.put, List.setIfInBounds_toArray, List.set_cons_zero, List.set_cons_succ]
  refine wpAnyH_ready (rs := [15]) (by kernel_rfl) (by simp) ?_
  refine AllReadyH.cons (o := { dst := some 51, op := Op.call { callee := Callee.value (Operand.func 13), args := #[Operand.tmp 48, Operand.tmp 50], argTypes := #[26, 26] }, type := 4, pos := "law.go:53", after := #[{ on := 12, ground := Ground.data }, { on := 14, ground := Ground.data }, { on := 14, ground := Ground.chain }, { on := 11, ground := Ground.guard }], guard := some (11, false) }) rfl (fun K hK => ?_) AllReadyH.nil
  go_simp
  (go_at_call 13; go_loud ((with_reducible refine (srat_yes sg false a5 b5 a6 b6 c5 d5 c6 d6 X Y _ HXY.out.1 HXY.out.2 hX5b hY5b hX6 hY6).mono ?_); rintro e w7 ⟨rfl, hc7⟩; have k7_f_0 : w7.cell? ⟨w.heap.size, 0, none⟩ = some (.bool s) := bcs hc7 (by first | with_reducible assumption | with_reducible refine celAl ?_ _ <;> assumption | go_simp); have k7_f_1 : w7.cell? ⟨w.heap.size, 1, none⟩ = some (.slice a l.length c) := bcs hc7 (by first | with_reducible assumption | with_reducible refine celAl ?_ _ <;> assumption | go_simp); have k7_f_2 : w7.cell? ⟨w.heap.size, 2, none⟩ = some (.bool t) := bcs hc7 (by first | with_reducible assumption | with_reducible refine celAl ?_ _ <;> assumption | go_simp); have k7_f_3 : w7.cell? ⟨w.heap.size, 3, none⟩ = some (.slice b k.length d) := bcs hc7 (by first | with_reducible assumption | with_reducible refine celAl ?_ _ <;> assumption | go_simp); have k7_b_0 : w7.cell? ⟨w5.heap.size, 0, none⟩ = some (.bool sg) := bcs hc7 (by first | with_reducible assumption | with_reducible refine celAl ?_ _ <;> assumption | go_simp); have k7_b_1 : w7.cell? ⟨w5.heap.size, 1, none⟩ = some (.slice a5 X.length c5) := bcs hc7 (by first | with_reducible assumption | with_reducible refine celAl ?_ _ <;> assumption | go_simp); have k7_b_2 : w7.cell? ⟨w5.heap.size, 2, none⟩ = some (.bool false) := bcs hc7 (by first | with_reducible assumption | with_reducible refine celAl ?_ _ <;> assumption | go_simp); have k7_b_3 : w7.cell? ⟨w5.heap.size, 3, none⟩ = some (.slice b5 Y.length d5) := bcs hc7 (by first | with_reducible assumption | with_reducible refine celAl ?_ _ <;> assumption | go_simp); have hb7 := bel_step hb6 hc7))
  refine hK.out _ _ ?_ (fun hHeld2 => ?_)
  · (try dsimp only); (first | with_reducible exact ⟨k7_f_0, k7_f_1, k7_f_2, k7_f_3, k7_b_0, k7_b_1, k7_b_2, k7_b_3⟩ | with_reducible exact ⟨k6_f_0, k6_f_1, k6_f_2, k6_f_3, k6_b_0, k6_b_1, k6_b_2, k6_b_3⟩ | (refine ⟨?_, ?_, ?_, ?_, ?_, ?_, ?_, ?_⟩ <;> (first | with_reducible assumption | ((repeat' first | with_reducible assumption | (with_reducible refine celAl ?_ _) | (with_reducible refine celDr ?_)); done) | (go_simp; done))))
  clear hK K hHeld
  have hHeld := hHeld2; clear hHeld2
  try simp only [Act.put, List.setIfInBounds_toArray, List.set_cons_zero, List.set_cons_succ]
  refine wpAnyH_take (i := 16) (oi := { dst := some 52, op := Op.unOp UnOp.not 4 (Operand.tmp 51), type := 4, pos := "law.go:53", after := #[{ on := 15, ground := Ground.data }, { on := 11, ground := Ground.guard }], guard := some (11, false) }) (v := ?_) rfl (by kernel_rfl) (by kernel_rfl) (by kernel_rfl) (fun _ _ _ h => h) (Or.inl ⟨by rfl, ?_⟩) hHeld ?_
  rotate_left
  · (intro w hSw; (try dsimp only at hSw); go_simp; try with_reducible rfl)
  try simp only [Act.put, List.setIfInBounds_toArray, List.set_cons_zero, List.set_cons_succ]
  refine wpAnyH_take (i := 17) (oi := { dst := some 53, op := Op.pick (Operand.tmp 47) (Operand.const (Value.bool true)) (Operand.tmp 52), type := 4, pos := "law.go:53", after := #[{ on := 11, ground := Ground.data }, { on := 16, ground := Ground.data }], guard := none }) (v := ?_) rfl (by kernel_rfl) (by kernel_rfl) (by kernel_rfl) (fun _ _ _ h => h) (Or.inl ⟨by rfl, ?_⟩) hHeld ?_
  rotate_left
  · (intro w hSw; (try dsimp only at hSw); go_simp; try with_reducible rfl)
  try simp only [Act.put, List.setIfInBounds_toArray, List.set_cons_zero, List.set_cons_succ]
  refine wpAnyH_done (by kernel_rfl) ?_ _
  go_wp2_with (first
    | (go_at_call 9; go_loud ((with_reducible refine (HPI2.out _).mono ?_); unfold dui; rintro e w8 ⟨rfl, hc8⟩; have hb8 := bel_step hb7 hc8))
    | (go_at_call 10; go_loud ((with_reducible refine (HFI2.out _ (hT.below hb8)).mono ?_); rintro e w8b ⟨rfl, hc8b⟩; have hb8b := bel_step hb8 hc8b))
    | (go_at_call 11; go_loud ((with_reducible refine (HPR2.out _ (hM.below hb8b)).mono ?_); unfold qerr; rintro e w9 ⟨rfl, hc9⟩; have hb9 := bel_step hb8b hc9; have hbE := belAl hb9 (.cells #[Value.bool false, Value.slice none 0 0, Value.bool false, Value.slice none 0 0] 26)))
    | (go_at_call 8; go_loud ((with_reducible refine (ex_any _ (hT.below hbE) (hM.below hbE)).mono ?_); rintro e w12 ⟨rfl, hc12⟩; have hb12 := bel_step hbE hc12)))
  go_ret
  exact ⟨rfl, hb12⟩
set_option maxRecDepth 50000 in
set_option maxHeartbeats 8000000 in
theorem nrt_11 (nn : Int) (s t : Bool) (a b : Option Addr) (n c m d : Nat) (S : ByteArray) (w : World) (l k : List (BitVec 32)) (h0 : -9223372036854775808 ≤ nn) (h9 : nn ≤ 9223372036854775807) (hn : l.length = n) (hm : k.length = m) (hnc : n ≤ c) (hmd : m ≤ d) (hn4 : n ≤ 40) (hm4 : m ≤ 40) (hs2 : S.size ≤ 2100) (hr : Rw w a l) (hs : Rw w b k) (hT : Tb w) (hM : Mx w) (hi : iE S.data.toList = 0) (hq : qE S.data.toList = 0) :
    Calls Tryd.prog 3 #[.int .i64 nn, .agg #[.bool s, .slice a n c, .bool t, .slice b m d], .string S] w fun e w' => e = .returned (.bool true) ∧ Below w.heap.size w w' := by
  subst hn hm
  obtain ⟨ls, hS⟩ : ∃ l, S.data.toList = l := ⟨_, rfl⟩
  rw [hS] at hi hq
  have hsz := str_size hS
  have hsm := fun W => small_any s t a b l.length c k.length d W (by omega) (by omega)
  have e0 : (decide (l.length ≤ 40) && decide (k.length ≤ 40)) = true := by simp; omega
  simp only [e0] at hsm
  have hfi := fun W (h : Tb W) => fmti_any nn W h0 h9 h
  have lP := zfmt_len (z := nn) (n := 2) (canon_in h0 h9) (by decide)
  unfold sv at hfi
  obtain ⟨S1, hS1⟩ : ∃ S : ByteArray, (⟨(zfmt nn).toArray⟩ : ByteArray) = S := ⟨_, rfl⟩
  have hS1l : S1.data.toList = zfmt nn := by rw [← hS1]
  have hpi := fun W => pint_any S1 (zfmt nn) W hS1l (by omega)
  rw [(iE_fmt h0 h9).1, (iE_fmt h0 h9).2] at hpi
  simp only [hS1] at hfi
  have hXl := rnN_len s t l k
  have hYl := rnD_len s t l k
  have hfr := fun W (h1 : Rw W a l) (h2 : Rw W b k) (h3 : Tb W) => fmtr_any s t a b _ c _ d l k W rfl rfl hnc hmd (by omega) (by omega) h1 h2 h3
  have hqf := qE_fmt (zv s (valD l)) (zv t (valD k)) (by omega) (by omega)
  have hnm := fun W (h1 : Rw W a l) (h2 : Rw W b k) => ratn_any s t a b _ c _ d l k W rfl rfl hnc hmd (by omega) (by omega) h1 h2
  have hQp := (rn_form (zv s (valD l)) (zv t (valD k))).1
  obtain ⟨P, hP⟩ : ∃ P, rnN (zv s (valD l)) (zv t (valD k)) = P := ⟨_, rfl⟩
  obtain ⟨Q, hQ⟩ : ∃ Q, rnD (zv s (valD l)) (zv t (valD k)) = Q := ⟨_, rfl⟩
  simp only [hP, hQ] at hXl hYl hfr hqf hnm hQp
  have lR : (fmtR P Q).length ≤ 2000000 := by
    have e1 := zfmt_len (z := P) (n := 90) (by omega) (by decide)
    have e2 := zfmt_len (z := Q) (n := 90) (by omega) (by decide)
    unfold fmtR
    split
    · omega
    · simp only [List.length_append, List.length_cons, List.length_nil]; omega
  have lR1 : (fmtR P Q).length ≤ 1000000 := by
    have f1 := dec_fit (canon P.natAbs) 90 (by omega)
    have f2 := dec_fit (canon Q.natAbs) 90 (by omega)
    rw [valD_canon] at f1 f2
    have g1 : (zfmt P).length ≤ 1000 := by unfold zfmt; split; (rw [List.length_cons]; omega); omega
    have g2 : (zfmt Q).length ≤ 1000 := by unfold zfmt; split; (rw [List.length_cons]; omega); omega
    unfold fmtR
    split
    · omega
    · simp only [List.length_append, List.length_cons, List.length_nil]; omega
  unfold sv at hfr
  obtain ⟨S2, hS2⟩ : ∃ S : ByteArray, (⟨(fmtR P Q).toArray⟩ : ByteArray) = S := ⟨_, rfl⟩
  have hS2l : S2.data.toList = fmtR P Q := by rw [← hS2]
  simp only [hS2] at hfr
  obtain ⟨X, hX⟩ : ∃ X, canon P.natAbs = X := ⟨_, rfl⟩
  obtain ⟨Y, hY⟩ : ∃ X, canon Q.natAbs = X := ⟨_, rfl⟩
  obtain ⟨sg, hsg⟩ : ∃ s, decide (P < 0) = s := ⟨_, rfl⟩
  have hsq : decide (Q < 0) = false := by simp; omega
  have hpr : ∀ W, Mx W → Calls Tryd.prog 11 #[.string S2] W (FrK W sg X Y) := fun W h => (prat_any S2 (fmtR P Q) W hS2l lR1 h).mono fun e w' h => by
    rcases h with ⟨h, _⟩ | ⟨_, a9, c9, b9, d9, g1, g2, g3, g4, g5, g6⟩
    · exact absurd hqf.1 h
    · rw [hqf.2.1] at g1 g2 g4
      rw [hqf.2.2] at g1 g3 g5
      rw [hX, hY, hsg, hsq] at g1
      rw [hX] at g2 g4
      rw [hY] at g3 g5
      exact ⟨a9, c9, b9, d9, g1, g2.rw, g3.rw, g4, g5, g6⟩
  have hnm2 : ∀ W, Rw W a l → Rw W b k → Calls Tryd.prog 14 #[.agg #[.bool s, .slice a l.length c, .bool t, .slice b k.length d]] W fun e w' => ∃ a9 c9 b9 d9, e = .returned (.agg #[.bool sg, .slice a9 X.length c9, .bool false, .slice b9 Y.length d9]) ∧ Rw w' a9 X ∧ Rw w' b9 Y ∧ Below W.heap.size W w' := fun W h1 h2 => by
    refine (hnm W h1 h2).mono ?_
    rintro e w' ⟨a9, c9, b9, d9, g1, g2, g3, g4, g5⟩
    rw [hX, hY, hsg, hsq] at g1
    rw [hX] at g2
    rw [hY] at g3
    exact ⟨a9, c9, b9, d9, g1, Rw.of_own g2, Rw.of_own g3, g5⟩
  rw [hX] at hXl
  rw [hY] at hYl
  have hpi2 := fun W => pint_any S ls W hS (by omega)
  have hv := iV_in ls
  have hib := iE_back hi
  obtain ⟨V, hV⟩ : ∃ V, iV ls = V := ⟨_, rfl⟩
  simp only [hi, hV] at hpi2
  rw [hV] at hv hib
  have hfi2 := fun W (h : Tb W) => fmti_any V W hv.1 hv.2 h
  unfold sv at hfi2
  have hSe : (⟨(zfmt V).toArray⟩ : ByteArray) = S := by rw [hib]; exact nt_inj hS.symm
  simp only [hSe] at hfi2
  have HFI2 := Lib.hid hfi2
  obtain ⟨r1, r2, r3, r4, r5⟩ := qE_back hq
  have r6 := pZ_len r4
  obtain ⟨P2, hP2⟩ : ∃ P, pZ (cA ls) = P := ⟨_, rfl⟩
  obtain ⟨Q2, hQ2⟩ : ∃ P, qD ls = P := ⟨_, rfl⟩
  rw [hP2] at r2 r3 r6
  rw [hQ2] at r1 r2 r3 r5
  obtain ⟨g7, g8⟩ := low_gcd (n := P2) r1 r2
  have hnrm := rn_norm P2 Q2
  rw [g7, g8] at hnrm
  have hzP2 := zv_canon P2
  have hzQ2 : zv false (valD (canon Q2.natAbs)) = Q2 := by have := zv_canon Q2; rwa [show decide (Q2 < 0) = false by simp; omega] at this
  obtain ⟨X2, hX2⟩ : ∃ X, canon P2.natAbs = X := ⟨_, rfl⟩
  obtain ⟨Y2, hY2⟩ : ∃ X, canon Q2.natAbs = X := ⟨_, rfl⟩
  obtain ⟨sg2, hsg2⟩ : ∃ s, decide (P2 < 0) = s := ⟨_, rfl⟩
  have hsq2 : decide (Q2 < 0) = false := by simp; omega
  rw [hsg2, hX2, hY2] at hnrm
  rw [hsg2, hX2] at hzP2
  rw [hY2] at hzQ2 r5
  rw [hX2] at r6
  have hpr2 : ∀ W, Mx W → Calls Tryd.prog 11 #[.string S] W (FrK W sg2 X2 Y2) := fun W h => (prat_any S ls W hS (by omega) h).mono fun e w' h => by
    rcases h with ⟨h, _⟩ | ⟨_, a9, c9, b9, d9, g1, g2, g3, g4, g5, g6⟩
    · exact absurd hq h
    · rw [hP2] at g1 g2 g4
      rw [hQ2] at g1 g3 g5
      rw [hX2, hY2, hsg2, hsq2] at g1
      rw [hX2] at g2 g4
      rw [hY2] at g3 g5
      exact ⟨a9, c9, b9, d9, g1, g2.rw, g3.rw, g4, g5, g6⟩
  have hin : ∀ W (a9 : Option Addr) (c9 : Nat) (b9 : Option Addr) (d9 : Nat), X2.length ≤ c9 → Y2.length ≤ d9 → Rw W a9 X2 → Rw W b9 Y2 → Calls Tryd.prog 15 #[.agg #[.bool sg2, .slice a9 X2.length c9, .bool false, .slice b9 Y2.length d9]] W fun e W' => e = .returned (.bool true) ∧ Below W.heap.size W W' := fun W a9 c9 b9 d9 e1 e2 e3 e4 => by
    have := isn_any sg2 false a9 b9 _ c9 _ d9 X2 Y2 W rfl rfl e1 e2 (by omega) (by omega) e3 e4
    rw [hnrm] at this
    exact this
  have hfr2 : ∀ W (a9 : Option Addr) (c9 : Nat) (b9 : Option Addr) (d9 : Nat), X2.length ≤ c9 → Y2.length ≤ d9 → Rw W a9 X2 → Rw W b9 Y2 → Tb W → Calls Tryd.prog 12 #[.agg #[.bool sg2, .slice a9 X2.length c9, .bool false, .slice b9 Y2.length d9]] W fun e W' => e = .returned (.string S) ∧ Below W.heap.size W W' := fun W a9 c9 b9 d9 e1 e2 e3 e4 e5 => by
    have := fmtr_any sg2 false a9 b9 _ c9 _ d9 X2 Y2 W rfl rfl e1 e2 (by omega) (by omega) e3 e4 e5
    rw [hzP2, hzQ2, g7, g8, r3] at this
    rw [show sv ls = .string S by unfold sv; rw [show (⟨ls.toArray⟩ : ByteArray) = S from nt_inj hS.symm]] at this
    exact this
  have HPR2 := Lib.hid hpr2
  have HIN := Lib.hid hin
  have HFR2 := Lib.hid hfr2
  have hXY : X.length ≤ 1000000 ∧ Y.length ≤ 1000000 := by omega
  have HXY := Lib.hid hXY
  have HS := Lib.hid hsm
  have HFI := Lib.hid hfi
  have HPI := Lib.hid hpi
  have HFR := Lib.hid hfr
  have HPR := Lib.hid hpr
  have HNM := Lib.hid hnm2
  have HPI2 := Lib.hid hpi2
  obtain ⟨zq, hzq⟩ : ∃ q, S.size = q := ⟨_, rfl⟩
  rw [hzq] at hs2
  clear hsm e0 hfi lP hS1 hS1l hpi hXl hYl hfr hqf hnm hQp hP hQ lR lR1 hS2 hS2l hX hY hsg hsq hpr hnm2 hpi2 hS hsz hXY hi hq hv hib hV hfi2 hSe r1 r2 r3 r4 r5 r6 hP2 hQ2 g7 g8 hnrm hzP2 hzQ2 hX2 hY2 hsg2 hsq2 hpr2 hin hfr2
  have hb0 := Below.alloc (Below.refl w.heap.size w) (Nat.le_refl _) (.cells #[Value.bool s, Value.slice a l.length c, Value.bool t, Value.slice b k.length d] 26)
  have hz0 := hb0.size
  go_enter Tryd.func3, Tryd.ntmps3
  go_wp2_with (first
    | (go_at_call 7; go_loud ((with_reducible refine (HS.out _).mono ?_); rintro e w1 ⟨rfl, hc1⟩; have k1_f_0 : w1.cell? ⟨w.heap.size, 0, none⟩ = some (.bool s) := bcs hc1 (by first | with_reducible assumption | with_reducible refine celAl ?_ _ <;> assumption | go_simp); have k1_f_1 : w1.cell? ⟨w.heap.size, 1, none⟩ = some (.slice a l.length c) := bcs hc1 (by first | with_reducible assumption | with_reducible refine celAl ?_ _ <;> assumption | go_simp); have k1_f_2 : w1.cell? ⟨w.heap.size, 2, none⟩ = some (.bool t) := bcs hc1 (by first | with_reducible assumption | with_reducible refine celAl ?_ _ <;> assumption | go_simp); have k1_f_3 : w1.cell? ⟨w.heap.size, 3, none⟩ = some (.slice b k.length d) := bcs hc1 (by first | with_reducible assumption | with_reducible refine celAl ?_ _ <;> assumption | go_simp); have hb1 := hb0.trans (hc1.mono hz0)))
    | (go_at_call 10; go_loud ((with_reducible refine (HFI.out _ (hT.below hb1)).mono ?_); rintro e w2 ⟨rfl, hc2⟩; have k2_f_0 : w2.cell? ⟨w.heap.size, 0, none⟩ = some (.bool s) := bcs hc2 (by first | with_reducible assumption | with_reducible refine celAl ?_ _ <;> assumption | go_simp); have k2_f_1 : w2.cell? ⟨w.heap.size, 1, none⟩ = some (.slice a l.length c) := bcs hc2 (by first | with_reducible assumption | with_reducible refine celAl ?_ _ <;> assumption | go_simp); have k2_f_2 : w2.cell? ⟨w.heap.size, 2, none⟩ = some (.bool t) := bcs hc2 (by first | with_reducible assumption | with_reducible refine celAl ?_ _ <;> assumption | go_simp); have k2_f_3 : w2.cell? ⟨w.heap.size, 3, none⟩ = some (.slice b k.length d) := bcs hc2 (by first | with_reducible assumption | with_reducible refine celAl ?_ _ <;> assumption | go_simp); have hb2 := bel_step hb1 hc2))
    | (go_at_call 9; go_loud ((with_reducible refine (HPI.out _).mono ?_); unfold dui; rintro e w3 ⟨rfl, hc3⟩; have k3_f_0 : w3.cell? ⟨w.heap.size, 0, none⟩ = some (.bool s) := bcs hc3 (by first | with_reducible assumption | with_reducible refine celAl ?_ _ <;> assumption | go_simp); have k3_f_1 : w3.cell? ⟨w.heap.size, 1, none⟩ = some (.slice a l.length c) := bcs hc3 (by first | with_reducible assumption | with_reducible refine celAl ?_ _ <;> assumption | go_simp); have k3_f_2 : w3.cell? ⟨w.heap.size, 2, none⟩ = some (.bool t) := bcs hc3 (by first | with_reducible assumption | with_reducible refine celAl ?_ _ <;> assumption | go_simp); have k3_f_3 : w3.cell? ⟨w.heap.size, 3, none⟩ = some (.slice b k.length d) := bcs hc3 (by first | with_reducible assumption | with_reducible refine celAl ?_ _ <;> assumption | go_simp); have hb3 := bel_step hb2 hc3))
    | (go_at_call 12; go_loud ((with_reducible refine (HFR.out _ (hr.below hb3) (hs.below hb3) (hT.below hb3)).mono ?_); rintro e w4 ⟨rfl, hc4⟩; have k4_f_0 : w4.cell? ⟨w.heap.size, 0, none⟩ = some (.bool s) := bcs hc4 (by first | with_reducible assumption | with_reducible refine celAl ?_ _ <;> assumption | go_simp); have k4_f_1 : w4.cell? ⟨w.heap.size, 1, none⟩ = some (.slice a l.length c) := bcs hc4 (by first | with_reducible assumption | with_reducible refine celAl ?_ _ <;> assumption | go_simp); have k4_f_2 : w4.cell? ⟨w.heap.size, 2, none⟩ = some (.bool t) := bcs hc4 (by first | with_reducible assumption | with_reducible refine celAl ?_ _ <;> assumption | go_simp); have k4_f_3 : w4.cell? ⟨w.heap.size, 3, none⟩ = some (.slice b k.length d) := bcs hc4 (by first | with_reducible assumption | with_reducible refine celAl ?_ _ <;> assumption | go_simp); have hb4 := bel_step hb3 hc4))
    | (go_at_call 11; go_loud ((with_reducible refine (HPR.out _ (hM.below hb4)).mono ?_); unfold FrK; rintro e w5 ⟨a5, c5, b5, d5, rfl, hX5, hY5, hcX, hcY, hc5⟩; have k5_f_0 : w5.cell? ⟨w.heap.size, 0, none⟩ = some (.bool s) := bcs hc5 (by first | with_reducible assumption | with_reducible refine celAl ?_ _ <;> assumption | go_simp); have k5_f_1 : w5.cell? ⟨w.heap.size, 1, none⟩ = some (.slice a l.length c) := bcs hc5 (by first | with_reducible assumption | with_reducible refine celAl ?_ _ <;> assumption | go_simp); have k5_f_2 : w5.cell? ⟨w.heap.size, 2, none⟩ = some (.bool t) := bcs hc5 (by first | with_reducible assumption | with_reducible refine celAl ?_ _ <;> assumption | go_simp); have k5_f_3 : w5.cell? ⟨w.heap.size, 3, none⟩ = some (.slice b k.length d) := bcs hc5 (by first | with_reducible assumption | with_reducible refine celAl ?_ _ <;> assumption | go_simp); have hb5 := bel_step hb4 hc5; have hb5a := belAl hb5 (.cells #[Value.bool sg, Value.slice a5 X.length c5, Value.bool false, Value.slice b5 Y.length d5] 26))))
  refine wp_region_held_drew (S := (fun w' => w'.cell? ⟨w.heap.size, 0, none⟩ = some (.bool s) ∧ w'.cell? ⟨w.heap.size, 1, none⟩ = some (.slice a l.length c) ∧ w'.cell? ⟨w.heap.size, 2, none⟩ = some (.bool t) ∧ w'.cell? ⟨w.heap.size, 3, none⟩ = some (.slice b k.length d) ∧ w'.cell? ⟨w5.heap.size, 0, none⟩ = some (.bool sg) ∧ w'.cell? ⟨w5.heap.size, 1, none⟩ = some (.slice a5 X.length c5) ∧ w'.cell? ⟨w5.heap.size, 2, none⟩ = some (.bool false) ∧ w'.cell? ⟨w5.heap.size, 3, none⟩ = some (.slice b5 Y.length d5))) (by kernel_rfl) ?_ (fun hHeld => ?_)
  · (try dsimp only); (first | with_reducible exact ⟨k7_f_0, k7_f_1, k7_f_2, k7_f_3, k7_b_0, k7_b_1, k7_b_2, k7_b_3⟩ | with_reducible exact ⟨k6_f_0, k6_f_1, k6_f_2, k6_f_3, k6_b_0, k6_b_1, k6_b_2, k6_b_3⟩ | (refine ⟨?_, ?_, ?_, ?_, ?_, ?_, ?_, ?_⟩ <;> (first | with_reducible assumption | ((repeat' first | with_reducible assumption | (with_reducible refine celAl ?_ _) | (with_reducible refine celDr ?_)); done) | (go_simp; done))))
  refine wpAnyH_take (i := 0) (oi := { dst := some 36, op := Op.move (Operand.tmp 7), type := 3, pos := "law.go:53", after := #[], guard := none }) (v := ?_) rfl (by kernel_rfl) (by kernel_rfl) (by kernel_rfl) (fun _ _ _ h => h) (Or.inl ⟨by rfl, ?_⟩) hHeld ?_
  rotate_left
  · (intro w hSw; (try dsimp only at hSw); go_simp; try with_reducible rfl)
  try simp only [Act.put, List.setIfInBounds_toArray, List.set_cons_zero, List.set_cons_succ]
  refine wpAnyH_take (i := 1) (oi := { dst := some 37, op := Op.move (Operand.tmp 0), type := 3, pos := "law.go:53", after := #[], guard := none }) (v := ?_) rfl (by kernel_rfl) (by kernel_rfl) (by kernel_rfl) (fun _ _ _ h => h) (Or.inl ⟨by rfl, ?_⟩) hHeld ?_
  rotate_left
  · (intro w hSw; (try dsimp only at hSw); go_simp; try with_reducible rfl)
  try simp only [Act.put, List.setIfInBounds_toArray, List.set_cons_zero, List.set_cons_succ]
  refine wpAnyH_take (i := 2) (oi := { dst := some 38, op := Op.binOp BinOp.neq 3 (Operand.tmp 36) (Operand.tmp 37) 3, type := 4, pos := "law.go:53", after := #[{ on := 0, ground := Ground.data }, { on := 1, ground := Ground.data }], guard := none }) (v := ?_) rfl (by kernel_rfl) (by kernel_rfl) (by kernel_rfl) (fun _ _ _ h => h) (Or.inl ⟨by rfl, ?_⟩) hHeld ?_
  rotate_left
  · (intro w hSw; (try dsimp only at hSw); go_simp; try with_reducible rfl)
  try simp only [Act.put, List.setIfInBounds_toArray, List.set_cons_zero, List.set_cons_succ]
  refine wpAnyH_take (i := 3) (oi := { dst := some 39, op := Op.move (Operand.tmp 38), type := 4, pos := "law.go:53", after := #[{ on := 2, ground := Ground.data }], guard := none }) (v := ?_) rfl (by kernel_rfl) (by kernel_rfl) (by kernel_rfl) (fun _ _ _ h => h) (Or.inl ⟨by rfl, ?_⟩) hHeld ?_
  rotate_left
  · (intro w hSw; (try dsimp only at hSw); go_simp; try with_reducible rfl)
  try simp only [Act.put, List.setIfInBounds_toArray, List.set_cons_zero, List.set_cons_succ]
  refine wpAnyH_take (i := 4) (oi := { dst := some 40, op := Op.move (Operand.tmp 8), type := 29, pos := "law.go:53", after := #[{ on := 3, ground := Ground.guard }], guard := some (3, false) }) (v := ?_) rfl (by kernel_rfl) (by kernel_rfl) (by kernel_rfl) (fun _ _ _ h => h) (Or.inl ⟨by rfl, ?_⟩) hHeld ?_
  rotate_left
  · (intro w hSw; (try dsimp only at hSw); go_simp; try with_reducible rfl)
  try simp only [Act.put, List.setIfInBounds_toArray, List.set_cons_zero, List.set_cons_succ]
  refine wpAnyH_take (i := 5) (oi := { dst := some 41, op := Op.binOp BinOp.neq 29 (Operand.tmp 40) (Operand.const (Value.int IntKind.i64 0)) 29, type := 4, pos := "law.go:53", after := #[{ on := 4, ground := Ground.data }, { on := 3, ground := Ground.guard }], guard := some (3, false) }) (v := ?_) rfl (by kernel_rfl) (by kernel_rfl) (by kernel_rfl) (fun _ _ _ h => h) (Or.inl ⟨by rfl, ?_⟩) hHeld ?_
  rotate_left
  · (intro w hSw; (try dsimp only at hSw); go_simp; try with_reducible rfl)
  try simp only [Act.put, List.setIfInBounds_toArray, List.set_cons_zero, List.set_cons_succ]
  refine wpAnyH_take (i := 6) (oi := { dst := some 42, op := Op.pick (Operand.tmp 39) (Operand.const (Value.bool true)) (Operand.tmp 41), type := 4, pos := "law.go:53", after := #[{ on := 3, ground := Ground.data }, { on := 5, ground := Ground.data }], guard := none }) (v := ?_) rfl (by kernel_rfl) (by kernel_rfl) (by kernel_rfl) (fun _ _ _ h => h) (Or.inl ⟨by rfl, ?_⟩) hHeld ?_
  rotate_left
  · (intro w hSw; (try dsimp only at hSw); go_simp; try with_reducible rfl)
  try simp only [Act.put, List.setIfInBounds_toArray, List.set_cons_zero, List.set_cons_succ]
  refine wpAnyH_take (i := 7) (oi := { dst := some 43, op := Op.move (Operand.tmp 42), type := 4, pos := "law.go:53", after := #[{ on := 6, ground := Ground.data }, { on := 3, ground := Ground.chain }], guard := none }) (v := ?_) rfl (by kernel_rfl) (by kernel_rfl) (by kernel_rfl) (fun _ _ _ h => h) (Or.inl ⟨by rfl, ?_⟩) hHeld ?_
  rotate_left
  · (intro w hSw; (try dsimp only at hSw); go_simp; try with_reducible rfl)
  try simp only [Act.put, List.setIfInBounds_toArray, List.set_cons_zero, List.set_cons_succ]
  refine wpAnyH_take (i := 8) (oi := { dst := some 44, op := Op.move (Operand.tmp 10), type := 29, pos := "law.go:53", after := #[{ on := 7, ground := Ground.guard }], guard := some (7, false) }) (v := ?_) rfl (by kernel_rfl) (by kernel_rfl) (by kernel_rfl) (fun _ _ _ h => h) (Or.inl ⟨by rfl, ?_⟩) hHeld ?_
  rotate_left
  · (intro w hSw; (try dsimp only at hSw); go_simp; try with_reducible rfl)
  try simp only [Act.put, List.setIfInBounds_toArray, List.set_cons_zero, List.set_cons_succ]
  refine wpAnyH_take (i := 9) (oi := { dst := some 45, op := Op.binOp BinOp.neq 29 (Operand.tmp 44) (Operand.const (Value.int IntKind.i64 0)) 29, type := 4, pos := "law.go:53", after := #[{ on := 8, ground := Ground.data }, { on := 7, ground := Ground.guard }], guard := some (7, false) }) (v := ?_) rfl (by kernel_rfl) (by kernel_rfl) (by kernel_rfl) (fun _ _ _ h => h) (Or.inl ⟨by rfl, ?_⟩) hHeld ?_
  rotate_left
  · (intro w hSw; (try dsimp only at hSw); go_simp; try with_reducible rfl)
  try simp only [Act.put, List.setIfInBounds_toArray, List.set_cons_zero, List.set_cons_succ]
  refine wpAnyH_take (i := 10) (oi := { dst := some 46, op := Op.pick (Operand.tmp 43) (Operand.const (Value.bool true)) (Operand.tmp 45), type := 4, pos := "law.go:53", after := #[{ on := 7, ground := Ground.data }, { on := 9, ground := Ground.data }], guard := none }) (v := ?_) rfl (by kernel_rfl) (by kernel_rfl) (by kernel_rfl) (fun _ _ _ h => h) (Or.inl ⟨by rfl, ?_⟩) hHeld ?_
  rotate_left
  · (intro w hSw; (try dsimp only at hSw); go_simp; try with_reducible rfl)
  try simp only [Act.put, List.setIfInBounds_toArray, List.set_cons_zero, List.set_cons_succ]
  refine wpAnyH_take (i := 11) (oi := { dst := some 47, op := Op.move (Operand.tmp 46), type := 4, pos := "law.go:53", after := #[{ on := 10, ground := Ground.data }, { on := 7, ground := Ground.chain }], guard := none }) (v := ?_) rfl (by kernel_rfl) (by kernel_rfl) (by kernel_rfl) (fun _ _ _ h => h) (Or.inl ⟨by rfl, ?_⟩) hHeld ?_
  rotate_left
  · (intro w hSw; (try dsimp only at hSw); go_simp; try with_reducible rfl)
  try simp only [Act.put, List.setIfInBounds_toArray, List.set_cons_zero, List.set_cons_succ]
  refine wpAnyH_take (i := 12) (oi := { dst := some 48, op := Op.load 26 (Operand.tmp 9), type := 26, pos := "law.go:53", after := #[{ on := 11, ground := Ground.guard }], guard := some (11, false) }) (v := ?_) rfl (by kernel_rfl) (by kernel_rfl) (by kernel_rfl) (fun _ _ _ h => h) (Or.inl ⟨by rfl, ?_⟩) hHeld ?_
  rotate_left
  · (intro w hSw; (try dsimp only at hSw); go_simp; try with_reducible rfl)
  try simp only [Act.put, List.setIfInBounds_toArray, List.set_cons_zero, List.set_cons_succ]
  refine wpAnyH_take (i := 13) (oi := { dst := some 49, op := Op.load 26 (Operand.tmp 4), type := 26, pos := "law.go:53", after := #[{ on := 11, ground := Ground.guard }], guard := some (11, false) }) (v := ?_) rfl (by kernel_rfl) (by kernel_rfl) (by kernel_rfl) (fun _ _ _ h => h) (Or.inl ⟨by rfl, ?_⟩) hHeld ?_
  rotate_left
  · (intro w hSw; (try dsimp only at hSw); go_simp; try with_reducible rfl)
  try simp only [Act.put, List.setIfInBounds_toArray, List.set_cons_zero, List.set_cons_succ]
  refine wpAnyH_ready (rs := [14]) (by kernel_rfl) (by simp) ?_
  refine AllReadyH.cons (o := { dst := some 50, op := Op.call { callee := Callee.value (Operand.func 14), args := #[Operand.tmp 49], argTypes := #[26] }, type := 26, pos := "law.go:53", after := #[{ on := 13, ground := Ground.data }, { on := 11, ground := Ground.chain }, { on := 11, ground := Ground.guard }], guard := some (11, false) }) rfl (fun K hK => ?_) AllReadyH.nil
  go_simp
  (go_at_call 14; go_loud ((with_reducible refine (HNM.out _ (hr.below (by (repeat' first | with_reducible assumption | with_reducible refine belDr ?_ | with_reducible refine belAl ?_ _))) (hs.below (by (repeat' first | with_reducible assumption | with_reducible refine belDr ?_ | with_reducible refine belAl ?_ _)))).mono ?_); rintro e w6 ⟨a6, c6, b6, d6, rfl, hX6, hY6, hc6⟩; have k6_f_0 : w6.cell? ⟨w.heap.size, 0, none⟩ = some (.bool s) := bcs hc6 (by first | with_reducible assumption | with_reducible refine celAl ?_ _ <;> assumption | go_simp); have k6_f_1 : w6.cell? ⟨w.heap.size, 1, none⟩ = some (.slice a l.length c) := bcs hc6 (by first | with_reducible assumption | with_reducible refine celAl ?_ _ <;> assumption | go_simp); have k6_f_2 : w6.cell? ⟨w.heap.size, 2, none⟩ = some (.bool t) := bcs hc6 (by first | with_reducible assumption | with_reducible refine celAl ?_ _ <;> assumption | go_simp); have k6_f_3 : w6.cell? ⟨w.heap.size, 3, none⟩ = some (.slice b k.length d) := bcs hc6 (by first | with_reducible assumption | with_reducible refine celAl ?_ _ <;> assumption | go_simp); have k6_b_0 : w6.cell? ⟨w5.heap.size, 0, none⟩ = some (.bool sg) := bcs hc6 (by first | with_reducible assumption | with_reducible refine celAl ?_ _ <;> assumption | go_simp); have k6_b_1 : w6.cell? ⟨w5.heap.size, 1, none⟩ = some (.slice a5 X.length c5) := bcs hc6 (by first | with_reducible assumption | with_reducible refine celAl ?_ _ <;> assumption | go_simp); have k6_b_2 : w6.cell? ⟨w5.heap.size, 2, none⟩ = some (.bool false) := bcs hc6 (by first | with_reducible assumption | with_reducible refine celAl ?_ _ <;> assumption | go_simp); have k6_b_3 : w6.cell? ⟨w5.heap.size, 3, none⟩ = some (.slice b5 Y.length d5) := bcs hc6 (by first | with_reducible assumption | with_reducible refine celAl ?_ _ <;> assumption | go_simp); have hb6 : Below w.heap.size w w6 := bel_step (by (repeat' first | with_reducible assumption | with_reducible refine belDr ?_ | with_reducible refine belAl ?_ _)) hc6; have hX5b : Rw w6 a5 X := Rw.below (by (repeat' first | with_reducible assumption | with_reducible refine Rw.dr ?_ | with_reducible refine Rw.al ?_ _)) hc6; have hY5b : Rw w6 b5 Y := Rw.below (by (repeat' first | with_reducible assumption | with_reducible refine Rw.dr ?_ | with_reducible refine Rw.al ?_ _)) hc6))
  refine hK.out _ _ ?_ (fun hHeld2 => ?_)
  · (try dsimp only); (first | with_reducible exact ⟨k7_f_0, k7_f_1, k7_f_2, k7_f_3, k7_b_0, k7_b_1, k7_b_2, k7_b_3⟩ | with_reducible exact ⟨k6_f_0, k6_f_1, k6_f_2, k6_f_3, k6_b_0, k6_b_1, k6_b_2, k6_b_3⟩ | (refine ⟨?_, ?_, ?_, ?_, ?_, ?_, ?_, ?_⟩ <;> (first | with_reducible assumption | ((repeat' first | with_reducible assumption | (with_reducible refine celAl ?_ _) | (with_reducible refine celDr ?_)); done) | (go_simp; done))))
  clear hK K hHeld
  have hHeld := hHeld2; clear hHeld2
  try simp only [Act.put, List.setIfInBounds_toArray, List.set_cons_zero, List.set_cons_succ]
  refine wpAnyH_ready (rs := [15]) (by kernel_rfl) (by simp) ?_
  refine AllReadyH.cons (o := { dst := some 51, op := Op.call { callee := Callee.value (Operand.func 13), args := #[Operand.tmp 48, Operand.tmp 50], argTypes := #[26, 26] }, type := 4, pos := "law.go:53", after := #[{ on := 12, ground := Ground.data }, { on := 14, ground := Ground.data }, { on := 14, ground := Ground.chain }, { on := 11, ground := Ground.guard }], guard := some (11, false) }) rfl (fun K hK => ?_) AllReadyH.nil
  go_simp
  (go_at_call 13; go_loud ((with_reducible refine (srat_yes sg false a5 b5 a6 b6 c5 d5 c6 d6 X Y _ HXY.out.1 HXY.out.2 hX5b hY5b hX6 hY6).mono ?_); rintro e w7 ⟨rfl, hc7⟩; have k7_f_0 : w7.cell? ⟨w.heap.size, 0, none⟩ = some (.bool s) := bcs hc7 (by first | with_reducible assumption | with_reducible refine celAl ?_ _ <;> assumption | go_simp); have k7_f_1 : w7.cell? ⟨w.heap.size, 1, none⟩ = some (.slice a l.length c) := bcs hc7 (by first | with_reducible assumption | with_reducible refine celAl ?_ _ <;> assumption | go_simp); have k7_f_2 : w7.cell? ⟨w.heap.size, 2, none⟩ = some (.bool t) := bcs hc7 (by first | with_reducible assumption | with_reducible refine celAl ?_ _ <;> assumption | go_simp); have k7_f_3 : w7.cell? ⟨w.heap.size, 3, none⟩ = some (.slice b k.length d) := bcs hc7 (by first | with_reducible assumption | with_reducible refine celAl ?_ _ <;> assumption | go_simp); have k7_b_0 : w7.cell? ⟨w5.heap.size, 0, none⟩ = some (.bool sg) := bcs hc7 (by first | with_reducible assumption | with_reducible refine celAl ?_ _ <;> assumption | go_simp); have k7_b_1 : w7.cell? ⟨w5.heap.size, 1, none⟩ = some (.slice a5 X.length c5) := bcs hc7 (by first | with_reducible assumption | with_reducible refine celAl ?_ _ <;> assumption | go_simp); have k7_b_2 : w7.cell? ⟨w5.heap.size, 2, none⟩ = some (.bool false) := bcs hc7 (by first | with_reducible assumption | with_reducible refine celAl ?_ _ <;> assumption | go_simp); have k7_b_3 : w7.cell? ⟨w5.heap.size, 3, none⟩ = some (.slice b5 Y.length d5) := bcs hc7 (by first | with_reducible assumption | with_reducible refine celAl ?_ _ <;> assumption | go_simp); have hb7 := bel_step hb6 hc7))
  refine hK.out _ _ ?_ (fun hHeld2 => ?_)
  · (try dsimp only); (first | with_reducible exact ⟨k7_f_0, k7_f_1, k7_f_2, k7_f_3, k7_b_0, k7_b_1, k7_b_2, k7_b_3⟩ | with_reducible exact ⟨k6_f_0, k6_f_1, k6_f_2, k6_f_3, k6_b_0, k6_b_1, k6_b_2, k6_b_3⟩ | (refine ⟨?_, ?_, ?_, ?_, ?_, ?_, ?_, ?_⟩ <;> (first | with_reducible assumption | ((repeat' first | with_reducible assumption | (with_reducible refine celAl ?_ _) | (with_reducible refine celDr ?_)); done) | (go_simp; done))))
  clear hK K hHeld
  have hHeld := hHeld2; clear hHeld2
  try simp only [Act.put, List.setIfInBounds_toArray, List.set_cons_zero, List.set_cons_succ]
  refine wpAnyH_take (i := 16) (oi := { dst := some 52, op := Op.unOp UnOp.not 4 (Operand.tmp 51), type := 4, pos := "law.go:53", after := #[{ on := 15, ground := Ground.data }, { on := 11, ground := Ground.guard }], guard := some (11, false) }) (v := ?_) rfl (by kernel_rfl) (by kernel_rfl) (by kernel_rfl) (fun _ _ _ h => h) (Or.inl ⟨by rfl, ?_⟩) hHeld ?_
  rotate_left
  · (intro w hSw; (try dsimp only at hSw); go_simp; try with_reducible rfl)
  try simp only [Act.put, List.setIfInBounds_toArray, List.set_cons_zero, List.set_cons_succ]
  refine wpAnyH_take (i := 17) (oi := { dst := some 53, op := Op.pick (Operand.tmp 47) (Operand.const (Value.bool true)) (Operand.tmp 52), type := 4, pos := "law.go:53", after := #[{ on := 11, ground := Ground.data }, { on := 16, ground := Ground.data }], guard := none }) (v := ?_) rfl (by kernel_rfl) (by kernel_rfl) (by kernel_rfl) (fun _ _ _ h => h) (Or.inl ⟨by rfl, ?_⟩) hHeld ?_
  rotate_left
  · (intro w hSw; (try dsimp only at hSw); go_simp; try with_reducible rfl)
  try simp only [Act.put, List.setIfInBounds_toArray, List.set_cons_zero, List.set_cons_succ]
  refine wpAnyH_done (by kernel_rfl) ?_ _
  go_wp2_with (first
    | (go_at_call 9; go_loud ((with_reducible refine (HPI2.out _).mono ?_); unfold dui; rintro e w8 ⟨rfl, hc8⟩; have hb8 := bel_step hb7 hc8))
    | (go_at_call 10; go_loud ((with_reducible refine (HFI2.out _ (hT.below hb8)).mono ?_); rintro e w8b ⟨rfl, hc8b⟩; have hb8b := bel_step hb8 hc8b))
    | (go_at_call 11; go_loud ((with_reducible refine (HPR2.out _ (hM.below hb8b)).mono ?_); unfold FrK; rintro e w9 ⟨a9, c9, b9, d9, rfl, hX9, hY9, hcX9, hcY9, hc9⟩; have hb9 := bel_step hb8b hc9; have hb9a := belAl hb9 (.cells #[Value.bool sg2, Value.slice a9 X2.length c9, Value.bool false, Value.slice b9 Y2.length d9] 26); have hX9a := hX9.al (.cells #[Value.bool sg2, Value.slice a9 X2.length c9, Value.bool false, Value.slice b9 Y2.length d9] 26); have hY9a := hY9.al (.cells #[Value.bool sg2, Value.slice a9 X2.length c9, Value.bool false, Value.slice b9 Y2.length d9] 26)))
    | (go_at_call 15; go_loud ((with_reducible refine (HIN.out _ _ _ _ _ hcX9 hcY9 hX9a hY9a).mono ?_); rintro e w10 ⟨rfl, hc10⟩; have k10_d_0 : w10.cell? ⟨w9.heap.size, 0, none⟩ = some (.bool sg2) := bcs hc10 (by first | with_reducible assumption | with_reducible refine celAl ?_ _ <;> assumption | go_simp); have k10_d_1 : w10.cell? ⟨w9.heap.size, 1, none⟩ = some (.slice a9 X2.length c9) := bcs hc10 (by first | with_reducible assumption | with_reducible refine celAl ?_ _ <;> assumption | go_simp); have k10_d_2 : w10.cell? ⟨w9.heap.size, 2, none⟩ = some (.bool false) := bcs hc10 (by first | with_reducible assumption | with_reducible refine celAl ?_ _ <;> assumption | go_simp); have k10_d_3 : w10.cell? ⟨w9.heap.size, 3, none⟩ = some (.slice b9 Y2.length d9) := bcs hc10 (by first | with_reducible assumption | with_reducible refine celAl ?_ _ <;> assumption | go_simp); have hb10 := bel_step hb9a hc10))
    | (go_at_call 12; go_loud ((with_reducible refine (HFR2.out _ _ _ _ _ hcX9 hcY9 (hX9a.below hc10) (hY9a.below hc10) (hT.below hb10)).mono ?_); rintro e w11 ⟨rfl, hc11⟩; have hbE := bel_step hb10 hc11))
    | (go_at_call 8; go_loud ((with_reducible refine (ex_any _ (hT.below hbE) (hM.below hbE)).mono ?_); rintro e w12 ⟨rfl, hc12⟩; have hb12 := bel_step hbE hc12)))
  go_ret
  exact ⟨rfl, hb12⟩
theorem nrt_w (nn : Int) (s t : Bool) (a b : Option Addr) (n c m d : Nat) (S : ByteArray) (w : World) (l k : List (BitVec 32)) (h0 : -9223372036854775808 ≤ nn) (h9 : nn ≤ 9223372036854775807) (hn : l.length = n) (hm : k.length = m) (hnc : n ≤ c) (hmd : m ≤ d) (hn9 : n ≤ 9223372036854775807) (hm9 : m ≤ 9223372036854775807) (hs9 : S.size ≤ 9223372036854775807) (hr : Rw w a l) (hs : Rw w b k) (hT : Tb w) (hM : Mx w) :
    Calls Tryd.prog 3 #[.int .i64 nn, .agg #[.bool s, .slice a n c, .bool t, .slice b m d], .string S] w fun e w' => e = .returned (.bool true) ∧ Below w.heap.size w w' := by
  by_cases h : ¬ (n ≤ 40 ∧ m ≤ 40) ∨ 2100 < S.size
  · exact nrt_big nn s t a b n c m d S w hn9 hm9 hs9 h hT hM
  · have h1 : n ≤ 40 ∧ m ≤ 40 := by omega
    by_cases hi : iE S.data.toList = 0
    · by_cases hq : qE S.data.toList = 0
      · exact nrt_11 nn s t a b n c m d S w l k h0 h9 hn hm hnc hmd h1.1 h1.2 (by omega) hr hs hT hM hi hq
      · exact nrt_10 nn s t a b n c m d S w l k h0 h9 hn hm hnc hmd h1.1 h1.2 (by omega) hr hs hT hM hi hq
    · by_cases hq : qE S.data.toList = 0
      · exact nrt_01 nn s t a b n c m d S w l k h0 h9 hn hm hnc hmd h1.1 h1.2 (by omega) hr hs hT hM hi hq
      · exact nrt_00 nn s t a b n c m d S w l k h0 h9 hn hm hnc hmd h1.1 h1.2 (by omega) hr hs hT hM hi hq
end Go.Proofs.YtdkbmpncohhioaaDoor
