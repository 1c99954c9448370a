
import Derived.Test.YtdkbmpncohhioaaGreatDoorNt2
namespace Go.Proofs.YtdkbmpncohhioaaGreatDoor
open Go.RowKit
set_option linter.unusedVariables false
set_option linter.unusedSimpArgs false
attribute [local go_sem ↓] Go.wp_at_zero Go.wp_at_succ
theorem belDr {w W : World} (h : Below w.heap.size w W) : Below w.heap.size w W.drew := h.drew
theorem belSt {w W : World} (h : Below w.heap.size w W) {b o : Nat} {v : Value} (hb : w.heap.size ≤ b) : Below w.heap.size w (W.setCell ⟨b, o, none⟩ v) := h.setCell hb v
theorem Rw.dr {W : World} {a : Option Addr} {l : List (BitVec 32)} (h : Rw W a l) : Rw W.drew a l := h.below (Below.refl _ _).drew
theorem le_two (n : Nat) : n ≤ n + 1 + 1 := by omega
/-- A new fraction with no error. -/
def FrN (w : World) (x y : Int) (e : Ending) (w' : World) : Prop := ∃ a c b d, e = .returned (.tuple #[.agg #[.bool (decide (x < 0)), .slice a (canon x.natAbs).length c, .bool (decide (y < 0)), .slice b (canon y.natAbs).length d], .int .i64 0]) ∧ RwF w.heap.size w' a (canon x.natAbs) ∧ RwF w.heap.size w' b (canon y.natAbs) ∧ (canon x.natAbs).length ≤ c ∧ (canon y.natAbs).length ≤ d ∧ Below w.heap.size w w'
set_option maxRecDepth 50000 in
set_option maxHeartbeats 1000000 in
theorem new_ok (s t : Bool) (a b : Option Addr) (n c m d : Nat) (l k : List (BitVec 32)) (w : World) (hn : l.length = n) (hm : k.length = m) (hc : n ≤ c) (hd : m ≤ d) (hl : n ≤ 900000) (hl2 : m ≤ 900000) (hr : Rw w a l) (hs : Rw w b k) (hy : zv t (valD k) ≠ 0) :
    Calls Tryz.prog 32 #[.agg #[.bool s, .slice a n c], .agg #[.bool t, .slice b m d]] w (FrN w (rnN (zv s (valD l)) (zv t (valD k))) (rnD (zv s (valD l)) (zv t (valD k)))) := by
  subst hn hm
  have hS := fun W (h : Rw W b k) => zsign_any t b _ d k W rfl hd (by omega) h
  have hR := fun W (h1 : Rw W a l) (h2 : Rw W b k) => red_any s t a b _ c _ d l k W rfl rfl hc hd hl hl2 h1 h2
  obtain ⟨P, hP⟩ : ∃ P, rnN (zv s (valD l)) (zv t (valD k)) = P := ⟨_, rfl⟩
  obtain ⟨Q, hQ⟩ : ∃ Q, rnD (zv s (valD l)) (zv t (valD k)) = Q := ⟨_, rfl⟩
  rw [hP, hQ] at hR ⊢
  have hsy : (zv t (valD k)).sign ≠ 0 := fun h => hy (Int.sign_eq_zero_iff_zero.1 h)
  obtain ⟨sy, hsyy⟩ : ∃ x, (zv t (valD k)).sign = x := ⟨_, rfl⟩
  rw [hsyy] at hS hsy
  have q1 : (sy == 0) = false := by rw [beq_eq_false_iff_ne]; exact hsy
  have HS := Lib.hid hS
  have HR := Lib.hid hR
  clear hS hR hP hQ hsy hsyy hy
  have hb1 := Below.alloc (Below.refl w.heap.size w) (Nat.le_refl _) (.cells #[Value.bool s, Value.slice a l.length c] 31)
  have hb2 := Below.alloc hb1 (by simp) (.cells #[Value.bool t, Value.slice b k.length d] 31)
  have hb3 := Below.alloc hb2 (by simp; omega) (.cells #[Value.bool false, Value.slice none 0 0, Value.bool false, Value.slice none 0 0] 33)
  have hz3 := hb3.size
  have hr3 := hr.below hb3
  have hs3 := hs.below hb3
  go_enter Tryz.func32, Tryz.ntmps32
  go_wp2_with (first
    | (go_at_call 30; go_loud ((with_reducible refine (HS.out _ hs3).mono ?_); rintro e w1 ⟨rfl, hc1⟩; have k1_p_0 : w1.cell? ⟨w.heap.size, 0, none⟩ = some (.bool s) := bcs hc1 (by first | with_reducible assumption | go_simp); have g1_p_0 : w1.frozen? ⟨w.heap.size, 0, none⟩ = false := bfs hc1 (v := .bool s) (by first | with_reducible assumption | go_simp) (by first | with_reducible assumption | go_simp); have k1_p_1 : w1.cell? ⟨w.heap.size, 1, none⟩ = some (.slice a l.length c) := bcs hc1 (by first | with_reducible assumption | go_simp); have g1_p_1 : w1.frozen? ⟨w.heap.size, 1, none⟩ = false := bfs hc1 (v := .slice a l.length c) (by first | with_reducible assumption | go_simp) (by first | with_reducible assumption | go_simp); have x1_p : ¬ w.heap.size = w1.heap.size := qne k1_p_0; have y1_p : ¬ w1.heap.size = w.heap.size := fun h => qne k1_p_0 h.symm; have q1_p : w.heap.size < w1.heap.size := qlt k1_p_0; have k1_q_0 : w1.cell? ⟨(w.heap.size + 1), 0, none⟩ = some (.bool t) := bcs hc1 (by first | with_reducible assumption | go_simp); have g1_q_0 : w1.frozen? ⟨(w.heap.size + 1), 0, none⟩ = false := bfs hc1 (v := .bool t) (by first | with_reducible assumption | go_simp) (by first | with_reducible assumption | go_simp); have k1_q_1 : w1.cell? ⟨(w.heap.size + 1), 1, none⟩ = some (.slice b k.length d) := bcs hc1 (by first | with_reducible assumption | go_simp); have g1_q_1 : w1.frozen? ⟨(w.heap.size + 1), 1, none⟩ = false := bfs hc1 (v := .slice b k.length d) (by first | with_reducible assumption | go_simp) (by first | with_reducible assumption | go_simp); have x1_q : ¬ (w.heap.size + 1) = w1.heap.size := qne k1_q_0; have y1_q : ¬ w1.heap.size = (w.heap.size + 1) := fun h => qne k1_q_0 h.symm; have q1_q : (w.heap.size + 1) < w1.heap.size := qlt k1_q_0; have k1_r_0 : w1.cell? ⟨(w.heap.size + 1 + 1), 0, none⟩ = some (.bool false) := bcs hc1 (by first | with_reducible assumption | go_simp); have g1_r_0 : w1.frozen? ⟨(w.heap.size + 1 + 1), 0, none⟩ = false := bfs hc1 (v := .bool false) (by first | with_reducible assumption | go_simp) (by first | with_reducible assumption | go_simp); have k1_r_1 : w1.cell? ⟨(w.heap.size + 1 + 1), 1, none⟩ = some (.slice none 0 0) := bcs hc1 (by first | with_reducible assumption | go_simp); have g1_r_1 : w1.frozen? ⟨(w.heap.size + 1 + 1), 1, none⟩ = false := bfs hc1 (v := .slice none 0 0) (by first | with_reducible assumption | go_simp) (by first | with_reducible assumption | go_simp); have k1_r_2 : w1.cell? ⟨(w.heap.size + 1 + 1), 2, none⟩ = some (.bool false) := bcs hc1 (by first | with_reducible assumption | go_simp); have g1_r_2 : w1.frozen? ⟨(w.heap.size + 1 + 1), 2, none⟩ = false := bfs hc1 (v := .bool false) (by first | with_reducible assumption | go_simp) (by first | with_reducible assumption | go_simp); have k1_r_3 : w1.cell? ⟨(w.heap.size + 1 + 1), 3, none⟩ = some (.slice none 0 0) := bcs hc1 (by first | with_reducible assumption | go_simp); have g1_r_3 : w1.frozen? ⟨(w.heap.size + 1 + 1), 3, none⟩ = false := bfs hc1 (v := .slice none 0 0) (by first | with_reducible assumption | go_simp) (by first | with_reducible assumption | go_simp); have x1_r : ¬ (w.heap.size + 1 + 1) = w1.heap.size := qne k1_r_0; have y1_r : ¬ w1.heap.size = (w.heap.size + 1 + 1) := fun h => qne k1_r_0 h.symm; have q1_r : (w.heap.size + 1 + 1) < w1.heap.size := qlt k1_r_0; have hbw1 := hb3.trans (hc1.mono hz3); have hr1 := hr.below hbw1; have hs1 := hs.below hbw1))
    | (go_at_call 58; go_loud ((with_reducible refine (HR.out _ hr1 hs1).mono ?_); rintro e w2 ⟨a3, c3, b3, d3, rfl, ho3, ho4, hne, hc2⟩; have k2_p_0 : w2.cell? ⟨w.heap.size, 0, none⟩ = some (.bool s) := bcs hc2 (by first | with_reducible assumption | go_simp); have g2_p_0 : w2.frozen? ⟨w.heap.size, 0, none⟩ = false := bfs hc2 (v := .bool s) (by first | with_reducible assumption | go_simp) (by first | with_reducible assumption | go_simp); have k2_p_1 : w2.cell? ⟨w.heap.size, 1, none⟩ = some (.slice a l.length c) := bcs hc2 (by first | with_reducible assumption | go_simp); have g2_p_1 : w2.frozen? ⟨w.heap.size, 1, none⟩ = false := bfs hc2 (v := .slice a l.length c) (by first | with_reducible assumption | go_simp) (by first | with_reducible assumption | go_simp); have x2_p : ¬ w.heap.size = w2.heap.size := qne k2_p_0; have y2_p : ¬ w2.heap.size = w.heap.size := fun h => qne k2_p_0 h.symm; have q2_p : w.heap.size < w2.heap.size := qlt k2_p_0; have k2_q_0 : w2.cell? ⟨(w.heap.size + 1), 0, none⟩ = some (.bool t) := bcs hc2 (by first | with_reducible assumption | go_simp); have g2_q_0 : w2.frozen? ⟨(w.heap.size + 1), 0, none⟩ = false := bfs hc2 (v := .bool t) (by first | with_reducible assumption | go_simp) (by first | with_reducible assumption | go_simp); have k2_q_1 : w2.cell? ⟨(w.heap.size + 1), 1, none⟩ = some (.slice b k.length d) := bcs hc2 (by first | with_reducible assumption | go_simp); have g2_q_1 : w2.frozen? ⟨(w.heap.size + 1), 1, none⟩ = false := bfs hc2 (v := .slice b k.length d) (by first | with_reducible assumption | go_simp) (by first | with_reducible assumption | go_simp); have x2_q : ¬ (w.heap.size + 1) = w2.heap.size := qne k2_q_0; have y2_q : ¬ w2.heap.size = (w.heap.size + 1) := fun h => qne k2_q_0 h.symm; have q2_q : (w.heap.size + 1) < w2.heap.size := qlt k2_q_0; have k2_r_0 : w2.cell? ⟨(w.heap.size + 1 + 1), 0, none⟩ = some (.bool false) := bcs hc2 (by first | with_reducible assumption | go_simp); have g2_r_0 : w2.frozen? ⟨(w.heap.size + 1 + 1), 0, none⟩ = false := bfs hc2 (v := .bool false) (by first | with_reducible assumption | go_simp) (by first | with_reducible assumption | go_simp); have k2_r_1 : w2.cell? ⟨(w.heap.size + 1 + 1), 1, none⟩ = some (.slice none 0 0) := bcs hc2 (by first | with_reducible assumption | go_simp); have g2_r_1 : w2.frozen? ⟨(w.heap.size + 1 + 1), 1, none⟩ = false := bfs hc2 (v := .slice none 0 0) (by first | with_reducible assumption | go_simp) (by first | with_reducible assumption | go_simp); have k2_r_2 : w2.cell? ⟨(w.heap.size + 1 + 1), 2, none⟩ = some (.bool false) := bcs hc2 (by first | with_reducible assumption | go_simp); have g2_r_2 : w2.frozen? ⟨(w.heap.size + 1 + 1), 2, none⟩ = false := bfs hc2 (v := .bool false) (by first | with_reducible assumption | go_simp) (by first | with_reducible assumption | go_simp); have k2_r_3 : w2.cell? ⟨(w.heap.size + 1 + 1), 3, none⟩ = some (.slice none 0 0) := bcs hc2 (by first | with_reducible assumption | go_simp); have g2_r_3 : w2.frozen? ⟨(w.heap.size + 1 + 1), 3, none⟩ = false := bfs hc2 (v := .slice none 0 0) (by first | with_reducible assumption | go_simp) (by first | with_reducible assumption | go_simp); have x2_r : ¬ (w.heap.size + 1 + 1) = w2.heap.size := qne k2_r_0; have y2_r : ¬ w2.heap.size = (w.heap.size + 1 + 1) := fun h => qne k2_r_0 h.symm; have q2_r : (w.heap.size + 1 + 1) < w2.heap.size := qlt k2_r_0; have hbw2 := hbw1.trans (hc2.mono hbw1.size); have hcX := own_cap ho3; have hcY := own_cap ho4)))
  refine bodyPost_ret (v := .tuple #[.agg #[.bool (decide (P < 0)), .slice a3 (canon P.natAbs).length c3, .bool (decide (Q < 0)), .slice b3 (canon Q.natAbs).length d3], .int .i64 0]) (by simp [results, Tryz.results32, go_sem, *]) rfl ?_
  have hx : ∀ {v : Option Addr} {vc n : Nat} {xs : List Value}, w2.ownsRow w1.heap.size 42 1 (.slice v n vc) n xs → ((((w2.setCell ⟨w.heap.size + 1 + 1, 0, none⟩ (.bool (decide (P < 0)))).setCell ⟨w.heap.size + 1 + 1, 1, none⟩ (.slice a3 (canon P.natAbs).length c3)).setCell ⟨w.heap.size + 1 + 1, 2, none⟩ (.bool (decide (Q < 0)))).setCell ⟨w.heap.size + 1 + 1, 3, none⟩ (.slice b3 (canon Q.natAbs).length d3)).ownsRow w1.heap.size 42 1 (.slice v n vc) n xs := fun h => own_set_other (own_set_other (own_set_other (own_set_other h q1_r 0 _) q1_r 1 _) q1_r 2 _) q1_r 3 _
  exact ⟨a3, c3, b3, d3, rfl, (RwF.of_own (hx ho3)).mono hbw1.size, (RwF.of_own (hx ho4)).mono hbw1.size, hcX, hcY, belSt (belSt (belSt (belSt hbw2 (le_two _)) (le_two _)) (le_two _)) (le_two _)⟩
/-- The text of a fraction, cut at its first slash. -/
def cA (l : List UInt8) : List UInt8 := (Lib.cut l [47]).1
def cB (l : List UInt8) : List UInt8 := (Lib.cut l [47]).2.1
def cF (l : List UInt8) : Bool := (Lib.cut l [47]).2.2
def qD (l : List UInt8) : Int := if cF l then pZ (cB l) else 1
/-- The error of a fraction's text. -/
def qE (l : List UInt8) : Nat := if pE (cA l) ≠ 0 then pE (cA l) else if cF l = true ∧ pE (cB l) ≠ 0 then pE (cB l) else if cF l = true ∧ pZ (cB l) ≤ 1 then 3 else if rnD (pZ (cA l)) (qD l) ≠ qD l then 3 else 0
theorem rnD_one (z : Int) : rnD z 1 = 1 ∧ rnN z 1 = z := by
  obtain ⟨h1, h2⟩ := rn_pos (n := z) (d := 1) (by decide)
  rw [h1, h2]
  have : Nat.gcd z.natAbs (1 : Int).natAbs = 1 := by simp
  rw [this, Nat.div_one, Nat.div_one]
  exact ⟨rfl, zv_of z⟩
theorem rn_low {n d : Int} (h : 0 < d) (h2 : rnD n d = d) : rnN n d = n := by
  obtain ⟨h3, h4⟩ := rn_pos (n := n) h
  rw [h4] at h2
  have hg : Nat.gcd n.natAbs d.natAbs = 1 := by
    have hd : 0 < d.natAbs := by omega
    have e : d.natAbs / Nat.gcd n.natAbs d.natAbs = d.natAbs := by omega
    rcases Nat.lt_or_ge 1 (Nat.gcd n.natAbs d.natAbs) with h5 | h5
    · have := Nat.div_lt_self hd h5; omega
    · have := Nat.gcd_pos_of_pos_right n.natAbs hd; omega
  rw [h3, hg, Nat.div_one]
  exact zv_of n
def qerr (E : Int) : Ending := .returned (.tuple #[.agg #[.bool false, .slice none 0 0, .bool false, .slice none 0 0], .int .i64 E])
/-- MaxLen's cell. -/
def Mx (w : World) : Prop := ∃ m : Int, w.cell? ⟨0, 0, none⟩ = some (.int .i64 m)
theorem Mx.below {w w' : World} (h : Mx w) (hb : Below w.heap.size w w') : Mx w' := by
  obtain ⟨m, hm⟩ := h
  exact ⟨m, bcs hb hm⟩
theorem cut_any (S : ByteArray) (l : List UInt8) (w : World) (hS : S.data.toList = l) (hl : l.length ≤ 1000000) (hM : Mx w) :
    Calls Tryz.prog 29 #[.string S, .string ⟨#[47]⟩] w fun e w' => e = .returned (.tuple #[.string ⟨(cA l).toArray⟩, .string ⟨(cB l).toArray⟩, .bool (cF l)]) ∧ Below w.heap.size w w' := by
  obtain ⟨m, hm⟩ := hM
  have hsz := str_size hS
  have := Tryz.strings_Cut S ⟨#[47]⟩ m w (by omega) hm
  rw [hS] at this
  refine this.mono ?_
  rintro e w' ⟨rfl, n, rfl⟩
  exact ⟨rfl, below_drewN (Below.refl _ _) n⟩
theorem cut_len (l : List UInt8) : (cA l).length ≤ l.length ∧ (cB l).length ≤ l.length := by
  unfold cA cB Lib.cut
  split
  · refine ⟨?_, ?_⟩
    · rw [List.length_take]; omega
    · rw [List.length_drop]; omega
  · exact ⟨Nat.le_refl _, Nat.zero_le _⟩
set_option maxRecDepth 50000 in
set_option maxHeartbeats 2000000 in
theorem prat_num (S : ByteArray) (l : List UInt8) (w : World) (hS : S.data.toList = l) (hl : l.length ≤ 1000000) (hM : Mx w) (hE : pE (cA l) ≠ 0) :
    Calls Tryz.prog 14 #[.string S] w fun e w' => e = qerr (pE (cA l)) ∧ Below w.heap.size w w' := by
  have hb0 := Below.alloc (Below.refl w.heap.size w) (Nat.le_refl _) (.cells #[Value.bool false, Value.slice none 0 0, Value.bool false, Value.slice none 0 0] 33)
  have hz0 := hb0.size
  have hcl := cut_len l
  have hC := cut_any S l (w.alloc (.cells #[Value.bool false, Value.slice none 0 0, Value.bool false, Value.slice none 0 0] 33)) hS hl (hM.below hb0)
  have hPA := fun W => zpa_any ⟨(cA l).toArray⟩ (cA l) W rfl (by omega)
  have hPB := fun W => zpa_any ⟨(cB l).toArray⟩ (cB l) W rfl (by omega)
  have hPA2 : ∀ W, Calls Tryz.prog 21 #[.string ⟨(cA l).toArray⟩] W fun e w' => e = .returned (errV (pE (cA l))) ∧ Below W.heap.size W w' := fun W => (hPA W).mono fun e w' h => by
    rcases h with ⟨_, h⟩ | ⟨h, _⟩
    · exact h
    · exact absurd h hE
  obtain ⟨E, hEe⟩ : ∃ E, pE (cA l) = E := ⟨_, rfl⟩
  obtain ⟨SA, hSA⟩ : ∃ SA : ByteArray, ⟨(cA l).toArray⟩ = SA := ⟨_, rfl⟩
  obtain ⟨SB, hSB⟩ : ∃ SB : ByteArray, ⟨(cB l).toArray⟩ = SB := ⟨_, rfl⟩
  obtain ⟨fo, hfo⟩ : ∃ fo, cF l = fo := ⟨_, rfl⟩
  simp only [hSA, hSB, hfo] at hC
  simp only [hSA, hEe] at hPA2
  rw [hEe] at hE ⊢
  have q1 : ((E : Int) == 0) = false := by simp; exact hE
  have q2 : ((E : Int) != 0) = true := by simp; exact hE
  have HC := Lib.hid hC
  have HA := Lib.hid hPA2
  clear hC hPA hPA2 hPB hEe hSA hSB hfo hS hE
  go_enter Tryz.func14, Tryz.ntmps14
  go_wp2_with (first
    | (go_at_call 29; go_loud ((with_reducible refine HC.out.mono ?_); rintro e w1 ⟨rfl, hc1⟩; have k1_r_0 : w1.cell? ⟨w.heap.size, 0, none⟩ = some (.bool false) := bcs hc1 (by first | with_reducible assumption | go_simp); have g1_r_0 : w1.frozen? ⟨w.heap.size, 0, none⟩ = false := bfs hc1 (v := .bool false) (by first | with_reducible assumption | go_simp) (by first | with_reducible assumption | go_simp); have k1_r_1 : w1.cell? ⟨w.heap.size, 1, none⟩ = some (.slice none 0 0) := bcs hc1 (by first | with_reducible assumption | go_simp); have g1_r_1 : w1.frozen? ⟨w.heap.size, 1, none⟩ = false := bfs hc1 (v := .slice none 0 0) (by first | with_reducible assumption | go_simp) (by first | with_reducible assumption | go_simp); have k1_r_2 : w1.cell? ⟨w.heap.size, 2, none⟩ = some (.bool false) := bcs hc1 (by first | with_reducible assumption | go_simp); have g1_r_2 : w1.frozen? ⟨w.heap.size, 2, none⟩ = false := bfs hc1 (v := .bool false) (by first | with_reducible assumption | go_simp) (by first | with_reducible assumption | go_simp); have k1_r_3 : w1.cell? ⟨w.heap.size, 3, none⟩ = some (.slice none 0 0) := bcs hc1 (by first | with_reducible assumption | go_simp); have g1_r_3 : w1.frozen? ⟨w.heap.size, 3, none⟩ = false := bfs hc1 (v := .slice none 0 0) (by first | with_reducible assumption | go_simp) (by first | with_reducible assumption | go_simp); have x1_r : ¬ w.heap.size = w1.heap.size := qne k1_r_0; have y1_r : ¬ w1.heap.size = w.heap.size := fun h => qne k1_r_0 h.symm; have q1_r : w.heap.size < w1.heap.size := qlt k1_r_0; have hbw1 := hb0.trans (hc1.mono hz0)))
    | (go_at_call 21; go_loud ((with_reducible refine (HA.out _).mono ?_); unfold errV; rintro e w2 ⟨rfl, hc2⟩; have k2_r_0 : w2.cell? ⟨w.heap.size, 0, none⟩ = some (.bool false) := bcs hc2 (by first | with_reducible assumption | go_simp); have g2_r_0 : w2.frozen? ⟨w.heap.size, 0, none⟩ = false := bfs hc2 (v := .bool false) (by first | with_reducible assumption | go_simp) (by first | with_reducible assumption | go_simp); have k2_r_1 : w2.cell? ⟨w.heap.size, 1, none⟩ = some (.slice none 0 0) := bcs hc2 (by first | with_reducible assumption | go_simp); have g2_r_1 : w2.frozen? ⟨w.heap.size, 1, none⟩ = false := bfs hc2 (v := .slice none 0 0) (by first | with_reducible assumption | go_simp) (by first | with_reducible assumption | go_simp); have k2_r_2 : w2.cell? ⟨w.heap.size, 2, none⟩ = some (.bool false) := bcs hc2 (by first | with_reducible assumption | go_simp); have g2_r_2 : w2.frozen? ⟨w.heap.size, 2, none⟩ = false := bfs hc2 (v := .bool false) (by first | with_reducible assumption | go_simp) (by first | with_reducible assumption | go_simp); have k2_r_3 : w2.cell? ⟨w.heap.size, 3, none⟩ = some (.slice none 0 0) := bcs hc2 (by first | with_reducible assumption | go_simp); have g2_r_3 : w2.frozen? ⟨w.heap.size, 3, none⟩ = false := bfs hc2 (v := .slice none 0 0) (by first | with_reducible assumption | go_simp) (by first | with_reducible assumption | go_simp); have x2_r : ¬ w.heap.size = w2.heap.size := qne k2_r_0; have y2_r : ¬ w2.heap.size = w.heap.size := fun h => qne k2_r_0 h.symm; have q2_r : w.heap.size < w2.heap.size := qlt k2_r_0; have hbw2 := hbw1.trans (hc2.mono hbw1.size))))
  all_goals refine bodyPost_ret (v := .tuple #[.agg #[.bool false, .slice none 0 0, .bool false, .slice none 0 0], .int .i64 E]) (by simp [results, Tryz.results14, go_sem, *]) rfl ?_
  all_goals refine ⟨rfl, ?_⟩
  all_goals (repeat' first | with_reducible assumption | with_reducible refine belDr ?_ | with_reducible refine belAl ?_ _ | with_reducible refine belSt ?_ (Nat.le_refl _) | with_reducible refine belSt ?_ hbw3.size)
set_option maxRecDepth 50000 in
set_option maxHeartbeats 2000000 in
theorem prat_den (S : ByteArray) (l : List UInt8) (w : World) (hS : S.data.toList = l) (hl : l.length ≤ 1000000) (hM : Mx w) (hA : pE (cA l) = 0) (hF : cF l = true) (hE : pE (cB l) ≠ 0) :
    Calls Tryz.prog 14 #[.string S] w fun e w' => e = qerr (pE (cB l)) ∧ Below w.heap.size w w' := by
  have hb0 := Below.alloc (Below.refl w.heap.size w) (Nat.le_refl _) (.cells #[Value.bool false, Value.slice none 0 0, Value.bool false, Value.slice none 0 0] 33)
  have hz0 := hb0.size
  have hcl := cut_len l
  have hC := cut_any S l (w.alloc (.cells #[Value.bool false, Value.slice none 0 0, Value.bool false, Value.slice none 0 0] 33)) hS hl (hM.below hb0)
  have hPA := fun W => zpa_any ⟨(cA l).toArray⟩ (cA l) W rfl (by omega)
  have hPB := fun W => zpa_any ⟨(cB l).toArray⟩ (cB l) W rfl (by omega)
  have hzA := pZ_len hA
  have hPA2 : ∀ W, Calls Tryz.prog 21 #[.string ⟨(cA l).toArray⟩] W fun e w' => ∃ a c, e = .returned (okV (pZ (cA l)) a c) ∧ (canon (pZ (cA l)).natAbs).length ≤ c ∧ RwF W.heap.size w' a (canon (pZ (cA l)).natAbs) ∧ Below W.heap.size W w' := fun W => (hPA W).mono fun e w' h => by
    rcases h with ⟨h, _⟩ | ⟨_, h⟩
    · exact absurd hA h
    · exact h
  have hPB2 : ∀ W, Calls Tryz.prog 21 #[.string ⟨(cB l).toArray⟩] W fun e w' => e = .returned (errV (pE (cB l))) ∧ Below W.heap.size W w' := fun W => (hPB W).mono fun e w' h => by
    rcases h with ⟨_, h⟩ | ⟨h, _⟩
    · exact h
    · exact absurd h hE
  obtain ⟨E, hEe⟩ : ∃ E, pE (cB l) = E := ⟨_, rfl⟩
  obtain ⟨SA, hSA⟩ : ∃ SA : ByteArray, ⟨(cA l).toArray⟩ = SA := ⟨_, rfl⟩
  obtain ⟨SB, hSB⟩ : ∃ SB : ByteArray, ⟨(cB l).toArray⟩ = SB := ⟨_, rfl⟩
  obtain ⟨zA, hzAe⟩ : ∃ z, pZ (cA l) = z := ⟨_, rfl⟩
  obtain ⟨X, hX⟩ : ∃ X, canon zA.natAbs = X := ⟨_, rfl⟩
  obtain ⟨sA, hsA⟩ : ∃ s, decide (zA < 0) = s := ⟨_, rfl⟩
  unfold okV at hPA2
  simp only [hSA, hzAe, hX, hsA] at hPA2
  simp only [hSA, hSB, hF] at hC
  simp only [hzAe, hX] at hzA
  have hF1 := fun W => zfrom_any 1 (by decide) (by decide) W
  obtain ⟨O, hO⟩ : ∃ O, canon (1 : Int).natAbs = O := ⟨_, rfl⟩
  have hOl : O.length ≤ 2 := by rw [← hO]; exact canon_in (by decide) (by decide)
  have hOv : valD O = 1 := by rw [← hO, valD_canon]; rfl
  simp only [hSB, hEe] at hPB2
  rw [hEe] at hE ⊢
  have q1 : ((E : Int) == 0) = false := by simp; exact hE
  have q2 : ((E : Int) != 0) = true := by simp; exact hE
  have HC := Lib.hid hC
  have HA := Lib.hid hPA2
  have HB := Lib.hid hPB2
  have HF1 := Lib.hid hF1
  have HO := Lib.hid hO
  clear hC hPA hPA2 hPB hPB2 hEe hSA hSB hzAe hX hsA hF hS hE hF1 hO hOv
  go_enter Tryz.func14, Tryz.ntmps14
  go_wp2_with (first
    | (go_at_call 29; go_loud ((with_reducible refine HC.out.mono ?_); rintro e w1 ⟨rfl, hc1⟩; have k1_r_0 : w1.cell? ⟨w.heap.size, 0, none⟩ = some (.bool false) := bcs hc1 (by first | with_reducible assumption | go_simp); have g1_r_0 : w1.frozen? ⟨w.heap.size, 0, none⟩ = false := bfs hc1 (v := .bool false) (by first | with_reducible assumption | go_simp) (by first | with_reducible assumption | go_simp); have k1_r_1 : w1.cell? ⟨w.heap.size, 1, none⟩ = some (.slice none 0 0) := bcs hc1 (by first | with_reducible assumption | go_simp); have g1_r_1 : w1.frozen? ⟨w.heap.size, 1, none⟩ = false := bfs hc1 (v := .slice none 0 0) (by first | with_reducible assumption | go_simp) (by first | with_reducible assumption | go_simp); have k1_r_2 : w1.cell? ⟨w.heap.size, 2, none⟩ = some (.bool false) := bcs hc1 (by first | with_reducible assumption | go_simp); have g1_r_2 : w1.frozen? ⟨w.heap.size, 2, none⟩ = false := bfs hc1 (v := .bool false) (by first | with_reducible assumption | go_simp) (by first | with_reducible assumption | go_simp); have k1_r_3 : w1.cell? ⟨w.heap.size, 3, none⟩ = some (.slice none 0 0) := bcs hc1 (by first | with_reducible assumption | go_simp); have g1_r_3 : w1.frozen? ⟨w.heap.size, 3, none⟩ = false := bfs hc1 (v := .slice none 0 0) (by first | with_reducible assumption | go_simp) (by first | with_reducible assumption | go_simp); have x1_r : ¬ w.heap.size = w1.heap.size := qne k1_r_0; have y1_r : ¬ w1.heap.size = w.heap.size := fun h => qne k1_r_0 h.symm; have q1_r : w.heap.size < w1.heap.size := qlt k1_r_0; have hbw1 := hb0.trans (hc1.mono hz0)))
    | (go_at_call 21; go_loud (first
        | ((with_reducible refine (HB.out _).mono ?_); unfold errV; rintro e w4 ⟨rfl, hc4⟩; have k4_r_0 : w4.cell? ⟨w.heap.size, 0, none⟩ = some (.bool false) := bcs hc4 (by first | with_reducible assumption | go_simp); have g4_r_0 : w4.frozen? ⟨w.heap.size, 0, none⟩ = false := bfs hc4 (v := .bool false) (by first | with_reducible assumption | go_simp) (by first | with_reducible assumption | go_simp); have k4_r_1 : w4.cell? ⟨w.heap.size, 1, none⟩ = some (.slice none 0 0) := bcs hc4 (by first | with_reducible assumption | go_simp); have g4_r_1 : w4.frozen? ⟨w.heap.size, 1, none⟩ = false := bfs hc4 (v := .slice none 0 0) (by first | with_reducible assumption | go_simp) (by first | with_reducible assumption | go_simp); have k4_r_2 : w4.cell? ⟨w.heap.size, 2, none⟩ = some (.bool false) := bcs hc4 (by first | with_reducible assumption | go_simp); have g4_r_2 : w4.frozen? ⟨w.heap.size, 2, none⟩ = false := bfs hc4 (v := .bool false) (by first | with_reducible assumption | go_simp) (by first | with_reducible assumption | go_simp); have k4_r_3 : w4.cell? ⟨w.heap.size, 3, none⟩ = some (.slice none 0 0) := bcs hc4 (by first | with_reducible assumption | go_simp); have g4_r_3 : w4.frozen? ⟨w.heap.size, 3, none⟩ = false := bfs hc4 (v := .slice none 0 0) (by first | with_reducible assumption | go_simp) (by first | with_reducible assumption | go_simp); have x4_r : ¬ w.heap.size = w4.heap.size := qne k4_r_0; have y4_r : ¬ w4.heap.size = w.heap.size := fun h => qne k4_r_0 h.symm; have q4_r : w.heap.size < w4.heap.size := qlt k4_r_0; have k4_d_0 : w4.cell? ⟨w3.heap.size, 0, none⟩ = some (.bool false) := bcs hc4 (by first | with_reducible assumption | go_simp); have g4_d_0 : w4.frozen? ⟨w3.heap.size, 0, none⟩ = false := bfs hc4 (v := .bool false) (by first | with_reducible assumption | go_simp) (by first | with_reducible assumption | go_simp); have k4_d_1 : w4.cell? ⟨w3.heap.size, 1, none⟩ = some (.slice aO O.length kO) := bcs hc4 (by first | with_reducible assumption | go_simp); have g4_d_1 : w4.frozen? ⟨w3.heap.size, 1, none⟩ = false := bfs hc4 (v := .slice aO O.length kO) (by first | with_reducible assumption | go_simp) (by first | with_reducible assumption | go_simp); have x4_d : ¬ w3.heap.size = w4.heap.size := qne k4_d_0; have y4_d : ¬ w4.heap.size = w3.heap.size := fun h => qne k4_d_0 h.symm; have q4_d : w3.heap.size < w4.heap.size := qlt k4_d_0; have hbw4 := bel_step hbO3 hc4)
        | ((with_reducible refine (HA.out _).mono ?_); rintro e w2 ⟨aA, kA, rfl, hcA, hrA, hc2⟩; have k2_r_0 : w2.cell? ⟨w.heap.size, 0, none⟩ = some (.bool false) := bcs hc2 (by first | with_reducible assumption | go_simp); have g2_r_0 : w2.frozen? ⟨w.heap.size, 0, none⟩ = false := bfs hc2 (v := .bool false) (by first | with_reducible assumption | go_simp) (by first | with_reducible assumption | go_simp); have k2_r_1 : w2.cell? ⟨w.heap.size, 1, none⟩ = some (.slice none 0 0) := bcs hc2 (by first | with_reducible assumption | go_simp); have g2_r_1 : w2.frozen? ⟨w.heap.size, 1, none⟩ = false := bfs hc2 (v := .slice none 0 0) (by first | with_reducible assumption | go_simp) (by first | with_reducible assumption | go_simp); have k2_r_2 : w2.cell? ⟨w.heap.size, 2, none⟩ = some (.bool false) := bcs hc2 (by first | with_reducible assumption | go_simp); have g2_r_2 : w2.frozen? ⟨w.heap.size, 2, none⟩ = false := bfs hc2 (v := .bool false) (by first | with_reducible assumption | go_simp) (by first | with_reducible assumption | go_simp); have k2_r_3 : w2.cell? ⟨w.heap.size, 3, none⟩ = some (.slice none 0 0) := bcs hc2 (by first | with_reducible assumption | go_simp); have g2_r_3 : w2.frozen? ⟨w.heap.size, 3, none⟩ = false := bfs hc2 (v := .slice none 0 0) (by first | with_reducible assumption | go_simp) (by first | with_reducible assumption | go_simp); have x2_r : ¬ w.heap.size = w2.heap.size := qne k2_r_0; have y2_r : ¬ w2.heap.size = w.heap.size := fun h => qne k2_r_0 h.symm; have q2_r : w.heap.size < w2.heap.size := qlt k2_r_0; have hbw2 := hbw1.trans (hc2.mono hbw1.size); have hrA2 := hrA.rw; have hbA2 := belAl hbw2 (.cells #[Value.bool sA, Value.slice aA X.length kA] 31))))
    | (go_at_call 26; go_loud ((with_reducible refine (HF1.out _).mono ?_); rintro e w3 ⟨aO, kO, rfl, hoO, hc3⟩; rw [HO.out] at hoO; rw [HO.out, show decide ((1 : Int) < 0) = false from rfl]; have hcO := own_cap hoO; have k3_r_0 : w3.cell? ⟨w.heap.size, 0, none⟩ = some (.bool false) := bcs hc3 (by first | with_reducible assumption | go_simp); have g3_r_0 : w3.frozen? ⟨w.heap.size, 0, none⟩ = false := bfs hc3 (v := .bool false) (by first | with_reducible assumption | go_simp) (by first | with_reducible assumption | go_simp); have k3_r_1 : w3.cell? ⟨w.heap.size, 1, none⟩ = some (.slice none 0 0) := bcs hc3 (by first | with_reducible assumption | go_simp); have g3_r_1 : w3.frozen? ⟨w.heap.size, 1, none⟩ = false := bfs hc3 (v := .slice none 0 0) (by first | with_reducible assumption | go_simp) (by first | with_reducible assumption | go_simp); have k3_r_2 : w3.cell? ⟨w.heap.size, 2, none⟩ = some (.bool false) := bcs hc3 (by first | with_reducible assumption | go_simp); have g3_r_2 : w3.frozen? ⟨w.heap.size, 2, none⟩ = false := bfs hc3 (v := .bool false) (by first | with_reducible assumption | go_simp) (by first | with_reducible assumption | go_simp); have k3_r_3 : w3.cell? ⟨w.heap.size, 3, none⟩ = some (.slice none 0 0) := bcs hc3 (by first | with_reducible assumption | go_simp); have g3_r_3 : w3.frozen? ⟨w.heap.size, 3, none⟩ = false := bfs hc3 (v := .slice none 0 0) (by first | with_reducible assumption | go_simp) (by first | with_reducible assumption | go_simp); have x3_r : ¬ w.heap.size = w3.heap.size := qne k3_r_0; have y3_r : ¬ w3.heap.size = w.heap.size := fun h => qne k3_r_0 h.symm; have q3_r : w.heap.size < w3.heap.size := qlt k3_r_0; have k3_n_0 : w3.cell? ⟨w2.heap.size, 0, none⟩ = some (.bool sA) := bcs hc3 (by first | with_reducible assumption | go_simp); have g3_n_0 : w3.frozen? ⟨w2.heap.size, 0, none⟩ = false := bfs hc3 (v := .bool sA) (by first | with_reducible assumption | go_simp) (by first | with_reducible assumption | go_simp); have k3_n_1 : w3.cell? ⟨w2.heap.size, 1, none⟩ = some (.slice aA X.length kA) := bcs hc3 (by first | with_reducible assumption | go_simp); have g3_n_1 : w3.frozen? ⟨w2.heap.size, 1, none⟩ = false := bfs hc3 (v := .slice aA X.length kA) (by first | with_reducible assumption | go_simp) (by first | with_reducible assumption | go_simp); have x3_n : ¬ w2.heap.size = w3.heap.size := qne k3_n_0; have y3_n : ¬ w3.heap.size = w2.heap.size := fun h => qne k3_n_0 h.symm; have q3_n : w2.heap.size < w3.heap.size := qlt k3_n_0; have hbw3 := bel_step hbA2 hc3; have hrA3 := (hrA2.al (.cells #[Value.bool sA, Value.slice aA X.length kA] 31)).below hc3; have hrO3 := Rw.of_own hoO; have hbO3 := belAl hbw3 (.cells #[Value.bool false, Value.slice aO O.length kO] 31); have hrA4 := hrA3.al (.cells #[Value.bool false, Value.slice aO O.length kO] 31); have hrO4 := hrO3.al (.cells #[Value.bool false, Value.slice aO O.length kO] 31))))
  all_goals refine bodyPost_ret (v := .tuple #[.agg #[.bool false, .slice none 0 0, .bool false, .slice none 0 0], .int .i64 E]) (by simp [results, Tryz.results14, go_sem, *]) rfl ?_
  all_goals refine ⟨rfl, ?_⟩
  all_goals (repeat' first | with_reducible assumption | with_reducible refine belDr ?_ | with_reducible refine belAl ?_ _ | with_reducible refine belSt ?_ (Nat.le_refl _) | with_reducible refine belSt ?_ hbw3.size)
end Go.Proofs.YtdkbmpncohhioaaGreatDoor
