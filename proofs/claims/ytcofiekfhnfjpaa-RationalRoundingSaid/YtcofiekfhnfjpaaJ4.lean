
import Derived.Test.YtcofiekfhnfjpaaJ3
namespace Go.Proofs.Ytcofiekfhnfjpaa
open Go.RowKit
set_option linter.unusedVariables false
set_option linter.unusedSimpArgs false
attribute [local go_sem ↓] Go.wp_at_zero Go.wp_at_succ
/-- The normalized form of n/d. -/
def rnN (n d : Int) : Int := if d = 0 then 0 else zv (decide (n.sign * d.sign < 0)) (n.natAbs / Nat.gcd n.natAbs d.natAbs)
def rnD (n d : Int) : Int := if d = 0 then 1 else ((d.natAbs / Nat.gcd n.natAbs d.natAbs : Nat) : Int)
theorem rn_pos {n d : Int} (h : 0 < d) : rnN n d = zv (decide (n < 0)) (n.natAbs / Nat.gcd n.natAbs d.natAbs) ∧ rnD n d = ((d.natAbs / Nat.gcd n.natAbs d.natAbs : Nat) : Int) := by
  unfold rnN rnD
  rw [if_neg (by omega), if_neg (by omega), Int.sign_eq_one_of_pos h, Int.mul_one]
  refine ⟨?_, rfl⟩
  congr 1
  rw [decide_eq_decide]
  exact Int.sign_neg_iff
theorem rn_neg {n d : Int} (h : d < 0) : rnN n d = zv (decide (-n < 0)) ((-n).natAbs / Nat.gcd (-n).natAbs (-d).natAbs) ∧ rnD n d = (((-d).natAbs / Nat.gcd (-n).natAbs (-d).natAbs : Nat) : Int) := by
  unfold rnN rnD
  rw [if_neg (by omega), if_neg (by omega), Int.sign_eq_neg_one_of_neg h, Int.natAbs_neg, Int.natAbs_neg]
  refine ⟨?_, rfl⟩
  congr 1
  rw [decide_eq_decide]
  have := @Int.sign_neg_iff (-n)
  rw [Int.sign_neg] at this
  rw [Int.mul_neg, Int.mul_one]
  exact this
theorem FrF.put {w w1 w3 : World} {x y : Int} {a b : Option Addr} {c d blk : Nat} (hbk : blk < w1.heap.size) (hwb : w.heap.size ≤ blk)
    (ho3 : w3.ownsRow w1.heap.size 49 1 (.slice a (canon x.natAbs).length c) (canon x.natAbs).length (bv32 (canon x.natAbs))) (ho4 : w3.ownsRow w1.heap.size 49 1 (.slice b (canon y.natAbs).length d) (canon y.natAbs).length (bv32 (canon y.natAbs)))
    (hne : ∀ p q, a = some p → b = some q → p.block ≠ q.block) (hb : Below w.heap.size w w3) (v0 v1 v2 v3 : Value) :
    FrF w x y (.returned (.agg #[.bool (decide (x < 0)), .slice a (canon x.natAbs).length c, .bool (decide (y < 0)), .slice b (canon y.natAbs).length d])) ((((w3.setCell ⟨blk, 0, none⟩ v0).setCell ⟨blk, 1, none⟩ v1).setCell ⟨blk, 2, none⟩ v2).setCell ⟨blk, 3, none⟩ v3) :=
  ⟨a, c, b, d, rfl, own_mono (own_set_other (own_set_other (own_set_other (own_set_other ho3 hbk 0 _) hbk 1 _) hbk 2 _) hbk 3 _) (by omega), own_mono (own_set_other (own_set_other (own_set_other (own_set_other ho4 hbk 0 _) hbk 1 _) hbk 2 _) hbk 3 _) (by omega), hne, (((hb.setCell hwb _).setCell hwb _).setCell hwb _).setCell hwb _⟩
theorem FrF.eq {w w' : World} {x y x' y' : Int} {e : Ending} (h : FrF w x y e w') (hx : x = x') (hy : y = y') : FrF w x' y' e w' := hx ▸ hy ▸ h
set_option maxRecDepth 50000 in
theorem red_small_neg (s t : Bool) (a b : Option Addr) (n c m d : Nat) (l k : List (BitVec 32)) (w : World) (hn : l.length = n) (hm : k.length = m) (hc : n ≤ c) (hd : m ≤ d) (hl : n ≤ 1000000) (hl2 : m ≤ 1000000) (hr : Rw w a l) (hs : Rw w b k) (h1 : smB l = true) (h2 : smB k = true) (hy : zv t (valD k) < 0) :
    Calls Try.prog 42 #[.agg #[.bool s, .slice a n c], .agg #[.bool t, .slice b m d]] w (FrF w (rnN (zv s (valD l)) (zv t (valD k))) (rnD (zv s (valD l)) (zv t (valD k)))) := by
  subst hn hm
  have hrn := rn_neg (n := zv s (valD l)) hy
  have hx0 := smB_bd s l _ h1 rfl
  have hy0 := smB_bd t k _ h2 rfl
  have hsg : (zv t (valD k)).sign = -1 := by first | exact Int.sign_eq_one_of_pos hy | exact Int.sign_eq_neg_one_of_neg hy
  have hZS : ∀ W, Rw W b k → Calls Try.prog 41 #[.agg #[.bool t, .slice b k.length d]] W fun e w' => e = .returned (.int .i64 (-1)) ∧ Below W.heap.size W w' := by
    intro W hW
    rw [← hsg]
    exact zsign_any t b _ d k W rfl hd hl2 hW
  obtain ⟨x, hx⟩ : ∃ x, zv s (valD l) = x := ⟨_, rfl⟩
  obtain ⟨y, hyy⟩ : ∃ y, zv t (valD k) = y := ⟨_, rfl⟩
  have hLD : ∀ W, Rw W a l → Rw W b k → Calls Try.prog 74 #[.agg #[.bool s, .slice a l.length c, .bool t, .slice b k.length d]] W fun e w' => e = .returned (.tuple #[.agg #[.int .i64 (-x), .int .i64 (-y)], .bool true]) ∧ Below W.heap.size W w' := by
    intro W hW hW2
    exact lds_neg s t a b _ c _ d l k x y W rfl rfl hl hl2 hW hW2 h1 h2 hx hyy (by rw [← hyy]; exact hy)
  rw [hx] at hx0
  rw [hyy] at hy0 hy
  rw [hx, hyy] at hrn ⊢
  obtain ⟨Y, hY⟩ : ∃ Y : Nat, -y = (Y : Int) := ⟨(-y).toNat, by omega⟩
  rw [hY] at hLD hrn
  have hst : ∀ W, Calls Try.prog 64 #[.agg #[.int .i64 (-x), .int .i64 (Y : Int)]] W (FrF W (rnN x y) (rnD x y)) := by
    intro W
    first | rw [hrn.1, hrn.2] | (rw [hY]; rw [hrn.1, hrn.2])
    exact store_any (-x) Y W (by omega) (by omega) (by omega) (by omega)
  obtain ⟨P, hP⟩ : ∃ P, rnN x y = P := ⟨_, rfl⟩
  obtain ⟨Q, hQ⟩ : ∃ Q, rnD x y = Q := ⟨_, rfl⟩
  rw [hP, hQ] at hst ⊢
  have HL := Lib.hid hLD
  have HT := Lib.hid hst
  have HZ := Lib.hid hZS
  clear hrn hx0 hy0 hsg hZS hx hyy hLD hst hP hQ hY hy h1 h2
  have hb1 := Below.alloc (Below.refl w.heap.size w) (Nat.le_refl _) (.cells #[Value.bool s, Value.slice a l.length c] 24)
  have hb2 := Below.alloc hb1 (by simp) (.cells #[Value.bool t, Value.slice b k.length d] 24)
  have hb3 := Below.alloc hb2 (by simp; omega) (.cells #[Value.bool false, Value.slice none 0 0, Value.bool false, Value.slice none 0 0] 26)
  have hsb := hs.below hb3
  have hz3 := hb3.size
  go_enter Try.func42, Try.ntmps42
  go_wp2_with (first
    | (go_at_call 41; go_loud ((with_reducible refine (HZ.out _ hsb).mono ?_); rintro e w1 ⟨rfl, hc1⟩; have k1_p_0 : w1.cell? ⟨w.heap.size, 0, none⟩ = some (.bool s) := bca hc1; have g1_p_0 : w1.frozen? ⟨w.heap.size, 0, none⟩ = false := bfa hc1 (v := .bool s); have k1_p_1 : w1.cell? ⟨w.heap.size, 1, none⟩ = some (.slice a l.length c) := bca hc1; have g1_p_1 : w1.frozen? ⟨w.heap.size, 1, none⟩ = false := bfa hc1 (v := .slice a l.length c); have x1_p : ¬ w.heap.size = w1.heap.size := qne k1_p_0; have y1_p : ¬ w1.heap.size = w.heap.size := fun h => qne k1_p_0 h.symm; have q1_p : w.heap.size < w1.heap.size := qlt k1_p_0; have k1_q_0 : w1.cell? ⟨w.heap.size + 1, 0, none⟩ = some (.bool t) := bca hc1; have g1_q_0 : w1.frozen? ⟨w.heap.size + 1, 0, none⟩ = false := bfa hc1 (v := .bool t); have k1_q_1 : w1.cell? ⟨w.heap.size + 1, 1, none⟩ = some (.slice b k.length d) := bca hc1; have g1_q_1 : w1.frozen? ⟨w.heap.size + 1, 1, none⟩ = false := bfa hc1 (v := .slice b k.length d); have x1_q : ¬ w.heap.size + 1 = w1.heap.size := qne k1_q_0; have y1_q : ¬ w1.heap.size = w.heap.size + 1 := fun h => qne k1_q_0 h.symm; have q1_q : w.heap.size + 1 < w1.heap.size := qlt k1_q_0; have k1_r_0 : w1.cell? ⟨w.heap.size + 1 + 1, 0, none⟩ = some (.bool false) := bca hc1; have g1_r_0 : w1.frozen? ⟨w.heap.size + 1 + 1, 0, none⟩ = false := bfa hc1 (v := .bool false); have k1_r_1 : w1.cell? ⟨w.heap.size + 1 + 1, 1, none⟩ = some (.slice none 0 0) := bca hc1; have g1_r_1 : w1.frozen? ⟨w.heap.size + 1 + 1, 1, none⟩ = false := bfa hc1 (v := .slice none 0 0); have k1_r_2 : w1.cell? ⟨w.heap.size + 1 + 1, 2, none⟩ = some (.bool false) := bca hc1; have g1_r_2 : w1.frozen? ⟨w.heap.size + 1 + 1, 2, none⟩ = false := bfa hc1 (v := .bool false); have k1_r_3 : w1.cell? ⟨w.heap.size + 1 + 1, 3, none⟩ = some (.slice none 0 0) := bca hc1; have g1_r_3 : w1.frozen? ⟨w.heap.size + 1 + 1, 3, none⟩ = false := bfa hc1 (v := .slice none 0 0); have x1_r : ¬ w.heap.size + 1 + 1 = w1.heap.size := qne k1_r_0; have y1_r : ¬ w1.heap.size = w.heap.size + 1 + 1 := fun h => qne k1_r_0 h.symm; have q1_r : w.heap.size + 1 + 1 < w1.heap.size := qlt k1_r_0; have hbw1 := hb3.trans (hc1.mono hz3); have hr1 := hr.below hbw1; have hs1 := hs.below hbw1; have hz1 := hbw1.size; clear hc1))
    | (go_at_call 74; go_loud ((with_reducible refine (HL.out _ hr1 hs1).mono ?_); rintro e w2 ⟨rfl, hc2⟩; have k2_p_0 : w2.cell? ⟨w.heap.size, 0, none⟩ = some (.bool s) := bca hc2; have g2_p_0 : w2.frozen? ⟨w.heap.size, 0, none⟩ = false := bfa hc2 (v := .bool s); have k2_p_1 : w2.cell? ⟨w.heap.size, 1, none⟩ = some (.slice a l.length c) := bca hc2; have g2_p_1 : w2.frozen? ⟨w.heap.size, 1, none⟩ = false := bfa hc2 (v := .slice a l.length c); have x2_p : ¬ w.heap.size = w2.heap.size := qne k2_p_0; have y2_p : ¬ w2.heap.size = w.heap.size := fun h => qne k2_p_0 h.symm; have q2_p : w.heap.size < w2.heap.size := qlt k2_p_0; have k2_q_0 : w2.cell? ⟨w.heap.size + 1, 0, none⟩ = some (.bool t) := bca hc2; have g2_q_0 : w2.frozen? ⟨w.heap.size + 1, 0, none⟩ = false := bfa hc2 (v := .bool t); have k2_q_1 : w2.cell? ⟨w.heap.size + 1, 1, none⟩ = some (.slice b k.length d) := bca hc2; have g2_q_1 : w2.frozen? ⟨w.heap.size + 1, 1, none⟩ = false := bfa hc2 (v := .slice b k.length d); have x2_q : ¬ w.heap.size + 1 = w2.heap.size := qne k2_q_0; have y2_q : ¬ w2.heap.size = w.heap.size + 1 := fun h => qne k2_q_0 h.symm; have q2_q : w.heap.size + 1 < w2.heap.size := qlt k2_q_0; have k2_r_0 : w2.cell? ⟨w.heap.size + 1 + 1, 0, none⟩ = some (.bool false) := bca hc2; have g2_r_0 : w2.frozen? ⟨w.heap.size + 1 + 1, 0, none⟩ = false := bfa hc2 (v := .bool false); have k2_r_1 : w2.cell? ⟨w.heap.size + 1 + 1, 1, none⟩ = some (.slice none 0 0) := bca hc2; have g2_r_1 : w2.frozen? ⟨w.heap.size + 1 + 1, 1, none⟩ = false := bfa hc2 (v := .slice none 0 0); have k2_r_2 : w2.cell? ⟨w.heap.size + 1 + 1, 2, none⟩ = some (.bool false) := bca hc2; have g2_r_2 : w2.frozen? ⟨w.heap.size + 1 + 1, 2, none⟩ = false := bfa hc2 (v := .bool false); have k2_r_3 : w2.cell? ⟨w.heap.size + 1 + 1, 3, none⟩ = some (.slice none 0 0) := bca hc2; have g2_r_3 : w2.frozen? ⟨w.heap.size + 1 + 1, 3, none⟩ = false := bfa hc2 (v := .slice none 0 0); have x2_r : ¬ w.heap.size + 1 + 1 = w2.heap.size := qne k2_r_0; have y2_r : ¬ w2.heap.size = w.heap.size + 1 + 1 := fun h => qne k2_r_0 h.symm; have q2_r : w.heap.size + 1 + 1 < w2.heap.size := qlt k2_r_0; have hbw2 := hbw1.trans (hc2.mono hz1); have hz2 := hbw2.size; clear hc2))
    | (go_at_call 64; go_loud ((with_reducible refine (HT.out _).mono ?_); rintro e w3 ⟨a3, c3, b3, d3, rfl, ho3, ho4, hne, hc3⟩; have k3_p_0 : w3.cell? ⟨w.heap.size, 0, none⟩ = some (.bool s) := bca hc3; have g3_p_0 : w3.frozen? ⟨w.heap.size, 0, none⟩ = false := bfa hc3 (v := .bool s); have k3_p_1 : w3.cell? ⟨w.heap.size, 1, none⟩ = some (.slice a l.length c) := bca hc3; have g3_p_1 : w3.frozen? ⟨w.heap.size, 1, none⟩ = false := bfa hc3 (v := .slice a l.length c); have x3_p : ¬ w.heap.size = w3.heap.size := qne k3_p_0; have y3_p : ¬ w3.heap.size = w.heap.size := fun h => qne k3_p_0 h.symm; have q3_p : w.heap.size < w3.heap.size := qlt k3_p_0; have k3_q_0 : w3.cell? ⟨w.heap.size + 1, 0, none⟩ = some (.bool t) := bca hc3; have g3_q_0 : w3.frozen? ⟨w.heap.size + 1, 0, none⟩ = false := bfa hc3 (v := .bool t); have k3_q_1 : w3.cell? ⟨w.heap.size + 1, 1, none⟩ = some (.slice b k.length d) := bca hc3; have g3_q_1 : w3.frozen? ⟨w.heap.size + 1, 1, none⟩ = false := bfa hc3 (v := .slice b k.length d); have x3_q : ¬ w.heap.size + 1 = w3.heap.size := qne k3_q_0; have y3_q : ¬ w3.heap.size = w.heap.size + 1 := fun h => qne k3_q_0 h.symm; have q3_q : w.heap.size + 1 < w3.heap.size := qlt k3_q_0; have k3_r_0 : w3.cell? ⟨w.heap.size + 1 + 1, 0, none⟩ = some (.bool false) := bca hc3; have g3_r_0 : w3.frozen? ⟨w.heap.size + 1 + 1, 0, none⟩ = false := bfa hc3 (v := .bool false); have k3_r_1 : w3.cell? ⟨w.heap.size + 1 + 1, 1, none⟩ = some (.slice none 0 0) := bca hc3; have g3_r_1 : w3.frozen? ⟨w.heap.size + 1 + 1, 1, none⟩ = false := bfa hc3 (v := .slice none 0 0); have k3_r_2 : w3.cell? ⟨w.heap.size + 1 + 1, 2, none⟩ = some (.bool false) := bca hc3; have g3_r_2 : w3.frozen? ⟨w.heap.size + 1 + 1, 2, none⟩ = false := bfa hc3 (v := .bool false); have k3_r_3 : w3.cell? ⟨w.heap.size + 1 + 1, 3, none⟩ = some (.slice none 0 0) := bca hc3; have g3_r_3 : w3.frozen? ⟨w.heap.size + 1 + 1, 3, none⟩ = false := bfa hc3 (v := .slice none 0 0); have x3_r : ¬ w.heap.size + 1 + 1 = w3.heap.size := qne k3_r_0; have y3_r : ¬ w3.heap.size = w.heap.size + 1 + 1 := fun h => qne k3_r_0 h.symm; have q3_r : w.heap.size + 1 + 1 < w3.heap.size := qlt k3_r_0)))
  refine bodyPost_ret (v := .agg #[.bool (decide (P < 0)), .slice a3 (canon P.natAbs).length c3, .bool (decide (Q < 0)), .slice b3 (canon Q.natAbs).length d3]) (by simp [results, Try.results42, go_sem, *]) rfl ?_
  have hz4 : w.heap.size ≤ (w2.alloc (.cells #[Value.int .i64 (-x), Value.int .i64 (Y : Int)] 65)).heap.size := by simp; omega
  exact FrF.put (by simp; omega) (by omega) ho3 ho4 hne ((Below.alloc hbw2 hz2 _).trans (hc3.mono hz4)) _ _ _ _
set_option maxRecDepth 50000 in
theorem red_small_pos (s t : Bool) (a b : Option Addr) (n c m d : Nat) (l k : List (BitVec 32)) (w : World) (hn : l.length = n) (hm : k.length = m) (hc : n ≤ c) (hd : m ≤ d) (hl : n ≤ 1000000) (hl2 : m ≤ 1000000) (hr : Rw w a l) (hs : Rw w b k) (h1 : smB l = true) (h2 : smB k = true) (hy : 0 < zv t (valD k)) :
    Calls Try.prog 42 #[.agg #[.bool s, .slice a n c], .agg #[.bool t, .slice b m d]] w (FrF w (rnN (zv s (valD l)) (zv t (valD k))) (rnD (zv s (valD l)) (zv t (valD k)))) := by
  subst hn hm
  have hrn := rn_pos (n := zv s (valD l)) hy
  have hx0 := smB_bd s l _ h1 rfl
  have hy0 := smB_bd t k _ h2 rfl
  have hsg : (zv t (valD k)).sign = 1 := by first | exact Int.sign_eq_one_of_pos hy | exact Int.sign_eq_neg_one_of_neg hy
  have hZS : ∀ W, Rw W b k → Calls Try.prog 41 #[.agg #[.bool t, .slice b k.length d]] W fun e w' => e = .returned (.int .i64 (1)) ∧ Below W.heap.size W w' := by
    intro W hW
    rw [← hsg]
    exact zsign_any t b _ d k W rfl hd hl2 hW
  obtain ⟨x, hx⟩ : ∃ x, zv s (valD l) = x := ⟨_, rfl⟩
  obtain ⟨y, hyy⟩ : ∃ y, zv t (valD k) = y := ⟨_, rfl⟩
  have hLD : ∀ W, Rw W a l → Rw W b k → Calls Try.prog 74 #[.agg #[.bool s, .slice a l.length c, .bool t, .slice b k.length d]] W fun e w' => e = .returned (.tuple #[.agg #[.int .i64 (x), .int .i64 (y)], .bool true]) ∧ Below W.heap.size W w' := by
    intro W hW hW2
    exact lds_pos s t a b _ c _ d l k x y W rfl rfl hl hl2 hW hW2 h1 h2 hx hyy (by rw [← hyy]; exact hy)
  rw [hx] at hx0
  rw [hyy] at hy0 hy
  rw [hx, hyy] at hrn ⊢
  obtain ⟨Y, hY⟩ : ∃ Y : Nat, y = (Y : Int) := ⟨y.toNat, by omega⟩
  rw [hY] at hLD hrn
  have hst : ∀ W, Calls Try.prog 64 #[.agg #[.int .i64 (x), .int .i64 (Y : Int)]] W (FrF W (rnN x y) (rnD x y)) := by
    intro W
    first | rw [hrn.1, hrn.2] | (rw [hY]; rw [hrn.1, hrn.2])
    exact store_any (x) Y W (by omega) (by omega) (by omega) (by omega)
  obtain ⟨P, hP⟩ : ∃ P, rnN x y = P := ⟨_, rfl⟩
  obtain ⟨Q, hQ⟩ : ∃ Q, rnD x y = Q := ⟨_, rfl⟩
  rw [hP, hQ] at hst ⊢
  have HL := Lib.hid hLD
  have HT := Lib.hid hst
  have HZ := Lib.hid hZS
  clear hrn hx0 hy0 hsg hZS hx hyy hLD hst hP hQ hY hy h1 h2
  have hb1 := Below.alloc (Below.refl w.heap.size w) (Nat.le_refl _) (.cells #[Value.bool s, Value.slice a l.length c] 24)
  have hb2 := Below.alloc hb1 (by simp) (.cells #[Value.bool t, Value.slice b k.length d] 24)
  have hb3 := Below.alloc hb2 (by simp; omega) (.cells #[Value.bool false, Value.slice none 0 0, Value.bool false, Value.slice none 0 0] 26)
  have hsb := hs.below hb3
  have hz3 := hb3.size
  go_enter Try.func42, Try.ntmps42
  go_wp2_with (first
    | (go_at_call 41; go_loud ((with_reducible refine (HZ.out _ hsb).mono ?_); rintro e w1 ⟨rfl, hc1⟩; have k1_p_0 : w1.cell? ⟨w.heap.size, 0, none⟩ = some (.bool s) := bca hc1; have g1_p_0 : w1.frozen? ⟨w.heap.size, 0, none⟩ = false := bfa hc1 (v := .bool s); have k1_p_1 : w1.cell? ⟨w.heap.size, 1, none⟩ = some (.slice a l.length c) := bca hc1; have g1_p_1 : w1.frozen? ⟨w.heap.size, 1, none⟩ = false := bfa hc1 (v := .slice a l.length c); have x1_p : ¬ w.heap.size = w1.heap.size := qne k1_p_0; have y1_p : ¬ w1.heap.size = w.heap.size := fun h => qne k1_p_0 h.symm; have q1_p : w.heap.size < w1.heap.size := qlt k1_p_0; have k1_q_0 : w1.cell? ⟨w.heap.size + 1, 0, none⟩ = some (.bool t) := bca hc1; have g1_q_0 : w1.frozen? ⟨w.heap.size + 1, 0, none⟩ = false := bfa hc1 (v := .bool t); have k1_q_1 : w1.cell? ⟨w.heap.size + 1, 1, none⟩ = some (.slice b k.length d) := bca hc1; have g1_q_1 : w1.frozen? ⟨w.heap.size + 1, 1, none⟩ = false := bfa hc1 (v := .slice b k.length d); have x1_q : ¬ w.heap.size + 1 = w1.heap.size := qne k1_q_0; have y1_q : ¬ w1.heap.size = w.heap.size + 1 := fun h => qne k1_q_0 h.symm; have q1_q : w.heap.size + 1 < w1.heap.size := qlt k1_q_0; have k1_r_0 : w1.cell? ⟨w.heap.size + 1 + 1, 0, none⟩ = some (.bool false) := bca hc1; have g1_r_0 : w1.frozen? ⟨w.heap.size + 1 + 1, 0, none⟩ = false := bfa hc1 (v := .bool false); have k1_r_1 : w1.cell? ⟨w.heap.size + 1 + 1, 1, none⟩ = some (.slice none 0 0) := bca hc1; have g1_r_1 : w1.frozen? ⟨w.heap.size + 1 + 1, 1, none⟩ = false := bfa hc1 (v := .slice none 0 0); have k1_r_2 : w1.cell? ⟨w.heap.size + 1 + 1, 2, none⟩ = some (.bool false) := bca hc1; have g1_r_2 : w1.frozen? ⟨w.heap.size + 1 + 1, 2, none⟩ = false := bfa hc1 (v := .bool false); have k1_r_3 : w1.cell? ⟨w.heap.size + 1 + 1, 3, none⟩ = some (.slice none 0 0) := bca hc1; have g1_r_3 : w1.frozen? ⟨w.heap.size + 1 + 1, 3, none⟩ = false := bfa hc1 (v := .slice none 0 0); have x1_r : ¬ w.heap.size + 1 + 1 = w1.heap.size := qne k1_r_0; have y1_r : ¬ w1.heap.size = w.heap.size + 1 + 1 := fun h => qne k1_r_0 h.symm; have q1_r : w.heap.size + 1 + 1 < w1.heap.size := qlt k1_r_0; have hbw1 := hb3.trans (hc1.mono hz3); have hr1 := hr.below hbw1; have hs1 := hs.below hbw1; have hz1 := hbw1.size; clear hc1))
    | (go_at_call 74; go_loud ((with_reducible refine (HL.out _ hr1 hs1).mono ?_); rintro e w2 ⟨rfl, hc2⟩; have k2_p_0 : w2.cell? ⟨w.heap.size, 0, none⟩ = some (.bool s) := bca hc2; have g2_p_0 : w2.frozen? ⟨w.heap.size, 0, none⟩ = false := bfa hc2 (v := .bool s); have k2_p_1 : w2.cell? ⟨w.heap.size, 1, none⟩ = some (.slice a l.length c) := bca hc2; have g2_p_1 : w2.frozen? ⟨w.heap.size, 1, none⟩ = false := bfa hc2 (v := .slice a l.length c); have x2_p : ¬ w.heap.size = w2.heap.size := qne k2_p_0; have y2_p : ¬ w2.heap.size = w.heap.size := fun h => qne k2_p_0 h.symm; have q2_p : w.heap.size < w2.heap.size := qlt k2_p_0; have k2_q_0 : w2.cell? ⟨w.heap.size + 1, 0, none⟩ = some (.bool t) := bca hc2; have g2_q_0 : w2.frozen? ⟨w.heap.size + 1, 0, none⟩ = false := bfa hc2 (v := .bool t); have k2_q_1 : w2.cell? ⟨w.heap.size + 1, 1, none⟩ = some (.slice b k.length d) := bca hc2; have g2_q_1 : w2.frozen? ⟨w.heap.size + 1, 1, none⟩ = false := bfa hc2 (v := .slice b k.length d); have x2_q : ¬ w.heap.size + 1 = w2.heap.size := qne k2_q_0; have y2_q : ¬ w2.heap.size = w.heap.size + 1 := fun h => qne k2_q_0 h.symm; have q2_q : w.heap.size + 1 < w2.heap.size := qlt k2_q_0; have k2_r_0 : w2.cell? ⟨w.heap.size + 1 + 1, 0, none⟩ = some (.bool false) := bca hc2; have g2_r_0 : w2.frozen? ⟨w.heap.size + 1 + 1, 0, none⟩ = false := bfa hc2 (v := .bool false); have k2_r_1 : w2.cell? ⟨w.heap.size + 1 + 1, 1, none⟩ = some (.slice none 0 0) := bca hc2; have g2_r_1 : w2.frozen? ⟨w.heap.size + 1 + 1, 1, none⟩ = false := bfa hc2 (v := .slice none 0 0); have k2_r_2 : w2.cell? ⟨w.heap.size + 1 + 1, 2, none⟩ = some (.bool false) := bca hc2; have g2_r_2 : w2.frozen? ⟨w.heap.size + 1 + 1, 2, none⟩ = false := bfa hc2 (v := .bool false); have k2_r_3 : w2.cell? ⟨w.heap.size + 1 + 1, 3, none⟩ = some (.slice none 0 0) := bca hc2; have g2_r_3 : w2.frozen? ⟨w.heap.size + 1 + 1, 3, none⟩ = false := bfa hc2 (v := .slice none 0 0); have x2_r : ¬ w.heap.size + 1 + 1 = w2.heap.size := qne k2_r_0; have y2_r : ¬ w2.heap.size = w.heap.size + 1 + 1 := fun h => qne k2_r_0 h.symm; have q2_r : w.heap.size + 1 + 1 < w2.heap.size := qlt k2_r_0; have hbw2 := hbw1.trans (hc2.mono hz1); have hz2 := hbw2.size; clear hc2))
    | (go_at_call 64; go_loud ((with_reducible refine (HT.out _).mono ?_); rintro e w3 ⟨a3, c3, b3, d3, rfl, ho3, ho4, hne, hc3⟩; have k3_p_0 : w3.cell? ⟨w.heap.size, 0, none⟩ = some (.bool s) := bca hc3; have g3_p_0 : w3.frozen? ⟨w.heap.size, 0, none⟩ = false := bfa hc3 (v := .bool s); have k3_p_1 : w3.cell? ⟨w.heap.size, 1, none⟩ = some (.slice a l.length c) := bca hc3; have g3_p_1 : w3.frozen? ⟨w.heap.size, 1, none⟩ = false := bfa hc3 (v := .slice a l.length c); have x3_p : ¬ w.heap.size = w3.heap.size := qne k3_p_0; have y3_p : ¬ w3.heap.size = w.heap.size := fun h => qne k3_p_0 h.symm; have q3_p : w.heap.size < w3.heap.size := qlt k3_p_0; have k3_q_0 : w3.cell? ⟨w.heap.size + 1, 0, none⟩ = some (.bool t) := bca hc3; have g3_q_0 : w3.frozen? ⟨w.heap.size + 1, 0, none⟩ = false := bfa hc3 (v := .bool t); have k3_q_1 : w3.cell? ⟨w.heap.size + 1, 1, none⟩ = some (.slice b k.length d) := bca hc3; have g3_q_1 : w3.frozen? ⟨w.heap.size + 1, 1, none⟩ = false := bfa hc3 (v := .slice b k.length d); have x3_q : ¬ w.heap.size + 1 = w3.heap.size := qne k3_q_0; have y3_q : ¬ w3.heap.size = w.heap.size + 1 := fun h => qne k3_q_0 h.symm; have q3_q : w.heap.size + 1 < w3.heap.size := qlt k3_q_0; have k3_r_0 : w3.cell? ⟨w.heap.size + 1 + 1, 0, none⟩ = some (.bool false) := bca hc3; have g3_r_0 : w3.frozen? ⟨w.heap.size + 1 + 1, 0, none⟩ = false := bfa hc3 (v := .bool false); have k3_r_1 : w3.cell? ⟨w.heap.size + 1 + 1, 1, none⟩ = some (.slice none 0 0) := bca hc3; have g3_r_1 : w3.frozen? ⟨w.heap.size + 1 + 1, 1, none⟩ = false := bfa hc3 (v := .slice none 0 0); have k3_r_2 : w3.cell? ⟨w.heap.size + 1 + 1, 2, none⟩ = some (.bool false) := bca hc3; have g3_r_2 : w3.frozen? ⟨w.heap.size + 1 + 1, 2, none⟩ = false := bfa hc3 (v := .bool false); have k3_r_3 : w3.cell? ⟨w.heap.size + 1 + 1, 3, none⟩ = some (.slice none 0 0) := bca hc3; have g3_r_3 : w3.frozen? ⟨w.heap.size + 1 + 1, 3, none⟩ = false := bfa hc3 (v := .slice none 0 0); have x3_r : ¬ w.heap.size + 1 + 1 = w3.heap.size := qne k3_r_0; have y3_r : ¬ w3.heap.size = w.heap.size + 1 + 1 := fun h => qne k3_r_0 h.symm; have q3_r : w.heap.size + 1 + 1 < w3.heap.size := qlt k3_r_0)))
  refine bodyPost_ret (v := .agg #[.bool (decide (P < 0)), .slice a3 (canon P.natAbs).length c3, .bool (decide (Q < 0)), .slice b3 (canon Q.natAbs).length d3]) (by simp [results, Try.results42, go_sem, *]) rfl ?_
  have hz4 : w.heap.size ≤ (w2.alloc (.cells #[Value.int .i64 (x), Value.int .i64 (Y : Int)] 65)).heap.size := by simp; omega
  exact FrF.put (by simp; omega) (by omega) ho3 ho4 hne ((Below.alloc hbw2 hz2 _).trans (hc3.mono hz4)) _ _ _ _
theorem norm_of (s t : Bool) (a b : Option Addr) (n c m d : Nat) (l k : List (BitVec 32)) (P Q : Int) (w : World) (hr : Rw w a l) (hs : Rw w b k)
    (hR : ∀ W, Rw W a l → Rw W b k → Calls Try.prog 42 #[.agg #[.bool s, .slice a n c], .agg #[.bool t, .slice b m d]] W (FrF W P Q)) :
    Calls Try.prog 13 #[.agg #[.bool s, .slice a n c, .bool t, .slice b m d]] w (FrF w P Q) := by
  have hb1 := Below.alloc (Below.refl w.heap.size w) (Nat.le_refl _) (.cells #[Value.bool s, Value.slice a n c, Value.bool t, Value.slice b m d] 26)
  have hb2 := Below.alloc hb1 (by simp) (.cells #[Value.bool false, Value.slice none 0 0, Value.bool false, Value.slice none 0 0] 26)
  have hz2 := hb2.size
  have hr2 := hr.below hb2
  have hs2 := hs.below hb2
  have HR := Lib.hid hR
  clear hR
  go_enter Try.func13, Try.ntmps13
  go_wp2_with (go_at_call 42; go_loud ((with_reducible refine (HR.out _ hr2 hs2).mono ?_); rintro e w3 ⟨a3, c3, b3, d3, rfl, ho3, ho4, hne, hc3⟩; have k3_p_0 : w3.cell? ⟨w.heap.size, 0, none⟩ = some (.bool s) := bca hc3; have g3_p_0 : w3.frozen? ⟨w.heap.size, 0, none⟩ = false := bfa hc3 (v := .bool s); have k3_p_1 : w3.cell? ⟨w.heap.size, 1, none⟩ = some (.slice a n c) := bca hc3; have g3_p_1 : w3.frozen? ⟨w.heap.size, 1, none⟩ = false := bfa hc3 (v := .slice a n c); have k3_p_2 : w3.cell? ⟨w.heap.size, 2, none⟩ = some (.bool t) := bca hc3; have g3_p_2 : w3.frozen? ⟨w.heap.size, 2, none⟩ = false := bfa hc3 (v := .bool t); have k3_p_3 : w3.cell? ⟨w.heap.size, 3, none⟩ = some (.slice b m d) := bca hc3; have g3_p_3 : w3.frozen? ⟨w.heap.size, 3, none⟩ = false := bfa hc3 (v := .slice b m d); have x3_p : ¬ w.heap.size = w3.heap.size := qne k3_p_0; have y3_p : ¬ w3.heap.size = w.heap.size := fun h => qne k3_p_0 h.symm; have q3_p : w.heap.size < w3.heap.size := qlt k3_p_0; have k3_r_0 : w3.cell? ⟨w.heap.size + 1, 0, none⟩ = some (.bool false) := bca hc3; have g3_r_0 : w3.frozen? ⟨w.heap.size + 1, 0, none⟩ = false := bfa hc3 (v := .bool false); have k3_r_1 : w3.cell? ⟨w.heap.size + 1, 1, none⟩ = some (.slice none 0 0) := bca hc3; have g3_r_1 : w3.frozen? ⟨w.heap.size + 1, 1, none⟩ = false := bfa hc3 (v := .slice none 0 0); have k3_r_2 : w3.cell? ⟨w.heap.size + 1, 2, none⟩ = some (.bool false) := bca hc3; have g3_r_2 : w3.frozen? ⟨w.heap.size + 1, 2, none⟩ = false := bfa hc3 (v := .bool false); have k3_r_3 : w3.cell? ⟨w.heap.size + 1, 3, none⟩ = some (.slice none 0 0) := bca hc3; have g3_r_3 : w3.frozen? ⟨w.heap.size + 1, 3, none⟩ = false := bfa hc3 (v := .slice none 0 0); have x3_r : ¬ w.heap.size + 1 = w3.heap.size := qne k3_r_0; have y3_r : ¬ w3.heap.size = w.heap.size + 1 := fun h => qne k3_r_0 h.symm; have q3_r : w.heap.size + 1 < w3.heap.size := qlt k3_r_0))
  refine bodyPost_ret (v := .agg #[.bool (decide (P < 0)), .slice a3 (canon P.natAbs).length c3, .bool (decide (Q < 0)), .slice b3 (canon Q.natAbs).length d3]) (by simp [results, Try.results13, go_sem, *]) rfl ?_
  exact FrF.put (by simp) (by omega) ho3 ho4 hne (hb2.trans (hc3.mono hz2)) _ _ _ _
end Go.Proofs.Ytcofiekfhnfjpaa
