import Derived.Test.YtbplcgbfhijbcaaLf0
namespace Go.Proofs.Ytbplcgbfhijbcaa
open Go.RowKit
set_option linter.unusedVariables false
set_option linter.unusedSimpArgs false
attribute [local go_sem ↓] Go.wp_at_zero Go.wp_at_succ
theorem val8_d8 (N : Nat) : ∀ n, n ≤ N → val8 (d8 n) = n := by
  induction N with
  | zero => intro n h; obtain rfl : n = 0 := by omega
            rw [d8_zero]; rfl
  | succ N ih =>
    intro n h
    by_cases h0 : n = 0
    · subst h0; rw [d8_zero]; rfl
    · rw [d8_pos h0]
      show (BitVec.ofNat 8 n).toNat + 256 * val8 (d8 (n / 256)) = n
      rw [ih _ (by omega), BitVec.toNat_ofNat]
      omega
theorem rn_form (x y : Int) : 0 < rnD x y ∧ Nat.gcd (rnN x y).natAbs (rnD x y).natAbs = 1 := by
  unfold rnN rnD
  by_cases h : y = 0
  · rw [if_pos h, if_pos h]; exact ⟨by decide, rfl⟩
  · rw [if_neg h, if_neg h, zv_abs, Int.natAbs_natCast]
    have hy : 0 < y.natAbs := by omega
    have hg : 0 < Nat.gcd x.natAbs y.natAbs := Nat.gcd_pos_of_pos_right _ hy
    refine ⟨?_, ?_⟩
    · have := Nat.div_pos (Nat.le_of_dvd hy (Nat.gcd_dvd_right x.natAbs y.natAbs)) hg
      omega
    · rw [Nat.gcd_div (Nat.gcd_dvd_left _ _) (Nat.gcd_dvd_right _ _), Nat.div_self hg]
theorem rn_norm (x y : Int) : rnB (decide (rnN x y < 0)) false (canon (rnN x y).natAbs) (canon (rnD x y).natAbs) = true := by
  obtain ⟨h1, h2⟩ := rn_form x y
  unfold rnB isnV
  rw [trim_canon, trim_canon, valD_canon, valD_canon, h2]
  have e1 : zv false (rnD x y).natAbs = rnD x y := by unfold zv; simp; omega
  rw [e1]
  have e2 : (decide (rnN x y < 0) && decide ((canon (rnN x y).natAbs).length = 0)) = false := by
    by_cases h : rnN x y < 0
    · have : (canon (rnN x y).natAbs).length ≠ 0 := by rw [Ne, canon_len_zero]; omega
      simp [this]
    · simp [h]
  rw [e2]
  simp [h1]
theorem sg_eq (P : Int) : ((sgB P).toNat == 1) = decide (P < 0) ∧ (sgB P).toNat ≤ 1 := by
  unfold sgB
  by_cases h : P < 0
  · rw [if_pos h, decide_eq_true h]; exact ⟨rfl, by decide⟩
  · rw [if_neg h, decide_eq_false h]; exact ⟨rfl, by decide⟩
/-- A normalized fraction that was encoded is decoded. -/
theorem rat_back (pre r : List (BitVec 8)) (x y : Int) (hl : (pre ++ (putF (rnN x y) (rnD x y) ++ r)).length ≤ 1000000) (h1 : (canon (rnN x y).natAbs).length ≤ 100) (h2 : (canon (rnD x y).natAbs).length ≤ 100) :
    BinC (pre ++ (putF (rnN x y) (rnD x y) ++ r)) (pre.length : Int) (fun W => RatK W (decide (rnN x y < 0)) (canon (rnN x y).natAbs) (canon (rnD x y).natAbs) (pre.length + (putF (rnN x y) (rnD x y)).length)) := by
  have e1 := d8_fit (canon (rnN x y).natAbs)
  have e2 := d8_fit (canon (rnD x y).natAbs)
  rw [valD_canon] at e1 e2
  have hd : (pre ++ (putF (rnN x y) (rnD x y) ++ r)).drop pre.length = sgB (rnN x y) :: (putB (d8 (rnN x y).natAbs) ++ (putB (d8 (rnD x y).natAbs) ++ r)) := by
    rw [List.drop_left]
    unfold putF
    simp [List.append_assoc]
  have hb := (both_tst _ pre.length (sgB (rnN x y)) (d8 (rnN x y).natAbs) (d8 (rnD x y).natAbs) r hl hd (sg_eq _).2 (by omega) (by omega)).1
  rw [d8_noz, d8_noz, (sg_eq _).1, val8_d8 _ _ (Nat.le_refl _), val8_d8 _ _ (Nat.le_refl _), rn_norm] at hb
  have e3 : pre.length + (putF (rnN x y) (rnD x y)).length = pre.length + 1 + (putB (d8 (rnN x y).natAbs)).length + (putB (d8 (rnD x y).natAbs)).length := by unfold putF; simp only [List.length_append, List.length_cons, List.length_nil]; omega
  rw [e3]
  exact fun a n c W h1 h2 h3 => (hb a n c W h1 h2 h3).mono fun e w' h => RatA.ok h
theorem own_l8 {w : World} {B : Nat} {v : Value} {n : Nat} {l1 l2 : List (BitVec 8)} (h : w.ownsRow B 5 1 v n (bv8 l1)) (e : l1 = l2) : w.ownsRow B 5 1 v n (bv8 l2) := e ▸ h
theorem own_n8 {w : World} {B : Nat} {v : Value} {n m : Nat} {l1 : List (BitVec 8)} (h : w.ownsRow B 5 1 v n (bv8 l1)) (e : n = m) : w.ownsRow B 5 1 v m (bv8 l1) := e ▸ h
set_option maxRecDepth 50000 in
theorem lrt_big (N : Nat) (I : Int) (s t : Bool) (a a2 b f f2 : Option Addr) (n c n2 c2 m d q g q2 g2 : Nat) (w : World) (hn : n ≤ 9223372036854775807) (hn2 : n2 ≤ 9223372036854775807) (hm : m ≤ 9223372036854775807) (hq : q ≤ 9223372036854775807) (hq2 : q2 ≤ 9223372036854775807) (h : ¬ (n ≤ 40 ∧ n2 ≤ 40) ∨ 5000 < m ∨ 1000 < q ∨ 1000 < q2) :
    Calls Try.prog 7 #[.agg #[.int .u64 N, .int .i64 I, .slice b m d, .bool s, .slice a n c, .bool t, .slice a2 n2 c2], .slice f q g, .slice f2 q2 g2] w fun e w' => e = .returned (.bool true) ∧ Below w.heap.size w w' := by
  have hb0 := Below.alloc (Below.refl w.heap.size w) (Nat.le_refl _) (.cells #[Value.int .u64 N, Value.int .i64 I, Value.slice b m d, Value.bool s, Value.slice a n c, Value.bool t, Value.slice a2 n2 c2] 53)
  have hz0 := hb0.size
  have hs : (decide (n ≤ 40) && decide (n2 ≤ 40)) = false ∨ ((decide (n ≤ 40) && decide (n2 ≤ 40)) = true ∧ 5000 < m) ∨ ((decide (n ≤ 40) && decide (n2 ≤ 40)) = true ∧ m ≤ 5000 ∧ 1000 < q) ∨ ((decide (n ≤ 40) && decide (n2 ≤ 40)) = true ∧ m ≤ 5000 ∧ q ≤ 1000 ∧ 1000 < q2) := by
    by_cases h1 : n ≤ 40 ∧ n2 ≤ 40
    · have e0 : (decide (n ≤ 40) && decide (n2 ≤ 40)) = true := by simp; omega
      rw [e0]
      simp only [true_and]
      omega
    · exact .inl (by simp; omega)
  clear h
  have hsm := fun W => small_any s t a a2 n c n2 c2 W hn hn2
  rcases hs with h | ⟨h, h2⟩ | ⟨h, h2, h3⟩ | ⟨h, h2, h3, h4⟩
  all_goals simp only [h] at hsm
  all_goals have HS := Lib.hid hsm
  all_goals clear h hsm
  all_goals
    go_enter Try.func7, Try.ntmps7
    go_wp2_with (first
      | (go_at_call 27; go_loud ((with_reducible refine (HS.out _).mono ?_); rintro e w1 ⟨rfl, hc1⟩; have k1_f_0 : w1.cell? ⟨w.heap.size, 0, none⟩ = some (.int .u64 N) := bcs hc1 (by first | with_reducible assumption | go_simp); have g1_f_0 : w1.frozen? ⟨w.heap.size, 0, none⟩ = false := bfs hc1 (v := .int .u64 N) (by first | with_reducible assumption | go_simp) (by first | with_reducible assumption | go_simp); have k1_f_1 : w1.cell? ⟨w.heap.size, 1, none⟩ = some (.int .i64 I) := bcs hc1 (by first | with_reducible assumption | go_simp); have g1_f_1 : w1.frozen? ⟨w.heap.size, 1, none⟩ = false := bfs hc1 (v := .int .i64 I) (by first | with_reducible assumption | go_simp) (by first | with_reducible assumption | go_simp); have k1_f_2 : w1.cell? ⟨w.heap.size, 2, none⟩ = some (.slice b m d) := bcs hc1 (by first | with_reducible assumption | go_simp); have g1_f_2 : w1.frozen? ⟨w.heap.size, 2, none⟩ = false := bfs hc1 (v := .slice b m d) (by first | with_reducible assumption | go_simp) (by first | with_reducible assumption | go_simp); have k1_f_3 : w1.cell? ⟨w.heap.size, 3, none⟩ = some (.bool s) := bcs hc1 (by first | with_reducible assumption | go_simp); have g1_f_3 : w1.frozen? ⟨w.heap.size, 3, none⟩ = false := bfs hc1 (v := .bool s) (by first | with_reducible assumption | go_simp) (by first | with_reducible assumption | go_simp); have k1_f_4 : w1.cell? ⟨w.heap.size, 4, none⟩ = some (.slice a n c) := bcs hc1 (by first | with_reducible assumption | go_simp); have g1_f_4 : w1.frozen? ⟨w.heap.size, 4, none⟩ = false := bfs hc1 (v := .slice a n c) (by first | with_reducible assumption | go_simp) (by first | with_reducible assumption | go_simp); have k1_f_5 : w1.cell? ⟨w.heap.size, 5, none⟩ = some (.bool t) := bcs hc1 (by first | with_reducible assumption | go_simp); have g1_f_5 : w1.frozen? ⟨w.heap.size, 5, none⟩ = false := bfs hc1 (v := .bool t) (by first | with_reducible assumption | go_simp) (by first | with_reducible assumption | go_simp); have k1_f_6 : w1.cell? ⟨w.heap.size, 6, none⟩ = some (.slice a2 n2 c2) := bcs hc1 (by first | with_reducible assumption | go_simp); have g1_f_6 : w1.frozen? ⟨w.heap.size, 6, none⟩ = false := bfs hc1 (v := .slice a2 n2 c2) (by first | with_reducible assumption | go_simp) (by first | with_reducible assumption | go_simp); have x1_f : ¬ w.heap.size = w1.heap.size := qne k1_f_0; have y1_f : ¬ w1.heap.size = w.heap.size := fun h => qne k1_f_0 h.symm; have q1_f : w.heap.size < w1.heap.size := qlt k1_f_0; have hbw1 := hb0.trans (hc1.mono hz0)))
      | (go_at_call 18; go_loud ((with_reducible refine (ex_any _).mono ?_); rintro e w2 ⟨rfl, hc2'⟩; have hbw2 := hbw1.trans (hc2'.mono hbw1.size))))
    go_ret
    exact ⟨rfl, hbw2⟩
set_option maxRecDepth 50000 in
set_option maxHeartbeats 8000000 in
theorem lrt_in (N : Nat) (I : Int) (s t : Bool) (a a2 b f f2 : Option Addr) (n c n2 c2 m d q g q2 g2 : Nat) (w : World) (l k : List (BitVec 32)) (S ar mr : List (BitVec 8)) (hN : N < 18446744073709551616) (hI0 : -9223372036854775808 ≤ I) (hI1 : I ≤ 9223372036854775807) (hn : l.length = n) (hk : k.length = n2) (hnc : n ≤ c) (hnc2 : n2 ≤ c2) (hm : S.length = m) (hmd : m ≤ d) (hq : ar.length = q) (hq2 : mr.length = q2) (hn9 : n ≤ 40) (hn29 : n2 ≤ 40) (hm9 : m ≤ 5000) (hq9 : q ≤ 1000) (hq29 : q2 ≤ 1000) (hr : Rw w a l) (hs : Rw w a2 k) (hS : Rd w b S) (hA : Rd w f ar) (hM : Rd w f2 mr) :
    Calls Try.prog 7 #[.agg #[.int .u64 N, .int .i64 I, .slice b m d, .bool s, .slice a n c, .bool t, .slice a2 n2 c2], .slice f q g, .slice f2 q2 g2] w fun e w' => e = .returned (.bool true) ∧ Below w.heap.size w w' := by
  subst hn hk hm hq hq2
  obtain ⟨P, hP⟩ : ∃ P, rnN (zv s (valD l)) (zv t (valD k)) = P := ⟨_, rfl⟩
  obtain ⟨Q, hQ⟩ : ∃ Q, rnD (zv s (valD l)) (zv t (valD k)) = Q := ⟨_, rfl⟩
  have hXl := rnN_len s t l k
  have hYl := rnD_len s t l k
  have hfl := putF_any s t l k (by omega) (by omega)
  have hQp := (rn_form (zv s (valD l)) (zv t (valD k))).1
  have hU := putU_len10 hN
  have hV := putU_len10 (zz_lt hI0 hI1)
  have hBl := putB_len S (by omega)
  have hnm := fun W (h1 : Rw W a l) (h2 : Rw W a2 k) => rnorm_any s t a a2 _ c _ c2 l k W rfl rfl (by omega) (by omega) h1 h2
  have hpr := fun W (h1 : Rw W a l) (h2 : Rw W a2 k) => prat_any s t a a2 _ c _ c2 l k W rfl rfl hnc hnc2 (by omega) (by omega) h1 h2
  have hR2 : (putF (rnN (zv s (valD l)) (zv t (valD k))) (rnD (zv s (valD l)) (zv t (valD k)))).length ≤ 2000 := by
    have e1 := d8_fit (canon (rnN (zv s (valD l)) (zv t (valD k))).natAbs)
    have e2 := d8_fit (canon (rnD (zv s (valD l)) (zv t (valD k))).natAbs)
    rw [valD_canon] at e1 e2
    have e3 := putB_len (d8 (rnN (zv s (valD l)) (zv t (valD k))).natAbs) (by omega)
    have e4 := putB_len (d8 (rnD (zv s (valD l)) (zv t (valD k))).natAbs) (by omega)
    unfold putF
    simp only [List.length_append, List.length_cons, List.length_nil]
    omega
  have hrb := fun pre r hl => rat_back pre r (zv s (valD l)) (zv t (valD k)) hl (by omega) (by omega)
  simp only [hP, hQ] at hXl hYl hfl hQp hnm hpr hR2 hrb
  have hsq : decide (Q < 0) = false := by simp; omega
  obtain ⟨X, hX⟩ : ∃ X, canon P.natAbs = X := ⟨_, rfl⟩
  obtain ⟨Y, hY⟩ : ∃ Y, canon Q.natAbs = Y := ⟨_, rfl⟩
  obtain ⟨sg, hsg⟩ : ∃ sg, decide (P < 0) = sg := ⟨_, rfl⟩
  obtain ⟨R, hR⟩ : ∃ R, putF P Q = R := ⟨_, rfl⟩
  obtain ⟨U, hUe⟩ : ∃ U, putU N = U := ⟨_, rfl⟩
  obtain ⟨V, hVe⟩ : ∃ V, putU (zz I) = V := ⟨_, rfl⟩
  obtain ⟨B, hBe⟩ : ∃ B, putB S = B := ⟨_, rfl⟩
  have hpu := fun W => putu_any N W hN
  have hpv := fun W => pv_any I W hI0 hI1
  have hpb := fun W (h : Rd W b S) => pb_any b _ d S W rfl (by omega) h
  rw [hX] at hXl
  rw [hY] at hYl
  simp only [hX, hY, hsg, hR] at hrb
  simp only [hR] at hpr hR2
  simp only [hUe] at hU hpu
  simp only [hVe] at hV hpv
  simp only [hBe] at hBl hpb
  obtain ⟨L, hL⟩ : ∃ L, ar ++ (U ++ (V ++ (B ++ (R ++ mr)))) = L := ⟨_, rfl⟩
  have hLl : L.length = ar.length + U.length + V.length + B.length + R.length + mr.length := by rw [← hL]; simp only [List.length_append]; omega
  obtain ⟨P1, hP1⟩ : ∃ P1, ar.length + U.length = P1 := ⟨_, rfl⟩
  obtain ⟨P2, hP2⟩ : ∃ P2, P1 + V.length = P2 := ⟨_, rfl⟩
  obtain ⟨P3, hP3⟩ : ∃ P3, P2 + B.length = P3 := ⟨_, rfl⟩
  obtain ⟨P4, hP4⟩ : ∃ P4, P3 + R.length = P4 := ⟨_, rfl⟩
  obtain ⟨P5, hP5⟩ : ∃ P5, P4 + mr.length = P5 := ⟨_, rfl⟩
  have hL5 : L.length = P5 := by omega
  have hd0 : L.drop ar.length = U ++ (V ++ (B ++ (R ++ mr))) := by rw [← hL, List.drop_left]
  have hd1 : L.drop P1 = V ++ (B ++ (R ++ mr)) := by rw [← hP1, ← List.drop_drop, hd0, List.drop_left]
  have hd2 : L.drop P2 = B ++ (R ++ mr) := by rw [← hP2, ← List.drop_drop, hd1, List.drop_left]
  have hd3 : L = (ar ++ U ++ V ++ B) ++ (R ++ mr) := by rw [← hL]; simp only [List.append_assoc]
  have u1 := uv_putU N hN (V ++ (B ++ (R ++ mr)))
  have u2 := uv_putU (zz I) (zz_lt hI0 hI1) (B ++ (R ++ mr))
  rw [hUe] at u1
  rw [hVe] at u2
  have hc1 : ∀ v cc W, P5 ≤ cc → Rd W v L → Calls Try.prog 13 #[.slice v P5 cc, .int .i64 ar.length] W fun e w' => e = .returned (.tuple #[.int .u64 N, .int .i64 P1, .int .i64 0]) ∧ Below W.heap.size W w' := fun v cc W hv hW => by
    have := bu_ok v P5 cc ar.length L W hL5 hv (by omega) hW (by omega) (by rw [hd0]; exact u1.1)
    rw [hd0, u1.2.1, u1.2.2, hP1] at this
    exact this
  have hc2 : ∀ v cc W, P5 ≤ cc → Rd W v L → Calls Try.prog 19 #[.slice v P5 cc, .int .i64 P1] W fun e w' => e = .returned (.tuple #[.int .i64 I, .int .i64 P2, .int .i64 0]) ∧ Below W.heap.size W w' := fun v cc W hv hW => by
    have := bv_ok v P5 cc P1 L W hL5 hv (by omega) hW (by omega) (by rw [hd1]; exact u2.1)
    rw [hd1, u2.2.1, u2.2.2, hP2, unzz_zz] at this
    exact this
  have hc3 : ∀ v cc W, P5 ≤ cc → Rd W v L → Calls Try.prog 23 #[.slice v P5 cc, .int .i64 P2, .int .i64 S.length] W fun e w' => ∃ a9 c9, e = .returned (.tuple #[.slice a9 S.length c9, .int .i64 P3, .int .i64 0]) ∧ w'.ownsRow W.heap.size 5 1 (.slice a9 S.length c9) S.length (bv8 S) ∧ Below W.heap.size W w' := fun v cc W hv hW => by
    obtain ⟨v1, v2, v3⟩ := uv_putU S.length (by omega) (S ++ (R ++ mr))
    have e0 : B ++ (R ++ mr) = putU S.length ++ (S ++ (R ++ mr)) := by rw [← hBe]; unfold putB; rw [List.append_assoc]
    have eB : B.length = (putU S.length).length + S.length := by rw [← hBe]; unfold putB; rw [List.length_append]
    have := bb_ok v P5 cc P2 (S.length : Int) L W hL5 hv (by omega) (by omega) hW (by omega) (by
      rw [hd2, e0]
      unfold bytE
      rw [lenE_fine v1 (by rw [v2]; omega), if_neg (by decide), if_neg]
      rw [v2, v3, List.length_append, List.length_append]; omega)
    refine this.mono ?_
    rw [hd2, e0]
    rintro e w' ⟨a9, c9, h1, h2, h3, h4, h5⟩
    rw [v2, v3] at h1
    rw [v2, v3, List.drop_left, List.take_left] at h4
    rw [← eB, hP3] at h1
    exact ⟨a9, c9, h1, h4, h5⟩
  have hc4 : ∀ v cc W, P5 ≤ cc → Rd W v L → Calls Try.prog 28 #[.slice v P5 cc, .int .i64 P3] W (RatK W sg X Y P4) := fun v cc W hv hW => by
    have h0 := hrb (ar ++ U ++ V ++ B) mr
    have e0 : (ar ++ U ++ V ++ B).length = P3 := by simp only [List.length_append]; omega
    rw [e0, ← hd3, hP4] at h0
    exact h0 (by omega) v P5 cc W hL5 hv hW
  have hnm2 : ∀ W, Rw W a l → Rw W a2 k → Calls Try.prog 33 #[.agg #[.bool s, .slice a l.length c, .bool t, .slice a2 k.length c2]] W fun e w' => ∃ a9 c9 b9 d9, e = .returned (.agg #[.bool sg, .slice a9 X.length c9, .bool false, .slice b9 Y.length d9]) ∧ Rw w' a9 X ∧ Rw w' b9 Y ∧ Below W.heap.size W w' := fun W h1 h2 => by
    refine (hnm W h1 h2).mono ?_
    rintro e w' ⟨a9, c9, b9, d9, h1, h2, h3, h4⟩
    rw [hX, hY, hsg, hsq] at h1
    rw [hX] at h2
    rw [hY] at h3
    exact ⟨a9, c9, b9, d9, h1, RwF.rw h2, RwF.rw h3, h4⟩
  have hsm := fun W => small_any s t a a2 l.length c k.length c2 W (by omega) (by omega)
  have e0 : (decide (l.length ≤ 40) && decide (k.length ≤ 40)) = true := by simp; omega
  simp only [e0] at hsm
  have HS := Lib.hid hsm
  have HU := Lib.hid hpu
  have HV := Lib.hid hpv
  have HB := Lib.hid hpb
  have HR := Lib.hid hpr
  have HN := Lib.hid hnm2
  have C1 := Lib.hid hc1
  have C2 := Lib.hid hc2
  have C3 := Lib.hid hc3
  have C4 := Lib.hid hc4
  have HL := Lib.hid hL
  have HP1 := Lib.hid hP1
  have HP2 := Lib.hid hP2
  have HP3 := Lib.hid hP3
  have HP4 := Lib.hid hP4
  have HP5 := Lib.hid hP5
  have HX9 := Lib.hid (show X.length ≤ 1000000 by omega)
  have HY9 := Lib.hid (show Y.length ≤ 1000000 by omega)
  have B1 := Lib.hid (show 0 + ar.length ≤ 100000000 by omega)
  have B2 := Lib.hid (show ar.length + U.length ≤ 100000000 by omega)
  have B3 := Lib.hid (show P1 + V.length ≤ 100000000 by omega)
  have B4 := Lib.hid (show P2 + B.length ≤ 100000000 by omega)
  have B5 := Lib.hid (show P3 + R.length ≤ 100000000 by omega)
  have B6 := Lib.hid (show P4 + mr.length ≤ 100000000 by omega)
  have hP9 : P5 ≤ 100000 := by omega
  have hS9 : S.length ≤ 1000000000 := by omega
  clear hsm hpu hpv hpb hpr hnm hnm2 hc1 hc2 hc3 hc4 hL hP1 hP2 hP3 hP4 hP5 hLl hL5 hd0 hd1 hd2 hd3 u1 u2 hrb hXl hYl hfl hQp hU hV hBl hR2 hX hY hsg hR hUe hVe hBe hsq hP hQ e0
  have hb0 := Below.alloc (Below.refl w.heap.size w) (Nat.le_refl _) (.cells #[Value.int .u64 N, Value.int .i64 I, Value.slice b S.length d, Value.bool s, Value.slice a l.length c, Value.bool t, Value.slice a2 k.length c2] 53)
  have hz0 := hb0.size
  go_enter Try.func7, Try.ntmps7
  go_wp2_with (first
    | (go_at_call 27; go_loud ((with_reducible refine (HS.out _).mono ?_); rintro e w1 ⟨rfl, hc1⟩; have k1_f_0 : w1.cell? ⟨w.heap.size, 0, none⟩ = some (.int .u64 N) := bcs hc1 (by first | with_reducible assumption | go_simp); have k1_f_1 : w1.cell? ⟨w.heap.size, 1, none⟩ = some (.int .i64 I) := bcs hc1 (by first | with_reducible assumption | go_simp); have k1_f_2 : w1.cell? ⟨w.heap.size, 2, none⟩ = some (.slice b S.length d) := bcs hc1 (by first | with_reducible assumption | go_simp); have k1_f_3 : w1.cell? ⟨w.heap.size, 3, none⟩ = some (.bool s) := bcs hc1 (by first | with_reducible assumption | go_simp); have k1_f_4 : w1.cell? ⟨w.heap.size, 4, none⟩ = some (.slice a l.length c) := bcs hc1 (by first | with_reducible assumption | go_simp); have k1_f_5 : w1.cell? ⟨w.heap.size, 5, none⟩ = some (.bool t) := bcs hc1 (by first | with_reducible assumption | go_simp); have k1_f_6 : w1.cell? ⟨w.heap.size, 6, none⟩ = some (.slice a2 k.length c2) := bcs hc1 (by first | with_reducible assumption | go_simp); have q1_f : w.heap.size + 1 ≤ w1.heap.size := qlt k1_f_0; have hbx1 := hb0.trans (hc1.mono hz0); have hown1 : (w1.alloc (.cells #[] 5)).ownsRow (w.heap.size + 1) 5 1 (.slice (some ⟨w1.heap.size, 0, none⟩) 0 0) 0 (bv8 []) := own_mono (fresh_row8 w1) q1_f; have hbx1a := belAl hbx1 (.cells #[] 5); have hA1 := hA.below hbx1a; have q1a_f : w.heap.size + 1 ≤ (w1.alloc (.cells #[] 5)).heap.size := Nat.le_trans q1_f (by simp)))
    | (go_at_call 16; go_loud ((with_reducible refine (HU.out _).mono ?_); rintro e w3 ⟨a3, c3, rfl, hc3x, ho3, hc3⟩; have k3_f_0 : w3.cell? ⟨w.heap.size, 0, none⟩ = some (.int .u64 N) := bcs hc3 (by first | with_reducible assumption | go_simp); have k3_f_1 : w3.cell? ⟨w.heap.size, 1, none⟩ = some (.int .i64 I) := bcs hc3 (by first | with_reducible assumption | go_simp); have k3_f_2 : w3.cell? ⟨w.heap.size, 2, none⟩ = some (.slice b S.length d) := bcs hc3 (by first | with_reducible assumption | go_simp); have k3_f_3 : w3.cell? ⟨w.heap.size, 3, none⟩ = some (.bool s) := bcs hc3 (by first | with_reducible assumption | go_simp); have k3_f_4 : w3.cell? ⟨w.heap.size, 4, none⟩ = some (.slice a l.length c) := bcs hc3 (by first | with_reducible assumption | go_simp); have k3_f_5 : w3.cell? ⟨w.heap.size, 5, none⟩ = some (.bool t) := bcs hc3 (by first | with_reducible assumption | go_simp); have k3_f_6 : w3.cell? ⟨w.heap.size, 6, none⟩ = some (.slice a2 k.length c2) := bcs hc3 (by first | with_reducible assumption | go_simp); have q3_f : w.heap.size + 1 ≤ w3.heap.size := qlt k3_f_0; have hbx3 := bel_step hbx2 hc3; have hown3 := own_below hown2 hc3))
    | (go_at_call 21; go_loud ((with_reducible refine (HV.out _).mono ?_); rintro e w5 ⟨a5, c5, rfl, hc5x, ho5, hc5⟩; have k5_f_0 : w5.cell? ⟨w.heap.size, 0, none⟩ = some (.int .u64 N) := bcs hc5 (by first | with_reducible assumption | go_simp); have k5_f_1 : w5.cell? ⟨w.heap.size, 1, none⟩ = some (.int .i64 I) := bcs hc5 (by first | with_reducible assumption | go_simp); have k5_f_2 : w5.cell? ⟨w.heap.size, 2, none⟩ = some (.slice b S.length d) := bcs hc5 (by first | with_reducible assumption | go_simp); have k5_f_3 : w5.cell? ⟨w.heap.size, 3, none⟩ = some (.bool s) := bcs hc5 (by first | with_reducible assumption | go_simp); have k5_f_4 : w5.cell? ⟨w.heap.size, 4, none⟩ = some (.slice a l.length c) := bcs hc5 (by first | with_reducible assumption | go_simp); have k5_f_5 : w5.cell? ⟨w.heap.size, 5, none⟩ = some (.bool t) := bcs hc5 (by first | with_reducible assumption | go_simp); have k5_f_6 : w5.cell? ⟨w.heap.size, 6, none⟩ = some (.slice a2 k.length c2) := bcs hc5 (by first | with_reducible assumption | go_simp); have q5_f : w.heap.size + 1 ≤ w5.heap.size := qlt k5_f_0; have hbx5 := bel_step hbx4 hc5; have hown5 := own_below hown4 hc5))
    | (go_at_call 25; go_loud ((with_reducible refine (HB.out _ hS6).mono ?_); rintro e w7 ⟨a7, c7, rfl, hc7x, ho7, hc7⟩; have k7_f_0 : w7.cell? ⟨w.heap.size, 0, none⟩ = some (.int .u64 N) := bcs hc7 (by first | with_reducible assumption | go_simp); have k7_f_1 : w7.cell? ⟨w.heap.size, 1, none⟩ = some (.int .i64 I) := bcs hc7 (by first | with_reducible assumption | go_simp); have k7_f_2 : w7.cell? ⟨w.heap.size, 2, none⟩ = some (.slice b S.length d) := bcs hc7 (by first | with_reducible assumption | go_simp); have k7_f_3 : w7.cell? ⟨w.heap.size, 3, none⟩ = some (.bool s) := bcs hc7 (by first | with_reducible assumption | go_simp); have k7_f_4 : w7.cell? ⟨w.heap.size, 4, none⟩ = some (.slice a l.length c) := bcs hc7 (by first | with_reducible assumption | go_simp); have k7_f_5 : w7.cell? ⟨w.heap.size, 5, none⟩ = some (.bool t) := bcs hc7 (by first | with_reducible assumption | go_simp); have k7_f_6 : w7.cell? ⟨w.heap.size, 6, none⟩ = some (.slice a2 k.length c2) := bcs hc7 (by first | with_reducible assumption | go_simp); have q7_f : w.heap.size + 1 ≤ w7.heap.size := qlt k7_f_0; have hbx7 := bel_step hbx6 hc7; have hown7 := own_below hown6 hc7))
    | (go_at_call 30; go_loud ((with_reducible refine (HR.out _ (hr.below hbx8) (hs.below hbx8)).mono ?_); rintro e w9 ⟨a9, c9, rfl, hc9x, ho9, hc9⟩; have k9_f_0 : w9.cell? ⟨w.heap.size, 0, none⟩ = some (.int .u64 N) := bcs hc9 (by first | with_reducible assumption | go_simp); have k9_f_1 : w9.cell? ⟨w.heap.size, 1, none⟩ = some (.int .i64 I) := bcs hc9 (by first | with_reducible assumption | go_simp); have k9_f_2 : w9.cell? ⟨w.heap.size, 2, none⟩ = some (.slice b S.length d) := bcs hc9 (by first | with_reducible assumption | go_simp); have k9_f_3 : w9.cell? ⟨w.heap.size, 3, none⟩ = some (.bool s) := bcs hc9 (by first | with_reducible assumption | go_simp); have k9_f_4 : w9.cell? ⟨w.heap.size, 4, none⟩ = some (.slice a l.length c) := bcs hc9 (by first | with_reducible assumption | go_simp); have k9_f_5 : w9.cell? ⟨w.heap.size, 5, none⟩ = some (.bool t) := bcs hc9 (by first | with_reducible assumption | go_simp); have k9_f_6 : w9.cell? ⟨w.heap.size, 6, none⟩ = some (.slice a2 k.length c2) := bcs hc9 (by first | with_reducible assumption | go_simp); have q9_f : w.heap.size + 1 ≤ w9.heap.size := qlt k9_f_0; have hbx9 := bel_step hbx8 hc9; have hown9 := own_below hown8 hc9))
    | (go_at_call 13; go_loud ((with_reducible refine (C1.out _ _ _ hcap11 (Rd.of_own hown11)).mono ?_); rintro e w12 ⟨rfl, hc12⟩; have k12_f_0 : w12.cell? ⟨w.heap.size, 0, none⟩ = some (.int .u64 N) := bcs hc12 (by first | with_reducible assumption | go_simp); have k12_f_1 : w12.cell? ⟨w.heap.size, 1, none⟩ = some (.int .i64 I) := bcs hc12 (by first | with_reducible assumption | go_simp); have k12_f_2 : w12.cell? ⟨w.heap.size, 2, none⟩ = some (.slice b S.length d) := bcs hc12 (by first | with_reducible assumption | go_simp); have k12_f_3 : w12.cell? ⟨w.heap.size, 3, none⟩ = some (.bool s) := bcs hc12 (by first | with_reducible assumption | go_simp); have k12_f_4 : w12.cell? ⟨w.heap.size, 4, none⟩ = some (.slice a l.length c) := bcs hc12 (by first | with_reducible assumption | go_simp); have k12_f_5 : w12.cell? ⟨w.heap.size, 5, none⟩ = some (.bool t) := bcs hc12 (by first | with_reducible assumption | go_simp); have k12_f_6 : w12.cell? ⟨w.heap.size, 6, none⟩ = some (.slice a2 k.length c2) := bcs hc12 (by first | with_reducible assumption | go_simp); have q12_f : w.heap.size + 1 ≤ w12.heap.size := qlt k12_f_0; have hbx12 := bel_step hbx11 hc12; have hown12 := own_below hown11 hc12))
    | (go_at_call 19; go_loud ((with_reducible refine (C2.out _ _ _ hcap11 (Rd.of_own hown12)).mono ?_); rintro e w13 ⟨rfl, hc13⟩; have k13_f_0 : w13.cell? ⟨w.heap.size, 0, none⟩ = some (.int .u64 N) := bcs hc13 (by first | with_reducible assumption | go_simp); have k13_f_1 : w13.cell? ⟨w.heap.size, 1, none⟩ = some (.int .i64 I) := bcs hc13 (by first | with_reducible assumption | go_simp); have k13_f_2 : w13.cell? ⟨w.heap.size, 2, none⟩ = some (.slice b S.length d) := bcs hc13 (by first | with_reducible assumption | go_simp); have k13_f_3 : w13.cell? ⟨w.heap.size, 3, none⟩ = some (.bool s) := bcs hc13 (by first | with_reducible assumption | go_simp); have k13_f_4 : w13.cell? ⟨w.heap.size, 4, none⟩ = some (.slice a l.length c) := bcs hc13 (by first | with_reducible assumption | go_simp); have k13_f_5 : w13.cell? ⟨w.heap.size, 5, none⟩ = some (.bool t) := bcs hc13 (by first | with_reducible assumption | go_simp); have k13_f_6 : w13.cell? ⟨w.heap.size, 6, none⟩ = some (.slice a2 k.length c2) := bcs hc13 (by first | with_reducible assumption | go_simp); have q13_f : w.heap.size + 1 ≤ w13.heap.size := qlt k13_f_0; have hbx13 := bel_step hbx12 hc13; have hown13 := own_below hown12 hc13))
    | (go_at_call 23; go_loud ((with_reducible refine (C3.out _ _ _ hcap11 (Rd.of_own hown13)).mono ?_); rintro e w14 ⟨a14, c14, rfl, ho14, hc14⟩; have k14_f_0 : w14.cell? ⟨w.heap.size, 0, none⟩ = some (.int .u64 N) := bcs hc14 (by first | with_reducible assumption | go_simp); have k14_f_1 : w14.cell? ⟨w.heap.size, 1, none⟩ = some (.int .i64 I) := bcs hc14 (by first | with_reducible assumption | go_simp); have k14_f_2 : w14.cell? ⟨w.heap.size, 2, none⟩ = some (.slice b S.length d) := bcs hc14 (by first | with_reducible assumption | go_simp); have k14_f_3 : w14.cell? ⟨w.heap.size, 3, none⟩ = some (.bool s) := bcs hc14 (by first | with_reducible assumption | go_simp); have k14_f_4 : w14.cell? ⟨w.heap.size, 4, none⟩ = some (.slice a l.length c) := bcs hc14 (by first | with_reducible assumption | go_simp); have k14_f_5 : w14.cell? ⟨w.heap.size, 5, none⟩ = some (.bool t) := bcs hc14 (by first | with_reducible assumption | go_simp); have k14_f_6 : w14.cell? ⟨w.heap.size, 6, none⟩ = some (.slice a2 k.length c2) := bcs hc14 (by first | with_reducible assumption | go_simp); have q14_f : w.heap.size + 1 ≤ w14.heap.size := qlt k14_f_0; have hbx14 := bel_step hbx13 hc14; have hown14 := own_below hown13 hc14; have hS14 := hS.below hbx14))
    | (go_at_call 15; go_loud ((with_reducible refine (same8_yes _ _ _ _ _ _ _ _ _ rfl rfl hS9 (Rd.of_own ho14) hS14 rfl).mono ?_); rintro e w15 ⟨rfl, hc15⟩; have k15_f_0 : w15.cell? ⟨w.heap.size, 0, none⟩ = some (.int .u64 N) := bcs hc15 (by first | with_reducible assumption | go_simp); have k15_f_1 : w15.cell? ⟨w.heap.size, 1, none⟩ = some (.int .i64 I) := bcs hc15 (by first | with_reducible assumption | go_simp); have k15_f_2 : w15.cell? ⟨w.heap.size, 2, none⟩ = some (.slice b S.length d) := bcs hc15 (by first | with_reducible assumption | go_simp); have k15_f_3 : w15.cell? ⟨w.heap.size, 3, none⟩ = some (.bool s) := bcs hc15 (by first | with_reducible assumption | go_simp); have k15_f_4 : w15.cell? ⟨w.heap.size, 4, none⟩ = some (.slice a l.length c) := bcs hc15 (by first | with_reducible assumption | go_simp); have k15_f_5 : w15.cell? ⟨w.heap.size, 5, none⟩ = some (.bool t) := bcs hc15 (by first | with_reducible assumption | go_simp); have k15_f_6 : w15.cell? ⟨w.heap.size, 6, none⟩ = some (.slice a2 k.length c2) := bcs hc15 (by first | with_reducible assumption | go_simp); have q15_f : w.heap.size + 1 ≤ w15.heap.size := qlt k15_f_0; have hbx15 := bel_step hbx14 hc15; have hown15 := own_below hown14 hc15))
    | (go_at_call 28; go_loud ((with_reducible refine (C4.out _ _ _ hcap11 (Rd.of_own hown15)).mono ?_); rintro e w16 ⟨a16, c16, b16, d16, rfl, hca16, hcb16, hX16, hY16, hc16⟩; have k16_f_0 : w16.cell? ⟨w.heap.size, 0, none⟩ = some (.int .u64 N) := bcs hc16 (by first | with_reducible assumption | go_simp); have k16_f_1 : w16.cell? ⟨w.heap.size, 1, none⟩ = some (.int .i64 I) := bcs hc16 (by first | with_reducible assumption | go_simp); have k16_f_2 : w16.cell? ⟨w.heap.size, 2, none⟩ = some (.slice b S.length d) := bcs hc16 (by first | with_reducible assumption | go_simp); have k16_f_3 : w16.cell? ⟨w.heap.size, 3, none⟩ = some (.bool s) := bcs hc16 (by first | with_reducible assumption | go_simp); have k16_f_4 : w16.cell? ⟨w.heap.size, 4, none⟩ = some (.slice a l.length c) := bcs hc16 (by first | with_reducible assumption | go_simp); have k16_f_5 : w16.cell? ⟨w.heap.size, 5, none⟩ = some (.bool t) := bcs hc16 (by first | with_reducible assumption | go_simp); have k16_f_6 : w16.cell? ⟨w.heap.size, 6, none⟩ = some (.slice a2 k.length c2) := bcs hc16 (by first | with_reducible assumption | go_simp); have q16_f : w.heap.size + 1 ≤ w16.heap.size := qlt k16_f_0; have hbx16 := bel_step hbx15 hc16))
    | (at_builtin; go_loud (first
        | (refine wpList_apps8 (B := w.heap.size + 1) rfl _ _ rfl hown10 q10_f (k := mr) rfl (hM.below hbx10) B6.out rfl rfl ?_; intro v11 w11 hown11' hb11; have hbx11 := hbx10.trans (hb11.mono (Nat.le_succ _)); rw [HP5.out] at hown11'; obtain ⟨a11, c11, rfl⟩ := own_slice hown11'; have hown11 := own_l8 hown11' (l2 := L) (by rw [← HL.out]; simp only [List.append_assoc, List.nil_append]); have hcap11 := own_cap hown11; have k11_f_0 : w11.cell? ⟨w.heap.size, 0, none⟩ = some (.int .u64 N) := (hb11.cell (p := ⟨w.heap.size, 0, none⟩) (Nat.lt_succ_self _)).trans (by first | with_reducible exact k10_f_0 | with_reducible exact celAl k10_f_0 _ | go_simp); have k11_f_1 : w11.cell? ⟨w.heap.size, 1, none⟩ = some (.int .i64 I) := (hb11.cell (p := ⟨w.heap.size, 1, none⟩) (Nat.lt_succ_self _)).trans (by first | with_reducible exact k10_f_1 | with_reducible exact celAl k10_f_1 _ | go_simp); have k11_f_2 : w11.cell? ⟨w.heap.size, 2, none⟩ = some (.slice b S.length d) := (hb11.cell (p := ⟨w.heap.size, 2, none⟩) (Nat.lt_succ_self _)).trans (by first | with_reducible exact k10_f_2 | with_reducible exact celAl k10_f_2 _ | go_simp); have k11_f_3 : w11.cell? ⟨w.heap.size, 3, none⟩ = some (.bool s) := (hb11.cell (p := ⟨w.heap.size, 3, none⟩) (Nat.lt_succ_self _)).trans (by first | with_reducible exact k10_f_3 | with_reducible exact celAl k10_f_3 _ | go_simp); have k11_f_4 : w11.cell? ⟨w.heap.size, 4, none⟩ = some (.slice a l.length c) := (hb11.cell (p := ⟨w.heap.size, 4, none⟩) (Nat.lt_succ_self _)).trans (by first | with_reducible exact k10_f_4 | with_reducible exact celAl k10_f_4 _ | go_simp); have k11_f_5 : w11.cell? ⟨w.heap.size, 5, none⟩ = some (.bool t) := (hb11.cell (p := ⟨w.heap.size, 5, none⟩) (Nat.lt_succ_self _)).trans (by first | with_reducible exact k10_f_5 | with_reducible exact celAl k10_f_5 _ | go_simp); have k11_f_6 : w11.cell? ⟨w.heap.size, 6, none⟩ = some (.slice a2 k.length c2) := (hb11.cell (p := ⟨w.heap.size, 6, none⟩) (Nat.lt_succ_self _)).trans (by first | with_reducible exact k10_f_6 | with_reducible exact celAl k10_f_6 _ | go_simp); have q11_f : w.heap.size + 1 ≤ w11.heap.size := qlt k11_f_0)
        | (refine wpList_apps8 (B := w.heap.size + 1) rfl _ _ rfl hown9 q9_f (k := R) rfl (Rd.of_own ho9) B5.out rfl rfl ?_; intro v10 w10 hown10' hb10; have hbx10 := hbx9.trans (hb10.mono (Nat.le_succ _)); rw [HP4.out] at hown10'; obtain ⟨a10, c10, rfl⟩ := own_slice hown10'; have hown10 := hown10'; have k10_f_0 : w10.cell? ⟨w.heap.size, 0, none⟩ = some (.int .u64 N) := (hb10.cell (p := ⟨w.heap.size, 0, none⟩) (Nat.lt_succ_self _)).trans (by first | with_reducible exact k9_f_0 | with_reducible exact celAl k9_f_0 _ | go_simp); have k10_f_1 : w10.cell? ⟨w.heap.size, 1, none⟩ = some (.int .i64 I) := (hb10.cell (p := ⟨w.heap.size, 1, none⟩) (Nat.lt_succ_self _)).trans (by first | with_reducible exact k9_f_1 | with_reducible exact celAl k9_f_1 _ | go_simp); have k10_f_2 : w10.cell? ⟨w.heap.size, 2, none⟩ = some (.slice b S.length d) := (hb10.cell (p := ⟨w.heap.size, 2, none⟩) (Nat.lt_succ_self _)).trans (by first | with_reducible exact k9_f_2 | with_reducible exact celAl k9_f_2 _ | go_simp); have k10_f_3 : w10.cell? ⟨w.heap.size, 3, none⟩ = some (.bool s) := (hb10.cell (p := ⟨w.heap.size, 3, none⟩) (Nat.lt_succ_self _)).trans (by first | with_reducible exact k9_f_3 | with_reducible exact celAl k9_f_3 _ | go_simp); have k10_f_4 : w10.cell? ⟨w.heap.size, 4, none⟩ = some (.slice a l.length c) := (hb10.cell (p := ⟨w.heap.size, 4, none⟩) (Nat.lt_succ_self _)).trans (by first | with_reducible exact k9_f_4 | with_reducible exact celAl k9_f_4 _ | go_simp); have k10_f_5 : w10.cell? ⟨w.heap.size, 5, none⟩ = some (.bool t) := (hb10.cell (p := ⟨w.heap.size, 5, none⟩) (Nat.lt_succ_self _)).trans (by first | with_reducible exact k9_f_5 | with_reducible exact celAl k9_f_5 _ | go_simp); have k10_f_6 : w10.cell? ⟨w.heap.size, 6, none⟩ = some (.slice a2 k.length c2) := (hb10.cell (p := ⟨w.heap.size, 6, none⟩) (Nat.lt_succ_self _)).trans (by first | with_reducible exact k9_f_6 | with_reducible exact celAl k9_f_6 _ | go_simp); have q10_f : w.heap.size + 1 ≤ w10.heap.size := qlt k10_f_0)
        | (refine wpList_apps8 (B := w.heap.size + 1) rfl _ _ rfl hown7 q7_f (k := B) rfl (Rd.of_own ho7) B4.out rfl rfl ?_; intro v8 w8 hown8' hb8; have hbx8 := hbx7.trans (hb8.mono (Nat.le_succ _)); rw [HP3.out] at hown8'; obtain ⟨a8, c8, rfl⟩ := own_slice hown8'; have hown8 := hown8'; have k8_f_0 : w8.cell? ⟨w.heap.size, 0, none⟩ = some (.int .u64 N) := (hb8.cell (p := ⟨w.heap.size, 0, none⟩) (Nat.lt_succ_self _)).trans (by first | with_reducible exact k7_f_0 | with_reducible exact celAl k7_f_0 _ | go_simp); have k8_f_1 : w8.cell? ⟨w.heap.size, 1, none⟩ = some (.int .i64 I) := (hb8.cell (p := ⟨w.heap.size, 1, none⟩) (Nat.lt_succ_self _)).trans (by first | with_reducible exact k7_f_1 | with_reducible exact celAl k7_f_1 _ | go_simp); have k8_f_2 : w8.cell? ⟨w.heap.size, 2, none⟩ = some (.slice b S.length d) := (hb8.cell (p := ⟨w.heap.size, 2, none⟩) (Nat.lt_succ_self _)).trans (by first | with_reducible exact k7_f_2 | with_reducible exact celAl k7_f_2 _ | go_simp); have k8_f_3 : w8.cell? ⟨w.heap.size, 3, none⟩ = some (.bool s) := (hb8.cell (p := ⟨w.heap.size, 3, none⟩) (Nat.lt_succ_self _)).trans (by first | with_reducible exact k7_f_3 | with_reducible exact celAl k7_f_3 _ | go_simp); have k8_f_4 : w8.cell? ⟨w.heap.size, 4, none⟩ = some (.slice a l.length c) := (hb8.cell (p := ⟨w.heap.size, 4, none⟩) (Nat.lt_succ_self _)).trans (by first | with_reducible exact k7_f_4 | with_reducible exact celAl k7_f_4 _ | go_simp); have k8_f_5 : w8.cell? ⟨w.heap.size, 5, none⟩ = some (.bool t) := (hb8.cell (p := ⟨w.heap.size, 5, none⟩) (Nat.lt_succ_self _)).trans (by first | with_reducible exact k7_f_5 | with_reducible exact celAl k7_f_5 _ | go_simp); have k8_f_6 : w8.cell? ⟨w.heap.size, 6, none⟩ = some (.slice a2 k.length c2) := (hb8.cell (p := ⟨w.heap.size, 6, none⟩) (Nat.lt_succ_self _)).trans (by first | with_reducible exact k7_f_6 | with_reducible exact celAl k7_f_6 _ | go_simp); have q8_f : w.heap.size + 1 ≤ w8.heap.size := qlt k8_f_0)
        | (refine wpList_apps8 (B := w.heap.size + 1) rfl _ _ rfl hown5 q5_f (k := V) rfl (Rd.of_own ho5) B3.out rfl rfl ?_; intro v6 w6 hown6' hb6; have hbx6 := hbx5.trans (hb6.mono (Nat.le_succ _)); rw [HP2.out] at hown6'; obtain ⟨a6, c6, rfl⟩ := own_slice hown6'; have hown6 := hown6'; have hS6 := hS.below hbx6; have k6_f_0 : w6.cell? ⟨w.heap.size, 0, none⟩ = some (.int .u64 N) := (hb6.cell (p := ⟨w.heap.size, 0, none⟩) (Nat.lt_succ_self _)).trans (by first | with_reducible exact k5_f_0 | with_reducible exact celAl k5_f_0 _ | go_simp); have k6_f_1 : w6.cell? ⟨w.heap.size, 1, none⟩ = some (.int .i64 I) := (hb6.cell (p := ⟨w.heap.size, 1, none⟩) (Nat.lt_succ_self _)).trans (by first | with_reducible exact k5_f_1 | with_reducible exact celAl k5_f_1 _ | go_simp); have k6_f_2 : w6.cell? ⟨w.heap.size, 2, none⟩ = some (.slice b S.length d) := (hb6.cell (p := ⟨w.heap.size, 2, none⟩) (Nat.lt_succ_self _)).trans (by first | with_reducible exact k5_f_2 | with_reducible exact celAl k5_f_2 _ | go_simp); have k6_f_3 : w6.cell? ⟨w.heap.size, 3, none⟩ = some (.bool s) := (hb6.cell (p := ⟨w.heap.size, 3, none⟩) (Nat.lt_succ_self _)).trans (by first | with_reducible exact k5_f_3 | with_reducible exact celAl k5_f_3 _ | go_simp); have k6_f_4 : w6.cell? ⟨w.heap.size, 4, none⟩ = some (.slice a l.length c) := (hb6.cell (p := ⟨w.heap.size, 4, none⟩) (Nat.lt_succ_self _)).trans (by first | with_reducible exact k5_f_4 | with_reducible exact celAl k5_f_4 _ | go_simp); have k6_f_5 : w6.cell? ⟨w.heap.size, 5, none⟩ = some (.bool t) := (hb6.cell (p := ⟨w.heap.size, 5, none⟩) (Nat.lt_succ_self _)).trans (by first | with_reducible exact k5_f_5 | with_reducible exact celAl k5_f_5 _ | go_simp); have k6_f_6 : w6.cell? ⟨w.heap.size, 6, none⟩ = some (.slice a2 k.length c2) := (hb6.cell (p := ⟨w.heap.size, 6, none⟩) (Nat.lt_succ_self _)).trans (by first | with_reducible exact k5_f_6 | with_reducible exact celAl k5_f_6 _ | go_simp); have q6_f : w.heap.size + 1 ≤ w6.heap.size := qlt k6_f_0)
        | (refine wpList_apps8 (B := w.heap.size + 1) rfl _ _ rfl hown3 q3_f (k := U) rfl (Rd.of_own ho3) B2.out rfl rfl ?_; intro v4 w4 hown4' hb4; have hbx4 := hbx3.trans (hb4.mono (Nat.le_succ _)); rw [HP1.out] at hown4'; obtain ⟨a4, c4, rfl⟩ := own_slice hown4'; have hown4 := hown4'; have k4_f_0 : w4.cell? ⟨w.heap.size, 0, none⟩ = some (.int .u64 N) := (hb4.cell (p := ⟨w.heap.size, 0, none⟩) (Nat.lt_succ_self _)).trans (by first | with_reducible exact k3_f_0 | with_reducible exact celAl k3_f_0 _ | go_simp); have k4_f_1 : w4.cell? ⟨w.heap.size, 1, none⟩ = some (.int .i64 I) := (hb4.cell (p := ⟨w.heap.size, 1, none⟩) (Nat.lt_succ_self _)).trans (by first | with_reducible exact k3_f_1 | with_reducible exact celAl k3_f_1 _ | go_simp); have k4_f_2 : w4.cell? ⟨w.heap.size, 2, none⟩ = some (.slice b S.length d) := (hb4.cell (p := ⟨w.heap.size, 2, none⟩) (Nat.lt_succ_self _)).trans (by first | with_reducible exact k3_f_2 | with_reducible exact celAl k3_f_2 _ | go_simp); have k4_f_3 : w4.cell? ⟨w.heap.size, 3, none⟩ = some (.bool s) := (hb4.cell (p := ⟨w.heap.size, 3, none⟩) (Nat.lt_succ_self _)).trans (by first | with_reducible exact k3_f_3 | with_reducible exact celAl k3_f_3 _ | go_simp); have k4_f_4 : w4.cell? ⟨w.heap.size, 4, none⟩ = some (.slice a l.length c) := (hb4.cell (p := ⟨w.heap.size, 4, none⟩) (Nat.lt_succ_self _)).trans (by first | with_reducible exact k3_f_4 | with_reducible exact celAl k3_f_4 _ | go_simp); have k4_f_5 : w4.cell? ⟨w.heap.size, 5, none⟩ = some (.bool t) := (hb4.cell (p := ⟨w.heap.size, 5, none⟩) (Nat.lt_succ_self _)).trans (by first | with_reducible exact k3_f_5 | with_reducible exact celAl k3_f_5 _ | go_simp); have k4_f_6 : w4.cell? ⟨w.heap.size, 6, none⟩ = some (.slice a2 k.length c2) := (hb4.cell (p := ⟨w.heap.size, 6, none⟩) (Nat.lt_succ_self _)).trans (by first | with_reducible exact k3_f_6 | with_reducible exact celAl k3_f_6 _ | go_simp); have q4_f : w.heap.size + 1 ≤ w4.heap.size := qlt k4_f_0)
        | (refine wpList_apps8 (B := w.heap.size + 1) rfl _ _ rfl hown1 q1a_f (k := ar) rfl hA1 B1.out rfl rfl ?_; intro v2 w2 hown2' hb2; have hbx2 := hbx1a.trans (hb2.mono (Nat.le_succ _)); rw [Nat.zero_add] at hown2'; obtain ⟨a2', c2', rfl⟩ := own_slice hown2'; have hown2 := hown2'; have k2_f_0 : w2.cell? ⟨w.heap.size, 0, none⟩ = some (.int .u64 N) := (hb2.cell (p := ⟨w.heap.size, 0, none⟩) (Nat.lt_succ_self _)).trans (by first | with_reducible exact k1_f_0 | with_reducible exact celAl k1_f_0 _ | go_simp); have k2_f_1 : w2.cell? ⟨w.heap.size, 1, none⟩ = some (.int .i64 I) := (hb2.cell (p := ⟨w.heap.size, 1, none⟩) (Nat.lt_succ_self _)).trans (by first | with_reducible exact k1_f_1 | with_reducible exact celAl k1_f_1 _ | go_simp); have k2_f_2 : w2.cell? ⟨w.heap.size, 2, none⟩ = some (.slice b S.length d) := (hb2.cell (p := ⟨w.heap.size, 2, none⟩) (Nat.lt_succ_self _)).trans (by first | with_reducible exact k1_f_2 | with_reducible exact celAl k1_f_2 _ | go_simp); have k2_f_3 : w2.cell? ⟨w.heap.size, 3, none⟩ = some (.bool s) := (hb2.cell (p := ⟨w.heap.size, 3, none⟩) (Nat.lt_succ_self _)).trans (by first | with_reducible exact k1_f_3 | with_reducible exact celAl k1_f_3 _ | go_simp); have k2_f_4 : w2.cell? ⟨w.heap.size, 4, none⟩ = some (.slice a l.length c) := (hb2.cell (p := ⟨w.heap.size, 4, none⟩) (Nat.lt_succ_self _)).trans (by first | with_reducible exact k1_f_4 | with_reducible exact celAl k1_f_4 _ | go_simp); have k2_f_5 : w2.cell? ⟨w.heap.size, 5, none⟩ = some (.bool t) := (hb2.cell (p := ⟨w.heap.size, 5, none⟩) (Nat.lt_succ_self _)).trans (by first | with_reducible exact k1_f_5 | with_reducible exact celAl k1_f_5 _ | go_simp); have k2_f_6 : w2.cell? ⟨w.heap.size, 6, none⟩ = some (.slice a2 k.length c2) := (hb2.cell (p := ⟨w.heap.size, 6, none⟩) (Nat.lt_succ_self _)).trans (by first | with_reducible exact k1_f_6 | with_reducible exact celAl k1_f_6 _ | go_simp); have q2_f : w.heap.size + 1 ≤ w2.heap.size := qlt k2_f_0))))
  refine wp_region_held_drew (S := (fun w' => w'.cell? ⟨w.heap.size, 0, none⟩ = some (.int .u64 N) ∧ w'.cell? ⟨w.heap.size, 1, none⟩ = some (.int .i64 I) ∧ w'.cell? ⟨w.heap.size, 2, none⟩ = some (.slice b S.length d) ∧ w'.cell? ⟨w.heap.size, 3, none⟩ = some (.bool s) ∧ w'.cell? ⟨w.heap.size, 4, none⟩ = some (.slice a l.length c) ∧ w'.cell? ⟨w.heap.size, 5, none⟩ = some (.bool t) ∧ w'.cell? ⟨w.heap.size, 6, none⟩ = some (.slice a2 k.length c2) ∧ w'.cell? ⟨w16.heap.size, 0, none⟩ = some (.bool sg) ∧ w'.cell? ⟨w16.heap.size, 1, none⟩ = some (.slice a16 X.length c16) ∧ w'.cell? ⟨w16.heap.size, 2, none⟩ = some (.bool false) ∧ w'.cell? ⟨w16.heap.size, 3, none⟩ = some (.slice b16 Y.length d16))) (by kernel_rfl) ?_ (fun hHeld => ?_)
  · (try dsimp only); (first | with_reducible exact ⟨k19_f_0, k19_f_1, k19_f_2, k19_f_3, k19_f_4, k19_f_5, k19_f_6, k19_x_0, k19_x_1, k19_x_2, k19_x_3⟩ | with_reducible exact ⟨k18_f_0, k18_f_1, k18_f_2, k18_f_3, k18_f_4, k18_f_5, k18_f_6, k18_x_0, k18_x_1, k18_x_2, k18_x_3⟩ | with_reducible exact ⟨k17_f_0, k17_f_1, k17_f_2, k17_f_3, k17_f_4, k17_f_5, k17_f_6, k17_x_0, k17_x_1, k17_x_2, k17_x_3⟩ | (refine ⟨?_, ?_, ?_, ?_, ?_, ?_, ?_, ?_, ?_, ?_, ?_⟩ <;> (first | with_reducible assumption | ((repeat' first | with_reducible assumption | (with_reducible refine celAl ?_ _) | (with_reducible refine celDr ?_)); done) | (go_simp; done))))
  refine wpAnyH_take (i := 0) (oi := { dst := some 121, op := Op.move (Operand.tmp 11), type := 24, pos := "law.go:98", after := #[], guard := none }) (v := ?_) rfl (by kernel_rfl) (by kernel_rfl) (by kernel_rfl) (fun _ _ _ h => h) (Or.inl ⟨by rfl, ?_⟩) hHeld ?_
  rotate_left
  · (intro w hSw; (try dsimp only at hSw); go_simp; try with_reducible rfl)
  try simp only [Act.put, List.setIfInBounds_toArray, List.set_cons_zero, List.set_cons_succ]
  refine wpAnyH_take (i := 1) (oi := { dst := some 122, op := Op.binOp BinOp.eql 24 (Operand.tmp 121) (Operand.const (Value.int IntKind.i64 0)) 24, type := 4, pos := "law.go:98", after := #[{ on := 0, ground := Ground.data }], guard := none }) (v := ?_) rfl (by kernel_rfl) (by kernel_rfl) (by kernel_rfl) (fun _ _ _ h => h) (Or.inl ⟨by rfl, ?_⟩) hHeld ?_
  rotate_left
  · (intro w hSw; (try dsimp only at hSw); go_simp; try with_reducible rfl)
  try simp only [Act.put, List.setIfInBounds_toArray, List.set_cons_zero, List.set_cons_succ]
  refine wpAnyH_take (i := 2) (oi := { dst := some 123, op := Op.move (Operand.tmp 122), type := 4, pos := "law.go:98", after := #[{ on := 1, ground := Ground.data }], guard := none }) (v := ?_) rfl (by kernel_rfl) (by kernel_rfl) (by kernel_rfl) (fun _ _ _ h => h) (Or.inl ⟨by rfl, ?_⟩) hHeld ?_
  rotate_left
  · (intro w hSw; (try dsimp only at hSw); go_simp; try with_reducible rfl)
  try simp only [Act.put, List.setIfInBounds_toArray, List.set_cons_zero, List.set_cons_succ]
  refine wpAnyH_take (i := 3) (oi := { dst := some 124, op := Op.load 45 (Operand.tmp 14), type := 45, pos := "law.go:98", after := #[{ on := 2, ground := Ground.guard }], guard := some (2, true) }) (v := ?_) rfl (by kernel_rfl) (by kernel_rfl) (by kernel_rfl) (fun _ _ _ h => h) (Or.inl ⟨by rfl, ?_⟩) hHeld ?_
  rotate_left
  · (intro w hSw; (try dsimp only at hSw); go_simp; try with_reducible rfl)
  try simp only [Act.put, List.setIfInBounds_toArray, List.set_cons_zero, List.set_cons_succ]
  refine wpAnyH_take (i := 4) (oi := { dst := some 125, op := Op.fieldAddr 53 (Operand.tmp 3) 3, type := 0, pos := "law.go:98", after := #[{ on := 2, ground := Ground.guard }], guard := some (2, true) }) (v := ?_) rfl (by kernel_rfl) (by kernel_rfl) (by kernel_rfl) (fun _ _ _ h => h) (Or.inl ⟨by rfl, ?_⟩) hHeld ?_
  rotate_left
  · (intro w hSw; (try dsimp only at hSw); go_simp; try with_reducible rfl)
  try simp only [Act.put, List.setIfInBounds_toArray, List.set_cons_zero, List.set_cons_succ]
  refine wpAnyH_take (i := 5) (oi := { dst := some 126, op := Op.load 45 (Operand.tmp 125), type := 45, pos := "law.go:98", after := #[{ on := 4, ground := Ground.data }, { on := 2, ground := Ground.guard }], guard := some (2, true) }) (v := ?_) rfl (by kernel_rfl) (by kernel_rfl) (by kernel_rfl) (fun _ _ _ h => h) (Or.inl ⟨by rfl, ?_⟩) hHeld ?_
  rotate_left
  · (intro w hSw; (try dsimp only at hSw); go_simp; try with_reducible rfl)
  try simp only [Act.put, List.setIfInBounds_toArray, List.set_cons_zero, List.set_cons_succ]
  refine wpAnyH_ready (rs := [6]) (by kernel_rfl) (by simp) ?_
  refine AllReadyH.cons (o := { dst := some 127, op := Op.call { callee := Callee.value (Operand.func 33), args := #[Operand.tmp 126], argTypes := #[45] }, type := 45, pos := "law.go:98", after := #[{ on := 5, ground := Ground.data }, { on := 2, ground := Ground.chain }, { on := 2, ground := Ground.guard }], guard := some (2, true) }) rfl (fun K hK => ?_) AllReadyH.nil
  go_simp
  (go_at_call 33; go_loud ((with_reducible refine (HN.out _ (hr.below (by (repeat' first | with_reducible assumption | with_reducible refine belDr ?_ | with_reducible refine belAl ?_ _))) (hs.below (by (repeat' first | with_reducible assumption | with_reducible refine belDr ?_ | with_reducible refine belAl ?_ _)))).mono ?_); rintro e w17 ⟨a17, c17, b17, d17, rfl, hX17, hY17, hc17⟩; have k17_f_0 : w17.cell? ⟨w.heap.size, 0, none⟩ = some (.int .u64 N) := bcs hc17 (by first | with_reducible assumption | go_simp); have k17_f_1 : w17.cell? ⟨w.heap.size, 1, none⟩ = some (.int .i64 I) := bcs hc17 (by first | with_reducible assumption | go_simp); have k17_f_2 : w17.cell? ⟨w.heap.size, 2, none⟩ = some (.slice b S.length d) := bcs hc17 (by first | with_reducible assumption | go_simp); have k17_f_3 : w17.cell? ⟨w.heap.size, 3, none⟩ = some (.bool s) := bcs hc17 (by first | with_reducible assumption | go_simp); have k17_f_4 : w17.cell? ⟨w.heap.size, 4, none⟩ = some (.slice a l.length c) := bcs hc17 (by first | with_reducible assumption | go_simp); have k17_f_5 : w17.cell? ⟨w.heap.size, 5, none⟩ = some (.bool t) := bcs hc17 (by first | with_reducible assumption | go_simp); have k17_f_6 : w17.cell? ⟨w.heap.size, 6, none⟩ = some (.slice a2 k.length c2) := bcs hc17 (by first | with_reducible assumption | go_simp); have k17_x_0 : w17.cell? ⟨w16.heap.size, 0, none⟩ = some (.bool sg) := bcs hc17 (by first | with_reducible assumption | go_simp); have k17_x_1 : w17.cell? ⟨w16.heap.size, 1, none⟩ = some (.slice a16 X.length c16) := bcs hc17 (by first | with_reducible assumption | go_simp); have k17_x_2 : w17.cell? ⟨w16.heap.size, 2, none⟩ = some (.bool false) := bcs hc17 (by first | with_reducible assumption | go_simp); have k17_x_3 : w17.cell? ⟨w16.heap.size, 3, none⟩ = some (.slice b16 Y.length d16) := bcs hc17 (by first | with_reducible assumption | go_simp); have hbx17 : Below w.heap.size w w17 := bel_step (by (repeat' first | with_reducible assumption | with_reducible refine belDr ?_ | with_reducible refine belAl ?_ _)) hc17; have hX16b : Rw w17 a16 X := Rw.below (by (repeat' first | with_reducible assumption | with_reducible refine Rw.dr ?_ | with_reducible refine Rw.al ?_ _)) hc17; have hY16b : Rw w17 b16 Y := Rw.below (by (repeat' first | with_reducible assumption | with_reducible refine Rw.dr ?_ | with_reducible refine Rw.al ?_ _)) hc17))
  refine hK.out _ _ ?_ (fun hHeld2 => ?_)
  · (try dsimp only); (first | with_reducible exact ⟨k19_f_0, k19_f_1, k19_f_2, k19_f_3, k19_f_4, k19_f_5, k19_f_6, k19_x_0, k19_x_1, k19_x_2, k19_x_3⟩ | with_reducible exact ⟨k18_f_0, k18_f_1, k18_f_2, k18_f_3, k18_f_4, k18_f_5, k18_f_6, k18_x_0, k18_x_1, k18_x_2, k18_x_3⟩ | with_reducible exact ⟨k17_f_0, k17_f_1, k17_f_2, k17_f_3, k17_f_4, k17_f_5, k17_f_6, k17_x_0, k17_x_1, k17_x_2, k17_x_3⟩ | (refine ⟨?_, ?_, ?_, ?_, ?_, ?_, ?_, ?_, ?_, ?_, ?_⟩ <;> (first | with_reducible assumption | ((repeat' first | with_reducible assumption | (with_reducible refine celAl ?_ _) | (with_reducible refine celDr ?_)); done) | (go_simp; done))))
  clear hK K hHeld
  have hHeld := hHeld2; clear hHeld2
  try simp only [Act.put, List.setIfInBounds_toArray, List.set_cons_zero, List.set_cons_succ]
  refine wpAnyH_ready (rs := [7]) (by kernel_rfl) (by simp) ?_
  refine AllReadyH.cons (o := { dst := some 128, op := Op.call { callee := Callee.value (Operand.func 32), args := #[Operand.tmp 124, Operand.tmp 127], argTypes := #[45, 45] }, type := 4, pos := "law.go:98", after := #[{ on := 3, ground := Ground.data }, { on := 6, ground := Ground.data }, { on := 6, ground := Ground.chain }, { on := 2, ground := Ground.guard }], guard := some (2, true) }) rfl (fun K hK => ?_) AllReadyH.nil
  go_simp
  (go_at_call 32; go_loud ((with_reducible refine (srat_yes sg false a16 b16 a17 b17 c16 d16 c17 d17 X Y _ HX9.out HY9.out hX16b hY16b hX17 hY17).mono ?_); rintro e w18 ⟨rfl, hc18⟩; have k18_f_0 : w18.cell? ⟨w.heap.size, 0, none⟩ = some (.int .u64 N) := bcs hc18 (by first | with_reducible assumption | go_simp); have k18_f_1 : w18.cell? ⟨w.heap.size, 1, none⟩ = some (.int .i64 I) := bcs hc18 (by first | with_reducible assumption | go_simp); have k18_f_2 : w18.cell? ⟨w.heap.size, 2, none⟩ = some (.slice b S.length d) := bcs hc18 (by first | with_reducible assumption | go_simp); have k18_f_3 : w18.cell? ⟨w.heap.size, 3, none⟩ = some (.bool s) := bcs hc18 (by first | with_reducible assumption | go_simp); have k18_f_4 : w18.cell? ⟨w.heap.size, 4, none⟩ = some (.slice a l.length c) := bcs hc18 (by first | with_reducible assumption | go_simp); have k18_f_5 : w18.cell? ⟨w.heap.size, 5, none⟩ = some (.bool t) := bcs hc18 (by first | with_reducible assumption | go_simp); have k18_f_6 : w18.cell? ⟨w.heap.size, 6, none⟩ = some (.slice a2 k.length c2) := bcs hc18 (by first | with_reducible assumption | go_simp); have k18_x_0 : w18.cell? ⟨w16.heap.size, 0, none⟩ = some (.bool sg) := bcs hc18 (by first | with_reducible assumption | go_simp); have k18_x_1 : w18.cell? ⟨w16.heap.size, 1, none⟩ = some (.slice a16 X.length c16) := bcs hc18 (by first | with_reducible assumption | go_simp); have k18_x_2 : w18.cell? ⟨w16.heap.size, 2, none⟩ = some (.bool false) := bcs hc18 (by first | with_reducible assumption | go_simp); have k18_x_3 : w18.cell? ⟨w16.heap.size, 3, none⟩ = some (.slice b16 Y.length d16) := bcs hc18 (by first | with_reducible assumption | go_simp); have hbx18 := bel_step hbx17 hc18))
  refine hK.out _ _ ?_ (fun hHeld2 => ?_)
  · (try dsimp only); (first | with_reducible exact ⟨k19_f_0, k19_f_1, k19_f_2, k19_f_3, k19_f_4, k19_f_5, k19_f_6, k19_x_0, k19_x_1, k19_x_2, k19_x_3⟩ | with_reducible exact ⟨k18_f_0, k18_f_1, k18_f_2, k18_f_3, k18_f_4, k18_f_5, k18_f_6, k18_x_0, k18_x_1, k18_x_2, k18_x_3⟩ | with_reducible exact ⟨k17_f_0, k17_f_1, k17_f_2, k17_f_3, k17_f_4, k17_f_5, k17_f_6, k17_x_0, k17_x_1, k17_x_2, k17_x_3⟩ | (refine ⟨?_, ?_, ?_, ?_, ?_, ?_, ?_, ?_, ?_, ?_, ?_⟩ <;> (first | with_reducible assumption | ((repeat' first | with_reducible assumption | (with_reducible refine celAl ?_ _) | (with_reducible refine celDr ?_)); done) | (go_simp; done))))
  clear hK K hHeld
  have hHeld := hHeld2; clear hHeld2
  try simp only [Act.put, List.setIfInBounds_toArray, List.set_cons_zero, List.set_cons_succ]
  refine wpAnyH_take (i := 8) (oi := { dst := some 129, op := Op.pick (Operand.tmp 123) (Operand.tmp 128) (Operand.const (Value.bool false)), type := 4, pos := "law.go:98", after := #[{ on := 2, ground := Ground.data }, { on := 7, ground := Ground.data }], guard := none }) (v := ?_) rfl (by kernel_rfl) (by kernel_rfl) (by kernel_rfl) (fun _ _ _ h => h) (Or.inl ⟨by rfl, ?_⟩) hHeld ?_
  rotate_left
  · (intro w hSw; (try dsimp only at hSw); go_simp; try with_reducible rfl)
  try simp only [Act.put, List.setIfInBounds_toArray, List.set_cons_zero, List.set_cons_succ]
  refine wpAnyH_take (i := 9) (oi := { dst := some 130, op := Op.move (Operand.tmp 129), type := 4, pos := "law.go:98", after := #[{ on := 8, ground := Ground.data }, { on := 7, ground := Ground.chain }], guard := none }) (v := ?_) rfl (by kernel_rfl) (by kernel_rfl) (by kernel_rfl) (fun _ _ _ h => h) (Or.inl ⟨by rfl, ?_⟩) hHeld ?_
  rotate_left
  · (intro w hSw; (try dsimp only at hSw); go_simp; try with_reducible rfl)
  try simp only [Act.put, List.setIfInBounds_toArray, List.set_cons_zero, List.set_cons_succ]
  refine wpAnyH_take (i := 10) (oi := { dst := some 131, op := Op.move (Operand.tmp 10), type := 3, pos := "law.go:98", after := #[{ on := 9, ground := Ground.guard }], guard := some (9, true) }) (v := ?_) rfl (by kernel_rfl) (by kernel_rfl) (by kernel_rfl) (fun _ _ _ h => h) (Or.inl ⟨by rfl, ?_⟩) hHeld ?_
  rotate_left
  · (intro w hSw; (try dsimp only at hSw); go_simp; try with_reducible rfl)
  try simp only [Act.put, List.setIfInBounds_toArray, List.set_cons_zero, List.set_cons_succ]
  refine wpAnyH_take (i := 11) (oi := { dst := some 132, op := Op.move (Operand.tmp 8), type := 3, pos := "law.go:98", after := #[{ on := 9, ground := Ground.guard }], guard := some (9, true) }) (v := ?_) rfl (by kernel_rfl) (by kernel_rfl) (by kernel_rfl) (fun _ _ _ h => h) (Or.inl ⟨by rfl, ?_⟩) hHeld ?_
  rotate_left
  · (intro w hSw; (try dsimp only at hSw); go_simp; try with_reducible rfl)
  try simp only [Act.put, List.setIfInBounds_toArray, List.set_cons_zero, List.set_cons_succ]
  refine wpAnyH_take (i := 12) (oi := { dst := some 133, op := Op.binOp BinOp.eql 3 (Operand.tmp 131) (Operand.tmp 132) 3, type := 4, pos := "law.go:98", after := #[{ on := 10, ground := Ground.data }, { on := 11, ground := Ground.data }, { on := 9, ground := Ground.guard }], guard := some (9, true) }) (v := ?_) rfl (by kernel_rfl) (by kernel_rfl) (by kernel_rfl) (fun _ _ _ h => h) (Or.inl ⟨by rfl, ?_⟩) hHeld ?_
  rotate_left
  · (intro w hSw; (try dsimp only at hSw); go_simp; try with_reducible rfl)
  try simp only [Act.put, List.setIfInBounds_toArray, List.set_cons_zero, List.set_cons_succ]
  refine wpAnyH_take (i := 13) (oi := { dst := some 134, op := Op.pick (Operand.tmp 130) (Operand.tmp 133) (Operand.const (Value.bool false)), type := 4, pos := "law.go:98", after := #[{ on := 9, ground := Ground.data }, { on := 12, ground := Ground.data }], guard := none }) (v := ?_) rfl (by kernel_rfl) (by kernel_rfl) (by kernel_rfl) (fun _ _ _ h => h) (Or.inl ⟨by rfl, ?_⟩) hHeld ?_
  rotate_left
  · (intro w hSw; (try dsimp only at hSw); go_simp; try with_reducible rfl)
  try simp only [Act.put, List.setIfInBounds_toArray, List.set_cons_zero, List.set_cons_succ]
  refine wpAnyH_take (i := 14) (oi := { dst := some 135, op := Op.move (Operand.tmp 134), type := 4, pos := "law.go:98", after := #[{ on := 13, ground := Ground.data }, { on := 9, ground := Ground.chain }], guard := none }) (v := ?_) rfl (by kernel_rfl) (by kernel_rfl) (by kernel_rfl) (fun _ _ _ h => h) (Or.inl ⟨by rfl, ?_⟩) hHeld ?_
  rotate_left
  · (intro w hSw; (try dsimp only at hSw); go_simp; try with_reducible rfl)
  try simp only [Act.put, List.setIfInBounds_toArray, List.set_cons_zero, List.set_cons_succ]
  refine wpAnyH_ready (rs := [15]) (by kernel_rfl) (by simp) ?_
  refine AllReadyH.cons (o := { dst := some 136, op := Op.call { callee := Callee.value (Operand.func 18), args := #[], argTypes := #[] }, type := 4, pos := "law.go:98", after := #[{ on := 14, ground := Ground.chain }, { on := 14, ground := Ground.guard }], guard := some (14, true) }) rfl (fun K hK => ?_) AllReadyH.nil
  go_simp
  (go_at_call 18; go_loud ((with_reducible refine (ex_any _).mono ?_); rintro e w19 ⟨rfl, hc19⟩; have k19_f_0 : w19.cell? ⟨w.heap.size, 0, none⟩ = some (.int .u64 N) := bcs hc19 (by first | with_reducible assumption | go_simp); have k19_f_1 : w19.cell? ⟨w.heap.size, 1, none⟩ = some (.int .i64 I) := bcs hc19 (by first | with_reducible assumption | go_simp); have k19_f_2 : w19.cell? ⟨w.heap.size, 2, none⟩ = some (.slice b S.length d) := bcs hc19 (by first | with_reducible assumption | go_simp); have k19_f_3 : w19.cell? ⟨w.heap.size, 3, none⟩ = some (.bool s) := bcs hc19 (by first | with_reducible assumption | go_simp); have k19_f_4 : w19.cell? ⟨w.heap.size, 4, none⟩ = some (.slice a l.length c) := bcs hc19 (by first | with_reducible assumption | go_simp); have k19_f_5 : w19.cell? ⟨w.heap.size, 5, none⟩ = some (.bool t) := bcs hc19 (by first | with_reducible assumption | go_simp); have k19_f_6 : w19.cell? ⟨w.heap.size, 6, none⟩ = some (.slice a2 k.length c2) := bcs hc19 (by first | with_reducible assumption | go_simp); have k19_x_0 : w19.cell? ⟨w16.heap.size, 0, none⟩ = some (.bool sg) := bcs hc19 (by first | with_reducible assumption | go_simp); have k19_x_1 : w19.cell? ⟨w16.heap.size, 1, none⟩ = some (.slice a16 X.length c16) := bcs hc19 (by first | with_reducible assumption | go_simp); have k19_x_2 : w19.cell? ⟨w16.heap.size, 2, none⟩ = some (.bool false) := bcs hc19 (by first | with_reducible assumption | go_simp); have k19_x_3 : w19.cell? ⟨w16.heap.size, 3, none⟩ = some (.slice b16 Y.length d16) := bcs hc19 (by first | with_reducible assumption | go_simp); have hbx19 := bel_step hbx18 hc19))
  refine hK.out _ _ ?_ (fun hHeld2 => ?_)
  · (try dsimp only); (first | with_reducible exact ⟨k19_f_0, k19_f_1, k19_f_2, k19_f_3, k19_f_4, k19_f_5, k19_f_6, k19_x_0, k19_x_1, k19_x_2, k19_x_3⟩ | with_reducible exact ⟨k18_f_0, k18_f_1, k18_f_2, k18_f_3, k18_f_4, k18_f_5, k18_f_6, k18_x_0, k18_x_1, k18_x_2, k18_x_3⟩ | with_reducible exact ⟨k17_f_0, k17_f_1, k17_f_2, k17_f_3, k17_f_4, k17_f_5, k17_f_6, k17_x_0, k17_x_1, k17_x_2, k17_x_3⟩ | (refine ⟨?_, ?_, ?_, ?_, ?_, ?_, ?_, ?_, ?_, ?_, ?_⟩ <;> (first | with_reducible assumption | ((repeat' first | with_reducible assumption | (with_reducible refine celAl ?_ _) | (with_reducible refine celDr ?_)); done) | (go_simp; done))))
  clear hK K hHeld
  have hHeld := hHeld2; clear hHeld2
  try simp only [Act.put, List.setIfInBounds_toArray, List.set_cons_zero, List.set_cons_succ]
  refine wpAnyH_take (i := 16) (oi := { dst := some 137, op := Op.pick (Operand.tmp 135) (Operand.tmp 136) (Operand.const (Value.bool false)), type := 4, pos := "law.go:98", after := #[{ on := 14, ground := Ground.data }, { on := 15, ground := Ground.data }], guard := none }) (v := ?_) rfl (by kernel_rfl) (by kernel_rfl) (by kernel_rfl) (fun _ _ _ h => h) (Or.inl ⟨by rfl, ?_⟩) hHeld ?_
  rotate_left
  · (intro w hSw; (try dsimp only at hSw); go_simp; try with_reducible rfl)
  try simp only [Act.put, List.setIfInBounds_toArray, List.set_cons_zero, List.set_cons_succ]
  refine wpAnyH_take (i := 17) (oi := { dst := some 6, op := Op.assign (Operand.tmp 137), type := 4, pos := "law.go:98", after := #[{ on := 16, ground := Ground.data }, { on := 15, ground := Ground.chain }, { on := 0, ground := Ground.phase }, { on := 1, ground := Ground.phase }, { on := 2, ground := Ground.phase }, { on := 3, ground := Ground.phase }, { on := 4, ground := Ground.phase }, { on := 5, ground := Ground.phase }, { on := 6, ground := Ground.phase }, { on := 7, ground := Ground.phase }, { on := 8, ground := Ground.phase }, { on := 9, ground := Ground.phase }, { on := 10, ground := Ground.phase }, { on := 11, ground := Ground.phase }, { on := 12, ground := Ground.phase }, { on := 13, ground := Ground.phase }, { on := 14, ground := Ground.phase }, { on := 15, ground := Ground.phase }, { on := 16, ground := Ground.phase }], guard := none }) (v := ?_) rfl (by kernel_rfl) (by kernel_rfl) (by kernel_rfl) (fun _ _ _ h => h) (Or.inl ⟨by rfl, ?_⟩) hHeld ?_
  rotate_left
  · (intro w hSw; (try dsimp only at hSw); go_simp; try with_reducible rfl)
  try simp only [Act.put, List.setIfInBounds_toArray, List.set_cons_zero, List.set_cons_succ]
  refine wpAnyH_done (by kernel_rfl) ?_ _
  go_wp2
  go_ret
  exact ⟨rfl, hbx19⟩
theorem lrt_w (N : Nat) (I : Int) (s t : Bool) (a a2 b f f2 : Option Addr) (n c n2 c2 m d q g q2 g2 : Nat) (w : World) (l k : List (BitVec 32)) (S ar mr : List (BitVec 8)) (hN : N < 18446744073709551616) (hI0 : -9223372036854775808 ≤ I) (hI1 : I ≤ 9223372036854775807) (hn : l.length = n) (hk : k.length = n2) (hnc : n ≤ c) (hnc2 : n2 ≤ c2) (hm : S.length = m) (hmd : m ≤ d) (hq : ar.length = q) (hq2 : mr.length = q2) (hn9 : n ≤ 9223372036854775807) (hn29 : n2 ≤ 9223372036854775807) (hm9 : m ≤ 9223372036854775807) (hq9 : q ≤ 9223372036854775807) (hq29 : q2 ≤ 9223372036854775807) (hr : Rw w a l) (hs : Rw w a2 k) (hS : Rd w b S) (hA : Rd w f ar) (hM : Rd w f2 mr) :
    Calls Try.prog 7 #[.agg #[.int .u64 N, .int .i64 I, .slice b m d, .bool s, .slice a n c, .bool t, .slice a2 n2 c2], .slice f q g, .slice f2 q2 g2] w fun e w' => e = .returned (.bool true) ∧ Below w.heap.size w w' := by
  by_cases h : ¬ (n ≤ 40 ∧ n2 ≤ 40) ∨ 5000 < m ∨ 1000 < q ∨ 1000 < q2
  · exact lrt_big N I s t a a2 b f f2 n c n2 c2 m d q g q2 g2 w hn9 hn29 hm9 hq9 hq29 h
  · exact lrt_in N I s t a a2 b f f2 n c n2 c2 m d q g q2 g2 w l k S ar mr hN hI0 hI1 hn hk hnc hnc2 hm hmd hq hq2 (by omega) (by omega) (by omega) (by omega) (by omega) hr hs hS hA hM
end Go.Proofs.Ytbplcgbfhijbcaa
