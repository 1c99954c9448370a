
import Derived.Test.YtcofiekfhnfjpaaS8
import Derived.Test.YtcofiekfhnfjpaaS5
import Derived.Deep.CutRange
namespace Go.Proofs.Ytcofiekfhnfjpaa
open Go.RowKit
set_option linter.unusedVariables false
set_option linter.unusedSimpArgs false
attribute [local go_sem ↓] Go.wp_at_zero Go.wp_at_succ
attribute [local go_sem] rhoF_tmp rhoF_const rhoF_global rhoF_func
attribute [local go_sem] qV iV
attribute [local go_sem] qE
def AnsQ (q : Rat) (W : World) : Ending → World → Prop := AnsR (qV (qS q) (qX q) false (qY q)) (OwP [qX q, qY q]) W
def AnsN (q : Rat) (W : World) : Ending → World → Prop := AnsR (qV (qS q) (qX q) false (qY q)) (RwnP [qX q, qY q]) W
def AnsI (z : Int) (W : World) : Ending → World → Prop := AnsR (iV (decide (z < 0)) (canon z.natAbs)) (OwP [canon z.natAbs]) W
def AnsJ (z : Int) (W : World) : Ending → World → Prop := AnsR (iV (decide (z < 0)) (canon z.natAbs)) (RwnP [canon z.natAbs]) W
theorem FrF.q {w w' : World} {x y : Int} {e : Ending} {q : Rat} (h : FrF w x y e w') (hx : x = q.num) (hy : y = (q.den : Int)) : AnsQ q w e w' := by
  subst hx hy
  have := h.ans
  rw [den_nn q] at this
  exact this
theorem FrG.q {w w' : World} {x y : Int} {e : Ending} {q : Rat} (h : FrG w x y e w') (hx : x = q.num) (hy : y = (q.den : Int)) : AnsN q w e w' := by
  subst hx hy
  have := h.ans
  rw [den_nn q] at this
  exact this
theorem Qv_neg (s t : Bool) (l k : List (BitVec 32)) : Qv (decide (-(zv s (valD l)) < 0)) (canon (-(zv s (valD l))).natAbs) t k = -(Qv s l t k) := by
  unfold Qv
  rw [zv_can2, Rat.neg_divInt]
theorem neg_len (s : Bool) (l : List (BitVec 32)) : (canon (-(zv s (valD l))).natAbs).length ≤ l.length := canon_neg_len s l
theorem red_q (s t : Bool) (a b : Option Addr) (c d : Nat) (l k : List (BitVec 32)) (w : World) (h1 : l.length ≤ 900000) (h2 : k.length ≤ 900000) (g1 : l.length ≤ c) (g2 : k.length ≤ d) (ha : Rw w a l) (hb : Rw w b k) :
    Calls Try.prog 42 #[.agg #[.bool s, .slice a l.length c], .agg #[.bool t, .slice b k.length d]] w (AnsQ (Qv s l t k) w) := by
  exact (red_any s t a b _ c _ d l k w rfl rfl g1 g2 h1 h2 ha hb).mono fun e w' h => h.q (rn_q s t l k).1 (rn_q s t l k).2
theorem norm_q (s t : Bool) (a b : Option Addr) (c d : Nat) (l k : List (BitVec 32)) (w : World) (h1 : l.length ≤ 900000) (h2 : k.length ≤ 900000) (g1 : l.length ≤ c) (g2 : k.length ≤ d) (ha : Rw w a l) (hb : Rw w b k) :
    Calls Try.prog 13 #[.agg #[.bool s, .slice a l.length c, .bool t, .slice b k.length d]] w (AnsQ (Qv s l t k) w) := by
  exact (ratn_any s t a b _ c _ d l k w rfl rfl g1 g2 h1 h2 ha hb).mono fun e w' h => h.q (rn_q s t l k).1 (rn_q s t l k).2
theorem neg_q (s t : Bool) (a b : Option Addr) (c d : Nat) (l k : List (BitVec 32)) (w : World) (h1 : l.length ≤ 100000) (h2 : k.length ≤ 100000) (g1 : l.length ≤ c) (g2 : k.length ≤ d) (ha : Rw w a l) (hb : Rw w b k) :
    Calls Try.prog 35 #[.agg #[.bool s, .slice a l.length c, .bool t, .slice b k.length d]] w (AnsQ (-(Qv s l t k)) w) := by
  refine neg_w s t a b c d l k w ha hb _ _ _ _ _ _ (fun W h => (zneg_any s a _ c l W rfl g1 (by omega) h).mono fun e w' h => h.ans) (fun W v n hn hv hk => ?_)
  rw [← Qv_neg]
  exact red_q _ t v b n d _ k W (Nat.le_trans (neg_len s l) (by omega)) (by omega) hn g2 hv hk
theorem store_q (x : Int) (Y : Nat) (w : World) (h0 : -9223372036854775807 ≤ x) (h1 : x ≤ 9223372036854775807) (hy : Y < 9223372036854775808) (hy0 : 0 < Y) : Calls Try.prog 64 #[.agg #[.int .i64 x, .int .i64 (Y : Int)]] w (AnsQ (Rat.divInt x Y) w) := by
  refine (store_any x Y w h0 h1 (by omega) hy0).mono fun e w' h => h.q ?_ ?_
  · rw [← (rn_rat x Y).1, (rn_pos (by omega)).1]; rfl
  · rw [← (rn_rat x Y).2, (rn_pos (by omega)).2]; rfl
theorem beq_ne {x y : Int} (h : x ≠ y) : (x == y) = false := by rw [beq_eq_false_iff_ne]; exact h
theorem fit_in {M : Int} (h : ¬ (M < -9223372036854775807 ∨ 9223372036854775807 < M)) : -9223372036854775807 ≤ M ∧ M ≤ 9223372036854775807 := by omega
theorem tms (x u : Int) (x0 : -9223372036854775807 ≤ x) (x1 : x ≤ 9223372036854775807) (u0 : -9223372036854775807 ≤ u) (u1 : u ≤ 9223372036854775807) : ∃ (n : Int) (b : Bool), (∀ W, Calls Try.prog 97 #[.int .i64 x, .int .i64 u] W fun e w' => e = .returned (.tuple #[.int .i64 n, .bool b]) ∧ W = w') ∧ (b = true → n = x * u ∧ -9223372036854775807 ≤ n ∧ n ≤ 9223372036854775807) ∧ -9223372036854775807 ≤ n ∧ n ≤ 9223372036854775807 := by
  by_cases h : x * u < -9223372036854775807 ∨ 9223372036854775807 < x * u
  · exact ⟨0, false, fun W => times_no x u W x0 x1 u0 u1 h, fun h => (by cases h), by omega, by omega⟩
  · obtain ⟨h0, h1⟩ := fit_in h
    exact ⟨x * u, true, fun W => times_yes x u W x0 x1 u0 u1 h0 h1, fun _ => ⟨rfl, h0, h1⟩, h0, h1⟩
theorem pls (x u : Int) (x0 : -9223372036854775807 ≤ x) (x1 : x ≤ 9223372036854775807) (u0 : -9223372036854775807 ≤ u) (u1 : u ≤ 9223372036854775807) : ∃ (n : Int) (b : Bool), (∀ W, Calls Try.prog 96 #[.int .i64 x, .int .i64 u] W fun e w' => e = .returned (.tuple #[.int .i64 n, .bool b]) ∧ W = w') ∧ (b = true → n = x + u ∧ -9223372036854775807 ≤ n ∧ n ≤ 9223372036854775807) := by
  by_cases h : x + u < -9223372036854775807 ∨ 9223372036854775807 < x + u
  · exact ⟨0, false, fun W => plus_no x u W x0 x1 u0 u1 h, fun h => (by cases h)⟩
  · obtain ⟨h0, h1⟩ := fit_in h
    exact ⟨x + u, true, fun W => plus_yes x u W x0 x1 u0 u1 h0 h1, fun _ => ⟨rfl, h0, h1⟩⟩
theorem as_any (s t s2 t2 : Bool) (a b a2 b2 : Option Addr) (c d c2 d2 : Nat) (l k l2 m2 : List (BitVec 32)) (h1 : l.length ≤ 100000) (h2 : k.length ≤ 100000) (h3 : l2.length ≤ 100000) (h4 : m2.length ≤ 100000) :
    (∃ (x : Int) (Y : Nat), -9223372036854775807 ≤ x ∧ x ≤ 9223372036854775807 ∧ Y < 9223372036854775808 ∧ 0 < Y ∧ Rat.divInt x Y = (Qv s l t k) + (Qv s2 l2 t2 m2) ∧ ∀ W, Rw W a l → Rw W b k → Rw W a2 l2 → Rw W b2 m2 → Calls Try.prog 63 #[.agg #[.bool s, .slice a l.length c, .bool t, .slice b k.length d], .agg #[.bool s2, .slice a2 l2.length c2, .bool t2, .slice b2 m2.length d2]] W fun e w' => e = .returned (.tuple #[.agg #[.int .i64 x, .int .i64 (Y : Int)], .bool true]) ∧ Below W.heap.size W w') ∨ (∃ x y : Int, ∀ W, Rw W a l → Rw W b k → Rw W a2 l2 → Rw W b2 m2 → Calls Try.prog 63 #[.agg #[.bool s, .slice a l.length c, .bool t, .slice b k.length d], .agg #[.bool s2, .slice a2 l2.length c2, .bool t2, .slice b2 m2.length d2]] W fun e w' => e = .returned (.tuple #[.agg #[.int .i64 x, .int .i64 y], .bool false]) ∧ Below W.heap.size W w') := by
  rcases lds_at s t l k (by omega) (by omega) with ⟨x, Y, e1, e2, Y0, Y1, x0, x1, hA⟩ | hA
  · rcases lds_at s2 t2 l2 m2 (by omega) (by omega) with ⟨u, V, e3, e4, V0, V1, u0, u1, hB⟩ | hB
    · have hq : Rat.divInt (x * V + u * Y) ((Y : Int) * (V : Int)) = Qv s l t k + Qv s2 l2 t2 m2 := by
        unfold Qv
        rw [← pq_add, e1, e2, e3, e4]
      by_cases hYV : Y = V
      · subst hYV
        obtain ⟨n, z1, t1, r1⟩ := pls x u x0 x1 u0 u1
        cases z1 with
        | false => exact .inr ⟨_, _, fun W ha hb hu hv => as_eq s t s2 t2 a b a2 b2 c d c2 d2 l k l2 m2 W ha hb hu hv x Y u n false hA hB t1⟩
        | true =>
          obtain ⟨rfl, n0, n1⟩ := r1 rfl
          refine .inl ⟨_, Y, n0, n1, Y1, Y0, ?_, fun W ha hb hu hv => as_eq s t s2 t2 a b a2 b2 c d c2 d2 l k l2 m2 W ha hb hu hv x Y u _ true hA hB t1⟩
          rw [← hq, ← Int.add_mul, Rat.divInt_mul_right (by omega)]
      · have hyv : ((Y : Int) == (V : Int)) = false := beq_ne (by omega)
        obtain ⟨n, z1, t1, r1, n0, n1⟩ := tms x V x0 x1 (by omega) (by omega)
        obtain ⟨m, z2, t2', r2, m0, m1⟩ := tms u Y u0 u1 (by omega) (by omega)
        obtain ⟨p, z3, t3, r3, _, _⟩ := tms Y V (by omega) (by omega) (by omega) (by omega)
        obtain ⟨q, z4, t4, r4⟩ := pls n m n0 n1 m0 m1
        cases z1 with
        | false => exact .inr ⟨_, _, fun W ha hb hu hv => as_4 s t s2 t2 a b a2 b2 c d c2 d2 l k l2 m2 W ha hb hu hv x Y u V n m p q z2 z3 z4 hyv hA hB t1 t2' t3 t4⟩
        | true =>
          cases z2 with
          | false => exact .inr ⟨_, _, fun W ha hb hu hv => as_3 s t s2 t2 a b a2 b2 c d c2 d2 l k l2 m2 W ha hb hu hv x Y u V n m p q z3 z4 hyv hA hB t1 t2' t3 t4⟩
          | true =>
            cases z3 with
            | false => exact .inr ⟨_, _, fun W ha hb hu hv => as_2 s t s2 t2 a b a2 b2 c d c2 d2 l k l2 m2 W ha hb hu hv x Y u V n m p q z4 hyv hA hB t1 t2' t3 t4⟩
            | true =>
              cases z4 with
              | false => exact .inr ⟨_, _, fun W ha hb hu hv => as_1 s t s2 t2 a b a2 b2 c d c2 d2 l k l2 m2 W ha hb hu hv x Y u V n m p q hyv hA hB t1 t2' t3 t4⟩
              | true =>
                have f1 := (r1 rfl).1
                have f2 := (r2 rfl).1
                obtain ⟨f3, p0, p1⟩ := r3 rfl
                obtain ⟨f4, q0, q1⟩ := r4 rfl
                have hp : p = ((Y * V : Nat) : Int) := f3.trans (Int.natCast_mul Y V).symm
                have hpp : 0 < Y * V := Nat.mul_pos Y0 V0
                subst hp
                refine .inl ⟨q, Y * V, q0, q1, by omega, hpp, ?_, fun W ha hb hu hv => as_0 s t s2 t2 a b a2 b2 c d c2 d2 l k l2 m2 W ha hb hu hv x Y u V n m _ q hyv hA hB t1 t2' t3 t4⟩
                rw [← hq, f4, f1, f2, Int.natCast_mul]
    · exact .inr ⟨0, 0, fun W ha hb hu hv => as_no2 s t s2 t2 a b a2 b2 c d c2 d2 l k l2 m2 W ha hb hu hv _ _ _ _ hA hB⟩
  · rcases lds_at s2 t2 l2 m2 (by omega) (by omega) with ⟨u, V, e3, e4, V0, V1, u0, u1, hB⟩ | hB
    · exact .inr ⟨0, 0, fun W ha hb hu hv => as_no1 s t s2 t2 a b a2 b2 c d c2 d2 l k l2 m2 W ha hb hu hv _ _ _ _ _ hA hB⟩
    · exact .inr ⟨0, 0, fun W ha hb hu hv => as_no1 s t s2 t2 a b a2 b2 c d c2 d2 l k l2 m2 W ha hb hu hv _ _ _ _ _ hA hB⟩
theorem zlen_mul (s t : Bool) (l k : List (BitVec 32)) (n m : Nat) (h : l.length ≤ n) (h2 : k.length ≤ m) : (canon (zv s (valD l) * zv t (valD k)).natAbs).length ≤ n + m := by
  rw [canon_len_le, Int.natAbs_mul, zv_abs, zv_abs, pw_add]
  exact Nat.mul_lt_mul'' (Nat.lt_of_lt_of_le (valD_lt l) (pw_mono h)) (Nat.lt_of_lt_of_le (valD_lt k) (pw_mono h2))
theorem zlen_add (x y : Int) (n : Nat) (h : (canon x.natAbs).length ≤ n) (h2 : (canon y.natAbs).length ≤ n) : (canon (x + y).natAbs).length ≤ n + 1 := by
  rw [canon_len_le] at h h2 ⊢
  have e : pw (n + 1) = pw n * 4294967296 := pw_add n 1
  have := Int.natAbs_add_le x y
  omega
theorem add_q (s t s2 t2 : Bool) (a b a2 b2 : Option Addr) (c d c2 d2 : Nat) (l k l2 m2 : List (BitVec 32)) (w : World) (h1 : l.length ≤ 100000) (h2 : k.length ≤ 100000) (h3 : l2.length ≤ 100000) (h4 : m2.length ≤ 100000) (g1 : l.length ≤ c) (g2 : k.length ≤ d) (g3 : l2.length ≤ c2) (g4 : m2.length ≤ d2) (ha : Rw w a l) (hb : Rw w b k) (hu : Rw w a2 l2) (hv : Rw w b2 m2) :
    Calls Try.prog 33 #[.agg #[.bool s, .slice a l.length c, .bool t, .slice b k.length d], .agg #[.bool s2, .slice a2 l2.length c2, .bool t2, .slice b2 m2.length d2]] w (AnsQ ((Qv s l t k) + (Qv s2 l2 t2 m2)) w) := by
  rcases as_any s t s2 t2 a b a2 b2 c d c2 d2 l k l2 m2 h1 h2 h3 h4 with ⟨x, Y, x0, x1, Y1, Y0, hq, hS⟩ | ⟨x, y, hS⟩
  · refine add_small s t s2 t2 a b a2 b2 c d c2 d2 l k l2 m2 w ha hb hu hv x Y _ _ _ _ hS (fun W => ?_)
    rw [← hq]
    exact store_q x Y W x0 x1 Y1 Y0
  · obtain ⟨A1, A2, L1, K1, e1, e2, b1, b2', hP⟩ := pd_any s t a b c d l k h1 h2 g1 g2
    obtain ⟨B1, B2, L2, K2, e3, e4, b3, b4, hQ⟩ := pd_any s2 t2 a2 b2 c2 d2 l2 m2 h3 h4 g3 g4
    have pk : ∀ {f : FuncId} {args : Array Value} {W : World} {S T : Bool} {X Y : List (BitVec 32)}, (Calls Try.prog f args W fun e w' => ∃ (v1 : Option Addr) (n1 : Nat) (v2 : Option Addr) (n2 : Nat), e = .returned (.agg #[.bool S, .slice v1 X.length n1, .bool T, .slice v2 Y.length n2]) ∧ X.length ≤ n1 ∧ Y.length ≤ n2 ∧ Rw w' v1 X ∧ Rw w' v2 Y ∧ Below W.heap.size W w') → Calls Try.prog f args W (AnsR (qV S X T Y) (RwsP [X, Y]) W) := fun h => h.mono fun e w' ⟨v1, n1, v2, n2, e1, c1, c2, r1, r2, hb⟩ => ⟨pk2 v1 n1 v2 n2, e1, fun i Z hZ => (by
      match i, hZ with
      | 0, hZ => cases hZ; exact ⟨c1, r1⟩
      | 1, hZ => cases hZ; exact ⟨c2, r2⟩), hb⟩
    have q1 := zlen_mul A1 B2 L1 K2 _ _ b1 b4
    have q2 := zlen_mul B1 A2 L2 K1 _ _ b3 b2'
    have q3 := zlen_mul A2 B2 K1 K2 _ _ b2' b4
    have q4 := zlen_add _ _ _ q1 q2
    refine add_big s t s2 t2 a b a2 b2 c d c2 d2 l k l2 m2 w ha hb hu hv x y _ _ _ _ _ _ _ _ _ _ _ _ _ _ _ _ _ _ _ _ hS (fun W p q => pk (hP W p q)) (fun W p q => pk (hQ W p q)) (fun W v u n m p q r z => (zmul_any A1 B2 v u _ n _ m L1 K2 W rfl rfl p q (by omega) (by omega) r z).mono fun e w' h => h.ans) (fun W v u n m p q r z => (zmul_any B1 A2 v u _ n _ m L2 K1 W rfl rfl p q (by omega) (by omega) r z).mono fun e w' h => h.ans) (fun W v u n m p q r z => (zadd_any _ _ v u _ n _ m _ _ W rfl rfl p q (by omega) (by omega) r z).mono fun e w' h => h.ans) (fun W v u n m p q r z => (zmul_any A2 B2 v u _ n _ m K1 K2 W rfl rfl p q (by omega) (by omega) r z).mono fun e w' h => h.ans) (fun W v u n m p q r z => ?_)
    have e : Qv (decide (zv (decide (zv A1 (valD L1) * zv B2 (valD K2) < 0)) (valD (canon (zv A1 (valD L1) * zv B2 (valD K2)).natAbs)) + zv (decide (zv B1 (valD L2) * zv A2 (valD K1) < 0)) (valD (canon (zv B1 (valD L2) * zv A2 (valD K1)).natAbs)) < 0)) (canon (zv (decide (zv A1 (valD L1) * zv B2 (valD K2) < 0)) (valD (canon (zv A1 (valD L1) * zv B2 (valD K2)).natAbs)) + zv (decide (zv B1 (valD L2) * zv A2 (valD K1) < 0)) (valD (canon (zv B1 (valD L2) * zv A2 (valD K1)).natAbs))).natAbs) (decide (zv A2 (valD K1) * zv B2 (valD K2) < 0)) (canon (zv A2 (valD K1) * zv B2 (valD K2)).natAbs) = (Qv s l t k) + (Qv s2 l2 t2 m2) := by
      unfold Qv
      rw [zv_can2, zv_can2, zv_can2, zv_can2, e1, e2, e3, e4, pq_add]
    rw [← e]
    exact red_q _ _ v u n m _ _ W (by rw [zv_can2, zv_can2]; omega) (by omega) p q r z
end Go.Proofs.Ytcofiekfhnfjpaa
