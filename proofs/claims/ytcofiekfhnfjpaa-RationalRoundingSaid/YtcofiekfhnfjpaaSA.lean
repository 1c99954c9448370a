
import Derived.Test.YtcofiekfhnfjpaaS9
import Derived.Deep.CutRange
namespace Go.Proofs.Ytcofiekfhnfjpaa
open Go.RowKit
set_option linter.unusedVariables false
set_option linter.unusedSimpArgs false
attribute [local go_sem ↓] Go.wp_at_zero Go.wp_at_succ
attribute [local go_sem] rhoF_tmp rhoF_const rhoF_global rhoF_func
attribute [local go_sem] qV iV
attribute [local go_sem] qE
theorem beq_ne2 {x y : Int} (h : x ≠ y) : (x == y) = false := by rw [beq_eq_false_iff_ne]; exact h
theorem sgn_ne {x : Int} (h : x ≠ 0) : (x.sign == 0) = false := beq_ne2 (fun e => h (Int.sign_eq_zero_iff_zero.1 e))
theorem sub_q (s t s2 t2 : Bool) (a b a2 b2 : Option Addr) (c d c2 d2 : Nat) (l k l2 m2 : List (BitVec 32)) (w : World) (h1 : l.length ≤ 100000) (h2 : k.length ≤ 100000) (h3 : l2.length ≤ 100000) (h4 : m2.length ≤ 100000) (g1 : l.length ≤ c) (g2 : k.length ≤ d) (g3 : l2.length ≤ c2) (g4 : m2.length ≤ d2) (ha : Rw w a l) (hb : Rw w b k) (hu : Rw w a2 l2) (hv : Rw w b2 m2) :
    Calls Try.prog 32 #[.agg #[.bool s, .slice a l.length c, .bool t, .slice b k.length d], .agg #[.bool s2, .slice a2 l2.length c2, .bool t2, .slice b2 m2.length d2]] w (AnsQ ((Qv s l t k) - (Qv s2 l2 t2 m2)) w) := by
  refine sub_w s t s2 t2 a b a2 b2 c d c2 d2 l k l2 m2 w ha hb hu hv _ _ _ _ _ _ (fun W h => (zneg_any s2 a2 _ c2 l2 W rfl g3 (by omega) h).mono fun e w' h => h.ans) (fun W v n hn p q r z => ?_)
  rw [Rat.sub_eq_add_neg, ← Qv_neg]
  exact add_q s t _ t2 a b v b2 c d n d2 l k _ m2 W h1 h2 (Nat.le_trans (neg_len s2 l2) h3) h4 g1 g2 hn g4 p q r z
theorem Qv_zero (s t : Bool) (l k : List (BitVec 32)) : Qv s l t k = 0 ↔ zv s (valD l) = 0 ∨ zv t (valD k) = 0 := by
  unfold Qv
  constructor
  · intro h
    by_cases hy : zv t (valD k) = 0
    · exact .inr hy
    · left
      have e : Rat.divInt (zv s (valD l)) (zv t (valD k)) = Rat.divInt 0 1 := by rw [h, Rat.zero_divInt]
      have := (Rat.divInt_eq_divInt_iff hy (by decide)).1 e
      omega
  · rintro (h | h)
    · rw [h, Rat.zero_divInt]
    · rw [h, Rat.divInt_zero]
theorem canon0 : canon 0 = [] := List.eq_nil_of_length_eq_zero (Nat.le_zero.1 ((canon_len_le 0 0).2 (by decide)))
theorem ansI0 (W : World) : AnsI 0 W = AnsR (iV false []) (OwP [[]]) W := by unfold AnsI; rw [show (0 : Int).natAbs = 0 from rfl, canon0]; rfl
theorem valD_zv {t : Bool} {k : List (BitVec 32)} (h : zv t (valD k) ≠ 0) : 0 < valD k := by
  rw [Ne, zv_eq_zero] at h; omega
theorem valD_zv0 {t : Bool} {k : List (BitVec 32)} (h : zv t (valD k) = 0) : valD k = 0 := zv_eq_zero.1 h
theorem OwP.nil1 {lo hi : Nat} {W : World} : OwP [[]] (pk1 none 0) lo hi W :=
  ⟨fun i X hX => by
    match i, hX with
    | 0, hX => cases hX; exact ⟨⟨rfl, .inl ⟨rfl, rfl⟩⟩, fun p hp => by cases hp⟩, fun i j X Y p q hX hY hne hp hq => by cases hp⟩
theorem OwP.one {w w' : World} {L : List (BitVec 32)} {a : Option Addr} {c : Nat} (ho : w'.ownsRow w.heap.size 49 1 (.slice a L.length c) L.length (bv32 L)) : OwP [L] (pk1 a c) w.heap.size w'.heap.size w' :=
  ⟨fun i X hX => by
    match i, hX with
    | 0, hX => cases hX; exact ⟨ho, fun p hp => (own_blk ho p hp).2⟩, fun i j X Y p q hX hY hne hp hq => by
    match i, j, hX, hY, hne with
    | 0, 0, _, _, hne => exact absurd rfl hne⟩
theorem q0_of {s t : Bool} {l k : List (BitVec 32)} (h : zv t (valD k) = 0) : Qv s l t k = 0 := (Qv_zero s t l k).2 (.inr h)
theorem fl0 : (0 : Rat).floor = 0 := rfl
theorem rd0 : rdR 0 = 0 := by decide
theorem floor_q (s t : Bool) (a b : Option Addr) (c d : Nat) (l k : List (BitVec 32)) (w : World) (h1 : l.length ≤ 100000) (h2 : k.length ≤ 100000) (g1 : l.length ≤ c) (g2 : k.length ≤ d) (ha : Rw w a l) (hb : Rw w b k) :
    Calls Try.prog 25 #[.agg #[.bool s, .slice a l.length c, .bool t, .slice b k.length d]] w (AnsI ((Qv s l t k).floor) w) := by
  by_cases hy : zv t (valD k) = 0
  · rw [q0_of hy, fl0, ansI0]
    exact floor_w s t a b c d l k w ha hb false [] (fun W p q => (zdm_zero s t a b _ c _ d l k W rfl rfl g1 g2 (by omega) (by omega) p q (valD_zv0 hy)).mono fun e w' ⟨h, hb⟩ => ⟨pk1 none 0, false, none, [], 0, 9, h, OwP.nil1, hb⟩)
  · have hv : (Qv s l t k).floor = (zv s (valD l)).fdiv (zv t (valD k)) := floor_rat hy
    rw [hv]
    refine floor_w s t a b c d l k w ha hb _ _ (fun W p q => (zdm_any s t a b _ c _ d l k W rfl rfl g1 g2 (by omega) (by omega) p q (valD_zv hy)).mono fun e w' h => ?_)
    obtain ⟨a1, c1, a2, c2, h, o1, o2, hb⟩ := h
    exact ⟨pk1 a1 c1, _, a2, _, c2, 0, h, OwP.one o1, hb⟩
theorem round_q (s t : Bool) (a b : Option Addr) (c d : Nat) (l k : List (BitVec 32)) (w : World) (h1 : l.length ≤ 100000) (h2 : k.length ≤ 100000) (g1 : l.length ≤ c) (g2 : k.length ≤ d) (ha : Rw w a l) (hb : Rw w b k) :
    Calls Try.prog 27 #[.agg #[.bool s, .slice a l.length c, .bool t, .slice b k.length d]] w (AnsI (rdR (Qv s l t k)) w) := by
  by_cases hy : zv t (valD k) = 0
  · rw [q0_of hy, rd0, ansI0]
    exact round_w s t a b c d l k w ha hb false [] 9 (fun W p q => (zdr_zero s t a b _ c _ d l k W rfl rfl g1 g2 (by omega) (by omega) p q (valD_zv0 hy)).mono fun e w' ⟨h, hb⟩ => ⟨pk1 none 0, h, OwP.nil1, hb⟩)
  · have hv : rdR (Qv s l t k) = drZ (zv s (valD l)) (zv t (valD k)) := (round_rat hy).symm
    rw [hv]
    refine round_w s t a b c d l k w ha hb _ _ 0 (fun W p q => (zdr_any s t a b _ c _ d l k W rfl rfl g1 g2 (by omega) (by omega) p q (valD_zv hy)).mono fun e w' h => ?_)
    obtain ⟨a1, c1, h, o1, hb⟩ := h
    exact ⟨pk1 a1 c1, h, OwP.one o1, hb⟩
theorem Int_can (z : Int) : -(zv (decide (z < 0)) (valD (canon z.natAbs))) = -z := by rw [zv_can2]
theorem canon_flen (z : Int) (n : Nat) (h : z.natAbs < pw n) : (canon z.natAbs).length ≤ n := (canon_len_le _ _).2 h
theorem ceil_q (s t : Bool) (a b : Option Addr) (c d : Nat) (l k : List (BitVec 32)) (w : World) (h1 : l.length ≤ 100000) (h2 : k.length ≤ 100000) (g1 : l.length ≤ c) (g2 : k.length ≤ d) (ha : Rw w a l) (hb : Rw w b k) :
    Calls Try.prog 26 #[.agg #[.bool s, .slice a l.length c, .bool t, .slice b k.length d]] w (AnsI (clR (Qv s l t k)) w) := by
  have hf : (canon ((-(Qv s l t k)).floor).natAbs).length ≤ 100001 := by
    refine canon_flen _ _ ?_
    have hz := (sz_neg (sz_Qv (s := s) (t := t) (l := l) (k := k) (n := 100000) h1 h2 (by omega))).1
    rw [Rat.floor_def]
    have h3 := Int.natAbs_ediv_le_natAbs (-(Qv s l t k)).num ((-(Qv s l t k)).den : Int)
    exact Nat.lt_of_le_of_lt h3 (Nat.lt_of_lt_of_le hz (pw_mono (by omega)))
  refine ceil_w s t a b c d l k w ha hb _ (decide ((-(Qv s l t k)).floor < 0)) _ _ (canon ((-(Qv s l t k)).floor).natAbs) _ (fun W h => (zneg_any s a _ c l W rfl g1 (by omega) h).mono fun e w' h => h.ans) (fun W v n hn p q => ?_) (fun W v n hn p => ?_)
  · have := floor_q (decide (-(zv s (valD l)) < 0)) t v b n d (canon (-(zv s (valD l))).natAbs) k W (Nat.le_trans (neg_len s l) h1) h2 hn g2 p q
    rw [Qv_neg] at this
    exact this
  · have := (zneg_any (decide ((-(Qv s l t k)).floor < 0)) v _ n _ W rfl hn (by omega) p).mono fun e w' h => h.ans
    rw [Int_can] at this
    exact this
theorem fromI_q (x : Int) (w : World) (x0 : -9223372036854775808 ≤ x) (x1 : x ≤ 9223372036854775807) : Calls Try.prog 23 #[.int .i64 x] w (AnsQ (x : Rat) w) := (fromI_any x w x0 x1).mono fun e w' h => h.q rfl rfl
theorem int_len (x : Int) (x0 : -9223372036854775808 ≤ x) (x1 : x ≤ 9223372036854775807) : (canon x.natAbs).length ≤ 2 := by
  rw [canon_len_le]
  have : pw 2 = 18446744073709551616 := rfl
  omega
def AnsE (q : Rat) (W : World) : Ending → World → Prop := AnsR (qE (qS q) (qX q) false (qY q)) (OwP [qX q, qY q]) W
theorem new_q (s t : Bool) (a b : Option Addr) (c d : Nat) (l k : List (BitVec 32)) (w : World) (h1 : l.length ≤ 100000) (h2 : k.length ≤ 100000) (g1 : l.length ≤ c) (g2 : k.length ≤ d) (ha : Rw w a l) (hb : Rw w b k) (hy : zv t (valD k) ≠ 0) :
    Calls Try.prog 11 #[.agg #[.bool s, .slice a l.length c], .agg #[.bool t, .slice b k.length d]] w (AnsE (Qv s l t k) w) := by
  exact new_w s t a b c d l k w ha hb _ (sgn_ne hy) _ _ _ _ (fun W h => zsign_any t b _ d k W rfl g2 (by omega) h) (fun W p q => red_q s t a b c d l k W (by omega) (by omega) g1 g2 p q)
theorem fri_q (x y : Int) (w : World) (x0 : -9223372036854775808 ≤ x) (x1 : x ≤ 9223372036854775807) (y0 : -9223372036854775808 ≤ y) (y1 : y ≤ 9223372036854775807) (hy : y ≠ 0) :
    Calls Try.prog 21 #[.int .i64 x, .int .i64 y] w (AnsE (Rat.divInt x y) w) := by
  refine fri_ok x y w _ _ _ _ _ _ _ _ (fun W => (zfrom_any x x0 x1 W).mono fun e w' h => h.ans) (fun W => (zfrom_any y y0 y1 W).mono fun e w' h => h.ans) (fun W v u n m p q r z => ?_)
  have e : Qv (decide (x < 0)) (canon x.natAbs) (decide (y < 0)) (canon y.natAbs) = Rat.divInt x y := by unfold Qv; rw [zv_can2, zv_can2]
  have l1 := int_len x x0 x1
  have l2 := int_len y y0 y1
  rw [← e]
  exact new_q _ _ v u n m _ _ W (by omega) (by omega) p q r z (by rw [zv_can2]; exact hy)
theorem cmp_q (s t s2 t2 : Bool) (a b a2 b2 : Option Addr) (c d c2 d2 : Nat) (l k l2 m2 : List (BitVec 32)) (w : World) (h1 : l.length ≤ 100000) (h2 : k.length ≤ 100000) (h3 : l2.length ≤ 100000) (h4 : m2.length ≤ 100000) (g1 : l.length ≤ c) (g2 : k.length ≤ d) (g3 : l2.length ≤ c2) (g4 : m2.length ≤ d2) (ha : Rw w a l) (hb : Rw w b k) (hu : Rw w a2 l2) (hv : Rw w b2 m2) :
    Calls Try.prog 34 #[.agg #[.bool s, .slice a l.length c, .bool t, .slice b k.length d], .agg #[.bool s2, .slice a2 l2.length c2, .bool t2, .slice b2 m2.length d2]] w fun e w' => e = .returned (.int .i64 (cmpR (Qv s l t k) (Qv s2 l2 t2 m2))) ∧ Below w.heap.size w w' := by
  have h := rtcmp_any s t s2 t2 a b a2 b2 c d c2 d2 l k l2 m2 w h1 h2 h3 h4 g1 g2 g3 g4 ha hb hu hv
  rw [cmp_rat] at h
  exact h
theorem isn_q (s t : Bool) (a b : Option Addr) (c d : Nat) (l k : List (BitVec 32)) (w : World) (h1 : l.length ≤ 300000) (h2 : k.length ≤ 300000) (g1 : l.length ≤ c) (g2 : k.length ≤ d) (ha : Rw w a l) (hb : Rw w b k) :
    Calls Try.prog 16 #[.agg #[.bool s, .slice a l.length c, .bool t, .slice b k.length d]] w fun e w' => e = .returned (.bool (rnB s t l k)) ∧ Below w.heap.size w w' := by
  exact isn_any s t a b _ c _ d l k w rfl rfl g1 g2 h1 h2 ha hb
def IsB2 (q : Rat) (C : Nat) : Prop := ∃ A B, IsBl q.num.natAbs A ∧ IsBl q.den B ∧ C = max A B
theorem isB2_uniq {q : Rat} {C D : Nat} (h : IsB2 q C) (k : IsB2 q D) : C = D := by
  obtain ⟨A, B, h1, h2, rfl⟩ := h
  obtain ⟨A', B', k1, k2, rfl⟩ := k
  rw [isBl_uniq h1 k1, isBl_uniq h2 k2]
theorem max_ways (A B : Nat) : (if B ≤ A then A else B) = max A B ∧ Max.max (A : Int) (B : Int) = ((max A B : Nat) : Int) ∧ (if (A : Int) < (B : Int) then (B : Int) else (A : Int)) = ((max A B : Nat) : Int) ∧ (if (B : Int) ≤ (A : Int) then (A : Int) else (B : Int)) = ((max A B : Nat) : Int) := by
  refine ⟨by split <;> omega, by omega, by split <;> omega, by split <;> omega⟩
theorem bl_ex (n : Nat) : ∃ b, IsBl n b := by
  by_cases h : n = 0
  · exact ⟨0, by subst h; refine ⟨by decide, fun _ => rfl, fun h => by omega⟩⟩
  · refine ⟨Nat.log2 n + 1, ⟨Nat.lt_log2_self, fun h2 => absurd h2 h, fun _ => ⟨by omega, ?_⟩⟩⟩
    rw [Nat.add_sub_cancel]
    exact Nat.log2_self_le h
theorem bl_q (s t : Bool) (a b : Option Addr) (c d : Nat) (l k : List (BitVec 32)) (w : World) (h1 : l.length ≤ 100000) (h2 : k.length ≤ 100000) (g1 : l.length ≤ c) (g2 : k.length ≤ d) (ha : Rw w a l) (hb : Rw w b k) :
    ∃ C, IsB2 (Qv s l t k) C ∧ Calls Try.prog 18 #[.agg #[.bool s, .slice a l.length c, .bool t, .slice b k.length d]] w fun e w' => e = .returned (.int .i64 (C : Int)) ∧ Below w.heap.size w w' := by
  obtain ⟨A, hA⟩ := bl_ex (Qv s l t k).num.natAbs
  obtain ⟨B, hB⟩ := bl_ex (Qv s l t k).den
  obtain ⟨m1, m2, m3, m4⟩ := max_ways A B
  obtain ⟨l1, l2⟩ := sz_len (sz_Qv (s := s) (t := t) (l := l) (k := k) (n := 100000) h1 h2 (by omega))
  refine ⟨max A B, ⟨A, B, hA, hB, rfl⟩, bl_w s t a b c d l k w ha hb _ _ _ _ A B _ m1 m2 m3 m4 (fun W p q => norm_q s t a b c d l k W (by omega) (by omega) g1 g2 p q) (fun W v n hn p => ?_) (fun W v n hn p => ?_)⟩
  · refine (zbl_any _ v _ n _ W rfl hn (by omega) p).mono fun e w' ⟨b1, e1, e2, e3⟩ => ⟨?_, e3⟩
    have e4 : IsBl (Qv s l t k).num.natAbs b1 := by have := e2; unfold qX at this; rwa [valD_canon] at this
    rw [e1, isBl_uniq e4 hA]
  · refine (zbl_any _ v _ n _ W rfl hn (by omega) p).mono fun e w' ⟨b1, e1, e2, e3⟩ => ⟨?_, e3⟩
    have e4 : IsBl (Qv s l t k).den b1 := by have := e2; unfold qY at this; rwa [valD_canon, Int.natAbs_natCast] at this
    rw [e1, isBl_uniq e4 hB]
end Go.Proofs.Ytcofiekfhnfjpaa
