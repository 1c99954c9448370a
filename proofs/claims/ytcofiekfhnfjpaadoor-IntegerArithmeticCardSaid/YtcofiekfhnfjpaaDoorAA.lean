
import Derived.Test.YtcofiekfhnfjpaaDoorDA
namespace Go.Proofs.YtcofiekfhnfjpaaDoor
open Go.RowKit
set_option linter.unusedVariables false
set_option linter.unusedSimpArgs false
attribute [local go_sem ↓] Go.wp_at_zero Go.wp_at_succ
attribute [local go_sem] rhoF_tmp rhoF_const rhoF_global rhoF_func
attribute [local go_sem] iV
/-- Rows that were made, which begin a block of their own. -/
def KwP (Xs : List (List (BitVec 32))) (γ : Pick) (lo hi : Nat) (W : World) : Prop := RwsP Xs γ lo hi W ∧ ∀ i X, Xs[i]? = some X → ∃ g, (γ i).1 = some ⟨g, 0, none⟩
theorem kwP_fit (Xs : List (List (BitVec 32))) (v : Pick → Value) : (Sg.made v (KwP Xs)).fit := fun γ lo hi w w' hh h hb => ⟨fun i X hX => ⟨(h.1 i X hX).1, (h.1 i X hX).2.below hb⟩, h.2⟩
/-- Rows that were made by a call. -/
def RwfP (Xs : List (List (BitVec 32))) (γ : Pick) (lo hi : Nat) (W : World) : Prop := ∀ i X, Xs[i]? = some X → RwF lo W (γ i).1 X
theorem rwfP_fit (Xs : List (List (BitVec 32))) (v : Pick → Value) : (Sg.made v (RwfP Xs)).fit := fun γ lo hi w w' hh h hb i X hX => (h i X hX).below hb
def AnsO (z : Int) (W : World) : Ending → World → Prop := AnsR (iV (decide (z < 0)) (canon z.natAbs)) (OwP [canon z.natAbs]) W
def AnsF (z : Int) (W : World) : Ending → World → Prop := AnsR (iV (decide (z < 0)) (canon z.natAbs)) (RwfP [canon z.natAbs]) W
theorem FrQ.rwf {w w' : World} {z : Int} {e : Ending} (h : FrQ w z e w') : AnsF z w e w' := by
  obtain ⟨a, c, rfl, ho, hb⟩ := h
  refine ⟨pkk a c a c, rfl, fun i X hX => ?_, hb⟩
  match i, hX with
  | 0, hX => cases hX; exact ho
theorem anc_below {a W W' : World} (h : Below a.heap.size a W) (hb : Below W.heap.size W W') : Below a.heap.size a W' := bel_step h hb
theorem oadd_h {s t : Bool} {l k : List (BitVec 32)} {x y z : Int} (e1 : zv s (valD l) = x) (e2 : zv t (valD k) = y) (e3 : x + y = z) (l1 : l.length ≤ 400000) (l2 : k.length ≤ 400000) : ∀ W W0 (v0 v1 : Option Addr) (n0 n1 : Nat), Below W0.heap.size W0 W → l.length ≤ n0 → k.length ≤ n1 → Rw W0 v0 l → Rw W0 v1 k → Calls Tryd.prog 11 #[.agg #[.bool s, .slice v0 l.length n0], .agg #[.bool t, .slice v1 k.length n1]] W (AnsO z W) := fun W W0 v0 v1 n0 n1 E c0 c1 r0 r1 => by
  have h := zadd_any s t v0 v1 _ n0 _ n1 l k W rfl rfl c0 c1 l1 l2 (r0.below E) (r1.below E)
  rw [e1, e2, e3] at h
  exact h.mono fun _ _ h => h.ans
theorem osub_h {s t : Bool} {l k : List (BitVec 32)} {x y z : Int} (e1 : zv s (valD l) = x) (e2 : zv t (valD k) = y) (e3 : x - y = z) (l1 : l.length ≤ 400000) (l2 : k.length ≤ 400000) : ∀ W W0 (v0 v1 : Option Addr) (n0 n1 : Nat), Below W0.heap.size W0 W → l.length ≤ n0 → k.length ≤ n1 → Rw W0 v0 l → Rw W0 v1 k → Calls Tryd.prog 12 #[.agg #[.bool s, .slice v0 l.length n0], .agg #[.bool t, .slice v1 k.length n1]] W (AnsO z W) := fun W W0 v0 v1 n0 n1 E c0 c1 r0 r1 => by
  have h := zsub_any s t v0 v1 _ n0 _ n1 l k W rfl rfl c0 c1 l1 l2 (r0.below E) (r1.below E)
  rw [e1, e2, e3] at h
  exact h.mono fun _ _ h => h.ans
theorem omul_h {s t : Bool} {l k : List (BitVec 32)} {x y z : Int} (e1 : zv s (valD l) = x) (e2 : zv t (valD k) = y) (e3 : x * y = z) (l1 : l.length ≤ 400000) (l2 : k.length ≤ 400000) : ∀ W W0 (v0 v1 : Option Addr) (n0 n1 : Nat), Below W0.heap.size W0 W → l.length ≤ n0 → k.length ≤ n1 → Rw W0 v0 l → Rw W0 v1 k → Calls Tryd.prog 13 #[.agg #[.bool s, .slice v0 l.length n0], .agg #[.bool t, .slice v1 k.length n1]] W (AnsO z W) := fun W W0 v0 v1 n0 n1 E c0 c1 r0 r1 => by
  have h := zmul_any s t v0 v1 _ n0 _ n1 l k W rfl rfl c0 c1 l1 l2 (r0.below E) (r1.below E)
  rw [e1, e2, e3] at h
  exact h.mono fun _ _ h => h.ans
theorem oneg_h {s : Bool} {l : List (BitVec 32)} {x z : Int} (e1 : zv s (valD l) = x) (e3 : -x = z) (l1 : l.length ≤ 400000) : ∀ W W0 (v0 : Option Addr) (n0 : Nat), Below W0.heap.size W0 W → l.length ≤ n0 → Rw W0 v0 l → Calls Tryd.prog 10 #[.agg #[.bool s, .slice v0 l.length n0]] W (AnsO z W) := fun W W0 v0 n0 E c0 r0 => by
  have h := zneg_any s v0 _ n0 l W rfl c0 (Nat.le_trans l1 (by decide)) (r0.below E)
  rw [e1, e3] at h
  exact h.mono fun _ _ h => h.ans
theorem qadd_h {s t : Bool} {l k : List (BitVec 32)} {x y z : Int} (e1 : zv s (valD l) = x) (e2 : zv t (valD k) = y) (e3 : x + y = z) (l1 : l.length ≤ 400000) (l2 : k.length ≤ 400000) : ∀ W W0 (v0 v1 : Option Addr) (n0 n1 : Nat), Below W0.heap.size W0 W → Rw W0 v0 l → Rw W0 v1 k → Calls Tryd.prog 15 #[.agg #[.bool s, .slice v0 l.length n0], .agg #[.bool t, .slice v1 k.length n1]] W (AnsF z W) := fun W W0 v0 v1 n0 n1 E r0 r1 => by
  have h := qadd_any s t v0 v1 _ n0 _ n1 l k W rfl rfl l1 l2 (r0.below E) (r1.below E)
  rw [e1, e2, e3] at h
  exact h.mono fun _ _ h => h.rwf
theorem qsub_h {s t : Bool} {l k : List (BitVec 32)} {x y z : Int} (e1 : zv s (valD l) = x) (e2 : zv t (valD k) = y) (e3 : x - y = z) (l1 : l.length ≤ 400000) (l2 : k.length ≤ 400000) : ∀ W W0 (v0 v1 : Option Addr) (n0 n1 : Nat), Below W0.heap.size W0 W → Rw W0 v0 l → Rw W0 v1 k → Calls Tryd.prog 16 #[.agg #[.bool s, .slice v0 l.length n0], .agg #[.bool t, .slice v1 k.length n1]] W (AnsF z W) := fun W W0 v0 v1 n0 n1 E r0 r1 => by
  have h := qsub_any s t v0 v1 _ n0 _ n1 l k W rfl rfl l1 l2 (r0.below E) (r1.below E)
  rw [e1, e2, e3] at h
  exact h.mono fun _ _ h => h.rwf
theorem qmul_h {s t : Bool} {l k : List (BitVec 32)} {x y z : Int} (e1 : zv s (valD l) = x) (e2 : zv t (valD k) = y) (e3 : x * y = z) (l1 : l.length ≤ 400000) (l2 : k.length ≤ 400000) : ∀ W W0 (v0 v1 : Option Addr) (n0 n1 : Nat), Below W0.heap.size W0 W → Rw W0 v0 l → Rw W0 v1 k → Calls Tryd.prog 17 #[.agg #[.bool s, .slice v0 l.length n0], .agg #[.bool t, .slice v1 k.length n1]] W (AnsF z W) := fun W W0 v0 v1 n0 n1 E r0 r1 => by
  have h := qmul_any s t v0 v1 _ n0 _ n1 l k W rfl rfl l1 l2 (r0.below E) (r1.below E)
  rw [e1, e2, e3] at h
  exact h.mono fun _ _ h => h.rwf
theorem qcmp_h {s t : Bool} {l k : List (BitVec 32)} {x y z : Int} (e1 : zv s (valD l) = x) (e2 : zv t (valD k) = y) (e3 : (x - y).sign = z) (l1 : l.length ≤ 400000) (l2 : k.length ≤ 400000) : ∀ W W0 (v0 v1 : Option Addr) (n0 n1 : Nat), Below W0.heap.size W0 W → Rw W0 v0 l → Rw W0 v1 k → Calls Tryd.prog 9 #[.agg #[.bool s, .slice v0 l.length n0], .agg #[.bool t, .slice v1 k.length n1]] W fun e w' => e = .returned (.int .i64 z) ∧ Below W.heap.size W w' := fun W W0 v0 v1 n0 n1 E r0 r1 => by
  have h := qcmp_any s t v0 v1 _ n0 _ n1 l k W rfl rfl l1 l2 (r0.below E) (r1.below E)
  rw [e1, e2, e3] at h
  exact h
theorem qneg_h {s : Bool} {l : List (BitVec 32)} {x z : Int} (e1 : zv s (valD l) = x) (e3 : -x = z) (l1 : l.length ≤ 400000) : ∀ W W0 (v0 : Option Addr) (n0 : Nat), Below W0.heap.size W0 W → Rw W0 v0 l → Calls Tryd.prog 14 #[.agg #[.bool s, .slice v0 l.length n0]] W (AnsF z W) := fun W W0 v0 n0 E r0 => by
  have h := qneg_any s v0 _ n0 l W rfl (Nat.le_trans l1 (by decide)) (r0.below E)
  rw [e1, e3] at h
  exact h.mono fun _ _ h => h.rwf
/-- own: a copy with a sentinel behind it. -/
theorem own_h (s : Bool) (l : List (BitVec 32)) (l1 : l.length ≤ 400000) : ∀ W W0 (v0 : Option Addr) (n0 : Nat), Below W0.heap.size W0 W → Rw W0 v0 l → Calls Tryd.prog 7 #[.agg #[.bool s, .slice v0 l.length n0]] W (AnsR (fun γ => .agg #[.bool s, .slice (γ 0).1 l.length (γ 0).2]) (KwP [l ++ [77#32]]) W) := fun W W0 v0 n0 E r0 =>
  (own_any s v0 _ n0 l W rfl (Nat.le_trans l1 (by decide)) (r0.below E)).mono fun e w' h => by
    obtain ⟨g, c', rfl, h1, h2, hb⟩ := h
    refine ⟨pkk (some ⟨g, 0, none⟩) c' none 0, rfl, ⟨fun i X hX => ?_, fun i X hX => ?_⟩, hb⟩
    · match i, hX with
      | 0, hX => cases hX; exact ⟨by show _ ≤ c'; simpa using h1, h2⟩
    · match i, hX with
      | 0, hX => exact ⟨g, rfl⟩
theorem kept_q (s : Bool) {l : List (BitVec 32)} {v0 v1 : Option Addr} {n0 n1 g : Nat} {W : World} (l1 : l.length ≤ 400000) (e : v0 = some ⟨g, 0, none⟩) (hc : (l ++ [77#32]).length ≤ n0) (r0 : Rw W v0 (l ++ [77#32])) (r1 : Rw W v1 l) :
    Calls Tryd.prog 19 #[.agg #[.bool s, .slice v0 l.length n0], .agg #[.bool s, .slice v1 l.length n1]] W fun e w' => e = .returned (.bool true) ∧ Below W.heap.size W w' := by
  subst e
  exact kept_any s g v1 _ n0 n1 l W rfl (Nat.le_trans l1 (by decide)) (by simpa using hc) r0 r1
/- four integers one behind the other -/
def pick4 {α : Type} (a b c d : α) : Nat → α
  | 0 => a
  | 1 => b
  | 2 => c
  | _ => d
theorem four {i : Nat} (h : i < 4) : i = 0 ∨ i = 1 ∨ i = 2 ∨ i = 3 := by omega
def Ga (W : World) (g : Nat) (gs : Nat → Bool) (ga : Nat → Option Addr) (gc : Nat → Nat) (gZ : Nat → List (BitVec 32)) : Prop := ∀ i, i < 4 → W.cell? ⟨g, i * 2, none⟩ = some (.bool (gs i)) ∧ W.cell? ⟨g, i * 2 + 1, none⟩ = some (.slice (ga i) (gZ i).length (gc i))
theorem Ga.below {W W' : World} {g : Nat} {gs : Nat → Bool} {ga : Nat → Option Addr} {gc : Nat → Nat} {gZ : Nat → List (BitVec 32)} (h : Ga W g gs ga gc gZ) (hb : Below W.heap.size W W') : Ga W' g gs ga gc gZ := fun i hi => ⟨bcs hb (h i hi).1, bcs hb (h i hi).2⟩
theorem Ga.kept {W W' : World} {g b : Nat} {gs : Nat → Bool} {ga : Nat → Option Addr} {gc : Nat → Nat} {gZ : Nat → List (BitVec 32)} (h : Ga W g gs ga gc gZ) (hg : W.grownBy W' (some b)) (hne : g ≠ b) : Ga W' g gs ga gc gZ := fun i hi =>
  ⟨hg.cell (h i hi).1 (by intro e; exact hne (Option.some.inj e)), hg.cell (h i hi).2 (by intro e; exact hne (Option.some.inj e))⟩
theorem ga_of {W : World} {g : Nat} {s0 s1 s2 s3 : Bool} {a0 a1 a2 a3 : Option Addr} {c0 c1 c2 c3 : Nat} {Z0 Z1 Z2 Z3 : List (BitVec 32)} (h : Bx W g [.bool s0, .slice a0 Z0.length c0, .bool s1, .slice a1 Z1.length c1, .bool s2, .slice a2 Z2.length c2, .bool s3, .slice a3 Z3.length c3]) :
    Ga W g (pick4 s0 s1 s2 s3) (pick4 a0 a1 a2 a3) (pick4 c0 c1 c2 c3) (pick4 Z0 Z1 Z2 Z3) := fun i hi => by
  rcases four hi with rfl | rfl | rfl | rfl
  · exact ⟨(h.c 0 rfl).1, (h.c 1 rfl).1⟩
  · exact ⟨(h.c 2 rfl).1, (h.c 3 rfl).1⟩
  · exact ⟨(h.c 4 rfl).1, (h.c 5 rfl).1⟩
  · exact ⟨(h.c 6 rfl).1, (h.c 7 rfl).1⟩
def Own4 (W : World) (B p : Nat) (ga : Nat → Option Addr) (gc : Nat → Nat) (gZ : Nat → List (BitVec 32)) : Prop := ∀ i, p ≤ i → i < 4 → W.ownsRow B 32 1 (.slice (ga i) (gZ i).length (gc i)) (gZ i).length (bv32 (gZ i))
def Apt (ga : Nat → Option Addr) : Prop := ∀ i j p q, i < 4 → j < 4 → i ≠ j → ga i = some p → ga j = some q → p.block ≠ q.block
theorem row_kept {W W' : World} {x : Option Addr} {X : List (BitVec 32)} {b : Nat} (h : Rw W x X) (hg : W.grownBy W' (some b)) (hne : X ≠ [] → ∀ p, x = some p → p.block ≠ b) : Rw W' x X := fun k hk => by
  obtain ⟨ad, e, hd⟩ := h k hk
  refine ⟨ad, e, ?_⟩
  exact hg.cell hd (by rw [block_add]; intro e2; exact hne (by rintro rfl; simp at hk) ad e (Option.some.inj (show some ad.block = some b from e2)))
theorem ownr_kept {W W' : World} {B b n : Nat} {x : Option Addr} {c : Nat} {xs : List Value} (h : W.ownsRow B 32 1 (.slice x n c) n xs) (hg : W.grownBy W' (some b)) (hne : ∀ p, x = some p → p.block ≠ b) : W'.ownsRow B 32 1 (.slice x n c) n xs := h.kept hg (by
  cases x with
  | none => exact .inl rfl
  | some p => exact .inr (by intro e; exact hne p rfl (Option.some.inj e)))
theorem apt_of {a0 a1 a2 a3 : Option Addr} {l0 l1 l2 l3 h0 h1 h2 h3 : Nat} (b0 : ∀ p, a0 = some p → l0 ≤ p.block ∧ p.block < h0) (b1 : ∀ p, a1 = some p → l1 ≤ p.block ∧ p.block < h1) (b2 : ∀ p, a2 = some p → l2 ≤ p.block ∧ p.block < h2) (b3 : ∀ p, a3 = some p → l3 ≤ p.block ∧ p.block < h3)
    (d1 : h0 ≤ l1 ∨ h1 ≤ l0) (d2 : h0 ≤ l2 ∨ h2 ≤ l0) (d3 : h0 ≤ l3 ∨ h3 ≤ l0) (d4 : h1 ≤ l2 ∨ h2 ≤ l1) (d5 : h1 ≤ l3 ∨ h3 ≤ l1) (d6 : h2 ≤ l3 ∨ h3 ≤ l2) : Apt (pick4 a0 a1 a2 a3) := by
  intro i j p q hi hj hne hp hq
  rcases four hi with rfl | rfl | rfl | rfl <;> rcases four hj with rfl | rfl | rfl | rfl <;> simp only [pick4] at hp hq <;> first
    | exact absurd rfl hne
    | (have x := b0 p hp; have y := b1 q hq; omega)
    | (have x := b0 p hp; have y := b2 q hq; omega)
    | (have x := b0 p hp; have y := b3 q hq; omega)
    | (have x := b1 p hp; have y := b0 q hq; omega)
    | (have x := b1 p hp; have y := b2 q hq; omega)
    | (have x := b1 p hp; have y := b3 q hq; omega)
    | (have x := b2 p hp; have y := b0 q hq; omega)
    | (have x := b2 p hp; have y := b1 q hq; omega)
    | (have x := b2 p hp; have y := b3 q hq; omega)
    | (have x := b3 p hp; have y := b0 q hq; omega)
    | (have x := b3 p hp; have y := b1 q hq; omega)
    | (have x := b3 p hp; have y := b2 q hq; omega)
theorem in4 {a0 a1 a2 a3 : Option Addr} {l0 l1 l2 l3 h0 h1 h2 h3 B T : Nat} (b0 : ∀ p, a0 = some p → l0 ≤ p.block ∧ p.block < h0) (b1 : ∀ p, a1 = some p → l1 ≤ p.block ∧ p.block < h1) (b2 : ∀ p, a2 = some p → l2 ≤ p.block ∧ p.block < h2) (b3 : ∀ p, a3 = some p → l3 ≤ p.block ∧ p.block < h3)
    (c0 : B ≤ l0) (c1 : B ≤ l1) (c2 : B ≤ l2) (c3 : B ≤ l3) (d0 : h0 ≤ T) (d1 : h1 ≤ T) (d2 : h2 ≤ T) (d3 : h3 ≤ T) : ∀ i p, i < 4 → pick4 a0 a1 a2 a3 i = some p → B ≤ p.block ∧ p.block < T := by
  intro i p hi hp
  rcases four hi with rfl | rfl | rfl | rfl <;> simp only [pick4] at hp
  · have := b0 p hp; omega
  · have := b1 p hp; omega
  · have := b2 p hp; omega
  · have := b3 p hp; omega
theorem want4 {W : World} {a0 a1 a2 a3 : Option Addr} {Z0 Z1 Z2 Z3 : List (BitVec 32)} {B : Nat} (h0 : RwF B W a0 Z0) (h1 : RwF B W a1 Z1) (h2 : RwF B W a2 Z2) (h3 : RwF B W a3 Z3) : ∀ i p, i < 4 → pick4 a0 a1 a2 a3 i = some p → pick4 Z0 Z1 Z2 Z3 i ≠ [] → B ≤ p.block := by
  intro i p hi hp hz
  rcases four hi with rfl | rfl | rfl | rfl <;> simp only [pick4] at hp hz
  · exact h0.2 p hp hz
  · exact h1.2 p hp hz
  · exact h2.2 p hp hz
  · exact h3.2 p hp hz
theorem rows4 {W : World} {a0 a1 a2 a3 : Option Addr} {Z0 Z1 Z2 Z3 : List (BitVec 32)} (h0 : Rw W a0 Z0) (h1 : Rw W a1 Z1) (h2 : Rw W a2 Z2) (h3 : Rw W a3 Z3) : ∀ i, i < 4 → Rw W (pick4 a0 a1 a2 a3 i) (pick4 Z0 Z1 Z2 Z3 i) := by
  intro i hi
  rcases four hi with rfl | rfl | rfl | rfl
  · exact h0
  · exact h1
  · exact h2
  · exact h3
theorem own4_of {W : World} {B : Nat} {a0 a1 a2 a3 : Option Addr} {c0 c1 c2 c3 : Nat} {Z0 Z1 Z2 Z3 : List (BitVec 32)} (h0 : W.ownsRow B 32 1 (.slice a0 Z0.length c0) Z0.length (bv32 Z0)) (h1 : W.ownsRow B 32 1 (.slice a1 Z1.length c1) Z1.length (bv32 Z1)) (h2 : W.ownsRow B 32 1 (.slice a2 Z2.length c2) Z2.length (bv32 Z2)) (h3 : W.ownsRow B 32 1 (.slice a3 Z3.length c3) Z3.length (bv32 Z3)) :
    Own4 W B 0 (pick4 a0 a1 a2 a3) (pick4 c0 c1 c2 c3) (pick4 Z0 Z1 Z2 Z3) := by
  intro i _ hi
  rcases four hi with rfl | rfl | rfl | rfl
  · exact h0
  · exact h1
  · exact h2
  · exact h3
theorem len4 {Z0 Z1 Z2 Z3 : List (BitVec 32)} {n : Nat} (h0 : Z0.length ≤ n) (h1 : Z1.length ≤ n) (h2 : Z2.length ≤ n) (h3 : Z3.length ≤ n) : ∀ i, i < 4 → (pick4 Z0 Z1 Z2 Z3 i).length ≤ n := by
  intro i hi
  rcases four hi with rfl | rfl | rfl | rfl
  · exact h0
  · exact h1
  · exact h2
  · exact h3
end Go.Proofs.YtcofiekfhnfjpaaDoor
