
import Derived.Test.YtcofiekfhnfjpaaS0
import Derived.Test.YtcofiekfhnfjpaaS1b
import Derived.Test.YtcofiekfhnfjpaaS2
import Derived.Test.YtcofiekfhnfjpaaJC
import Derived.Test.YtcofiekfhnfjpaaUC
namespace Go.Proofs.Ytcofiekfhnfjpaa
open Go.RowKit
set_option linter.unusedVariables false
set_option linter.unusedSimpArgs false
attribute [local go_sem ↓] Go.wp_at_zero Go.wp_at_succ
attribute [local go_sem] rhoF_tmp rhoF_const rhoF_global rhoF_func
theorem FrZ.ans {w w' : World} {z : Int} {e : Ending} (h : FrZ w z e w') : AnsR (iV (decide (z < 0)) (canon z.natAbs)) (OwP [canon z.natAbs]) w e w' := by
  obtain ⟨a, c, rfl, ho, hb⟩ := h
  refine ⟨pk1 a c, rfl, ⟨fun i X hX => ?_, fun i j X Y p q hX hY hne _ _ => ?_⟩, hb⟩
  · match i, hX with
    | 0, hX => cases hX; exact ⟨ho, fun p hp => (own_blk ho p hp).2⟩
  · match i, j, hX, hY, hne with
    | 0, 0, _, _, hne => exact absurd rfl hne
theorem FrQ.ans {w w' : World} {z : Int} {e : Ending} (h : FrQ w z e w') : AnsR (iV (decide (z < 0)) (canon z.natAbs)) (RwnP [canon z.natAbs]) w e w' := by
  obtain ⟨a, c, rfl, ho, hb⟩ := h
  refine ⟨pk1 a c, rfl, fun i X hX => ?_, hb⟩
  match i, hX with
  | 0, hX => cases hX; exact ho.1
theorem FrF.ans {w w' : World} {x y : Int} {e : Ending} (h : FrF w x y e w') : AnsR (qV (decide (x < 0)) (canon x.natAbs) (decide (y < 0)) (canon y.natAbs)) (OwP [canon x.natAbs, canon y.natAbs]) w e w' := by
  obtain ⟨a, c, b, d, rfl, h1, h2, h3, hb⟩ := h
  refine ⟨pk2 a c b d, rfl, ⟨fun i X hX => ?_, fun i j X Y p q hX hY hne hp hq => ?_⟩, hb⟩
  · match i, hX with
    | 0, hX => cases hX; exact ⟨h1, fun p hp => (own_blk h1 p hp).2⟩
    | 1, hX => cases hX; exact ⟨h2, fun p hp => (own_blk h2 p hp).2⟩
  · match i, j, hX, hY, hne with
    | 0, 0, _, _, hne => exact absurd rfl hne
    | 0, 1, _, _, _ => exact h3 p q hp hq
    | 1, 0, _, _, _ => exact (h3 q p hq hp).symm
    | 1, 1, _, _, hne => exact absurd rfl hne
theorem FrG.ans {w w' : World} {x y : Int} {e : Ending} (h : FrG w x y e w') : AnsR (qV (decide (x < 0)) (canon x.natAbs) (decide (y < 0)) (canon y.natAbs)) (RwnP [canon x.natAbs, canon y.natAbs]) w e w' := by
  obtain ⟨a, c, b, d, rfl, h1, h2, hb⟩ := h
  refine ⟨pk2 a c b d, rfl, fun i X hX => ?_, hb⟩
  match i, hX with
  | 0, hX => cases hX; exact h1.1
  | 1, hX => cases hX; exact h2.1
/-- The answer of a function with a result variable in a block g of its own: written there cell by cell behind its last call. -/
theorem OwP.st {Xs : List (List (BitVec 32))} {γ : Pick} {lo hi : Nat} {W : World} (h : OwP Xs γ lo hi W) {b o : Nat} {v : Value} (hb : b < lo) : OwP Xs γ lo hi (W.setCell ⟨b, o, none⟩ v) :=
  ⟨fun i X hX => ⟨own_set_other (h.1 i X hX).1 hb o v, (h.1 i X hX).2⟩, h.2⟩
theorem OwP.mono {Xs : List (List (BitVec 32))} {γ : Pick} {lo hi lo' hi' : Nat} {W : World} (h : OwP Xs γ lo hi W) (h1 : lo' ≤ lo) (h2 : hi ≤ hi') : OwP Xs γ lo' hi' W :=
  ⟨fun i X hX => ⟨own_mono (h.1 i X hX).1 h1, fun p hp => Nat.lt_of_lt_of_le ((h.1 i X hX).2 p hp) h2⟩, h.2⟩
theorem OwP.al {Xs : List (List (BitVec 32))} {γ : Pick} {lo hi : Nat} {W : World} (h : OwP Xs γ lo hi W) (o : Obj) : OwP Xs γ lo hi (W.alloc o) :=
  ⟨fun i X hX => ⟨own_below (h.1 i X hX).1 (Below.alloc (Below.refl _ _) (Nat.le_refl _) o), (h.1 i X hX).2⟩, h.2⟩
theorem OwP.dr {Xs : List (List (BitVec 32))} {γ : Pick} {lo hi : Nat} {W : World} (h : OwP Xs γ lo hi W) : OwP Xs γ lo hi W.drew :=
  ⟨fun i X hX => ⟨own_below (h.1 i X hX).1 (Below.refl _ _).drew, (h.1 i X hX).2⟩, h.2⟩
theorem OwP.stH {Xs : List (List (BitVec 32))} {γ : Pick} {lo hi : Nat} {W : World} (h : OwP Xs γ lo hi W) {b o : Nat} {v : Value} (hb : hi ≤ b) : OwP Xs γ lo hi (W.setCell ⟨b, o, none⟩ v) :=
  ⟨fun i X hX => ⟨(h.1 i X hX).1.kept (grownBy_set W b o v) (by
    cases ha : (γ i).1 with
    | none => exact .inl rfl
    | some p =>
      refine .inr fun e => ?_
      have := (h.1 i X hX).2 p ha
      have e2 : p.block = b := Option.some.inj e
      omega), (h.1 i X hX).2⟩, h.2⟩
theorem ans_fin {Xs : List (List (BitVec 32))} {γ : Pick} {lo hi : Nat} {w w1 W : World} {e : Ending} {v : Pick → Value} (f : OwP Xs γ lo hi w1) (h : OwP Xs γ lo hi w1 → OwP Xs γ lo hi W) (h1 : w.heap.size ≤ lo) (h2 : hi ≤ W.heap.size) (hb : Below w.heap.size w W) (he : e = .returned (v γ)) :
    AnsR v (OwP Xs) w e W := ⟨γ, he, (h f).mono h1 h2, hb⟩
end Go.Proofs.Ytcofiekfhnfjpaa
