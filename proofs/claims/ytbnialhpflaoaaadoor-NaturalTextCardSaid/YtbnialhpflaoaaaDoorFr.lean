import Derived.Test.YtbnialhpflaoaaaDoorWrd
import Derived.Deep.RegionHeld3
namespace Go.Proofs.YtbnialhpflaoaaaDoor
open Go.RowKit
set_option linter.unusedVariables false
set_option linter.unusedSimpArgs false
/-- A row of digits that lies above all that was there. -/
def RwF (B : Nat) (w : World) (a : Option Addr) (l : List (BitVec 32)) : Prop := Rw w a l ∧ ∀ ad, a = some ad → l ≠ [] → B ≤ ad.block
theorem RwF.of_own {w : World} {base : Nat} {e : TypeId} {a : Option Addr} {n c : Nat} {l : List (BitVec 32)} (h : w.ownsRow base e 1 (.slice a n c) n (bv32 l)) : RwF base w a l := by
  refine ⟨Rw.of_own h, fun ad e hne => ?_⟩
  have hl := h.1
  rw [bv32_len] at hl
  obtain ⟨g, e2, hg⟩ := own_form h (by have := List.length_pos_iff.2 hne; omega)
  rw [e] at e2
  cases e2
  exact hg
theorem RwF.mono {B B' : Nat} {w : World} {a : Option Addr} {l : List (BitVec 32)} (h : RwF B w a l) (hb : B' ≤ B) : RwF B' w a l := ⟨h.1, fun ad e hne => Nat.le_trans hb (h.2 ad e hne)⟩
theorem RwF.below {B : Nat} {w w' : World} {a : Option Addr} {l : List (BitVec 32)} (h : RwF B w a l) (hb : Below w.heap.size w w') : RwF B w' a l := ⟨h.1.below hb, h.2⟩
theorem RwF.set {B b : Nat} {w : World} {a : Option Addr} {l : List (BitVec 32)} (h : RwF B w a l) (hb : b < B) (o : Nat) (v : Value) : RwF B (w.setCell ⟨b, o, none⟩ v) a l := by
  refine ⟨fun k hk => ?_, h.2⟩
  obtain ⟨ad, e, hc⟩ := h.1 k hk
  have := h.2 ad e (by rintro rfl; simp at hk)
  refine ⟨ad, e, ?_⟩
  rw [World.cell?_setCell_far _ _ _ _ (by rw [block_add]; show b ≠ _; omega)]
  exact hc
/-- A row of digits that the call has made, or a part of one, is returned; its capacity is known to reach. -/
def FrR (w : World) (l : List (BitVec 32)) (e : Ending) (w' : World) : Prop := ∃ a c, e = .returned (.slice a l.length c) ∧ l.length ≤ c ∧ RwF w.heap.size w' a l ∧ Below w.heap.size w w'
theorem FrR.of_own {w w' : World} {l : List (BitVec 32)} {e : Ending} (h : FrW w l e w') : FrR w l e w' := by
  obtain ⟨a, c, h1, h2, h3⟩ := h
  exact ⟨a, c, h1, own_cap h2, RwF.of_own h2, h3⟩
theorem FrR.up {w w1 w' : World} {l : List (BitVec 32)} {e : Ending} (h : FrR w1 l e w') (hb : Below w.heap.size w w1) : FrR w l e w' := by
  obtain ⟨a, c, h1, h2, h3, h4⟩ := h
  exact ⟨a, c, h1, h2, h3.mono hb.size, hb.trans (h4.mono hb.size)⟩
theorem RwF.take {B : Nat} {w : World} {a : Option Addr} {l : List (BitVec 32)} (h : RwF B w a l) (n : Nat) : RwF B w a (l.take n) := ⟨h.1.take n, fun ad e hne => h.2 ad e (by rintro rfl; simp at hne)⟩
end Go.Proofs.YtbnialhpflaoaaaDoor
