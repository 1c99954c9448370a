import Derived.Test.YtfbgfnebodabpaaSt
namespace Go.Proofs.Ytfbgfnebodabpaa
open Go.RowKit
set_option linter.unusedVariables false
set_option linter.unusedSimpArgs false
namespace B
theorem bel_step {a W W' : World} (h : Below a.heap.size a W) (hb : Below W.heap.size W W') : Below a.heap.size a W' := h.trans (hb.mono h.size)
theorem lt {w : World} {g i : Nat} {v : Value} (h : w.cell? ⟨g, i, none⟩ = some v) : g < w.heap.size := World.block_lt_of_cell? w _ h
theorem cs {w w' : World} {a : Addr} {v : Value} (hb : Below w.heap.size w w') (h : w.cell? a = some v) : w'.cell? a = some v := (hb.cell (World.block_lt_of_cell? w _ h)).trans h
theorem fs {w w' : World} {a : Addr} {v : Value} {b : Bool} (hb : Below w.heap.size w w') (h : w.cell? a = some v) (hf : w.frozen? a = b) : w'.frozen? a = b := (hb.frozen (World.block_lt_of_cell? w _ h)).trans hf
/-- A variable's block: its cells, none of them frozen. -/
def Bx (w : World) (g : Nat) (vs : List Value) : Prop := (∀ i v, vs[i]? = some v → w.cell? ⟨g, i, none⟩ = some v ∧ w.frozen? ⟨g, i, none⟩ = false) ∧ g < w.heap.size
theorem Bx.below {w w' : World} {g : Nat} {vs : List Value} (h : Bx w g vs) (hb : Below w.heap.size w w') : Bx w' g vs :=
  ⟨fun i v hv => ⟨cs hb (h.1 i v hv).1, fs hb (h.1 i v hv).1 (h.1 i v hv).2⟩, Nat.lt_of_lt_of_le h.2 hb.size⟩
theorem Bx.c {w : World} {g : Nat} {vs : List Value} (h : Bx w g vs) (i : Nat) {v : Value} (hv : vs[i]? = some v) : w.cell? ⟨g, i, none⟩ = some v ∧ w.frozen? ⟨g, i, none⟩ = false := h.1 i v hv
theorem Bx.n {w : World} {g : Nat} {vs : List Value} (h : Bx w g vs) : ¬ g = w.heap.size ∧ ¬ w.heap.size = g ∧ g < w.heap.size := by
  have := h.2
  omega
theorem Bx.row {w : World} {g : Nat} {vs : List Value} {T : TypeId} (h : w.heap[g]? = some (.cells vs.toArray T)) : Bx w g vs := by
  refine ⟨fun i v hv => ⟨?_, ?_⟩, (Array.getElem?_eq_some_iff.1 h).1⟩
  · rw [cell_of_row w g i _ T (0, 0) h]; simpa using hv
  · exact frozen_of_row w g i _ T h
theorem Bx.new (w : World) (vs : List Value) (T : TypeId) : Bx (w.alloc (.cells vs.toArray T)) w.heap.size vs := Bx.row (heap_alloc_new w _)
theorem Bx.newAt (w : World) (vs : List Value) (T : TypeId) {g : Nat} (h : g = w.heap.size) : Bx (w.alloc (.cells vs.toArray T)) g vs := h ▸ Bx.new w vs T
theorem Bx.dr {w : World} {g : Nat} {vs : List Value} (h : Bx w g vs) : Bx w.drew g vs := h.below (Below.refl _ _).drew
theorem Bx.drN {w : World} {g : Nat} {vs : List Value} (h : Bx w g vs) (n : Nat) : Bx (w.drewN n) g vs := h.below (below_drewN (Below.refl _ _) n)
theorem Bx.al {w : World} {g : Nat} {vs : List Value} (h : Bx w g vs) (o : Obj) : Bx (w.alloc o) g vs := h.below (Below.alloc (Below.refl _ _) (Nat.le_refl _) o)
theorem Bx.grown {w w' : World} {g : Nat} {vs : List Value} {r : Option Nat} (h : Bx w g vs) (hg : w.grownBy w' r) (hne : r ≠ some g) : Bx w' g vs := by
  have e := hg.block g h.2 (fun e => hne e.symm)
  exact ⟨fun i v hv => ⟨(World.cell?_of_block (a := ⟨g, i, none⟩) e).trans (h.1 i v hv).1, (World.frozen?_of_block (a := ⟨g, i, none⟩) e).trans (h.1 i v hv).2⟩, Nat.lt_of_lt_of_le h.2 hg.size⟩
theorem set_grown (w : World) (b o : Nat) (v : Value) : w.grownBy (w.setCell ⟨b, o, none⟩ v) (some b) := ⟨rfl, rfl, rfl, by simp, fun k _ hk => heap_setCell_other w ⟨b, o, none⟩ k v (fun e => hk (by simp [e]))⟩
theorem Bx.st {w : World} {g : Nat} {vs : List Value} (h : Bx w g vs) {b o : Nat} {v : Value} (hne : ¬ b = g) : Bx (w.setCell ⟨b, o, none⟩ v) g vs := h.grown (set_grown w b o v) (fun e => hne (Option.some.inj e))
theorem belA {w W : World} (h : Below w.heap.size w W) (o : Obj) : Below w.heap.size w (W.alloc o) := h.alloc h.size o
theorem belS {w W : World} (h : Below w.heap.size w W) {b o : Nat} {v : Value} (hb : w.heap.size ≤ b) : Below w.heap.size w (W.setCell ⟨b, o, none⟩ v) := h.setCell hb v
theorem rs_al {α : Type} {k : Nat} {f : α → List Value} {w : World} {a : Option Addr} {l : List α} (h : RS k f w a l) (o : Obj) : RS k f (w.alloc o) a l := RS.below h (Below.alloc (Below.refl _ _) (Nat.le_refl _) o)
theorem rs_drN {α : Type} {k : Nat} {f : α → List Value} {w : World} {a : Option Addr} {l : List α} (h : RS k f w a l) (n : Nat) : RS k f (w.drewN n) a l := h
theorem rs_dr {α : Type} {k : Nat} {f : α → List Value} {w : World} {a : Option Addr} {l : List α} (h : RS k f w a l) : RS k f w.drew a l := h
theorem own_al {w : World} {B n k : Nat} {T : TypeId} {v : Value} {xs : List Value} (h : w.ownsRow B T k v n xs) (o : Obj) : (w.alloc o).ownsRow B T k v n xs := h.alloc o
theorem own_drN {w : World} {B n k : Nat} {T : TypeId} {v : Value} {xs : List Value} (h : w.ownsRow B T k v n xs) (m : Nat) : (w.drewN m).ownsRow B T k v n xs := own_keep h (below_drewN (Below.refl _ _) m)
theorem own_st {w : World} {B n k c g b o : Nat} {T : TypeId} {u : Value} {xs : List Value} (h : w.ownsRow B T k (.slice (some ⟨g, 0, none⟩) n c) n xs) (hne : ¬ b = g) : (w.setCell ⟨b, o, none⟩ u).ownsRow B T k (.slice (some ⟨g, 0, none⟩) n c) n xs := h.kept (set_grown w b o u) (.inr (fun e => hne (Option.some.inj e).symm))
theorem Bx.x1 {w : World} {g : Nat} {v0 : Value} (h : Bx w g [v0]) : (w.cell? ⟨g, 0, none⟩ = some v0 ∧ w.frozen? ⟨g, 0, none⟩ = false) ∧ ¬ g = w.heap.size ∧ ¬ w.heap.size = g ∧ g < w.heap.size := ⟨h.c 0 rfl, h.n⟩
theorem Bx.of1 {w : World} {g : Nat} {v0 : Value} (h0 : w.cell? ⟨g, 0, none⟩ = some v0) (f0 : w.frozen? ⟨g, 0, none⟩ = false) : Bx w g [v0] := by
  refine ⟨fun i v hv => ?_, lt h0⟩
  match i, hv with
  | 0, hv => cases hv; exact ⟨h0, f0⟩
theorem Bx.x2 {w : World} {g : Nat} {v0 v1 : Value} (h : Bx w g [v0, v1]) : (w.cell? ⟨g, 0, none⟩ = some v0 ∧ w.frozen? ⟨g, 0, none⟩ = false) ∧ (w.cell? ⟨g, 1, none⟩ = some v1 ∧ w.frozen? ⟨g, 1, none⟩ = false) ∧ ¬ g = w.heap.size ∧ ¬ w.heap.size = g ∧ g < w.heap.size := ⟨h.c 0 rfl, h.c 1 rfl, h.n⟩
theorem Bx.of2 {w : World} {g : Nat} {v0 v1 : Value} (h0 : w.cell? ⟨g, 0, none⟩ = some v0) (f0 : w.frozen? ⟨g, 0, none⟩ = false) (h1 : w.cell? ⟨g, 1, none⟩ = some v1) (f1 : w.frozen? ⟨g, 1, none⟩ = false) : Bx w g [v0, v1] := by
  refine ⟨fun i v hv => ?_, lt h0⟩
  match i, hv with
  | 0, hv => cases hv; exact ⟨h0, f0⟩
  | 1, hv => cases hv; exact ⟨h1, f1⟩
theorem Bx.x3 {w : World} {g : Nat} {v0 v1 v2 : Value} (h : Bx w g [v0, v1, v2]) : (w.cell? ⟨g, 0, none⟩ = some v0 ∧ w.frozen? ⟨g, 0, none⟩ = false) ∧ (w.cell? ⟨g, 1, none⟩ = some v1 ∧ w.frozen? ⟨g, 1, none⟩ = false) ∧ (w.cell? ⟨g, 2, none⟩ = some v2 ∧ w.frozen? ⟨g, 2, none⟩ = false) ∧ ¬ g = w.heap.size ∧ ¬ w.heap.size = g ∧ g < w.heap.size := ⟨h.c 0 rfl, h.c 1 rfl, h.c 2 rfl, h.n⟩
theorem Bx.of3 {w : World} {g : Nat} {v0 v1 v2 : Value} (h0 : w.cell? ⟨g, 0, none⟩ = some v0) (f0 : w.frozen? ⟨g, 0, none⟩ = false) (h1 : w.cell? ⟨g, 1, none⟩ = some v1) (f1 : w.frozen? ⟨g, 1, none⟩ = false) (h2 : w.cell? ⟨g, 2, none⟩ = some v2) (f2 : w.frozen? ⟨g, 2, none⟩ = false) : Bx w g [v0, v1, v2] := by
  refine ⟨fun i v hv => ?_, lt h0⟩
  match i, hv with
  | 0, hv => cases hv; exact ⟨h0, f0⟩
  | 1, hv => cases hv; exact ⟨h1, f1⟩
  | 2, hv => cases hv; exact ⟨h2, f2⟩
theorem Bx.x4 {w : World} {g : Nat} {v0 v1 v2 v3 : Value} (h : Bx w g [v0, v1, v2, v3]) : (w.cell? ⟨g, 0, none⟩ = some v0 ∧ w.frozen? ⟨g, 0, none⟩ = false) ∧ (w.cell? ⟨g, 1, none⟩ = some v1 ∧ w.frozen? ⟨g, 1, none⟩ = false) ∧ (w.cell? ⟨g, 2, none⟩ = some v2 ∧ w.frozen? ⟨g, 2, none⟩ = false) ∧ (w.cell? ⟨g, 3, none⟩ = some v3 ∧ w.frozen? ⟨g, 3, none⟩ = false) ∧ ¬ g = w.heap.size ∧ ¬ w.heap.size = g ∧ g < w.heap.size := ⟨h.c 0 rfl, h.c 1 rfl, h.c 2 rfl, h.c 3 rfl, h.n⟩
theorem Bx.of4 {w : World} {g : Nat} {v0 v1 v2 v3 : Value} (h0 : w.cell? ⟨g, 0, none⟩ = some v0) (f0 : w.frozen? ⟨g, 0, none⟩ = false) (h1 : w.cell? ⟨g, 1, none⟩ = some v1) (f1 : w.frozen? ⟨g, 1, none⟩ = false) (h2 : w.cell? ⟨g, 2, none⟩ = some v2) (f2 : w.frozen? ⟨g, 2, none⟩ = false) (h3 : w.cell? ⟨g, 3, none⟩ = some v3) (f3 : w.frozen? ⟨g, 3, none⟩ = false) : Bx w g [v0, v1, v2, v3] := by
  refine ⟨fun i v hv => ?_, lt h0⟩
  match i, hv with
  | 0, hv => cases hv; exact ⟨h0, f0⟩
  | 1, hv => cases hv; exact ⟨h1, f1⟩
  | 2, hv => cases hv; exact ⟨h2, f2⟩
  | 3, hv => cases hv; exact ⟨h3, f3⟩
theorem Bx.x5 {w : World} {g : Nat} {v0 v1 v2 v3 v4 : Value} (h : Bx w g [v0, v1, v2, v3, v4]) : (w.cell? ⟨g, 0, none⟩ = some v0 ∧ w.frozen? ⟨g, 0, none⟩ = false) ∧ (w.cell? ⟨g, 1, none⟩ = some v1 ∧ w.frozen? ⟨g, 1, none⟩ = false) ∧ (w.cell? ⟨g, 2, none⟩ = some v2 ∧ w.frozen? ⟨g, 2, none⟩ = false) ∧ (w.cell? ⟨g, 3, none⟩ = some v3 ∧ w.frozen? ⟨g, 3, none⟩ = false) ∧ (w.cell? ⟨g, 4, none⟩ = some v4 ∧ w.frozen? ⟨g, 4, none⟩ = false) ∧ ¬ g = w.heap.size ∧ ¬ w.heap.size = g ∧ g < w.heap.size := ⟨h.c 0 rfl, h.c 1 rfl, h.c 2 rfl, h.c 3 rfl, h.c 4 rfl, h.n⟩
theorem Bx.of5 {w : World} {g : Nat} {v0 v1 v2 v3 v4 : Value} (h0 : w.cell? ⟨g, 0, none⟩ = some v0) (f0 : w.frozen? ⟨g, 0, none⟩ = false) (h1 : w.cell? ⟨g, 1, none⟩ = some v1) (f1 : w.frozen? ⟨g, 1, none⟩ = false) (h2 : w.cell? ⟨g, 2, none⟩ = some v2) (f2 : w.frozen? ⟨g, 2, none⟩ = false) (h3 : w.cell? ⟨g, 3, none⟩ = some v3) (f3 : w.frozen? ⟨g, 3, none⟩ = false) (h4 : w.cell? ⟨g, 4, none⟩ = some v4) (f4 : w.frozen? ⟨g, 4, none⟩ = false) : Bx w g [v0, v1, v2, v3, v4] := by
  refine ⟨fun i v hv => ?_, lt h0⟩
  match i, hv with
  | 0, hv => cases hv; exact ⟨h0, f0⟩
  | 1, hv => cases hv; exact ⟨h1, f1⟩
  | 2, hv => cases hv; exact ⟨h2, f2⟩
  | 3, hv => cases hv; exact ⟨h3, f3⟩
  | 4, hv => cases hv; exact ⟨h4, f4⟩
theorem Bx.x6 {w : World} {g : Nat} {v0 v1 v2 v3 v4 v5 : Value} (h : Bx w g [v0, v1, v2, v3, v4, v5]) : (w.cell? ⟨g, 0, none⟩ = some v0 ∧ w.frozen? ⟨g, 0, none⟩ = false) ∧ (w.cell? ⟨g, 1, none⟩ = some v1 ∧ w.frozen? ⟨g, 1, none⟩ = false) ∧ (w.cell? ⟨g, 2, none⟩ = some v2 ∧ w.frozen? ⟨g, 2, none⟩ = false) ∧ (w.cell? ⟨g, 3, none⟩ = some v3 ∧ w.frozen? ⟨g, 3, none⟩ = false) ∧ (w.cell? ⟨g, 4, none⟩ = some v4 ∧ w.frozen? ⟨g, 4, none⟩ = false) ∧ (w.cell? ⟨g, 5, none⟩ = some v5 ∧ w.frozen? ⟨g, 5, none⟩ = false) ∧ ¬ g = w.heap.size ∧ ¬ w.heap.size = g ∧ g < w.heap.size := ⟨h.c 0 rfl, h.c 1 rfl, h.c 2 rfl, h.c 3 rfl, h.c 4 rfl, h.c 5 rfl, h.n⟩
theorem Bx.of6 {w : World} {g : Nat} {v0 v1 v2 v3 v4 v5 : Value} (h0 : w.cell? ⟨g, 0, none⟩ = some v0) (f0 : w.frozen? ⟨g, 0, none⟩ = false) (h1 : w.cell? ⟨g, 1, none⟩ = some v1) (f1 : w.frozen? ⟨g, 1, none⟩ = false) (h2 : w.cell? ⟨g, 2, none⟩ = some v2) (f2 : w.frozen? ⟨g, 2, none⟩ = false) (h3 : w.cell? ⟨g, 3, none⟩ = some v3) (f3 : w.frozen? ⟨g, 3, none⟩ = false) (h4 : w.cell? ⟨g, 4, none⟩ = some v4) (f4 : w.frozen? ⟨g, 4, none⟩ = false) (h5 : w.cell? ⟨g, 5, none⟩ = some v5) (f5 : w.frozen? ⟨g, 5, none⟩ = false) : Bx w g [v0, v1, v2, v3, v4, v5] := by
  refine ⟨fun i v hv => ?_, lt h0⟩
  match i, hv with
  | 0, hv => cases hv; exact ⟨h0, f0⟩
  | 1, hv => cases hv; exact ⟨h1, f1⟩
  | 2, hv => cases hv; exact ⟨h2, f2⟩
  | 3, hv => cases hv; exact ⟨h3, f3⟩
  | 4, hv => cases hv; exact ⟨h4, f4⟩
  | 5, hv => cases hv; exact ⟨h5, f5⟩
theorem Bx.x7 {w : World} {g : Nat} {v0 v1 v2 v3 v4 v5 v6 : Value} (h : Bx w g [v0, v1, v2, v3, v4, v5, v6]) : (w.cell? ⟨g, 0, none⟩ = some v0 ∧ w.frozen? ⟨g, 0, none⟩ = false) ∧ (w.cell? ⟨g, 1, none⟩ = some v1 ∧ w.frozen? ⟨g, 1, none⟩ = false) ∧ (w.cell? ⟨g, 2, none⟩ = some v2 ∧ w.frozen? ⟨g, 2, none⟩ = false) ∧ (w.cell? ⟨g, 3, none⟩ = some v3 ∧ w.frozen? ⟨g, 3, none⟩ = false) ∧ (w.cell? ⟨g, 4, none⟩ = some v4 ∧ w.frozen? ⟨g, 4, none⟩ = false) ∧ (w.cell? ⟨g, 5, none⟩ = some v5 ∧ w.frozen? ⟨g, 5, none⟩ = false) ∧ (w.cell? ⟨g, 6, none⟩ = some v6 ∧ w.frozen? ⟨g, 6, none⟩ = false) ∧ ¬ g = w.heap.size ∧ ¬ w.heap.size = g ∧ g < w.heap.size := ⟨h.c 0 rfl, h.c 1 rfl, h.c 2 rfl, h.c 3 rfl, h.c 4 rfl, h.c 5 rfl, h.c 6 rfl, h.n⟩
theorem Bx.of7 {w : World} {g : Nat} {v0 v1 v2 v3 v4 v5 v6 : Value} (h0 : w.cell? ⟨g, 0, none⟩ = some v0) (f0 : w.frozen? ⟨g, 0, none⟩ = false) (h1 : w.cell? ⟨g, 1, none⟩ = some v1) (f1 : w.frozen? ⟨g, 1, none⟩ = false) (h2 : w.cell? ⟨g, 2, none⟩ = some v2) (f2 : w.frozen? ⟨g, 2, none⟩ = false) (h3 : w.cell? ⟨g, 3, none⟩ = some v3) (f3 : w.frozen? ⟨g, 3, none⟩ = false) (h4 : w.cell? ⟨g, 4, none⟩ = some v4) (f4 : w.frozen? ⟨g, 4, none⟩ = false) (h5 : w.cell? ⟨g, 5, none⟩ = some v5) (f5 : w.frozen? ⟨g, 5, none⟩ = false) (h6 : w.cell? ⟨g, 6, none⟩ = some v6) (f6 : w.frozen? ⟨g, 6, none⟩ = false) : Bx w g [v0, v1, v2, v3, v4, v5, v6] := by
  refine ⟨fun i v hv => ?_, lt h0⟩
  match i, hv with
  | 0, hv => cases hv; exact ⟨h0, f0⟩
  | 1, hv => cases hv; exact ⟨h1, f1⟩
  | 2, hv => cases hv; exact ⟨h2, f2⟩
  | 3, hv => cases hv; exact ⟨h3, f3⟩
  | 4, hv => cases hv; exact ⟨h4, f4⟩
  | 5, hv => cases hv; exact ⟨h5, f5⟩
  | 6, hv => cases hv; exact ⟨h6, f6⟩
theorem Bx.x8 {w : World} {g : Nat} {v0 v1 v2 v3 v4 v5 v6 v7 : Value} (h : Bx w g [v0, v1, v2, v3, v4, v5, v6, v7]) : (w.cell? ⟨g, 0, none⟩ = some v0 ∧ w.frozen? ⟨g, 0, none⟩ = false) ∧ (w.cell? ⟨g, 1, none⟩ = some v1 ∧ w.frozen? ⟨g, 1, none⟩ = false) ∧ (w.cell? ⟨g, 2, none⟩ = some v2 ∧ w.frozen? ⟨g, 2, none⟩ = false) ∧ (w.cell? ⟨g, 3, none⟩ = some v3 ∧ w.frozen? ⟨g, 3, none⟩ = false) ∧ (w.cell? ⟨g, 4, none⟩ = some v4 ∧ w.frozen? ⟨g, 4, none⟩ = false) ∧ (w.cell? ⟨g, 5, none⟩ = some v5 ∧ w.frozen? ⟨g, 5, none⟩ = false) ∧ (w.cell? ⟨g, 6, none⟩ = some v6 ∧ w.frozen? ⟨g, 6, none⟩ = false) ∧ (w.cell? ⟨g, 7, none⟩ = some v7 ∧ w.frozen? ⟨g, 7, none⟩ = false) ∧ ¬ g = w.heap.size ∧ ¬ w.heap.size = g ∧ g < w.heap.size := ⟨h.c 0 rfl, h.c 1 rfl, h.c 2 rfl, h.c 3 rfl, h.c 4 rfl, h.c 5 rfl, h.c 6 rfl, h.c 7 rfl, h.n⟩
theorem Bx.of8 {w : World} {g : Nat} {v0 v1 v2 v3 v4 v5 v6 v7 : Value} (h0 : w.cell? ⟨g, 0, none⟩ = some v0) (f0 : w.frozen? ⟨g, 0, none⟩ = false) (h1 : w.cell? ⟨g, 1, none⟩ = some v1) (f1 : w.frozen? ⟨g, 1, none⟩ = false) (h2 : w.cell? ⟨g, 2, none⟩ = some v2) (f2 : w.frozen? ⟨g, 2, none⟩ = false) (h3 : w.cell? ⟨g, 3, none⟩ = some v3) (f3 : w.frozen? ⟨g, 3, none⟩ = false) (h4 : w.cell? ⟨g, 4, none⟩ = some v4) (f4 : w.frozen? ⟨g, 4, none⟩ = false) (h5 : w.cell? ⟨g, 5, none⟩ = some v5) (f5 : w.frozen? ⟨g, 5, none⟩ = false) (h6 : w.cell? ⟨g, 6, none⟩ = some v6) (f6 : w.frozen? ⟨g, 6, none⟩ = false) (h7 : w.cell? ⟨g, 7, none⟩ = some v7) (f7 : w.frozen? ⟨g, 7, none⟩ = false) : Bx w g [v0, v1, v2, v3, v4, v5, v6, v7] := by
  refine ⟨fun i v hv => ?_, lt h0⟩
  match i, hv with
  | 0, hv => cases hv; exact ⟨h0, f0⟩
  | 1, hv => cases hv; exact ⟨h1, f1⟩
  | 2, hv => cases hv; exact ⟨h2, f2⟩
  | 3, hv => cases hv; exact ⟨h3, f3⟩
  | 4, hv => cases hv; exact ⟨h4, f4⟩
  | 5, hv => cases hv; exact ⟨h5, f5⟩
  | 6, hv => cases hv; exact ⟨h6, f6⟩
  | 7, hv => cases hv; exact ⟨h7, f7⟩
theorem Bx.x9 {w : World} {g : Nat} {v0 v1 v2 v3 v4 v5 v6 v7 v8 : Value} (h : Bx w g [v0, v1, v2, v3, v4, v5, v6, v7, v8]) : (w.cell? ⟨g, 0, none⟩ = some v0 ∧ w.frozen? ⟨g, 0, none⟩ = false) ∧ (w.cell? ⟨g, 1, none⟩ = some v1 ∧ w.frozen? ⟨g, 1, none⟩ = false) ∧ (w.cell? ⟨g, 2, none⟩ = some v2 ∧ w.frozen? ⟨g, 2, none⟩ = false) ∧ (w.cell? ⟨g, 3, none⟩ = some v3 ∧ w.frozen? ⟨g, 3, none⟩ = false) ∧ (w.cell? ⟨g, 4, none⟩ = some v4 ∧ w.frozen? ⟨g, 4, none⟩ = false) ∧ (w.cell? ⟨g, 5, none⟩ = some v5 ∧ w.frozen? ⟨g, 5, none⟩ = false) ∧ (w.cell? ⟨g, 6, none⟩ = some v6 ∧ w.frozen? ⟨g, 6, none⟩ = false) ∧ (w.cell? ⟨g, 7, none⟩ = some v7 ∧ w.frozen? ⟨g, 7, none⟩ = false) ∧ (w.cell? ⟨g, 8, none⟩ = some v8 ∧ w.frozen? ⟨g, 8, none⟩ = false) ∧ ¬ g = w.heap.size ∧ ¬ w.heap.size = g ∧ g < w.heap.size := ⟨h.c 0 rfl, h.c 1 rfl, h.c 2 rfl, h.c 3 rfl, h.c 4 rfl, h.c 5 rfl, h.c 6 rfl, h.c 7 rfl, h.c 8 rfl, h.n⟩
theorem Bx.of9 {w : World} {g : Nat} {v0 v1 v2 v3 v4 v5 v6 v7 v8 : Value} (h0 : w.cell? ⟨g, 0, none⟩ = some v0) (f0 : w.frozen? ⟨g, 0, none⟩ = false) (h1 : w.cell? ⟨g, 1, none⟩ = some v1) (f1 : w.frozen? ⟨g, 1, none⟩ = false) (h2 : w.cell? ⟨g, 2, none⟩ = some v2) (f2 : w.frozen? ⟨g, 2, none⟩ = false) (h3 : w.cell? ⟨g, 3, none⟩ = some v3) (f3 : w.frozen? ⟨g, 3, none⟩ = false) (h4 : w.cell? ⟨g, 4, none⟩ = some v4) (f4 : w.frozen? ⟨g, 4, none⟩ = false) (h5 : w.cell? ⟨g, 5, none⟩ = some v5) (f5 : w.frozen? ⟨g, 5, none⟩ = false) (h6 : w.cell? ⟨g, 6, none⟩ = some v6) (f6 : w.frozen? ⟨g, 6, none⟩ = false) (h7 : w.cell? ⟨g, 7, none⟩ = some v7) (f7 : w.frozen? ⟨g, 7, none⟩ = false) (h8 : w.cell? ⟨g, 8, none⟩ = some v8) (f8 : w.frozen? ⟨g, 8, none⟩ = false) : Bx w g [v0, v1, v2, v3, v4, v5, v6, v7, v8] := by
  refine ⟨fun i v hv => ?_, lt h0⟩
  match i, hv with
  | 0, hv => cases hv; exact ⟨h0, f0⟩
  | 1, hv => cases hv; exact ⟨h1, f1⟩
  | 2, hv => cases hv; exact ⟨h2, f2⟩
  | 3, hv => cases hv; exact ⟨h3, f3⟩
  | 4, hv => cases hv; exact ⟨h4, f4⟩
  | 5, hv => cases hv; exact ⟨h5, f5⟩
  | 6, hv => cases hv; exact ⟨h6, f6⟩
  | 7, hv => cases hv; exact ⟨h7, f7⟩
  | 8, hv => cases hv; exact ⟨h8, f8⟩
theorem Bx.x10 {w : World} {g : Nat} {v0 v1 v2 v3 v4 v5 v6 v7 v8 v9 : Value} (h : Bx w g [v0, v1, v2, v3, v4, v5, v6, v7, v8, v9]) : (w.cell? ⟨g, 0, none⟩ = some v0 ∧ w.frozen? ⟨g, 0, none⟩ = false) ∧ (w.cell? ⟨g, 1, none⟩ = some v1 ∧ w.frozen? ⟨g, 1, none⟩ = false) ∧ (w.cell? ⟨g, 2, none⟩ = some v2 ∧ w.frozen? ⟨g, 2, none⟩ = false) ∧ (w.cell? ⟨g, 3, none⟩ = some v3 ∧ w.frozen? ⟨g, 3, none⟩ = false) ∧ (w.cell? ⟨g, 4, none⟩ = some v4 ∧ w.frozen? ⟨g, 4, none⟩ = false) ∧ (w.cell? ⟨g, 5, none⟩ = some v5 ∧ w.frozen? ⟨g, 5, none⟩ = false) ∧ (w.cell? ⟨g, 6, none⟩ = some v6 ∧ w.frozen? ⟨g, 6, none⟩ = false) ∧ (w.cell? ⟨g, 7, none⟩ = some v7 ∧ w.frozen? ⟨g, 7, none⟩ = false) ∧ (w.cell? ⟨g, 8, none⟩ = some v8 ∧ w.frozen? ⟨g, 8, none⟩ = false) ∧ (w.cell? ⟨g, 9, none⟩ = some v9 ∧ w.frozen? ⟨g, 9, none⟩ = false) ∧ ¬ g = w.heap.size ∧ ¬ w.heap.size = g ∧ g < w.heap.size := ⟨h.c 0 rfl, h.c 1 rfl, h.c 2 rfl, h.c 3 rfl, h.c 4 rfl, h.c 5 rfl, h.c 6 rfl, h.c 7 rfl, h.c 8 rfl, h.c 9 rfl, h.n⟩
theorem Bx.of10 {w : World} {g : Nat} {v0 v1 v2 v3 v4 v5 v6 v7 v8 v9 : Value} (h0 : w.cell? ⟨g, 0, none⟩ = some v0) (f0 : w.frozen? ⟨g, 0, none⟩ = false) (h1 : w.cell? ⟨g, 1, none⟩ = some v1) (f1 : w.frozen? ⟨g, 1, none⟩ = false) (h2 : w.cell? ⟨g, 2, none⟩ = some v2) (f2 : w.frozen? ⟨g, 2, none⟩ = false) (h3 : w.cell? ⟨g, 3, none⟩ = some v3) (f3 : w.frozen? ⟨g, 3, none⟩ = false) (h4 : w.cell? ⟨g, 4, none⟩ = some v4) (f4 : w.frozen? ⟨g, 4, none⟩ = false) (h5 : w.cell? ⟨g, 5, none⟩ = some v5) (f5 : w.frozen? ⟨g, 5, none⟩ = false) (h6 : w.cell? ⟨g, 6, none⟩ = some v6) (f6 : w.frozen? ⟨g, 6, none⟩ = false) (h7 : w.cell? ⟨g, 7, none⟩ = some v7) (f7 : w.frozen? ⟨g, 7, none⟩ = false) (h8 : w.cell? ⟨g, 8, none⟩ = some v8) (f8 : w.frozen? ⟨g, 8, none⟩ = false) (h9 : w.cell? ⟨g, 9, none⟩ = some v9) (f9 : w.frozen? ⟨g, 9, none⟩ = false) : Bx w g [v0, v1, v2, v3, v4, v5, v6, v7, v8, v9] := by
  refine ⟨fun i v hv => ?_, lt h0⟩
  match i, hv with
  | 0, hv => cases hv; exact ⟨h0, f0⟩
  | 1, hv => cases hv; exact ⟨h1, f1⟩
  | 2, hv => cases hv; exact ⟨h2, f2⟩
  | 3, hv => cases hv; exact ⟨h3, f3⟩
  | 4, hv => cases hv; exact ⟨h4, f4⟩
  | 5, hv => cases hv; exact ⟨h5, f5⟩
  | 6, hv => cases hv; exact ⟨h6, f6⟩
  | 7, hv => cases hv; exact ⟨h7, f7⟩
  | 8, hv => cases hv; exact ⟨h8, f8⟩
  | 9, hv => cases hv; exact ⟨h9, f9⟩
end B
end Go.Proofs.Ytfbgfnebodabpaa
