
import Derived.OrdersHeld
import Derived.StillTail
import Derived.Deep.RegionHeld
import Derived.Below
/- Held -/
namespace Go.Proofs.YtdkbmpncohhioaaGreatDoor
set_option linter.unusedVariables false
set_option linter.unusedSimpArgs false
/- A region that draws its order: its first n operations (loads, calls) go under one condition S on the world; the rest (stores) goes behind them, in the order of the text. -/
section
variable {P : Program} {ops : Array Oper} {Q : Exit → Act → World → Prop} {md : Region.Mode} {S : World → Prop}

end
end Go.Proofs.YtdkbmpncohhioaaGreatDoor

/- Ord -/
namespace Go.Proofs.YtdkbmpncohhioaaGreatDoor
open Go.RowKit
set_option linter.unusedVariables false
set_option linter.unusedSimpArgs false
/- A region that draws its order, walked once in the order of the text: loads and other readings, calls that leave what is old as it was, new variables; behind them the stores. -/
inductive Sp where
  | val (v : Value)
  | call (f : FuncId) (args : Array Value) (v : Value)
  | fresh (o : Obj)
  | skip
def Sp.get : Sp → Nat → Value
  | .val v, _ => v
  | .call _ _ v, _ => v
  | .fresh _, g => .pointer (some ⟨g, 0, none⟩)
  | .skip, _ => undef
section
variable {P : Program} {ops : Array Oper} {Q : Exit → Act → World → Prop} {md : Region.Mode} {S : World → Prop}

def dstAt (ops : Array Oper) (k : Nat) : Option Tmp := (ops[k]?).bind (·.dst)
/-- the frame in which the operations of L have come up -/
def fr (ops : Array Oper) (sp : List Sp) (g : Nat → Nat) (L : Nat → Bool) (a : Act) : Nat → Act
  | 0 => a
  | k + 1 => if L k = true then (fr ops sp g L a k).put (dstAt ops k) ((sp.getD k .skip).get (g k)) else fr ops sp g L a k

theorem put_size (a : Act) (d : Option Tmp) (v : Value) : (a.put d v).tmps.size = a.tmps.size := by cases d <;> simp [Act.put]
theorem put_look (a : Act) (d : Tmp) (v : Value) (t : Nat) : (a.put (some d) v).tmps[t]? = if d = t then (if t < a.tmps.size then some v else none) else a.tmps[t]? := by
  simp only [Act.put]
  rw [Array.getElem?_setIfInBounds]
  split
  · rename_i h
    subst h
    rfl
  · rfl

def Agree (T : List Tmp) (a b : Act) : Prop := a.tmps.size = b.tmps.size ∧ ∀ t ∈ T, a.tmps[t]? = b.tmps[t]?
theorem Agree.put {T : List Tmp} {a b : Act} (h : Agree T a b) (d : Option Tmp) (v : Value) : Agree T (a.put d v) (b.put d v) := by
  cases d with
  | none => exact h
  | some d =>
    refine ⟨by rw [put_size, put_size]; exact h.1, fun t ht => ?_⟩
    rw [put_look, put_look, h.1, h.2 t ht]
def Sp.news (k : Nat) : Sp → List (Nat × Obj)
  | .fresh o => [(k, o)]
  | _ => []
theorem bcs {W w1 : World} (hb : Below W.heap.size W w1) {b o : Nat} {v : Value} (hc : W.cell? ⟨b, o, none⟩ = some v) : w1.cell? ⟨b, o, none⟩ = some v := (hb.cell (p := ⟨b, o, none⟩) (World.block_lt_of_cell? W _ hc)).trans hc
theorem bfs {W w1 : World} (hb : Below W.heap.size W w1) {b o : Nat} {v : Value} {f : Bool} (hc : W.cell? ⟨b, o, none⟩ = some v) (hf : W.frozen? ⟨b, o, none⟩ = f) : w1.frozen? ⟨b, o, none⟩ = f := (hb.frozen (p := ⟨b, o, none⟩) (World.block_lt_of_cell? W _ hc)).trans hf
theorem bel_step {w w1 w2 : World} (h : Below w.heap.size w w1) (hb : Below w1.heap.size w1 w2) : Below w.heap.size w w2 := h.trans (hb.mono h.size)
theorem qne {W : World} {b o : Nat} {v : Value} (hc : W.cell? ⟨b, o, none⟩ = some v) : ¬ b = W.heap.size := fun h => by
  have h1 : b < W.heap.size := World.block_lt_of_cell? W _ hc
  omega
theorem qlt {W : World} {b o : Nat} {v : Value} (hc : W.cell? ⟨b, o, none⟩ = some v) : b < W.heap.size := World.block_lt_of_cell? W _ hc
end
end Go.Proofs.YtdkbmpncohhioaaGreatDoor

