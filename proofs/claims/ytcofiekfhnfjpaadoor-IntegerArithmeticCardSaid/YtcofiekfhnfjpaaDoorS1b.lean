
import Derived.Test.YtcofiekfhnfjpaaDoorS1
import Derived.Test.YtcofiekfhnfjpaaDoorUE
namespace Go.Proofs.YtcofiekfhnfjpaaDoor
open Go.RowKit
set_option linter.unusedVariables false
set_option linter.unusedSimpArgs false
attribute [local go_sem] rhoF_tmp rhoF_const rhoF_global rhoF_func
abbrev kv (v : Value) : Sg := .val [] (fun _ _ => v)
abbrev km (v : Value) : Sg := .made (fun _ => v) TrueP
theorem ldI {f : Nat → Value} {o : Oper} {t g off : Nat} {w : World} {vs : List Value} {v0 v1 : Value} (ho : o.op = Op.load 24 (.tmp t)) (hf : f t = .pointer (some ⟨g, off, none⟩)) (h : Bx w g vs) (h0 : vs[off]? = some v0) (h1 : vs[off + 1]? = some v1) : (execOp (rhoF f) o).run Tryd.prog w = .ok (.value (.agg #[v0, v1])) w := by
  obtain ⟨d, op, ty, ps, af, gu⟩ := o
  simp only at ho
  subst ho
  have k0 := (h.c off h0).1
  have k1 := (h.c (off + 1) h1).1
  go_simp
theorem cl1 {f : Nat → Value} {o : Oper} {F : FuncId} {t : Operand} {ts : Array TypeId} {a : Value} {w : World} (ho : o.op = Op.call { callee := Callee.value (Operand.func F), args := #[t], argTypes := ts }) (ha : rhoF f t = a) (hc : Sem.run Tryd.prog (callFunc F #[a]) w = Result.ok (Next.enter F #[a]) w) : (execOp (rhoF f) o).run Tryd.prog w = .ok (.enter F #[a]) w := by
  obtain ⟨d, op, ty, ps, af, gu⟩ := o
  simp only at ho
  subst ho
  simp only [execOp, resolve, invoke, rhoF_func, List.map_toArray, List.map_cons, List.map_nil, ha]
  exact hc
theorem cl2 {f : Nat → Value} {o : Oper} {F : FuncId} {t u : Operand} {ts : Array TypeId} {a b : Value} {w : World} (ho : o.op = Op.call { callee := Callee.value (Operand.func F), args := #[t, u], argTypes := ts }) (ha : rhoF f t = a) (hb : rhoF f u = b) (hc : Sem.run Tryd.prog (callFunc F #[a, b]) w = Result.ok (Next.enter F #[a, b]) w) : (execOp (rhoF f) o).run Tryd.prog w = .ok (.enter F #[a, b]) w := by
  obtain ⟨d, op, ty, ps, af, gu⟩ := o
  simp only at ho
  subst ho
  simp only [execOp, resolve, invoke, rhoF_func, List.map_toArray, List.map_cons, List.map_nil, ha, hb]
  exact hc
theorem own_blk {w : World} {base : Nat} {e : TypeId} {a : Option Addr} {n c : Nat} {xs : List Value} (h : w.ownsRow base e 1 (.slice a n c) n xs) (p : Addr) (hp : a = some p) : base ≤ p.block ∧ p.block < w.heap.size := by
  subst hp
  exact h.lt p.block rfl
theorem FrZ.ans {w w' : World} {z : Int} {e : Ending} (h : FrZ w z e w') : AnsR (iV (decide (z < 0)) (canon z.natAbs)) (OwP [canon z.natAbs]) w e w' := by
  obtain ⟨a, c, rfl, ho, hb⟩ := h
  refine ⟨pk1 a c, rfl, ⟨fun i X hX => ?_, fun i j X Y p q hX hY hne _ _ => ?_⟩, hb⟩
  · match i, hX with
    | 0, hX => cases hX; exact ⟨ho, fun p hp => (own_blk ho p hp).2⟩
  · match i, j, hX, hY, hne with
    | 0, 0, _, _, hne => exact absurd rfl hne
theorem FrQ.ans {w w' : World} {z : Int} {e : Ending} (h : FrQ w z e w') : AnsR (iV (decide (z < 0)) (canon z.natAbs)) (RwnP [canon z.natAbs]) w e w' := by
  obtain ⟨a, c, rfl, ho, hb⟩ := h
  refine ⟨pk1 a c, rfl, fun i X hX => ?_, hb⟩
  match i, hX with
  | 0, hX => cases hX; exact ho.1
end Go.Proofs.YtcofiekfhnfjpaaDoor
