
import Derived.Test.YtcofiekfhnfjpaaS1
namespace Go.Proofs.Ytcofiekfhnfjpaa
open Go.RowKit
set_option linter.unusedVariables false
set_option linter.unusedSimpArgs false
attribute [local go_sem] rhoF_tmp rhoF_const rhoF_global rhoF_func
abbrev kv (v : Value) : Sg := .val [] (fun _ _ => v)
abbrev km (v : Value) : Sg := .made (fun _ => v) TrueP
/-- A whole variable is read. -/
theorem ldR {f : Nat → Value} {o : Oper} {t g : Nat} {w : World} {v0 v1 v2 v3 : Value} (ho : o.op = Op.load 26 (.tmp t)) (hf : f t = .pointer (some ⟨g, 0, none⟩)) (h : Bx w g [v0, v1, v2, v3]) : (execOp (rhoF f) o).run Try.prog w = .ok (.value (.agg #[v0, v1, v2, v3])) w := by
  obtain ⟨d, op, ty, ps, af, gu⟩ := o
  simp only at ho
  subst ho
  obtain ⟨⟨k0, _⟩, ⟨k1, _⟩, ⟨k2, _⟩, ⟨k3, _⟩, _⟩ := h.x4
  go_simp
theorem ldI {f : Nat → Value} {o : Oper} {t g off : Nat} {w : World} {vs : List Value} {v0 v1 : Value} (ho : o.op = Op.load 24 (.tmp t)) (hf : f t = .pointer (some ⟨g, off, none⟩)) (h : Bx w g vs) (h0 : vs[off]? = some v0) (h1 : vs[off + 1]? = some v1) : (execOp (rhoF f) o).run Try.prog w = .ok (.value (.agg #[v0, v1])) w := by
  obtain ⟨d, op, ty, ps, af, gu⟩ := o
  simp only at ho
  subst ho
  have k0 := (h.c off h0).1
  have k1 := (h.c (off + 1) h1).1
  go_simp
theorem cl0 {f : Nat → Value} {o : Oper} {F : FuncId} {ts : Array TypeId} {w : World} (ho : o.op = Op.call { callee := Callee.value (Operand.func F), args := #[], argTypes := ts }) (hc : Sem.run Try.prog (callFunc F #[]) w = Result.ok (Next.enter F #[]) w) : (execOp (rhoF f) o).run Try.prog w = .ok (.enter F #[]) w := by
  obtain ⟨d, op, ty, ps, af, gu⟩ := o
  simp only at ho
  subst ho
  simp only [execOp, resolve, invoke, rhoF_tmp, rhoF_func, rhoF_const, List.map_toArray, List.map_cons, List.map_nil]
  exact hc
theorem cl1 {f : Nat → Value} {o : Oper} {F : FuncId} {t : Operand} {ts : Array TypeId} {a : Value} {w : World} (ho : o.op = Op.call { callee := Callee.value (Operand.func F), args := #[t], argTypes := ts }) (ha : rhoF f t = a) (hc : Sem.run Try.prog (callFunc F #[a]) w = Result.ok (Next.enter F #[a]) w) : (execOp (rhoF f) o).run Try.prog w = .ok (.enter F #[a]) w := by
  obtain ⟨d, op, ty, ps, af, gu⟩ := o
  simp only at ho
  subst ho
  simp only [execOp, resolve, invoke, rhoF_func, List.map_toArray, List.map_cons, List.map_nil, ha]
  exact hc
theorem cl2 {f : Nat → Value} {o : Oper} {F : FuncId} {t u : Operand} {ts : Array TypeId} {a b : Value} {w : World} (ho : o.op = Op.call { callee := Callee.value (Operand.func F), args := #[t, u], argTypes := ts }) (ha : rhoF f t = a) (hb : rhoF f u = b) (hc : Sem.run Try.prog (callFunc F #[a, b]) w = Result.ok (Next.enter F #[a, b]) w) : (execOp (rhoF f) o).run Try.prog w = .ok (.enter F #[a, b]) w := by
  obtain ⟨d, op, ty, ps, af, gu⟩ := o
  simp only at ho
  subst ho
  simp only [execOp, resolve, invoke, rhoF_func, List.map_toArray, List.map_cons, List.map_nil, ha, hb]
  exact hc
theorem mv {f : Nat → Value} {o : Oper} {t : Operand} {a : Value} {w : World} (ho : o.op = Op.move t) (ha : rhoF f t = a) : (execOp (rhoF f) o).run Try.prog w = .ok (.value a) w := by
  obtain ⟨d, op, ty, ps, af, gu⟩ := o
  simp only at ho
  subst ho
  subst ha
  go_simp
theorem pkT {f : Nat → Value} {o : Oper} {t u v : Operand} {a : Value} {w : World} (ho : o.op = Op.pick t u v) (ht : rhoF f t = .bool true) (ha : rhoF f u = a) : (execOp (rhoF f) o).run Try.prog w = .ok (.value a) w := by
  obtain ⟨d, op, ty, ps, af, gu⟩ := o
  simp only at ho
  subst ho
  subst ha
  simp only [execOp, ht]
  go_simp
theorem pkF {f : Nat → Value} {o : Oper} {t u v : Operand} {a : Value} {w : World} (ho : o.op = Op.pick t u v) (ht : rhoF f t = .bool false) (ha : rhoF f v = a) : (execOp (rhoF f) o).run Try.prog w = .ok (.value a) w := by
  obtain ⟨d, op, ty, ps, af, gu⟩ := o
  simp only at ho
  subst ho
  subst ha
  simp only [execOp, ht]
  go_simp
end Go.Proofs.Ytcofiekfhnfjpaa
