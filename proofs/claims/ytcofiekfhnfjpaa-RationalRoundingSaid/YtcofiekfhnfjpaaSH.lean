
import Derived.Test.YtcofiekfhnfjpaaSE
import Derived.Deep.CutRange
namespace Go.Proofs.Ytcofiekfhnfjpaa
open Go.RowKit
set_option linter.unusedVariables false
set_option linter.unusedSimpArgs false
attribute [local go_sem ↓] Go.wp_at_zero Go.wp_at_succ
attribute [local go_sem] rhoF_tmp rhoF_const rhoF_global rhoF_func
attribute [local go_sem] qV iV
attribute [local go_sem] qE
theorem add_h {s t s2 t2 : Bool} {l k l2 m2 : List (BitVec 32)} {p q r : Rat} (e1 : Qv s l t k = p) (e2 : Qv s2 l2 t2 m2 = q) (e3 : p + q = r) (l1 : l.length ≤ 100000) (l2' : k.length ≤ 100000) (l3 : l2.length ≤ 100000) (l4 : m2.length ≤ 100000) : ∀ W W0 (v0 v1 v2 v3 : Option Addr) (n0 n1 n2 n3 : Nat), Below W0.heap.size W0 W → l.length ≤ n0 → k.length ≤ n1 → l2.length ≤ n2 → m2.length ≤ n3 → Rw W0 v0 l → Rw W0 v1 k → Rw W0 v2 l2 → Rw W0 v3 m2 → Calls Try.prog 33 #[.agg #[.bool s, .slice v0 l.length n0, .bool t, .slice v1 k.length n1], .agg #[.bool s2, .slice v2 l2.length n2, .bool t2, .slice v3 m2.length n3]] W (AnsQ r W) := fun W W0 v0 v1 v2 v3 n0 n1 n2 n3 E c0 c1 c2 c3 r0 r1 r2 r3 => by
  have h := add_q s t s2 t2 v0 v1 v2 v3 n0 n1 n2 n3 l k l2 m2 W l1 l2' l3 l4 c0 c1 c2 c3 (r0.below E) (r1.below E) (r2.below E) (r3.below E)
  rw [e1, e2, e3] at h
  exact h
theorem sub_h {s t s2 t2 : Bool} {l k l2 m2 : List (BitVec 32)} {p q r : Rat} (e1 : Qv s l t k = p) (e2 : Qv s2 l2 t2 m2 = q) (e3 : p - q = r) (l1 : l.length ≤ 100000) (l2' : k.length ≤ 100000) (l3 : l2.length ≤ 100000) (l4 : m2.length ≤ 100000) : ∀ W W0 (v0 v1 v2 v3 : Option Addr) (n0 n1 n2 n3 : Nat), Below W0.heap.size W0 W → l.length ≤ n0 → k.length ≤ n1 → l2.length ≤ n2 → m2.length ≤ n3 → Rw W0 v0 l → Rw W0 v1 k → Rw W0 v2 l2 → Rw W0 v3 m2 → Calls Try.prog 32 #[.agg #[.bool s, .slice v0 l.length n0, .bool t, .slice v1 k.length n1], .agg #[.bool s2, .slice v2 l2.length n2, .bool t2, .slice v3 m2.length n3]] W (AnsQ r W) := fun W W0 v0 v1 v2 v3 n0 n1 n2 n3 E c0 c1 c2 c3 r0 r1 r2 r3 => by
  have h := sub_q s t s2 t2 v0 v1 v2 v3 n0 n1 n2 n3 l k l2 m2 W l1 l2' l3 l4 c0 c1 c2 c3 (r0.below E) (r1.below E) (r2.below E) (r3.below E)
  rw [e1, e2, e3] at h
  exact h
theorem cmp_h {s t s2 t2 : Bool} {l k l2 m2 : List (BitVec 32)} {p q r : Rat} (e1 : Qv s l t k = p) (e2 : Qv s2 l2 t2 m2 = q) (l1 : l.length ≤ 100000) (l2' : k.length ≤ 100000) (l3 : l2.length ≤ 100000) (l4 : m2.length ≤ 100000) : ∀ W W0 (v0 v1 v2 v3 : Option Addr) (n0 n1 n2 n3 : Nat), Below W0.heap.size W0 W → l.length ≤ n0 → k.length ≤ n1 → l2.length ≤ n2 → m2.length ≤ n3 → Rw W0 v0 l → Rw W0 v1 k → Rw W0 v2 l2 → Rw W0 v3 m2 → Calls Try.prog 34 #[.agg #[.bool s, .slice v0 l.length n0, .bool t, .slice v1 k.length n1], .agg #[.bool s2, .slice v2 l2.length n2, .bool t2, .slice v3 m2.length n3]] W fun e w' => e = .returned (.int .i64 (cmpR p q)) ∧ Below W.heap.size W w' := fun W W0 v0 v1 v2 v3 n0 n1 n2 n3 E c0 c1 c2 c3 r0 r1 r2 r3 => by
  have h := cmp_q s t s2 t2 v0 v1 v2 v3 n0 n1 n2 n3 l k l2 m2 W l1 l2' l3 l4 c0 c1 c2 c3 (r0.below E) (r1.below E) (r2.below E) (r3.below E)
  rw [e1, e2] at h
  exact h
theorem neg_h {s t : Bool} {l k : List (BitVec 32)} {p r : Rat} (e1 : Qv s l t k = p) (e2 : -p = r) (l1 : l.length ≤ 100000) (l2' : k.length ≤ 100000) : ∀ W W0 (v0 v1 : Option Addr) (n0 n1 : Nat), Below W0.heap.size W0 W → l.length ≤ n0 → k.length ≤ n1 → Rw W0 v0 l → Rw W0 v1 k → Calls Try.prog 35 #[.agg #[.bool s, .slice v0 l.length n0, .bool t, .slice v1 k.length n1]] W (AnsQ r W) := fun W W0 v0 v1 n0 n1 E c0 c1 r0 r1 => by
  replace r0 := r0.below E
  replace r1 := r1.below E
  have h := neg_q s t v0 v1 n0 n1 l k W l1 l2' c0 c1 r0 r1
  rw [e1, e2] at h
  exact h
theorem len1 {q : Rat} (h : Sz q 1000) : (qX q).length ≤ 100000 := by have := (sz_len h).1; omega
theorem len2 {q : Rat} (h : Sz q 1000) : (qY q).length ≤ 100000 := by have := (sz_len h).2; omega
end Go.Proofs.Ytcofiekfhnfjpaa
