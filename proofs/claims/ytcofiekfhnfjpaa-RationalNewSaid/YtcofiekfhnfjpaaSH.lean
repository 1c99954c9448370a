
import Derived.Test.YtcofiekfhnfjpaaSE
import Derived.Deep.CutRange
namespace Go.Proofs.Ytcofiekfhnfjpaa
open Go.RowKit
set_option linter.unusedVariables false
set_option linter.unusedSimpArgs false
attribute [local go_sem ↓] Go.wp_at_zero Go.wp_at_succ
attribute [local go_sem] rhoF_tmp rhoF_const rhoF_global rhoF_func
attribute [local go_sem] qV iV
attribute [local go_sem] qE
theorem Qv_nil : Qv false [] false [] = 0 := by unfold Qv; rw [show zv false (valD []) = 0 from by simp [valD, zv], Rat.divInt_zero]
theorem norm_h {s t : Bool} {l k : List (BitVec 32)} {p : Rat} (e1 : Qv s l t k = p) (l1 : l.length ≤ 100000) (l2' : k.length ≤ 100000) : ∀ W W0 (v0 v1 : Option Addr) (n0 n1 : Nat), Below W0.heap.size W0 W → l.length ≤ n0 → k.length ≤ n1 → Rw W0 v0 l → Rw W0 v1 k → Calls Try.prog 13 #[.agg #[.bool s, .slice v0 l.length n0, .bool t, .slice v1 k.length n1]] W (AnsQ p W) := fun W W0 v0 v1 n0 n1 E c0 c1 r0 r1 => by
  replace r0 := r0.below E
  replace r1 := r1.below E
  have h := norm_q s t v0 v1 n0 n1 l k W (by omega) (by omega) c0 c1 r0 r1
  rw [e1] at h
  exact h
theorem len1 {q : Rat} (h : Sz q 1000) : (qX q).length ≤ 100000 := by have := (sz_len h).1; omega
theorem len2 {q : Rat} (h : Sz q 1000) : (qY q).length ≤ 100000 := by have := (sz_len h).2; omega
theorem same_h {q : Rat} (h : Sz q 1000) : ∀ W W0 (v0 v1 v2 v3 : Option Addr) (n0 n1 n2 n3 : Nat), Below W0.heap.size W0 W → Rw W0 v0 (qX q) → Rw W0 v1 (qY q) → Rw W0 v2 (qX q) → Rw W0 v3 (qY q) → Calls Try.prog 14 #[.agg #[.bool (qS q), .slice v0 (qX q).length n0, .bool false, .slice v1 (qY q).length n1], .agg #[.bool (qS q), .slice v2 (qX q).length n2, .bool false, .slice v3 (qY q).length n3]] W fun e w' => e = .returned (.bool true) ∧ Below W.heap.size W w' := fun W W0 v0 v1 v2 v3 n0 n1 n2 n3 E r0 r1 r2 r3 => by
  replace r0 := r0.below E
  replace r1 := r1.below E
  replace r2 := r2.below E
  replace r3 := r3.below E
  have l1 := len1 h
  have l2 := len2 h
  exact srat_yes (qS q) false v0 v1 v2 v3 n0 n1 n2 n3 _ _ W (by omega) (by omega) r0 r1 r2 r3
theorem same_d {p q : Rat} (h : Sz p 1000) (h2 : Sz q 1000) : ∀ W W0 (v0 v1 v2 v3 : Option Addr) (n0 n1 n2 n3 : Nat), Below W0.heap.size W0 W → Rw W0 v0 (qX p) → Rw W0 v1 (qY p) → Rw W0 v2 (qX q) → Rw W0 v3 (qY q) → Calls Try.prog 14 #[.agg #[.bool (qS p), .slice v0 (qX p).length n0, .bool false, .slice v1 (qY p).length n1], .agg #[.bool (qS q), .slice v2 (qX q).length n2, .bool false, .slice v3 (qY q).length n3]] W fun e w' => e = .returned (.bool (decide (p = q))) ∧ Below W.heap.size W w' := fun W W0 v0 v1 v2 v3 n0 n1 n2 n3 E r0 r1 r2 r3 =>
  same_q p q v0 v1 v2 v3 n0 n1 n2 n3 W (h.mono (by omega)) (h2.mono (by omega)) (r0.below E) (r1.below E) (r2.below E) (r3.below E)
theorem isn_h {q : Rat} (h : Sz q 1000) : ∀ W W0 (v0 v1 : Option Addr) (n0 n1 : Nat), Below W0.heap.size W0 W → (qX q).length ≤ n0 → (qY q).length ≤ n1 → Rw W0 v0 (qX q) → Rw W0 v1 (qY q) → Calls Try.prog 16 #[.agg #[.bool (qS q), .slice v0 (qX q).length n0, .bool false, .slice v1 (qY q).length n1]] W fun e w' => e = .returned (.bool true) ∧ Below W.heap.size W w' := fun W W0 v0 v1 n0 n1 E c0 c1 r0 r1 => by
  replace r0 := r0.below E
  replace r1 := r1.below E
  have l1 := len1 h
  have l2 := len2 h
  have := isn_q (qS q) false v0 v1 n0 n1 _ _ W (by omega) (by omega) c0 c1 r0 r1
  rw [rnB_q] at this
  exact this
end Go.Proofs.Ytcofiekfhnfjpaa
