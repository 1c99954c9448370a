
import Derived.Test.YtmelfdajhnbnlaaIma
import Derived.Test.YtmelfdajhnbnlaaShelf
import Derived.WalkKit
import Derived.WalkSpells
import Derived.WalkLawsBesides
import Derived.Lib.Hide
import Derived.Deep.QuietTactic
import Derived.BigQuiet
namespace Go.Proofs.Ytmelfdajhnbnlaa
open Go.RowKit
set_option linter.unusedVariables false

/- the rounded magnitude; whether it fits; the signed result -/
def rq (q r d : Int) : Int := if d - r ≤ r then q + 1 else q
def mdOk (neg : Bool) (m : Int) : Bool := if neg then decide (m ≤ 9223372036854775808) else decide (m ≤ 9223372036854775807)
def mdVal (neg : Bool) (m : Int) : Int := if mdOk neg m = true then (if neg = true then -m else m) else 0

set_option maxHeartbeats 400000 in
theorem rounded_any (q r d : Int) (neg : Bool) (q0 : 0 ≤ q) (q1 : q ≤ 18446744073709551615) (r0 : 0 ≤ r) (r1 : r < d) (d1 : d ≤ 18446744073709551615) (w : World) :
    Calls Try.prog 21 #[.int .u64 q, .int .u64 r, .func (Fn.func 22) #[.int .u64 d] #[], .bool neg] w fun e w' => e = .returned (.tuple #[.int .i64 (mdVal neg (rq q r d)), .bool (mdOk neg (rq q r d))]) ∧ w = w' := by
  by_cases hu : d - r ≤ r
  · by_cases hm : q = 18446744073709551615
    · have fin : mdOk neg (rq q r d) = false := by cases neg <;> simp [mdOk, rq, hu, hm]
      have fin2 : mdVal neg (rq q r d) = 0 := by simp [mdVal, fin]
      rw [fin, fin2]
      clear fin fin2
      have hm' : (q == 18446744073709551615) = true := by simp [hm]
      clear hm
      go_enter Try.func21, Try.ntmps21
      go_wp2
      go_ret2
      exact ⟨rfl, rfl⟩
    · have hm' : (q == 18446744073709551615) = false := by simp [hm]
      have hq : q ≤ 18446744073709551614 := by omega
      have e1 : rq q r d = q + 1 := by simp [rq, hu]
      rw [e1]
      clear e1 hm
      cases neg
      · by_cases hs : q + 1 ≤ 9223372036854775807
        · have hv : mdVal false (q + 1) = q + 1 := by simp [mdVal, mdOk, hs]
          have ho : mdOk false (q + 1) = true := by simp [mdOk, hs]
          rw [hv, ho]; clear hv ho
          go_enter Try.func21, Try.ntmps21
          go_wp2
          go_ret2
          exact ⟨by simp, rfl⟩
        · have ho : mdOk false (q + 1) = false := by simp [mdOk, hs]
          have hv : mdVal false (q + 1) = 0 := by simp [mdVal, ho]
          rw [hv, ho]; clear hv ho
          go_enter Try.func21, Try.ntmps21
          go_wp2
          go_ret2
          exact ⟨by simp, rfl⟩
      · by_cases hs : q + 1 ≤ 9223372036854775808
        · have hv : mdVal true (q + 1) = -(q + 1) := by simp [mdVal, mdOk, hs]
          have ho : mdOk true (q + 1) = true := by simp [mdOk, hs]
          have hw : wrap64 (IntKind.u64.wrap (-(q + 1))) = -(q + 1) := by simp only [wrap64, IntKind.wrap_u64]; omega
          rw [hv, ho]; clear hv ho
          go_enter Try.func21, Try.ntmps21
          go_wp2
          go_ret2
          exact ⟨by first | rfl | (rw [hw]; rfl), rfl⟩
        · have ho : mdOk true (q + 1) = false := by simp [mdOk, hs]
          have hv : mdVal true (q + 1) = 0 := by simp [mdVal, ho]
          rw [hv, ho]; clear hv ho
          go_enter Try.func21, Try.ntmps21
          go_wp2
          go_ret2
          exact ⟨by simp, rfl⟩
  · have e1 : rq q r d = q := by simp [rq, hu]
    rw [e1]
    clear e1
    cases neg
    · by_cases hs : q ≤ 9223372036854775807
      · have hv : mdVal false (q) = q := by simp [mdVal, mdOk, hs]
        have ho : mdOk false (q) = true := by simp [mdOk, hs]
        rw [hv, ho]; clear hv ho
        go_enter Try.func21, Try.ntmps21
        go_wp2
        go_ret2
        exact ⟨by simp, rfl⟩
      · have ho : mdOk false (q) = false := by simp [mdOk, hs]
        have hv : mdVal false (q) = 0 := by simp [mdVal, ho]
        rw [hv, ho]; clear hv ho
        go_enter Try.func21, Try.ntmps21
        go_wp2
        go_ret2
        exact ⟨by simp, rfl⟩
    · by_cases hs : q ≤ 9223372036854775808
      · have hv : mdVal true (q) = -(q) := by simp [mdVal, mdOk, hs]
        have ho : mdOk true (q) = true := by simp [mdOk, hs]
        have hw : wrap64 (IntKind.u64.wrap (-(q))) = -(q) := by simp only [wrap64, IntKind.wrap_u64]; omega
        rw [hv, ho]; clear hv ho
        go_enter Try.func21, Try.ntmps21
        go_wp2
        go_ret2
        exact ⟨by first | rfl | (rw [hw]; rfl), rfl⟩
      · have ho : mdOk true (q) = false := by simp [mdOk, hs]
        have hv : mdVal true (q) = 0 := by simp [mdVal, ho]
        rw [hv, ho]; clear hv ho
        go_enter Try.func21, Try.ntmps21
        go_wp2
        go_ret2
        exact ⟨by simp, rfl⟩

end Go.Proofs.Ytmelfdajhnbnlaa
