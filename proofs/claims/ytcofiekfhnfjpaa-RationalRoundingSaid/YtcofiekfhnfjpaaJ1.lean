
import Derived.Test.YtcofiekfhnfjpaaUA
import Derived.StillTailTactics
import Derived.Deep.RegionHeld3
namespace Go.Proofs.Ytcofiekfhnfjpaa
open Go.RowKit
set_option linter.unusedVariables false
set_option linter.unusedSimpArgs false
attribute [local go_sem ↓] Go.wp_at_zero Go.wp_at_succ
/-- Numbers in machine words: what a slice of at most two digits holds. -/
def smB (l : List (BitVec 32)) : Bool := decide (l.length ≤ 2) && decide (valD l < 9223372036854775808)
theorem mag_any (z : Int) (w : World) (h0 : -9223372036854775807 ≤ z) (h1 : z ≤ 9223372036854775807) :
    Calls Try.prog 98 #[.int .i64 z] w fun e w' => e = .returned (.int .u64 (z.natAbs : Int)) ∧ w = w' := by
  rcases Int.lt_or_le z 0 with h | h
  · obtain ⟨y, hy⟩ : ∃ y : Nat, z.natAbs = y := ⟨_, rfl⟩
    rw [hy]
    have e1 : -z = (y : Int) := by omega
    have e2 : z = -(y : Int) := by omega
    subst e2
    go_enter Try.func98, Try.ntmps98
    go_wp2
    go_ret
    exact ⟨by first | rfl | (simp; done), rfl⟩
  · obtain ⟨y, rfl⟩ := Int.eq_ofNat_of_zero_le h
    go_enter Try.func98, Try.ntmps98
    go_wp2
    go_ret
    exact ⟨rfl, rfl⟩
theorem or_high (x y : BitVec 32) : bits .or .u64 ((y.toNat : Int) * 4294967296) (x.toNat : Int) = ((x.toNat + y.toNat * 4294967296 : Nat) : Int) := by
  have hx := x.isLt
  have hy := y.isLt
  rw [show ((y.toNat : Int) * 4294967296) = ((y.toNat * 4294967296 : Nat) : Int) by omega, u64_or_nat _ _ (by omega) (by omega), nat_join 32 _ _ (by omega) (by omega)]
  omega
theorem smB_long {l : List (BitVec 32)} (h : 2 < l.length) : smB l = false := by unfold smB; simp; omega
theorem smB_short {l : List (BitVec 32)} (h : l.length ≤ 2) : smB l = decide (valD l < 9223372036854775808) := by unfold smB; simp [h]
def SmP (w : World) (s : Bool) (l : List (BitVec 32)) (e : Ending) (w' : World) : Prop := e = .returned (.tuple #[.int .i64 (if smB l = true then zv s (valD l) else 0), .bool (smB l)]) ∧ Below w.heap.size w w'
theorem smp_big {w w' : World} {s : Bool} {l : List (BitVec 32)} (h : smB l = false) (hb : Below w.heap.size w w') : SmP w s l (.returned (.tuple #[.int .i64 0, .bool false])) w' := by
  unfold SmP; rw [h]; exact ⟨rfl, hb⟩
theorem smp_pos {w w' : World} {x : Nat} {l : List (BitVec 32)} (h : smB l = true) (hx : valD l = x) (hb : Below w.heap.size w w') : SmP w false l (.returned (.tuple #[.int .i64 x, .bool true])) w' := by
  unfold SmP; rw [h, hx]; exact ⟨rfl, hb⟩
theorem smp_neg {w w' : World} {x : Nat} {l : List (BitVec 32)} (h : smB l = true) (hx : valD l = x) (hb : Below w.heap.size w w') : SmP w true l (.returned (.tuple #[.int .i64 (-(x : Int)), .bool true])) w' := by
  unfold SmP; rw [h, hx]; exact ⟨rfl, hb⟩
theorem smi_any (s : Bool) (a : Option Addr) (n c : Nat) (l : List (BitVec 32)) (w : World) (hn : l.length = n) (hl : n ≤ 1000000) (hr : Rw w a l) :
    Calls Try.prog 107 #[.agg #[.bool s, .slice a n c]] w (SmP w s l) := by
  subst hn
  rcases Nat.lt_or_ge 2 l.length with h | h
  · have hb1 := Below.alloc (Below.refl w.heap.size w) (Nat.le_refl _) (.cells #[Value.bool s, Value.slice a l.length c] 24)
    have e1 : ((l.length : Int) == 0) = false := by rw [beq_eq_false_iff_ne]; omega
    have e2 : ((l.length : Int) == 1) = false := by rw [beq_eq_false_iff_ne]; omega
    have e3 : ((l.length : Int) == 2) = false := by rw [beq_eq_false_iff_ne]; omega
    have HB := Lib.hid (smB_long h)
    go_enter Try.func107, Try.ntmps107
    go_wp2
    go_ret2
    exact smp_big HB.out hb1
  · have HB := Lib.hid (smB_short h)
    rcases l with _ | ⟨x, _ | ⟨y, _ | ⟨z, t⟩⟩⟩
    · have hb1 := Below.alloc (Below.refl w.heap.size w) (Nat.le_refl _) (.cells #[Value.bool s, Value.slice a 0 c] 24)
      cases s
      all_goals
        go_enter Try.func107, Try.ntmps107
        go_wp2
        go_ret2
      · exact smp_pos (x := 0) HB.out rfl hb1
      · exact smp_neg (x := 0) HB.out rfl hb1
    · have hb1 := Below.alloc (Below.refl w.heap.size w) (Nat.le_refl _) (.cells #[Value.bool s, Value.slice a 1 c] 24)
      have hrb := hr.below hb1
      obtain ⟨ad, rfl, hc⟩ := hrb 0 (by simp)
      rw [show ad.add 0 = ad from rfl, List.getElem_cons_zero] at hc
      have hx := x.isLt
      have hv : valD [x] = x.toNat := by simp [valD_cons, valD_nil]
      have HB2 : Hid (smB [x] = true) := by show _ = _; rw [HB.out, hv]; simp; omega
      have HV := Lib.hid hv
      clear hv
      cases s
      all_goals
        go_enter Try.func107, Try.ntmps107
        go_wp2
        go_ret2
      · exact smp_pos HB2.out HV.out hb1
      · exact smp_neg HB2.out HV.out hb1
    · have hb1 := Below.alloc (Below.refl w.heap.size w) (Nat.le_refl _) (.cells #[Value.bool s, Value.slice a 2 c] 24)
      have hrb := hr.below hb1
      obtain ⟨ad, rfl, hc⟩ := hrb 0 (by simp)
      obtain ⟨ad', e', hc2⟩ := hrb 1 (by simp)
      cases e'
      rw [show ad.add 0 = ad from rfl, List.getElem_cons_zero] at hc
      simp only [List.getElem_cons_succ, List.getElem_cons_zero] at hc2
      rw [show ad.add 1 = ⟨ad.block, ad.off + 1, none⟩ from rfl] at hc2
      have hx := x.isLt
      have hy := y.isLt
      have hor := or_high x y
      obtain ⟨v, hv⟩ : ∃ v, x.toNat + y.toNat * 4294967296 = v := ⟨_, rfl⟩
      rw [hv] at hor
      have hvl : v < 18446744073709551616 := by omega
      have hvd : valD [x, y] = v := by rw [← hv]; simp [valD_cons, valD_nil]; omega
      rw [hvd] at HB
      have HVD := Lib.hid hvd
      clear hvd hv
      rcases Nat.lt_or_ge v 9223372036854775808 with h9 | h9
      · have HB2 : Hid (smB [x, y] = true) := by show _ = _; rw [HB.out]; simp; omega
        cases s
        all_goals
          go_enter Try.func107, Try.ntmps107
          go_wp2
          go_quiet (fail)
          go_wp2
          go_ret2
        · exact smp_pos HB2.out HVD.out (below_drewN hb1 _)
        · exact smp_neg HB2.out HVD.out (below_drewN hb1 _)
      · have HB2 : Hid (smB [x, y] = false) := by show _ = _; rw [HB.out]; simp; omega
        go_enter Try.func107, Try.ntmps107
        go_wp2
        go_quiet (fail)
        go_wp2
        go_ret2
        exact smp_big HB2.out (below_drewN hb1 _)
    · simp at h
end Go.Proofs.Ytcofiekfhnfjpaa
