import Derived.Test.YtcklplodbdbciaaEnv
import Derived.Test.YtcklplodbdbciaaG1
import Derived.WalkKit
import Derived.WalkMore
import Derived.WalkSpells
import Derived.WalkLawsBesides
import Derived.Lib.Hide
import Derived.Below
import Derived.Deep.QuietTactic
import Derived.BigQuiet
import Derived.Deep.RegionHeld3
import Derived.Deep.DrawnRows
import Derived.Deep.DeepFit
import Derived.IntWalk
namespace Go.Proofs.Ytcklplodbdbciaa
open Go.RowKit
set_option linter.unusedVariables false
set_option linter.unusedSimpArgs false
attribute [local go_sem ↓] Go.wp_at_zero Go.wp_at_succ
attribute [local go_sem] rhoF_tmp rhoF_const rhoF_global rhoF_func

/- two stops, laid at a block -/
def Two (w : World) (g : Nat) (ao ar ag ab aa bo br bg bb ba : Int) : Prop := w.cell? ⟨g, 0, none⟩ = some (.int .i64 ao) ∧ w.frozen? ⟨g, 0, none⟩ = false ∧ w.cell? ⟨g, 1, none⟩ = some (.int .u8 ar) ∧ w.frozen? ⟨g, 1, none⟩ = false ∧ w.cell? ⟨g, 2, none⟩ = some (.int .u8 ag) ∧ w.frozen? ⟨g, 2, none⟩ = false ∧ w.cell? ⟨g, 3, none⟩ = some (.int .u8 ab) ∧ w.frozen? ⟨g, 3, none⟩ = false ∧ w.cell? ⟨g, 4, none⟩ = some (.int .u8 aa) ∧ w.frozen? ⟨g, 4, none⟩ = false ∧ w.cell? ⟨g, 5, none⟩ = some (.int .i64 bo) ∧ w.frozen? ⟨g, 5, none⟩ = false ∧ w.cell? ⟨g, 6, none⟩ = some (.int .u8 br) ∧ w.frozen? ⟨g, 6, none⟩ = false ∧ w.cell? ⟨g, 7, none⟩ = some (.int .u8 bg) ∧ w.frozen? ⟨g, 7, none⟩ = false ∧ w.cell? ⟨g, 8, none⟩ = some (.int .u8 bb) ∧ w.frozen? ⟨g, 8, none⟩ = false ∧ w.cell? ⟨g, 9, none⟩ = some (.int .u8 ba) ∧ w.frozen? ⟨g, 9, none⟩ = false
theorem Two.below {w w1 : World} {g : Nat} {ao ar ag ab aa bo br bg bb ba : Int} (h : Two w g ao ar ag ab aa bo br bg bb ba) (hb : Below w.heap.size w w1) : Two w1 g ao ar ag ab aa bo br bg bb ba := by
  obtain ⟨ka0, ga0, ka1, ga1, ka2, ga2, ka3, ga3, ka4, ga4, ka5, ga5, ka6, ga6, ka7, ga7, ka8, ga8, ka9, ga9⟩ := h
  exact ⟨bcs hb ka0, bfs hb ka0 ga0, bcs hb ka1, bfs hb ka1 ga1, bcs hb ka2, bfs hb ka2 ga2, bcs hb ka3, bfs hb ka3 ga3, bcs hb ka4, bfs hb ka4 ga4, bcs hb ka5, bfs hb ka5 ga5, bcs hb ka6, bfs hb ka6 ga6, bcs hb ka7, bfs hb ka7 ga7, bcs hb ka8, bfs hb ka8 ga8, bcs hb ka9, bfs hb ka9 ga9⟩
def v2 (ao bo : Int) : Bool := vOff ao && (vOff bo && decide (ao ≤ bo))

set_option maxHeartbeats 4000000 in
theorem valid2_any (g c : Nat) (ao ar ag ab aa bo br bg bb ba : Int) (w : World) (hT : Two w g ao ar ag ab aa bo br bg bb ba) :
    Calls Try.prog 9 #[.slice (some ⟨g, 0, none⟩) 2 c] w fun e w' => e = .returned (.bool (v2 ao bo)) ∧ Below w.heap.size w w' := by
  have q1 := fun w => vOff_any ao w
  have q2 := fun w => vOff_any bo w
  cases ha : vOff ao with
  | false =>
    rw [show v2 ao bo = false by simp [v2, ha]]
    rw [ha] at q1
    clear ha
    go_enter Try.func9, Try.ntmps9
    go_wp2
    go_loopw [15] (fun k wr => ∃ j : Nat, j ≤ 0 ∧ k = .int .i64 (j : Int) ∧ Below w.heap.size w wr) (fun k _ => (2 - intOf k).toNat)
    case atStart => exact ⟨0, by omega, rfl, Below.refl _ _⟩
    case round =>
      obtain ⟨j, hj, rfl, hb⟩ := hrel
      obtain rfl : j = 0 := by omega
      rw [show ((0 : Nat) : Int) = 0 from rfl]
      obtain ⟨ka0, ga0, ka1, ga1, ka2, ga2, ka3, ga3, ka4, ga4, ka5, ga5, ka6, ga6, ka7, ga7, ka8, ga8, ka9, ga9⟩ := hT.below hb
      have hg := qne ka0
      have hz := hb.size
      have hg1 : ¬ wr.heap.size = g := fun h => hg h.symm
      have hgl := qlt ka0
      go_wp2
      go_quiet (first | with_reducible exact Calls.quiet_of_same (q1 _) | with_reducible exact Calls.quiet_of_same (q2 _))
      go_wp2
      go_ret
      exact ⟨rfl, by repeat (first | with_reducible exact hb | with_reducible apply below_drewN | with_reducible apply Below.drew | (with_reducible refine Below.alloc ?_ (by first | (simp; done) | (simp; omega) | omega) _) | (with_reducible refine Below.setCell ?_ (by first | (simp; done) | (simp; omega) | omega) _))⟩
  | true =>
    rw [ha] at q1
    cases hbo : vOff bo with
    | false =>
      rw [show v2 ao bo = false by simp [v2, hbo]]
      rw [hbo] at q2
      clear ha hbo
      go_enter Try.func9, Try.ntmps9
      go_wp2
      go_loopw [15] (fun k wr => ∃ j : Nat, j ≤ 1 ∧ k = .int .i64 (j : Int) ∧ Below w.heap.size w wr) (fun k _ => (2 - intOf k).toNat)
      case atStart => exact ⟨0, by omega, rfl, Below.refl _ _⟩
      case round =>
        obtain ⟨j, hj, rfl, hb⟩ := hrel
        obtain rfl | rfl : j = 0 ∨ j = 1 := by omega
        · rw [show ((0 : Nat) : Int) = 0 from rfl]
          obtain ⟨ka0, ga0, ka1, ga1, ka2, ga2, ka3, ga3, ka4, ga4, ka5, ga5, ka6, ga6, ka7, ga7, ka8, ga8, ka9, ga9⟩ := hT.below hb
          have hg := qne ka0
          have hz := hb.size
          have hg1 : ¬ wr.heap.size = g := fun h => hg h.symm
          have hgl := qlt ka0
          go_wp2
          go_quiet (first | with_reducible exact Calls.quiet_of_same (q1 _) | with_reducible exact Calls.quiet_of_same (q2 _))
          go_wp2
          go_roundw
          case rel => exact ⟨1, by omega, rfl, by repeat (first | with_reducible exact hb | with_reducible apply below_drewN | with_reducible apply Below.drew | (with_reducible refine Below.alloc ?_ (by first | (simp; done) | (simp; omega) | omega) _) | (with_reducible refine Below.setCell ?_ (by first | (simp; done) | (simp; omega) | omega) _))⟩
          case measure => simp [intOf]
        · rw [show ((1 : Nat) : Int) = 1 from rfl]
          obtain ⟨ka0, ga0, ka1, ga1, ka2, ga2, ka3, ga3, ka4, ga4, ka5, ga5, ka6, ga6, ka7, ga7, ka8, ga8, ka9, ga9⟩ := hT.below hb
          have hg := qne ka0
          have hz := hb.size
          have hg1 : ¬ wr.heap.size = g := fun h => hg h.symm
          have hgl := qlt ka0
          go_wp2
          go_quiet (first | with_reducible exact Calls.quiet_of_same (q1 _) | with_reducible exact Calls.quiet_of_same (q2 _))
          go_wp2
          go_ret
          exact ⟨rfl, by repeat (first | with_reducible exact hb | with_reducible apply below_drewN | with_reducible apply Below.drew | (with_reducible refine Below.alloc ?_ (by first | (simp; done) | (simp; omega) | omega) _) | (with_reducible refine Below.setCell ?_ (by first | (simp; done) | (simp; omega) | omega) _))⟩
    | true =>
      rw [hbo] at q2
      by_cases hab : ao ≤ bo
      · rw [show v2 ao bo = true by simp [v2, ha, hbo, hab]]
        clear ha hbo
        have tt : decide (bo < ao) = false := by simpa using hab
        clear hab
        go_enter Try.func9, Try.ntmps9
        go_wp2
        go_loopw [15] (fun k wr => ∃ j : Nat, j ≤ 2 ∧ k = .int .i64 (j : Int) ∧ Below w.heap.size w wr) (fun k _ => (2 - intOf k).toNat)
        case atStart => exact ⟨0, by omega, rfl, Below.refl _ _⟩
        case round =>
          obtain ⟨j, hj, rfl, hb⟩ := hrel
          obtain rfl | rfl | rfl : j = 0 ∨ j = 1 ∨ j = 2 := by omega
          · rw [show ((0 : Nat) : Int) = 0 from rfl]
            obtain ⟨ka0, ga0, ka1, ga1, ka2, ga2, ka3, ga3, ka4, ga4, ka5, ga5, ka6, ga6, ka7, ga7, ka8, ga8, ka9, ga9⟩ := hT.below hb
            have hg := qne ka0
            have hz := hb.size
            have hg1 : ¬ wr.heap.size = g := fun h => hg h.symm
            have hgl := qlt ka0
            go_wp2
            go_quiet (first | with_reducible exact Calls.quiet_of_same (q1 _) | with_reducible exact Calls.quiet_of_same (q2 _))
            go_wp2
            go_roundw
            case rel => exact ⟨1, by omega, rfl, by repeat (first | with_reducible exact hb | with_reducible apply below_drewN | with_reducible apply Below.drew | (with_reducible refine Below.alloc ?_ (by first | (simp; done) | (simp; omega) | omega) _) | (with_reducible refine Below.setCell ?_ (by first | (simp; done) | (simp; omega) | omega) _))⟩
            case measure => simp [intOf]
          · rw [show ((1 : Nat) : Int) = 1 from rfl]
            obtain ⟨ka0, ga0, ka1, ga1, ka2, ga2, ka3, ga3, ka4, ga4, ka5, ga5, ka6, ga6, ka7, ga7, ka8, ga8, ka9, ga9⟩ := hT.below hb
            have hg := qne ka0
            have hz := hb.size
            have hg1 : ¬ wr.heap.size = g := fun h => hg h.symm
            have hgl := qlt ka0
            go_wp2
            go_quiet (first | with_reducible exact Calls.quiet_of_same (q1 _) | with_reducible exact Calls.quiet_of_same (q2 _))
            go_wp2
            go_roundw
            case rel => exact ⟨2, by omega, rfl, by repeat (first | with_reducible exact hb | with_reducible apply below_drewN | with_reducible apply Below.drew | (with_reducible refine Below.alloc ?_ (by first | (simp; done) | (simp; omega) | omega) _) | (with_reducible refine Below.setCell ?_ (by first | (simp; done) | (simp; omega) | omega) _))⟩
            case measure => simp [intOf]
          · rw [show ((2 : Nat) : Int) = 2 from rfl]
            go_wp2
            go_ret
            exact ⟨rfl, hb⟩
      · rw [show v2 ao bo = false by simp [v2, hab]]
        clear ha hbo
        have tt : decide (bo < ao) = true := by simp; omega
        clear hab
        go_enter Try.func9, Try.ntmps9
        go_wp2
        go_loopw [15] (fun k wr => ∃ j : Nat, j ≤ 1 ∧ k = .int .i64 (j : Int) ∧ Below w.heap.size w wr) (fun k _ => (2 - intOf k).toNat)
        case atStart => exact ⟨0, by omega, rfl, Below.refl _ _⟩
        case round =>
          obtain ⟨j, hj, rfl, hb⟩ := hrel
          obtain rfl | rfl : j = 0 ∨ j = 1 := by omega
          · rw [show ((0 : Nat) : Int) = 0 from rfl]
            obtain ⟨ka0, ga0, ka1, ga1, ka2, ga2, ka3, ga3, ka4, ga4, ka5, ga5, ka6, ga6, ka7, ga7, ka8, ga8, ka9, ga9⟩ := hT.below hb
            have hg := qne ka0
            have hz := hb.size
            have hg1 : ¬ wr.heap.size = g := fun h => hg h.symm
            have hgl := qlt ka0
            go_wp2
            go_quiet (first | with_reducible exact Calls.quiet_of_same (q1 _) | with_reducible exact Calls.quiet_of_same (q2 _))
            go_wp2
            go_roundw
            case rel => exact ⟨1, by omega, rfl, by repeat (first | with_reducible exact hb | with_reducible apply below_drewN | with_reducible apply Below.drew | (with_reducible refine Below.alloc ?_ (by first | (simp; done) | (simp; omega) | omega) _) | (with_reducible refine Below.setCell ?_ (by first | (simp; done) | (simp; omega) | omega) _))⟩
            case measure => simp [intOf]
          · rw [show ((1 : Nat) : Int) = 1 from rfl]
            obtain ⟨ka0, ga0, ka1, ga1, ka2, ga2, ka3, ga3, ka4, ga4, ka5, ga5, ka6, ga6, ka7, ga7, ka8, ga8, ka9, ga9⟩ := hT.below hb
            have hg := qne ka0
            have hz := hb.size
            have hg1 : ¬ wr.heap.size = g := fun h => hg h.symm
            have hgl := qlt ka0
            go_wp2
            go_quiet (first | with_reducible exact Calls.quiet_of_same (q1 _) | with_reducible exact Calls.quiet_of_same (q2 _))
            go_wp2
            go_ret
            exact ⟨rfl, by repeat (first | with_reducible exact hb | with_reducible apply below_drewN | with_reducible apply Below.drew | (with_reducible refine Below.alloc ?_ (by first | (simp; done) | (simp; omega) | omega) _) | (with_reducible refine Below.setCell ?_ (by first | (simp; done) | (simp; omega) | omega) _))⟩

set_option maxHeartbeats 4000000 in
theorem last2_any (g c : Nat) (ao ar ag ab aa bo br bg bb ba t : Int) (w : World) (hT : Two w g ao ar ag ab aa bo br bg bb ba) (h0 : ao ≤ t) :
    Calls Try.prog 19 #[.slice (some ⟨g, 0, none⟩) 2 c, .int .i64 t] w fun e w' => e = .returned (.int .i64 (if t < bo then 0 else 1)) ∧ Below w.heap.size w w' := by
  have t0 : decide (t < ao) = false := by simpa using h0
  by_cases h1 : t < bo
  · rw [if_pos h1]
    have t1 : decide (t < bo) = true := by simpa using h1
    clear h0 h1
    go_enter Try.func19, Try.ntmps19
    go_wp2
    go_step3
    go_wp2
    go_step3
    go_wp2
    go_loopw [5, 10] (fun v k wr => ∃ j : Nat, j ≤ 1 ∧ k = .int .i64 (j : Int) ∧ v = .int .i64 ((j : Int) - 1) ∧ Below w.heap.size w wr) (fun _ k _ => (2 - intOf k).toNat)
    case atStart => exact ⟨0, by omega, rfl, by simp, Below.refl _ _⟩
    case round =>
      obtain ⟨j, hj, rfl, rfl, hb⟩ := hrel
      obtain rfl | rfl : j = 0 ∨ j = 1 := by omega
      · rw [show ((0 : Nat) : Int) = 0 from rfl]
        obtain ⟨ka0, ga0, ka1, ga1, ka2, ga2, ka3, ga3, ka4, ga4, ka5, ga5, ka6, ga6, ka7, ga7, ka8, ga8, ka9, ga9⟩ := hT.below hb
        have hg := qne ka0
        have hz := hb.size
        have hg1 : ¬ wr.heap.size = g := fun h => hg h.symm
        have hgl := qlt ka0
        go_wp2
        go_roundw
        case rel => exact ⟨1, by omega, rfl, by simp, by repeat (first | with_reducible exact hb | with_reducible apply below_drewN | with_reducible apply Below.drew | (with_reducible refine Below.alloc ?_ (by first | (simp; done) | (simp; omega) | omega) _) | (with_reducible refine Below.setCell ?_ (by first | (simp; done) | (simp; omega) | omega) _))⟩
        case measure => simp [intOf]
      · rw [show ((1 : Nat) : Int) = 1 from rfl]
        obtain ⟨ka0, ga0, ka1, ga1, ka2, ga2, ka3, ga3, ka4, ga4, ka5, ga5, ka6, ga6, ka7, ga7, ka8, ga8, ka9, ga9⟩ := hT.below hb
        have hg := qne ka0
        have hz := hb.size
        have hg1 : ¬ wr.heap.size = g := fun h => hg h.symm
        have hgl := qlt ka0
        go_wp2
        try rw [Exit.noGoto_ret]
        go_ret
        exact ⟨rfl, by repeat (first | with_reducible exact hb | with_reducible apply below_drewN | with_reducible apply Below.drew | (with_reducible refine Below.alloc ?_ (by first | (simp; done) | (simp; omega) | omega) _) | (with_reducible refine Below.setCell ?_ (by first | (simp; done) | (simp; omega) | omega) _))⟩
  · rw [if_neg h1]
    have t1 : decide (t < bo) = false := by simpa using h1
    clear h0 h1
    go_enter Try.func19, Try.ntmps19
    go_wp2
    go_step3
    go_wp2
    go_step3
    go_wp2
    go_loopw [5, 10] (fun v k wr => ∃ j : Nat, j ≤ 2 ∧ k = .int .i64 (j : Int) ∧ v = .int .i64 ((j : Int) - 1) ∧ Below w.heap.size w wr) (fun _ k _ => (2 - intOf k).toNat)
    case atStart => exact ⟨0, by omega, rfl, by simp, Below.refl _ _⟩
    case round =>
      obtain ⟨j, hj, rfl, rfl, hb⟩ := hrel
      obtain rfl | rfl | rfl : j = 0 ∨ j = 1 ∨ j = 2 := by omega
      · rw [show ((0 : Nat) : Int) = 0 from rfl]
        obtain ⟨ka0, ga0, ka1, ga1, ka2, ga2, ka3, ga3, ka4, ga4, ka5, ga5, ka6, ga6, ka7, ga7, ka8, ga8, ka9, ga9⟩ := hT.below hb
        have hg := qne ka0
        have hz := hb.size
        have hg1 : ¬ wr.heap.size = g := fun h => hg h.symm
        have hgl := qlt ka0
        go_wp2
        go_roundw
        case rel => exact ⟨1, by omega, rfl, by simp, by repeat (first | with_reducible exact hb | with_reducible apply below_drewN | with_reducible apply Below.drew | (with_reducible refine Below.alloc ?_ (by first | (simp; done) | (simp; omega) | omega) _) | (with_reducible refine Below.setCell ?_ (by first | (simp; done) | (simp; omega) | omega) _))⟩
        case measure => simp [intOf]
      · rw [show ((1 : Nat) : Int) = 1 from rfl]
        obtain ⟨ka0, ga0, ka1, ga1, ka2, ga2, ka3, ga3, ka4, ga4, ka5, ga5, ka6, ga6, ka7, ga7, ka8, ga8, ka9, ga9⟩ := hT.below hb
        have hg := qne ka0
        have hz := hb.size
        have hg1 : ¬ wr.heap.size = g := fun h => hg h.symm
        have hgl := qlt ka0
        go_wp2
        go_roundw
        case rel => exact ⟨2, by omega, rfl, by simp, by repeat (first | with_reducible exact hb | with_reducible apply below_drewN | with_reducible apply Below.drew | (with_reducible refine Below.alloc ?_ (by first | (simp; done) | (simp; omega) | omega) _) | (with_reducible refine Below.setCell ?_ (by first | (simp; done) | (simp; omega) | omega) _))⟩
        case measure => simp [intOf]
      · rw [show ((2 : Nat) : Int) = 2 from rfl]
        go_wp2
        try rw [Exit.noGoto_ret]
        go_ret
        exact ⟨rfl, by repeat (first | with_reducible exact hb | with_reducible apply below_drewN | with_reducible apply Below.drew | (with_reducible refine Below.alloc ?_ (by first | (simp; done) | (simp; omega) | omega) _) | (with_reducible refine Below.setCell ?_ (by first | (simp; done) | (simp; omega) | omega) _))⟩
end Go.Proofs.Ytcklplodbdbciaa
