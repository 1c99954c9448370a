
import Derived.Test.YtciaidlkhlgflaaR4
import Derived.Maps.AppendAt
import Derived.OwnWalk
import Derived.Laws.AppendOwn
import Derived.Laws.OwnMore
import Derived.Deep.AppendLies
import Derived.WalkKit
import Derived.WalkSpells
import Derived.WalkLawsBesides
import Derived.Lib.Hide
import Derived.Below
import Derived.Deep.QuietTactic
import Derived.BigQuiet
import Derived.Deep.RegionHeld3
import Derived.Deep.DrawnRows
import Derived.Deep.DeepFit
import Derived.IntWalk
namespace Go.Proofs.Ytciaidlkhlgflaa
open Go.RowKit
set_option linter.unusedVariables false
set_option linter.unusedSimpArgs false
attribute [local go_sem ↓] Go.wp_at_zero Go.wp_at_succ
attribute [local go_sem] rhoF_tmp rhoF_const rhoF_global rhoF_func
theorem lit_at (w : World) (l : List Value) (t : TypeId) (j : Nat) : (w.alloc (.cells l.toArray t)).cell? ⟨w.heap.size, j, none⟩ = l[j]? := by
  rw [cell_of_row _ _ j _ _ (0, 0) (heap_alloc_new _ _)]; simp

set_option maxHeartbeats 2000000 in
theorem same_ex (g h c d : Nat) (w : World) (hg : ∀ j, j < 16 → w.cell? ⟨g, j, none⟩ = [.int .i64 0, .int .i64 0, .int .i64 4, .int .i64 1, .int .i64 0, .int .i64 1, .int .i64 1, .int .i64 2, .int .i64 2, .int .i64 1, .int .i64 4, .int .i64 2, .int .i64 0, .int .i64 2, .int .i64 4, .int .i64 4][j]?) (hh : ∀ j, j < 16 → w.cell? ⟨h, j, none⟩ = [.int .i64 0, .int .i64 0, .int .i64 4, .int .i64 1, .int .i64 0, .int .i64 1, .int .i64 1, .int .i64 2, .int .i64 2, .int .i64 1, .int .i64 4, .int .i64 2, .int .i64 0, .int .i64 2, .int .i64 4, .int .i64 4][j]?) :
    Calls Try.prog 10 #[.slice (some ⟨g, 0, none⟩) 4 c, .slice (some ⟨h, 0, none⟩) 4 d] w fun e w' => e = .returned (.bool true) ∧ ∃ nd, w' = w.drewN nd := by
  go_enter Try.func10, Try.ntmps10
  go_wp2
  go_loopw [5] (fun k wr => ∃ j : Nat, ∃ nd : Nat, j ≤ 4 ∧ k = .int .i64 (j : Int) ∧ wr = w.drewN nd) (fun k _ => (4 - intOf k).toNat)
  case atStart => exact ⟨0, 0, by omega, rfl, rfl⟩
  case round =>
    obtain ⟨j, nd, hj, rfl, rfl⟩ := hrel
    obtain rfl | rfl | rfl | rfl | rfl : j = 0 ∨ j = 1 ∨ j = 2 ∨ j = 3 ∨ j = 4 := by omega
    · rw [show ((0 : Nat) : Int) = 0 from rfl]
      have kg0 := hg 0 (by omega)
      have kh0 := hh 0 (by omega)
      have kg1 := hg 1 (by omega)
      have kh1 := hh 1 (by omega)
      have kg2 := hg 2 (by omega)
      have kh2 := hh 2 (by omega)
      have kg3 := hg 3 (by omega)
      have kh3 := hh 3 (by omega)
      simp only [List.getElem?_cons_zero, List.getElem?_cons_succ] at kg0 kg1 kg2 kg3 kh0 kh1 kh2 kh3
      clear hg hh
      go_wp2
      go_quiet (fail)
      go_wp2
      go_roundw
      case rel => exact ⟨1, _, by omega, rfl, rfl⟩
      case measure => simp [intOf]
    · rw [show ((1 : Nat) : Int) = 1 from rfl]
      have kg0 := hg 4 (by omega)
      have kh0 := hh 4 (by omega)
      have kg1 := hg 5 (by omega)
      have kh1 := hh 5 (by omega)
      have kg2 := hg 6 (by omega)
      have kh2 := hh 6 (by omega)
      have kg3 := hg 7 (by omega)
      have kh3 := hh 7 (by omega)
      simp only [List.getElem?_cons_zero, List.getElem?_cons_succ] at kg0 kg1 kg2 kg3 kh0 kh1 kh2 kh3
      clear hg hh
      go_wp2
      go_quiet (fail)
      go_wp2
      go_roundw
      case rel => exact ⟨2, _, by omega, rfl, rfl⟩
      case measure => simp [intOf]
    · rw [show ((2 : Nat) : Int) = 2 from rfl]
      have kg0 := hg 8 (by omega)
      have kh0 := hh 8 (by omega)
      have kg1 := hg 9 (by omega)
      have kh1 := hh 9 (by omega)
      have kg2 := hg 10 (by omega)
      have kh2 := hh 10 (by omega)
      have kg3 := hg 11 (by omega)
      have kh3 := hh 11 (by omega)
      simp only [List.getElem?_cons_zero, List.getElem?_cons_succ] at kg0 kg1 kg2 kg3 kh0 kh1 kh2 kh3
      clear hg hh
      go_wp2
      go_quiet (fail)
      go_wp2
      go_roundw
      case rel => exact ⟨3, _, by omega, rfl, rfl⟩
      case measure => simp [intOf]
    · rw [show ((3 : Nat) : Int) = 3 from rfl]
      have kg0 := hg 12 (by omega)
      have kh0 := hh 12 (by omega)
      have kg1 := hg 13 (by omega)
      have kh1 := hh 13 (by omega)
      have kg2 := hg 14 (by omega)
      have kh2 := hh 14 (by omega)
      have kg3 := hg 15 (by omega)
      have kh3 := hh 15 (by omega)
      simp only [List.getElem?_cons_zero, List.getElem?_cons_succ] at kg0 kg1 kg2 kg3 kh0 kh1 kh2 kh3
      clear hg hh
      go_wp2
      go_quiet (fail)
      go_wp2
      go_roundw
      case rel => exact ⟨4, _, by omega, rfl, rfl⟩
      case measure => simp [intOf]
    · rw [show ((4 : Nat) : Int) = 4 from rfl]
      clear hg hh
      go_wp2
      go_ret
      exact ⟨rfl, _, rfl⟩

set_option maxHeartbeats 2000000 in
theorem rex_any (w : World) : Calls Try.prog 13 #[] w fun e w' => e = .returned (.bool true) ∧ Below w.heap.size w w' := by
  have ca := fun w => area_any 0 0 4 4 w
  rw [show (cn (eR 0 0 4 4) 4 - cn (eR 0 0 4 4) 0) * (cn (eR 0 0 4 4) 4 - cn (eR 0 0 4 4) 0) = 16 by decide] at ca
  go_enter Try.func13, Try.ntmps13
  go_wp2_with (first | (go_at_call 11; (with_reducible refine (subtract_ex _).mono ?_); rintro e w1 ⟨v, rfl, hO, hB⟩; obtain ⟨g, c, rfl, hwg, hgl⟩ := hO.form (by omega); have hne : ¬ g = w1.heap.size := (by omega); have hne2 : ¬ w1.heap.size = g := (by omega); have hO1 := Lib.hid hO; have hB1 := Lib.hid hB; clear hO hB) | (go_at_call 10; (with_reducible refine (same_ex _ _ _ _ _ (fun j hj => (World.ownsRow.cellAt (hO1.out.alloc _) j hj)) (fun j hj => lit_at _ _ _ j)).mono ?_); rintro e w2 ⟨rfl, nd, rfl⟩) | (go_at_call 18; (with_reducible refine (ca _).mono ?_); rintro e w3 ⟨rfl, hb3⟩))
  go_ret
  refine ⟨rfl, ?_⟩
  exact bel_step (below_drewN (Below.alloc hB1.out hB1.out.size _) _) hb3
end Go.Proofs.Ytciaidlkhlgflaa
