import Derived.Test.YtdhajiaepaamgaaDoorB5
import Derived.Test.YtdhajiaepaamgaaDoorBN
import Derived.WalkKit
import Derived.WalkSpells
import Derived.WalkLawsBesides
import Derived.Lib.Hide
import Derived.Below
import Derived.Deep.QuietTactic
import Derived.BigQuiet
import Derived.Deep.RegionHeld3
import Derived.Deep.DrawnRows
import Derived.Deep.DeepFit
import Derived.IntWalk
namespace Go.Proofs.YtdhajiaepaamgaaDoor
open Go.RowKit
set_option linter.unusedVariables false
set_option linter.unusedSimpArgs false
attribute [local go_sem ↓] Go.wp_at_zero Go.wp_at_succ
attribute [local go_sem] rhoF_tmp rhoF_const rhoF_global rhoF_func

set_option maxHeartbeats 4000000 in
theorem bex_any (w : World) (hN : Nm w) : Calls Tryd.prog 20 #[] w fun e w' => e = .returned (.bool true) ∧ Below w.heap.size w w' := by
  have cb := fun w => blend_any 2 128 128 128 255 128 128 128 255 (by omega) (by omega) (by omega) (by omega) (by omega) (by omega) (by omega) (by omega) (by omega) (by omega) (by omega) (by omega) (by omega) (by omega) (by omega) (by omega) (by omega) (by omega) w
  rw [show bc 2 (min 128 255) 255 (min 128 255) 255 = 64 by decide, show divN (unc 255 255 255 255 + 255 * 255) = 255 by decide] at cb
  have cn := fun w h => byName_any ⟨#[104, 97, 114, 100, 108, 105, 103, 104, 116]⟩ w h
  rw [show bn nsT (ByteArray.toList ⟨#[104, 97, 114, 100, 108, 105, 103, 104, 116]⟩) 0 = (9, true) by decide +kernel] at cn
  have cm := fun w h => modeName_any 3 w h
  rw [show nmV 3 = ⟨#[115, 99, 114, 101, 101, 110]⟩ by decide] at cm
  have cv := fun w => validM_any 1 w
  rw [show (decide ((1 : Int) ≤ 1) && decide ((1 : Int) ≤ 13)) = true by decide] at cv
  go_enter Tryd.func20, Tryd.ntmps20
  go_wp2_with (first | (go_at_call 14; (with_reducible refine (cn _ (hN.below (by repeat (first | with_reducible exact Below.refl _ _ | fail | with_reducible apply below_drewN | with_reducible apply Below.drew | (with_reducible refine Below.alloc ?_ (by first | (simp; done) | (simp; omega) | omega) _) | (with_reducible refine Below.setCell ?_ (by first | (simp; done) | (simp; omega) | omega) _))))).mono ?_); rintro e w9 ⟨rfl, rfl⟩) | (go_at_call 23; (with_reducible refine (cb _).mono ?_); rintro e w3 ⟨rfl, hb3⟩; have hB3 : Below w.heap.size w w3 := bel_step (by repeat (first | with_reducible exact Below.refl _ _ | fail | with_reducible apply below_drewN | with_reducible apply Below.drew | (with_reducible refine Below.alloc ?_ (by first | (simp; done) | (simp; omega) | omega) _) | (with_reducible refine Below.setCell ?_ (by first | (simp; done) | (simp; omega) | omega) _))) hb3; clear hb3) | (go_at_call 16; (with_reducible refine (cm _ (hN.below hB3)).mono ?_); rintro e w9 ⟨rfl, rfl⟩) | (go_at_call 17; (with_reducible refine (cv _).mono ?_); rintro e w9 ⟨rfl, rfl⟩))
  go_ret
  exact ⟨rfl, hB3⟩
end Go.Proofs.YtdhajiaepaamgaaDoor
