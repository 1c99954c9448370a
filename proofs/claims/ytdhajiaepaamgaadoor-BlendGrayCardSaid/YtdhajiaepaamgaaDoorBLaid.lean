import Derived.Test.YtdhajiaepaamgaaDoorBN
import Derived.Test.YtdhajiaepaamgaaDoorRows
import Derived.ProofKit
import Derived.LaidMore
import Derived.OpenShut
import Derived.Stop.Joined
import Derived.ChangeArms
namespace Go.Proofs.YtdhajiaepaamgaaDoor
open Go.ChangeShapes Go.WideShapes Go.ChangeAt Go.WideMaps Go.WideElems Go.RowKit
set_option linter.unusedVariables false
set_option linter.unusedSimpArgs false
theorem gNames : Tryd.prog.globalNamed "grisaille/blend.modeNames" = some 0 := by kernel_rfl
theorem tNames : (Tryd.prog.globals[0]?).map (·.type) = some 41 := by kernel_rfl
abbrev laidV : List (String × DataW Unit) := [("grisaille/blend.modeNames", Rows.laid_grisaille_blend_modeNames)]
/- the door's own heap meets the condition -/
theorem door_met (os : Os) (args : Array Value) : laidMetH Tryd.prog laidV ((World.doorLaid Tryd.prog 400 os).forCall (fun _ _ => 0) ⟨#[], args, []⟩).memory :=
  laidMetH_of_parts3 (fuel := 8) (laidMet_of_run' 8 (by kernel_rfl) (by kernel_rfl)) (by kernel_rfl) (by kernel_rfl)
theorem one_at {l : List Value} {i : Nat} {v : Value} (h : (l.drop i).take 1 = [v]) : l[i]? = some v := by
  have := congrArg (fun x : List Value => x[0]?) h
  simpa [List.getElem?_take, List.getElem?_drop] using this
/- what the condition gives the walks -/
theorem nm_of_laid {W : World} (h : laidMetH Tryd.prog laidV W) : Nm W := by
  rw [MakeChecks.laidMetH_plain _ _ _ (by kernel_rfl)] at h
  obtain ⟨ps, ⟨g0, t0, cs0, f0, p0, q0, hg0, ht0, hv0, hd0, _, _⟩, _, _⟩ := h
  obtain rfl := Option.some.inj (gNames.symm.trans hg0)
  obtain rfl := Option.some.inj (tNames.symm.trans ht0)
  obtain ⟨xs, m1, rfl, hx1, hlen, hn3, hel⟩ := DataW.trod_array Tryd.underlying41 hd0
  have c9 : Tryd.prog.cellsOf 9 = 1 := by kernel_rfl
  rw [c9] at hel
  simp only [Prod.mk.injEq, Rows.laid_grisaille_blend_modeNames, DataW.agg.injEq] at hx1
  have hL : ∀ i d, i < 13 → (xs.map (·.1))[i]? = some d → ∃ s : ByteArray, W.cell? ⟨0, i, none⟩ = some (.string s) ∧ d = .lit (.string s.data.toList) := by
    intro i d hi hd
    have h1 := hel i hi
    rw [List.getElem?_map] at hd
    obtain ⟨x, hx, rfl⟩ := Option.map_eq_some_iff.1 hd
    rw [hx, Nat.mul_one] at h1
    obtain ⟨s, e1, e2, _⟩ := DataW.trod_string Tryd.underlying9 h1
    refine ⟨s, ?_, by rw [e2]⟩
    rw [World.var?_cell hg0 hv0 i, ← Array.getElem?_toList]
    exact one_at e1
  rw [← hx1.1] at hL
  have fin : ∀ i l, i < 13 → ([[110, 111, 114, 109, 97, 108], [109, 117, 108, 116, 105, 112, 108, 121], [115, 99, 114, 101, 101, 110], [111, 118, 101, 114, 108, 97, 121], [100, 97, 114, 107, 101, 110], [108, 105, 103, 104, 116, 101, 110], [100, 105, 102, 102, 101, 114, 101, 110, 99, 101], [101, 120, 99, 108, 117, 115, 105, 111, 110], [104, 97, 114, 100, 108, 105, 103, 104, 116], [104, 117, 101], [115, 97, 116, 117, 114, 97, 116, 105, 111, 110], [99, 111, 108, 111, 114], [108, 117, 109, 105, 110, 111, 115, 105, 116, 121]] : List (List UInt8))[i]? = some l → W.cell? ⟨0, i, none⟩ = some (.string ⟨l.toArray⟩) := by
    intro i l hi hl
    obtain ⟨s, h1, h2⟩ := hL i (.lit (.string l)) hi (by
      have : ([DataW.lit (.string [110, 111, 114, 109, 97, 108]), DataW.lit (.string [109, 117, 108, 116, 105, 112, 108, 121]), DataW.lit (.string [115, 99, 114, 101, 101, 110]), DataW.lit (.string [111, 118, 101, 114, 108, 97, 121]), DataW.lit (.string [100, 97, 114, 107, 101, 110]), DataW.lit (.string [108, 105, 103, 104, 116, 101, 110]), DataW.lit (.string [100, 105, 102, 102, 101, 114, 101, 110, 99, 101]), DataW.lit (.string [101, 120, 99, 108, 117, 115, 105, 111, 110]), DataW.lit (.string [104, 97, 114, 100, 108, 105, 103, 104, 116]), DataW.lit (.string [104, 117, 101]), DataW.lit (.string [115, 97, 116, 117, 114, 97, 116, 105, 111, 110]), DataW.lit (.string [99, 111, 108, 111, 114]), DataW.lit (.string [108, 117, 109, 105, 110, 111, 115, 105, 116, 121])] : List (DataW Unit)) = ([[110, 111, 114, 109, 97, 108], [109, 117, 108, 116, 105, 112, 108, 121], [115, 99, 114, 101, 101, 110], [111, 118, 101, 114, 108, 97, 121], [100, 97, 114, 107, 101, 110], [108, 105, 103, 104, 116, 101, 110], [100, 105, 102, 102, 101, 114, 101, 110, 99, 101], [101, 120, 99, 108, 117, 115, 105, 111, 110], [104, 97, 114, 100, 108, 105, 103, 104, 116], [104, 117, 101], [115, 97, 116, 117, 114, 97, 116, 105, 111, 110], [99, 111, 108, 111, 114], [108, 117, 109, 105, 110, 111, 115, 105, 116, 121]] : List (List UInt8)).map (fun l => .lit (.string l)) := rfl
      rw [this, List.getElem?_map, hl]; rfl)
    injection h2 with h2
    injection h2 with h2
    rw [h1, h2]
  exact ⟨fin 0 _ (by omega) rfl, fin 1 _ (by omega) rfl, fin 2 _ (by omega) rfl, fin 3 _ (by omega) rfl, fin 4 _ (by omega) rfl, fin 5 _ (by omega) rfl, fin 6 _ (by omega) rfl, fin 7 _ (by omega) rfl, fin 8 _ (by omega) rfl, fin 9 _ (by omega) rfl, fin 10 _ (by omega) rfl, fin 11 _ (by omega) rfl, fin 12 _ (by omega) rfl⟩
end Go.Proofs.YtdhajiaepaamgaaDoor
