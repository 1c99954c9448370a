
import Derived.Test.YtmelfdajhnbnlaaC5
import Derived.WalkKit
import Derived.WalkSpells
import Derived.WalkLawsBesides
import Derived.Lib.Hide
import Derived.Below
import Derived.Deep.QuietTactic
import Derived.BigQuiet
import Derived.IntWalk
import Derived.Laws.BitsAllLaws
namespace Go.Proofs.Ytmelfdajhnbnlaa
open Go.RowKit
set_option linter.unusedVariables false
set_option linter.unusedSimpArgs false
theorem parC_len {l : List UInt8} (h : l.length ≠ 9) : parC l = none := by
  cases l with
  | nil => rfl
  | cons c t =>
    unfold parC
    by_cases hc : c = 35
    · simp only [hc, if_true]
      cases hd : decL t with
      | none => rfl
      | some xs =>
        have h1 := dec_len _ t xs (Nat.le_refl _) hd
        have h2 : ¬ xs.length = 4 := by
          intro e
          apply h
          rw [List.length_cons]
          omega
        simp [h2]
    · simp only [hc, if_false]
set_option maxRecDepth 50000 in
set_option maxHeartbeats 4000000 in
theorem PaE.some {l : List UInt8} {x y z u : UInt8} {e : Ending} (h : PaE l e) (hp : parC l = some [x, y, z, u]) : e = .returned (.tuple #[c4 x y z u, .int .i64 0]) := by
  rcases h with ⟨h1, _⟩ | ⟨a, b, c, d, h1, h2⟩
  · rw [hp] at h1; cases h1
  · rw [hp] at h1
    cases h1
    exact h2
theorem PaE.none {l : List UInt8} {e : Ending} (h : PaE l e) (hp : parC l = none) : e = .returned (.tuple #[c4 0 0 0 0, .int .i64 3]) := by
  rcases h with ⟨h1, h2⟩ | ⟨a, b, c, d, h1, h2⟩
  · exact h2
  · rw [hp] at h1; cases h1
theorem parC_fmt (x y z u : UInt8) : parC (fmtL x y z u) = some [x, y, z, u] := by
  unfold fmtL parC
  simp only [if_true]
  rw [dec_enc]
  rfl
theorem fmt_parC {l : List UInt8} {x y z u : UInt8} (h : parC l = some [x, y, z, u]) : fmtL x y z u = l := by
  cases l with
  | nil => cases h
  | cons c t =>
    unfold parC at h
    by_cases hc : c = 35
    · subst hc
      simp only [if_true] at h
      cases hd : decL t with
      | none => rw [hd] at h; cases h
      | some xs =>
        rw [hd] at h
        simp only [Option.bind_some] at h
        by_cases h4 : xs.length = 4
        · rw [if_pos h4] at h
          cases h
          unfold fmtL
          rw [enc_dec _ t _ (Nat.le_refl _) hd]
        · rw [if_neg h4] at h; cases h
    · simp only [hc, if_false] at h
      cases h
theorem fmtL_len (x y z u : UInt8) : (fmtL x y z u).length = 9 := by
  unfold fmtL
  rw [List.length_cons, encL_len]
  rfl
end Go.Proofs.Ytmelfdajhnbnlaa
