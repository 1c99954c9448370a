import Derived.Test.YtolnchfgdkeamaaDoorQD
import Derived.Laws.IdiomStrings
import Derived.WalkKit
import Derived.WalkSpells
import Derived.WalkLawsBesides
import Derived.Lib.Hide
import Derived.Below
import Derived.Deep.QuietTactic
import Derived.BigQuiet
import Derived.IntWalk
import Derived.Laws.BitsAllLaws
namespace Go.Proofs.YtolnchfgdkeamaaDoor
open Go.RowKit
set_option linter.unusedVariables false
set_option linter.unusedSimpArgs false
/-- The reference's reading of a word, ahead of its check. -/
def dqL : List UInt8 → Option (List UInt8)
  | [] => some []
  | c :: t => if c = 42 then match t with
    | h :: l :: r => match hexv h, hexv l with
      | some a, some b => (dqL r).map (UInt8.ofNat (16 * a + b) :: ·)
      | _, _ => none
    | _ => none
    else (dqL t).map (c :: ·)
theorem dq_lit {c : UInt8} {t : List UInt8} (h : c ≠ 42) : dqL (c :: t) = (dqL t).map (c :: ·) := by
  rw [dqL.eq_def]
  simp only [h, if_false]
theorem dq_esc {x y : UInt8} {r : List UInt8} : dqL (42 :: x :: y :: r) = match hexv x, hexv y with
      | some a, some b => (dqL r).map (UInt8.ofNat (16 * a + b) :: ·)
      | _, _ => none := by
  rw [dqL.eq_def]
  rfl
theorem dq_short1 : dqL [42] = none := by rw [dqL.eq_def]; rfl
theorem dq_short2 (x : UInt8) : dqL [42, x] = none := by rw [dqL.eq_def]; rfl
theorem hexv_hexd (c : UInt8) : hexv (hexd (c.toNat / 16)) = some (c.toNat / 16) ∧ hexv (hexd (c.toNat % 16)) = some (c.toNat % 16) := by
  revert c
  exact all256 (by decide +kernel)
theorem dqL_esc (c : UInt8) (r : List UInt8) : dqL (esc c ++ r) = (dqL r).map (c :: ·) := by
  unfold esc
  cases h : lit c with
  | true =>
    rw [if_pos rfl, List.singleton_append, dq_lit (by intro e; subst e; exact absurd h (by decide))]
  | false =>
    rw [if_neg (by decide)]
    show dqL (42 :: hexd (c.toNat / 16) :: hexd (c.toNat % 16) :: r) = _
    rw [dq_esc, (hexv_hexd c).1, (hexv_hexd c).2]
    simp only
    rw [show 16 * (c.toNat / 16) + c.toNat % 16 = c.toNat by omega, UInt8.ofNat_toNat]
theorem dqL_flat (s : List UInt8) : dqL (s.flatMap esc) = some s := by
  induction s with
  | nil => rfl
  | cons c s ih => rw [List.flatMap_cons, dqL_esc, ih]; rfl
def rUnq (l : List UInt8) : Option (List UInt8) := if l = [42] then some [] else match dqL l with
  | none => none
  | some b => if b = [] ∨ quoteL b ≠ l then none else some b
theorem rUnq_eq (l : List UInt8) : rUnq l = unqL l := by
  unfold rUnq
  by_cases h : l = [42]
  · subst h; rfl
  rw [if_neg h]
  cases hu : unqL l with
  | some s =>
    have h1 := quote_unq hu
    have hs : s ≠ [] := by
      intro e
      subst e
      exact h h1.symm
    have h2 : l = s.flatMap esc := by rw [← h1]; unfold quoteL; rw [if_neg hs]
    have h3 : dqL l = some s := by rw [h2, dqL_flat]
    rw [h3]
    simp only
    rw [if_neg (by intro e; rcases e with e | e; exact hs e; exact e h1)]
  | none =>
    cases hd : dqL l with
    | none => rfl
    | some b =>
      simp only
      by_cases hb : b = [] ∨ quoteL b ≠ l
      · rw [if_pos hb]
      · exfalso
        have h1 : quoteL b = l := Classical.byContradiction fun e => hb (.inr e)
        have h2 := unq_quote b
        rw [h1, hu] at h2
        cases h2
end Go.Proofs.YtolnchfgdkeamaaDoor
