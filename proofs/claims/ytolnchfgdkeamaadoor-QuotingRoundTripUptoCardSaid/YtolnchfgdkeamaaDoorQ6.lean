import Derived.Test.YtolnchfgdkeamaaDoorQ5
import Derived.WalkKit
import Derived.WalkSpells
import Derived.WalkLawsBesides
import Derived.Lib.Hide
import Derived.Below
import Derived.Deep.QuietTactic
import Derived.BigQuiet
import Derived.IntWalk
import Derived.Laws.BitsAllLaws
namespace Go.Proofs.YtolnchfgdkeamaaDoor
open Go.RowKit
set_option linter.unusedVariables false
set_option linter.unusedSimpArgs false
def SlE (B : Nat) (l : List UInt8) (e : Ending) (w' : World) : Prop :=
  (l = [] ∧ e = .returned (.tuple #[.slice none 0 0, .int .i64 0])) ∨
  (l ≠ [] ∧ (¬ ∃ r, l = r ++ [10]) ∧ e = .returned (.tuple #[.slice none 0 0, .int .i64 3])) ∨
  (∃ (r : List UInt8) (xs : List ByteArray) (g : Nat), l = r ++ [10] ∧ xs.map (·.data.toList) = cutL 10 r ∧ e = .returned (.tuple #[.slice (some ⟨g, 0, none⟩) xs.length xs.length, .int .i64 0]) ∧ w'.ownsRow B 9 1 (.slice (some ⟨g, 0, none⟩) xs.length xs.length) xs.length (strV xs))
theorem suf_iff (l : List UInt8) : Lib.hasSuffix l [10] = true ↔ ∃ r, l = r ++ [10] := by
  unfold Lib.hasSuffix
  rw [List.isSuffixOf_iff_suffix]
  exact ⟨fun ⟨r, h⟩ => ⟨r, h.symm⟩, fun ⟨r, h⟩ => ⟨r, h.symm⟩⟩
set_option maxRecDepth 50000 in
set_option maxHeartbeats 4000000 in
theorem lines_any (S : ByteArray) (m : Int) (w : World) (hS : S.size ≤ 4000000) (hm : w.cell? ⟨0, 0, none⟩ = some (.int .i64 m)) :
    Calls Tryd.prog 20 #[.string S] w fun e w' => SlE w.heap.size S.data.toList e w' ∧ Below w.heap.size w w' := by
  by_cases hne : S = ⟨#[]⟩
  · subst hne
    go_enter Tryd.func20, Tryd.ntmps20
    go_wp2
    go_ret2
    exact ⟨.inl ⟨rfl, rfl⟩, Below.refl _ _⟩
  have hne2 : ¬ S.toList = [] := by
    rw [ByteArray.toList_eq]
    intro e
    exact hne (str_nil e)
  have hne3 : S.toList.isEmpty = false := by
    cases hq : S.toList with
    | nil => exact absurd hq hne2
    | cons _ _ => rfl
  have hd : Hid (S.data.toList ≠ []) := by
    show _ ≠ _
    intro e
    exact hne (str_nil e)
  have hcs := Tryd.strings_CutSuffix S ⟨#[10]⟩ w (by omega)
  change Calls Tryd.prog 33 #[.string S, .string ⟨#[10]⟩] w (fun e w' => e = .returned (.tuple #[.string ⟨(Lib.trimSuffix S.data.toList [10]).toArray⟩, .bool (Lib.hasSuffix S.data.toList [10])]) ∧ w' = w) at hcs
  have hsi := suf_iff S.data.toList
  clear hne
  cases hsf : Lib.hasSuffix S.data.toList [10] with
  | false =>
    rw [hsf] at hcs hsi
    have HCS := Lib.hid hcs
    have HSI := Lib.hid hsi
    clear hcs hsi hsf
    go_enter Tryd.func20, Tryd.ntmps20
    go_wp2_with (go_at_call 33; go_loud ((with_reducible refine HCS.out.mono ?_); rintro e w1 ⟨rfl, rfl⟩))
    go_ret2
    exact ⟨.inr (.inl ⟨hd.out, fun h => (by have := HSI.out.2 h; cases this), rfl⟩), Below.refl _ _⟩
  | true =>
    obtain ⟨r, hr⟩ := hsi.1 hsf
    have htr : Lib.trimSuffix S.data.toList [10] = r := by
      unfold Lib.trimSuffix
      rw [hsf, hr]
      simp
    rw [hsf, htr] at hcs
    obtain ⟨T, hT⟩ : ∃ T : ByteArray, T = ⟨r.toArray⟩ := ⟨_, rfl⟩
    rw [← hT] at hcs
    have hTd : T.data.toList = r := by rw [hT]
    have hTs : T.size ≤ 4000000 := by
      have h1 := str_size hTd
      have h2 := str_size hr
      rw [List.length_append] at h2
      omega
    have hsp := Tryd.strings_Split T ⟨#[10]⟩ m w (by omega) hm (by decide)
    have hlen := Lib.splitB_all ⟨#[10]⟩ (by decide) 0 _ T rfl
    have hda := cutB T 10
    have hcn := cutL_count 10 r
    rw [hTd] at hda
    rw [← hda, List.length_map] at hcn
    have hr2 := str_size hTd
    change Calls Tryd.prog 30 #[.string T, .string ⟨#[10]⟩] w (fun e w' => e = .returned (.slice (some ⟨w.heap.size, 0, none⟩) _ _) ∧ w' = w.alloc (.cells ((Lib.splitB ⟨#[10]⟩ 0 (Lib.countB T ⟨#[10]⟩) T).map Value.string).toArray 9)) at hsp
    rw [← hlen] at hsp
    obtain ⟨xs, hxs⟩ : ∃ xs, Lib.splitB ⟨#[10]⟩ 0 (Lib.countB T ⟨#[10]⟩) T = xs := ⟨_, rfl⟩
    rw [hxs] at hsp hda hcn
    have ho1 := litS_own w xs (by omega)
    have hb1 := Below.alloc (Below.refl w.heap.size w) (Nat.le_refl _) (.cells (xs.map Value.string).toArray 9)
    have HSP := Lib.hid hsp
    have HCS := Lib.hid hcs
    have HR := Lib.hid hr
    have HDA := Lib.hid hda
    clear hsp hcs hsi hsf hr htr hT hTd hlen hda hcn hr2 hxs
    go_enter Tryd.func20, Tryd.ntmps20
    go_wp2_with (first
      | (go_at_call 33; go_loud ((with_reducible refine HCS.out.mono ?_); rintro e w1 ⟨rfl, rfl⟩))
      | (go_at_call 30; go_loud ((with_reducible refine HSP.out.mono ?_); rintro e w1 ⟨rfl, rfl⟩)))
    go_ret2
    exact ⟨.inr (.inr ⟨r, xs, _, HR.out, HDA.out, rfl, ho1⟩), hb1⟩
set_option maxRecDepth 50000 in
theorem split_empty (w : World) : Calls Tryd.prog 15 #[.string ⟨#[]⟩] w fun e w' => e = .returned (.tuple #[.slice none 0 0, .int .i64 0, .int .i64 0]) ∧ w = w' := by
  go_enter Tryd.func15, Tryd.ntmps15
  go_wp2
  go_ret3
  exact ⟨rfl, rfl⟩
end Go.Proofs.YtolnchfgdkeamaaDoor
