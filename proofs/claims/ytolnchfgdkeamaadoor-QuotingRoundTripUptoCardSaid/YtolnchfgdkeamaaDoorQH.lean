import Derived.Test.YtolnchfgdkeamaaDoorQG
import Derived.WalkKit
import Derived.WalkSpells
import Derived.WalkLawsBesides
import Derived.Lib.Hide
import Derived.Below
import Derived.Deep.QuietTactic
import Derived.BigQuiet
import Derived.IntWalk
import Derived.Laws.BitsAllLaws
namespace Go.Proofs.YtolnchfgdkeamaaDoor
open Go.RowKit
set_option linter.unusedVariables false
set_option linter.unusedSimpArgs false
theorem cutL_snoc (c : UInt8) (r : List UInt8) : cutL c (r ++ [c]) = cutL c r ++ [[]] := by
  induction r with
  | nil => simp [cutL]
  | cons b r ih =>
    rw [List.cons_append, cutL, cutL, ih]
    by_cases h : b = c
    · rw [if_pos h, if_pos h, List.cons_append]
    · rw [if_neg h, if_neg h]
      cases hq : cutL c r with
      | nil => exact absurd hq (cutL_ne c r)
      | cons p ps => simp
theorem cutL_last (c : UInt8) (l : List UInt8) (P : List (List UInt8)) (h : cutL c l = P ++ [[]]) : l = [] ∨ ∃ r, l = r ++ [c] := by
  induction l generalizing P with
  | nil => exact .inl rfl
  | cons b t ih =>
    refine .inr ?_
    rw [cutL] at h
    by_cases hb : b = c
    · rw [if_pos hb] at h
      cases P with
      | nil => simp at h; exact absurd h (cutL_ne c t)
      | cons p P =>
        rw [List.cons_append, List.cons.injEq] at h
        rcases ih P h.2 with h1 | ⟨r, h1⟩
        · exact ⟨[], by rw [hb, h1]; rfl⟩
        · exact ⟨b :: r, by rw [h1]; rfl⟩
    · rw [if_neg hb] at h
      cases hq : cutL c t with
      | nil => exact absurd hq (cutL_ne c t)
      | cons p ps =>
        rw [hq] at h
        simp only at h
        cases P with
        | nil => simp at h
        | cons q P =>
          rw [List.cons_append, List.cons.injEq] at h
          rcases ih (p :: P) (by rw [hq, h.2]; rfl) with h1 | ⟨r, h1⟩
          · rw [h1] at hq
            rw [cutL, List.cons.injEq] at hq
            have h2 := h.2
            rw [← hq.2] at h2
            simp at h2
          · exact ⟨b :: r, by rw [h1]; rfl⟩
def LnBad (l : List UInt8) : Prop := l ≠ [] ∧ ¬ ∃ r, l = r ++ [10]
def LnGood (l : List UInt8) (ys : List ByteArray) : Prop := (l = [] ∧ ys = []) ∨ ∃ r, l = r ++ [10] ∧ ys.map (·.data.toList) = cutL 10 r
theorem ln_cases (l : List UInt8) : (∃ ys, LnGood l ys) ∨ LnBad l := by
  by_cases h0 : l = []
  · exact .inl ⟨[], .inl ⟨h0, rfl⟩⟩
  by_cases h1 : ∃ r, l = r ++ [10]
  · obtain ⟨r, h1⟩ := h1
    refine .inl ⟨(cutL 10 r).map fun x => ⟨x.toArray⟩, .inr ⟨r, h1, ?_⟩⟩
    rw [List.map_map]
    simp [Function.comp_def]
  · exact .inr ⟨h0, h1⟩
theorem ln_excl {l : List UInt8} {ys : List ByteArray} (h : LnGood l ys) (hb : LnBad l) : False := by
  rcases h with ⟨h, _⟩ | ⟨r, h, _⟩
  · exact hb.1 h
  · exact hb.2 ⟨r, h⟩
theorem ln_uniq {l : List UInt8} {xs ys : List ByteArray} (h : LnGood l xs) (h' : LnGood l ys) : xs = ys := by
  rcases h with ⟨h, rfl⟩ | ⟨r, h, h1⟩
  · rcases h' with ⟨_, rfl⟩ | ⟨r, h2, _⟩
    · rfl
    · rw [h] at h2; simp at h2
  · rcases h' with ⟨h2, _⟩ | ⟨r', h2, h3⟩
    · rw [h] at h2; simp at h2
    · rw [h] at h2
      rw [List.append_cancel_right h2] at h1
      exact datas_inj (h1.trans h3.symm)
/-- What SplitLines answers. -/
def LsE (l : List UInt8) (e : Ending) (w' : World) : Prop :=
  (LnBad l ∧ e = .returned (.tuple #[.slice none 0 0, .int .i64 3])) ∨
  (∃ (ys : List ByteArray) (a : Option Addr) (c : Nat), LnGood l ys ∧ e = .returned (.tuple #[.slice a ys.length c, .int .i64 0]) ∧ RdV w' a (strV ys))
theorem slines_any (S : ByteArray) (l : List UInt8) (m : Int) (w : World) (hS : S.data.toList = l) (hl : l.length ≤ 4000000) (hm : w.cell? ⟨0, 0, none⟩ = some (.int .i64 m)) :
    Calls Tryd.prog 20 #[.string S] w fun e w' => LsE l e w' ∧ Below w.heap.size w w' := by
  have hz := str_size hS
  refine (lines_any S m w (by omega) hm).mono ?_
  rintro e w' ⟨h, hb⟩
  refine ⟨?_, hb⟩
  rw [hS] at h
  rcases h with ⟨h1, h2⟩ | ⟨h1, h2, h3⟩ | ⟨r, xs, g, h1, h2, h3, h4⟩
  · exact .inr ⟨[], none, 0, .inl ⟨h1, rfl⟩, h2, RdV.nil _ _⟩
  · exact .inl ⟨⟨h1, h2⟩, h3⟩
  · exact .inr ⟨xs, _, _, .inr ⟨r, h1, h2⟩, h3, own_vals h4⟩
theorem RdV.take {w : World} {a : Option Addr} {l : List Value} (h : RdV w a l) (n : Nat) : RdV w a (l.take n) := fun k u hk => by
  rw [List.getElem?_take] at hk
  split at hk
  · exact h k u hk
  · cases hk
theorem snoc_of {xs : List ByteArray} {k : Nat} (h : xs.length = k + 1) : ∃ ys y, xs = ys ++ [y] ∧ ys.length = k := by
  refine ⟨xs.dropLast, xs.getLast (by intro e; rw [e] at h; simp at h), (List.dropLast_concat_getLast _).symm, by rw [List.length_dropLast, h]; rfl⟩
set_option maxRecDepth 50000 in
set_option maxHeartbeats 4000000 in
theorem rslines_any (S : ByteArray) (l : List UInt8) (w : World) (hS : S.data.toList = l) (hl : l.length ≤ 4000000) :
    Calls Tryd.prog 21 #[.string S] w fun e w' => LsE l e w' ∧ Below w.heap.size w w' := by
  by_cases h0 : l = []
  · subst h0
    obtain rfl := str_nil hS
    clear hS
    go_enter Tryd.func21, Tryd.ntmps21
    go_wp2
    go_ret2
    exact ⟨.inr ⟨[], none, 0, .inl ⟨rfl, rfl⟩, rfl, RdV.nil _ _⟩, Below.refl _ _⟩
  have hne2 : ¬ S.toList = [] := by
    rw [ByteArray.toList_eq, hS]
    exact h0
  have hne3 : S.toList.isEmpty = false := by
    cases hq : S.toList with
    | nil => exact absurd hq hne2
    | cons _ _ => rfl
  have HC := Lib.hid (rcut10 S l w hS hl)
  have hcc := cutL_count 10 l
  have hcc2 : (cutL 10 l).length ≤ 4000001 := by omega
  have HCC := Lib.hid hcc2
  have H0 := Lib.hid h0
  have hcn := Lib.hid (cutL_ne 10 l)
  have hcn2 : Hid (0 < (cutL 10 l).length) := List.length_pos_iff.2 hcn.out
  clear hS hl h0 hcc hcc2
  have key : ∀ (xs : List ByteArray), xs.map (·.data.toList) = cutL 10 l → ∃ (k : Nat) (ys : List ByteArray) (y : ByteArray), k ≤ 4000000 ∧ xs.length = k + 1 ∧ xs = ys ++ [y] ∧ ys.length = k := by
    intro xs hx
    have h1 := congrArg List.length hx
    rw [List.length_map] at h1
    have h2 := HCC.out
    have h3 := hcn2.out
    obtain ⟨ys, y, h4, h5⟩ := snoc_of (xs := xs) (k := xs.length - 1) (by omega)
    exact ⟨xs.length - 1, ys, y, by omega, by omega, h4, h5⟩
  have HK := Lib.hid key
  clear key
  by_cases hL : ∃ r, l = r ++ [10]
  · obtain ⟨r, hr⟩ := hL
    have hcs := cutL_snoc 10 r
    rw [← hr] at hcs
    have HR := Lib.hid hr
    have HCS := Lib.hid hcs
    clear hr hcs
    go_enter Tryd.func21, Tryd.ntmps21
    go_wp2_with (go_at_call 31; go_loud ((with_reducible refine HC.out.mono ?_); rintro e w1 ⟨a, cp, xs, rfl, hxs, hown1, hb1⟩; have hR := own_vals hown1; have hcap := own_cap hown1; obtain ⟨k, ys, y, hk, hxl, hxe, hyl⟩ := HK.out xs hxs; have hyd : y.data.toList = [] := (by rw [hxe, HCS.out, List.map_append] at hxs; exact (List.append_inj' hxs rfl).2 |> fun h => by simpa using h); obtain rfl := str_nil hyd; have hys : Hid (ys.map (·.data.toList) = cutL 10 r) := (by show _ = _; rw [hxe, HCS.out, List.map_append] at hxs; exact (List.append_inj' hxs rfl).1); rw [hxl] at hcap; rw [hxl]; obtain ⟨ad, rfl, hc⟩ := hR k (.string ⟨#[]⟩) (strV_get (by rw [hxe, ← hyl]; simp)); have hRy : Hid (RdV w1 (some ad) (strV ys)) := (by show RdV _ _ _; have h9 := hR.take ys.length; rw [hxe, strV_append, ← strV_len ys, List.take_left] at h9; exact h9); have hyl2 := Lib.hid hyl; clear hxs hown1 hyd hxl hyl hR hxe))
    go_ret2
    exact ⟨.inr ⟨ys, _, _, .inr ⟨r, HR.out, hys.out⟩, by rw [hyl2.out]; rfl, hRy.out⟩, hb1⟩
  · have HB : Hid (LnBad l) := ⟨H0.out, hL⟩
    have hne : Hid (∀ P, cutL 10 l ≠ P ++ [[]]) := fun P e => by
      rcases cutL_last 10 l P e with h | h
      · exact H0.out h
      · exact hL h
    clear hL
    go_enter Tryd.func21, Tryd.ntmps21
    go_wp2_with (go_at_call 31; go_loud ((with_reducible refine HC.out.mono ?_); rintro e w1 ⟨a, cp, xs, rfl, hxs, hown1, hb1⟩; have hR := own_vals hown1; have hcap := own_cap hown1; obtain ⟨k, ys, y, hk, hxl, hxe, hyl⟩ := HK.out xs hxs; have hyd : y.data.toList ≠ [] := (by intro e; apply hne.out (ys.map (·.data.toList)); rw [← hxs, hxe, List.map_append, List.map_cons, List.map_nil, e]); have hy2 : ¬ y.toList = [] := (by rw [ByteArray.toList_eq]; exact hyd); have hy3 : y.toList.isEmpty = false := (by cases hq : y.toList with | nil => exact absurd hq hy2 | cons _ _ => rfl); rw [hxl] at hcap; rw [hxl]; obtain ⟨ad, rfl, hc⟩ := hR k (.string y) (strV_get (by rw [hxe, ← hyl]; simp)); clear hxs hown1 hyd hxl hyl hR hxe))
    go_ret2
    exact ⟨.inl ⟨HB.out, rfl⟩, hb1⟩
end Go.Proofs.YtolnchfgdkeamaaDoor
