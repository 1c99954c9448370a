import Derived.Test.YtolnchfgdkeamaaDoorQF
import Derived.WalkKit
import Derived.WalkSpells
import Derived.WalkLawsBesides
import Derived.Lib.Hide
import Derived.Below
import Derived.Deep.QuietTactic
import Derived.BigQuiet
import Derived.IntWalk
import Derived.Laws.BitsAllLaws
namespace Go.Proofs.YtolnchfgdkeamaaDoor
open Go.RowKit
set_option linter.unusedVariables false
set_option linter.unusedSimpArgs false
/-- The words of a line. -/
def fieldsL (l : List UInt8) : List (List UInt8) := if l = [] then [] else cutL 32 l
def SfBad (W : List (List UInt8)) (i : Nat) : Prop := i < W.length ∧ (∀ k x, k < i → W[k]? = some x → unqL x ≠ none) ∧ (∀ x, W[i]? = some x → unqL x = none)
def SfGood (W : List (List UInt8)) (ys : List ByteArray) : Prop := W.map unqL = ys.map fun y => some y.data.toList
theorem sf_cases (W : List (List UInt8)) : (∃ ys, SfGood W ys) ∨ ∃ i, SfBad W i := by
  induction W with
  | nil => exact .inl ⟨[], rfl⟩
  | cons x W ih =>
    cases hx : unqL x with
    | none => exact .inr ⟨0, by simp, fun k _ hk => absurd hk (Nat.not_lt_zero k), fun y hy => by simp at hy; rw [← hy, hx]⟩
    | some s =>
      rcases ih with ⟨ys, h⟩ | ⟨i, h1, h2, h3⟩
      · refine .inl ⟨⟨s.toArray⟩ :: ys, ?_⟩
        unfold SfGood at h ⊢
        rw [List.map_cons, List.map_cons, hx, h]
      · refine .inr ⟨i + 1, by simpa using h1, ?_, fun y hy => h3 y (by simpa using hy)⟩
        intro k y hk hy
        rcases k with _ | k
        · simp at hy
          rw [← hy, hx]
          simp
        · exact h2 k y (by omega) (by simpa using hy)
theorem sf_excl {W : List (List UInt8)} {ys : List ByteArray} {i : Nat} (h : SfGood W ys) (hb : SfBad W i) : False := by
  obtain ⟨h1, _, h3⟩ := hb
  have h4 := h3 W[i] (List.getElem?_eq_getElem h1)
  have h5 := congrArg (fun L => L[i]?) h
  simp only [List.getElem?_map, List.getElem?_eq_getElem h1, Option.map_some, h4] at h5
  cases hy : ys[i]? with
  | none => rw [hy] at h5; cases h5
  | some y => rw [hy] at h5; cases h5
theorem bad_uniq {W : List (List UInt8)} {i j : Nat} (h : SfBad W i) (h' : SfBad W j) : i = j := by
  rcases Nat.lt_trichotomy i j with hl | hl | hl
  · exact absurd (h.2.2 _ (List.getElem?_eq_getElem h.1)) (h'.2.1 i _ hl (List.getElem?_eq_getElem h.1))
  · exact hl
  · exact absurd (h'.2.2 _ (List.getElem?_eq_getElem h'.1)) (h.2.1 j _ hl (List.getElem?_eq_getElem h'.1))
theorem data_inj {x y : ByteArray} (h : x.data.toList = y.data.toList) : x = y := by
  apply ByteArray.ext
  exact Array.toList_inj.1 h
theorem datas_inj {xs ys : List ByteArray} (h : xs.map (·.data.toList) = ys.map (·.data.toList)) : xs = ys := by
  induction xs generalizing ys with
  | nil => cases ys with
    | nil => rfl
    | cons y ys => simp at h
  | cons x xs ih => cases ys with
    | nil => simp at h
    | cons y ys =>
      rw [List.map_cons, List.map_cons, List.cons.injEq] at h
      rw [data_inj h.1, ih h.2]
theorem good_uniq {W : List (List UInt8)} {xs ys : List ByteArray} (h : SfGood W xs) (h' : SfGood W ys) : xs = ys := by
  refine datas_inj ?_
  have h2 := h.symm.trans h'
  have h3 := congrArg (List.map fun o : Option (List UInt8) => o.getD []) h2
  simpa [List.map_map, Function.comp_def] using h3
/-- What SplitFields answers. -/
def FsE (W : List (List UInt8)) (e : Ending) (w' : World) : Prop :=
  (∃ i : Nat, SfBad W i ∧ e = .returned (.tuple #[.slice none 0 0, .int .i64 i, .int .i64 3])) ∨
  (∃ (ys : List ByteArray) (a : Option Addr) (c : Nat), SfGood W ys ∧ e = .returned (.tuple #[.slice a ys.length c, .int .i64 0, .int .i64 0]) ∧ RdV w' a (strV ys))
theorem RdV.nil (w : World) (a : Option Addr) : RdV w a (strV []) := fun k u hk => by simp [strV] at hk
theorem fields_any (S : ByteArray) (l : List UInt8) (m : Int) (w : World) (hS : S.data.toList = l) (hl : l.length ≤ 4000000) (hm : w.cell? ⟨0, 0, none⟩ = some (.int .i64 m)) :
    Calls Tryd.prog 15 #[.string S] w fun e w' => FsE (fieldsL l) e w' ∧ Below w.heap.size w w' := by
  by_cases h0 : l = []
  · subst h0
    obtain rfl := str_nil hS
    refine (split_empty w).mono ?_
    rintro e w' ⟨rfl, rfl⟩
    exact ⟨.inr ⟨[], none, 0, rfl, rfl, RdV.nil _ _⟩, Below.refl _ _⟩
  have hz := str_size hS
  refine (split_any S m w (by omega) (by intro e; subst e; exact h0 hS.symm) hm).mono ?_
  rintro e w' ⟨h, hb⟩
  refine ⟨?_, hb⟩
  have hW : fieldsL l = (wsOf S).map (·.data.toList) := by
    rw [ws_data, hS]
    unfold fieldsL
    rw [if_neg h0]
  rcases h with ⟨i, h1, h2, h3, h4⟩ | ⟨xs, g, h1, h2, h3⟩
  · refine .inl ⟨i, ⟨by rw [hW, List.length_map]; exact h1, ?_, ?_⟩, h4⟩
    · intro k x hk hx e
      rw [hW, List.getElem?_map] at hx
      cases hy : (wsOf S)[k]? with
      | none => rw [hy] at hx; cases hx
      | some y =>
        rw [hy] at hx
        cases hx
        exact h2 k y hk hy (by unfold uA; rw [e]; rfl)
    · intro x hx
      rw [hW, List.getElem?_map] at hx
      cases hy : (wsOf S)[i]? with
      | none => rw [hy] at hx; cases hx
      | some y =>
        rw [hy] at hx
        cases hx
        have := h3 y hy
        unfold uA at this
        cases hu : unqL y.data.toList with
        | none => rfl
        | some s => rw [hu] at this; cases this
  · refine .inr ⟨xs, some ⟨g, 0, none⟩, xs.length, ?_, h2, own_vals h3⟩
    unfold SfGood
    rw [hW, List.map_map]
    have h5 := congrArg (List.map fun o : Option ByteArray => o.map (·.data.toList)) h1
    rw [List.map_map, List.map_map] at h5
    rw [show (unqL ∘ fun x : ByteArray => x.data.toList) = ((fun o : Option ByteArray => o.map (·.data.toList)) ∘ uA) by funext x; simp [uA, Function.comp_def]]
    exact h5
theorem rcut32 (S : ByteArray) (l : List UInt8) (w : World) (hS : S.data.toList = l) (hl : l.length ≤ 4000000) :
    Calls Tryd.prog 31 #[.string S, .int .u8 32] w fun e w' => ∃ (a : Option Addr) (cp : Nat) (xs : List ByteArray), e = .returned (.slice a xs.length cp) ∧ xs.map (·.data.toList) = cutL 32 l ∧ w'.ownsRow w.heap.size 9 1 (.slice a xs.length cp) xs.length (strV xs) ∧ Below w.heap.size w w' := rcut_any S l 32 w hS hl
theorem rcut10 (S : ByteArray) (l : List UInt8) (w : World) (hS : S.data.toList = l) (hl : l.length ≤ 4000000) :
    Calls Tryd.prog 31 #[.string S, .int .u8 10] w fun e w' => ∃ (a : Option Addr) (cp : Nat) (xs : List ByteArray), e = .returned (.slice a xs.length cp) ∧ xs.map (·.data.toList) = cutL 10 l ∧ w'.ownsRow w.heap.size 9 1 (.slice a xs.length cp) xs.length (strV xs) ∧ Below w.heap.size w w' := rcut_any S l 10 w hS hl
def SrR (w1 : World) (W : List (List UInt8)) (n : Nat) (ov iv : Value) (wr : World) : Prop := ∃ (j : Nat) (ys : List ByteArray), j ≤ n ∧ iv = .int .i64 j ∧ ys.length = j ∧ Hid ((W.take j).map unqL = ys.map fun y => some y.data.toList) ∧ wr.ownsRow w1.heap.size 9 1 ov ys.length (strV ys) ∧ Below w1.heap.size w1 wr
set_option maxRecDepth 50000 in
set_option maxHeartbeats 4000000 in
theorem rfields_any (S : ByteArray) (l : List UInt8) (w : World) (hS : S.data.toList = l) (hl : l.length ≤ 4000000) :
    Calls Tryd.prog 16 #[.string S] w fun e w' => FsE (fieldsL l) e w' ∧ Below w.heap.size w w' := by
  by_cases h0 : l = []
  · subst h0
    obtain rfl := str_nil hS
    clear hS
    go_enter Tryd.func16, Tryd.ntmps16
    go_wp2
    go_ret3
    exact ⟨.inr ⟨[], none, 0, rfl, rfl, RdV.nil _ _⟩, Below.refl _ _⟩
  obtain ⟨i0, hi, hz0, hz1, hz2⟩ := info_parts infoS
  have hne2 : ¬ S.toList = [] := by
    rw [ByteArray.toList_eq, hS]
    exact h0
  have hne3 : S.toList.isEmpty = false := by
    cases hq : S.toList with
    | nil => exact absurd hq hne2
    | cons _ _ => rfl
  have HC := Lib.hid (rcut32 S l w hS hl)
  have hW : Hid (fieldsL l = cutL 32 l) := by
    show _ = _
    unfold fieldsL
    rw [if_neg h0]
  have HL := Lib.hid (fun x hx => Nat.le_trans (cutL_len 32 l x hx) hl)
  have hcc := cutL_count 32 l
  have hcc2 : (cutL 32 l).length ≤ 4000001 := by omega
  have HCC := Lib.hid hcc2
  clear hS hl h0 hcc hcc2
  go_enter Tryd.func16, Tryd.ntmps16
  go_wp2_with (go_at_call 31; go_loud ((with_reducible refine HC.out.mono ?_); rintro e w1 ⟨a, cp, xs, rfl, hxs, hown1, hb1⟩; have hR := Lib.hid (own_vals hown1); have hb1h := Lib.hid hb1; have hxs2 := Lib.hid hxs; have hz1h := hb1.size; clear hown1 hb1 hxs; obtain ⟨n, hn⟩ : ∃ n, xs.length = n := ⟨_, rfl⟩; rw [hn]; have HN := Lib.hid hn; clear hn))
  clear hne2 hne3
  have hn1 : n ≤ 4000001 := by
    have h1 := HCC.out
    rw [← hxs2.out, List.length_map, HN.out] at h1
    exact h1
  go_loopw [6, 7, 8, 9, 20] (fun ov iv _ _ _ wr => SrR w1 (cutL 32 l) n ov iv wr) (fun _ iv _ _ _ _ => n - (intOf iv).toNat)
  case atStart => exact ⟨0, [], Nat.zero_le _, rfl, rfl, rfl, World.ownsRow_nil _ _ _ _, Below.refl _ _⟩
  case round =>
    obtain ⟨j, ys, hj, rfl, hyl, hys, ho, hb⟩ := hrel
    obtain ⟨a2, cp2, rfl⟩ := own_slice ho
    have hz := hb.size
    by_cases hlt : j < n
    · have hjw : j < xs.length := by have := HN.out; omega
      obtain ⟨x, hx⟩ : ∃ x, xs[j]? = some x := ⟨_, List.getElem?_eq_getElem hjw⟩
      obtain ⟨ad, rfl, hc⟩ := hR.out.below hb j (.string x) (strV_get hx)
      have hxm : x.data.toList ∈ cutL 32 l := by rw [← hxs2.out]; exact List.mem_map.2 ⟨x, List.mem_of_getElem? hx, rfl⟩
      have HU := Lib.hid (runq_any x x.data.toList wr rfl (HL.out _ hxm))
      have hWj : (cutL 32 l)[j]? = some x.data.toList := by rw [← hxs2.out, List.getElem?_map, hx]; rfl
      have HX := Lib.hid hWj
      clear hx hxm hjw hWj
      cases huq : unqL x.data.toList with
      | none =>
        have HUQ := Lib.hid huq
        go_wp2_with (go_at_call 11; go_loud ((with_reducible refine HU.out.mono ?_); rintro e w2 ⟨rfl, hb2⟩; rw [huq]; simp only [unV]))
        go_ret3
        refine ⟨.inl ⟨j, ⟨?_, ?_, ?_⟩, rfl⟩, hb1h.out.trans ((hb.trans (hb2.mono hz)).mono hz1h)⟩
        · rw [hW.out]
          exact (List.getElem?_eq_some_iff.1 HX.out).1
        · intro k y hk hy
          rw [hW.out] at hy
          have h1 : (((cutL 32 l).take j).map unqL)[k]? = some (unqL y) := by simp [hk, hy]
          rw [hys.out] at h1
          intro e
          rw [e] at h1
          simp at h1
        · intro y hy
          rw [hW.out, HX.out] at hy
          cases hy
          exact HUQ.out
      | some s =>
        have hys2 : Hid (((cutL 32 l).take (j + 1)).map unqL = (ys ++ [(⟨s.toArray⟩ : ByteArray)]).map fun y : ByteArray => some y.data.toList) := by
          show _ = _
          have hjw := (List.getElem?_eq_some_iff.1 HX.out).1
          have h1 := HX.out
          rw [List.getElem?_eq_getElem hjw] at h1
          rw [List.take_succ_eq_append_getElem hjw, List.map_append, hys.out, Option.some.inj h1]
          simp [huq]
        go_wp2_with (first
          | (go_at_call 11; go_loud ((with_reducible refine HU.out.mono ?_); rintro e w2 ⟨rfl, hb2⟩; rw [huq]; simp only [unV]; have ho3 := own_keep ho hb2; have hb3 := hb.trans (hb2.mono hz); have hz3 := hb3.size; clear ho hb hb2))
          | (at_builtin; go_loud (refine wpList_append_rd _ rfl _ _ _ rfl w1.heap.size 9 i0 (.string ⟨#[]⟩) 16 Tryd.underlying28 hi hz0 hz1 hz2 rfl (.slice a2 ys.length cp2) ys.length (strV ys) rfl (ho3.alloc _) _ 1 1 [.string ⟨s.toArray⟩] rfl rfl (fun j u hu => ⟨_, rfl, cell_one_new _ _ _ j u hu⟩) (oneS _) (by unfold maxLen; omega) (by omega) (hb3.alloc hb3.size _).size ?_; intro v' w6 hown6 hg6 hv6; have hb3a := hb3.alloc hb3.size (.cells #[.string ⟨s.toArray⟩] 9); have hb6 : Below w1.heap.size w1 w6 := hb3a.grown hg6 hb3a.size (fun q hq => (ho3.lt q hq).1))))
        go_roundw
        case rel => exact ⟨j + 1, ys ++ [⟨s.toArray⟩], by omega, by go_num, by simp [hyl], hys2, (by simpa [strV] using hown6), hb6⟩
        case measure => simp [intOf] <;> omega
    · obtain rfl : j = n := by omega
      have hall : SfGood (fieldsL l) ys := by
        unfold SfGood
        rw [hW.out, ← hys.out, List.take_of_length_le]
        rw [← hxs2.out, List.length_map, HN.out]
        exact Nat.le_refl _
      have HA := Lib.hid hall
      clear hall
      go_wp2
      go_ret3
      exact ⟨.inr ⟨ys, a2, cp2, HA.out, rfl, own_vals ho⟩, hb1h.out.trans (hb.mono hz1h)⟩
end Go.Proofs.YtolnchfgdkeamaaDoor
