import Derived.Test.YtolnchfgdkeamaaDoorQL
import Derived.Test.YtolnchfgdkeamaaDoorQM
import Derived.WalkKit
import Derived.WalkSpells
import Derived.WalkLawsBesides
import Derived.Lib.Hide
import Derived.Below
import Derived.Deep.QuietTactic
import Derived.BigQuiet
import Derived.IntWalk
import Derived.Laws.BitsAllLaws
namespace Go.Proofs.YtolnchfgdkeamaaDoor
open Go.RowKit
set_option linter.unusedVariables false
set_option linter.unusedSimpArgs false
theorem cutL_pre (c : UInt8) (p t : List UInt8) (h : ∀ b ∈ p, b ≠ c) : cutL c (p ++ t) = preL p (cutL c t) := by
  induction p with
  | nil => exact (preL_nil (cutL_ne c t)).symm
  | cons b p ih =>
    rw [List.cons_append, cutL_miss c b _ (h b (by simp)), ih fun x hx => h x (List.mem_cons_of_mem _ hx), preL_preL _ _ (cutL_ne c t)]
    rfl
theorem cut_joinTail (c : UInt8) (r : List (List UInt8)) (x : List UInt8) (hx : ∀ b ∈ x, b ≠ c) (h : ∀ w ∈ r, ∀ b ∈ w, b ≠ c) : cutL c (x ++ Lib.joinTail [c] r) = x :: r := by
  induction r generalizing x with
  | nil =>
    rw [cutL_pre c x _ hx]
    simp [Lib.joinTail, cutL, preL]
  | cons y r ih =>
    have e : Lib.joinTail [c] (y :: r) = c :: (y ++ Lib.joinTail [c] r) := by simp [Lib.joinTail]
    rw [cutL_pre c x _ hx, e, cutL_hit, ih y (h y (by simp)) fun w hw => h w (List.mem_cons_of_mem _ hw)]
    simp [preL]
theorem cut_join (c : UInt8) (W : List (List UInt8)) (hW : W ≠ []) (h : ∀ w ∈ W, ∀ b ∈ w, b ≠ c) : cutL c (Lib.join W [c]) = W := by
  cases W with
  | nil => exact absurd rfl hW
  | cons x r =>
    rw [Lib.join_cons]
    exact cut_joinTail c r x (h x (by simp)) fun w hw => h w (List.mem_cons_of_mem _ hw)
theorem joinTail_ne (c : UInt8) (L : List (List UInt8)) (h : L ≠ []) : Lib.joinTail [c] L = c :: Lib.join L [c] := by
  cases L with
  | nil => exact absurd rfl h
  | cons x r => simp [Lib.joinTail, Lib.join_cons]
theorem join_cut (c : UInt8) (s : List UInt8) : Lib.join (cutL c s) [c] = s := by
  induction s with
  | nil => simp [cutL, Lib.join_one]
  | cons b t ih =>
    by_cases h : b = c
    · subst h
      rw [cutL_hit, Lib.join_cons, joinTail_ne _ _ (cutL_ne _ _), ih]
      rfl
    · rw [cutL_miss _ _ _ h]
      cases hq : cutL c t with
      | nil => exact absurd hq (cutL_ne c t)
      | cons p ps =>
        rw [hq, Lib.join_cons] at ih
        simp only [preL]
        rw [Lib.join_cons, List.append_assoc, ih]
        rfl
theorem word_no32 (s : List UInt8) : ∀ b ∈ quoteL s, b ≠ 32 := by
  intro b hb e
  subst e
  exact absurd (quote_word s 32 hb) (by decide)
/-- The fields of a joined line are the texts. -/
theorem good_join (xs : List ByteArray) : SfGood (fieldsL (jfL xs)) xs := by
  by_cases h0 : xs = []
  · subst h0
    rfl
  have hW : (xs.map fun x => quoteL x.data.toList) ≠ [] := by
    intro e
    exact h0 (List.map_eq_nil_iff.1 e)
  have hc : cutL 32 (jfL xs) = xs.map fun x => quoteL x.data.toList := by
    refine cut_join 32 _ hW ?_
    intro w hw b hb
    obtain ⟨x, _, rfl⟩ := List.mem_map.1 hw
    exact word_no32 _ b hb
  have hne : jfL xs ≠ [] := by
    intro e
    rw [e] at hc
    cases xs with
    | nil => exact h0 rfl
    | cons x xs =>
      rw [List.map_cons] at hc
      have h1 : [] = quoteL x.data.toList := by
        rw [show cutL 32 [] = [[]] from rfl, List.cons.injEq] at hc
        exact hc.1
      exact quote_ne _ h1.symm
  unfold SfGood fieldsL
  rw [if_neg hne, hc, List.map_map]
  refine List.map_congr_left fun x _ => ?_
  exact unq_quote _
/-- The line of the fields of a line is the line. -/
theorem join_good {l : List UInt8} {ys : List ByteArray} (h : SfGood (fieldsL l) ys) : jfL ys = l := by
  have hW : ∀ (W : List (List UInt8)) (ys : List ByteArray), SfGood W ys → (ys.map fun y => quoteL y.data.toList) = W := by
    intro W
    induction W with
    | nil =>
      intro ys h
      cases ys with
      | nil => rfl
      | cons y ys => unfold SfGood at h; simp at h
    | cons w W ih =>
      intro ys h
      cases ys with
      | nil => unfold SfGood at h; simp at h
      | cons y ys =>
        unfold SfGood at h
        rw [List.map_cons, List.map_cons, List.cons.injEq] at h
        rw [List.map_cons, ih ys h.2, quote_unq h.1]
  unfold jfL
  rw [hW _ _ h]
  unfold fieldsL
  split
  · rename_i h0
    rw [h0]
    rfl
  · exact join_cut 32 l
theorem jl_join (W : List (List UInt8)) (h : W ≠ []) : (W.flatMap fun x => x ++ [10]) = Lib.join W [10] ++ [10] := by
  induction W with
  | nil => exact absurd rfl h
  | cons x r ih =>
    cases r with
    | nil => simp [Lib.join_one]
    | cons y r =>
      rw [List.flatMap_cons, ih (by simp), Lib.join_cons x (y :: r), joinTail_ne 10 (y :: r) (by simp)]
      simp
theorem jl_map (ys : List ByteArray) : jlL ys = (ys.map (·.data.toList)).flatMap fun x => x ++ [10] := by
  unfold jlL
  rw [List.flatMap_map]
/-- The text of the lines of a text is the text. -/
theorem jl_good {l : List UInt8} {ys : List ByteArray} (h : LnGood l ys) : jlL ys = l := by
  rcases h with ⟨rfl, rfl⟩ | ⟨r, h, h1⟩
  · rfl
  · rw [jl_map, h1, jl_join _ (cutL_ne _ _), join_cut, h]
theorem cut_jl (xs : List ByteArray) (h : ∀ x ∈ xs, ∀ b ∈ x.data.toList, b ≠ 10) : cutL 10 (jlL xs) = xs.map (·.data.toList) ++ [[]] := by
  induction xs with
  | nil => rfl
  | cons x xs ih =>
    have e : jlL (x :: xs) = x.data.toList ++ (10 :: jlL xs) := by simp [jlL]
    rw [e, cutL_pre 10 _ _ (h x (by simp)), cutL_hit, ih fun y hy => h y (List.mem_cons_of_mem _ hy)]
    simp [preL]
theorem cut_more (c : UInt8) (x t : List UInt8) : (cutL c t).length + 1 ≤ (cutL c (x ++ c :: t)).length := by
  induction x with
  | nil =>
    rw [List.nil_append, cutL_hit, List.length_cons]
    omega
  | cons b x ih =>
    rw [List.cons_append]
    by_cases h : b = c
    · subst h
      rw [cutL_hit, List.length_cons]
      omega
    · rw [cutL_miss _ _ _ h]
      cases hq : cutL c (x ++ c :: t) with
      | nil => exact absurd hq (cutL_ne _ _)
      | cons p ps => rw [hq] at ih; simpa [preL] using ih
theorem cut_jl_len (xs : List ByteArray) : xs.length + 1 ≤ (cutL 10 (jlL xs)).length := by
  induction xs with
  | nil => simp [jlL, cutL]
  | cons x xs ih =>
    have e : jlL (x :: xs) = x.data.toList ++ (10 :: jlL xs) := by simp [jlL]
    have := cut_more 10 x.data.toList (jlL xs)
    rw [e, List.length_cons]
    omega
theorem jl_ends (xs : List ByteArray) : (jlL xs = [] ∧ xs = []) ∨ ∃ r, jlL xs = r ++ [10] := by
  rcases List.eq_nil_or_concat xs with rfl | ⟨ys, y, rfl⟩
  · exact .inl ⟨rfl, rfl⟩
  · exact .inr ⟨jlL ys ++ y.data.toList, by simp [jlL]⟩
/-- The lines of a joined text: as many as there were, and the same if no line holds a line feed. -/
theorem good_lines (xs : List ByteArray) : ∃ ys, LnGood (jlL xs) ys ∧ xs.length ≤ ys.length ∧ ((∀ x ∈ xs, ∀ b ∈ x.data.toList, b ≠ 10) → ys = xs) := by
  rcases jl_ends xs with ⟨h1, rfl⟩ | ⟨r, hr⟩
  · exact ⟨[], .inl ⟨h1, rfl⟩, Nat.le_refl _, fun _ => rfl⟩
  · refine ⟨(cutL 10 r).map fun x => ⟨x.toArray⟩, .inr ⟨r, hr, by rw [List.map_map]; simp [Function.comp_def]⟩, ?_, ?_⟩
    · have h1 := cut_jl_len xs
      rw [hr, cutL_snoc, List.length_append] at h1
      rw [List.length_map]
      simp at h1
      exact h1
    · intro h
      have h1 := cut_jl xs h
      rw [hr, cutL_snoc] at h1
      have h2 := (List.append_inj' h1 rfl).1
      refine datas_inj ?_
      rw [← h2, List.map_map]
      simp [Function.comp_def]
theorem jf_sum (xs : List ByteArray) : (jfL xs).length ≤ 3 * tot xs + 2 * xs.length := by
  have h1 : ∀ (r : List ByteArray), (Lib.joinTail [32] (r.map fun x => quoteL x.data.toList)).length ≤ 3 * tot r + 2 * r.length := by
    intro r
    induction r with
    | nil => simp [Lib.joinTail]
    | cons x r ih =>
      have e : tot (x :: r) = x.size + tot r := by simp [tot]
      have h2 := quoteL_le x.data.toList
      have h3 : x.data.toList.length = x.size := (str_size rfl).symm
      have e2 : Lib.joinTail [32] ((x :: r).map fun x => quoteL x.data.toList) = 32 :: (quoteL x.data.toList ++ Lib.joinTail [32] (r.map fun x => quoteL x.data.toList)) := by simp [Lib.joinTail]
      rw [e2, List.length_cons, List.length_append, List.length_cons, e]
      omega
  cases xs with
  | nil => simp [jfL, Lib.join_nil]
  | cons x r =>
    have h2 := quoteL_le x.data.toList
    have h3 : x.data.toList.length = x.size := (str_size rfl).symm
    have e : tot (x :: r) = x.size + tot r := by simp [tot]
    have h4 := h1 r
    unfold jfL
    rw [List.map_cons, Lib.join_cons, List.length_append, List.length_cons, e]
    omega
end Go.Proofs.YtolnchfgdkeamaaDoor
