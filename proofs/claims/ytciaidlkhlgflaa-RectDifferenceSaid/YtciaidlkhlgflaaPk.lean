import Init
namespace Go.Proofs.Ytciaidlkhlgflaa
set_option linter.unusedVariables false
/- plain facts on packing -/
def sideB (n : Int) : Bool := decide (1 ≤ n) && decide (n ≤ 4096)
theorem sideB_iff (n : Int) : sideB n = true ↔ 1 ≤ n ∧ n ≤ 4096 := by simp [sideB]
def fitB (w : Int) (p : Int × Int) (s : Int × Int × Int) : Bool := decide (p.2 ≤ s.2.1) && decide (p.1 ≤ w - s.2.2)
def ffit (w : Int) (p : Int × Int) (l : List (Int × Int × Int)) : Nat := l.findIdx (fitB w p)
theorem ffit_le (w : Int) (p : Int × Int) (l : List (Int × Int × Int)) : ffit w p l ≤ l.length := List.findIdx_le_length
def placeR (s : Int × Int × Int) (p : Int × Int) : Int × Int × Int × Int := (s.2.2, s.1, s.2.2 + p.1, s.1 + p.2)
def takeS (s : Int × Int × Int) (p : Int × Int) : Int × Int × Int := (s.1, s.2.1, s.2.2 + p.1)
def okP (w : Int) (p : Int × Int) : Bool := sideB p.1 && sideB p.2 && decide (p.1 ≤ w)
def packL (w h : Int) : List (Int × Int × Int) → Int → List (Int × Int) → Option (List (Int × Int × Int × Int))
  | _, _, [] => some []
  | sh, b, p :: r =>
    if okP w p = true then
      match sh[ffit w p sh]? with
      | some s => (packL w h (sh.set (ffit w p sh) (takeS s p)) b r).map (placeR s p :: ·)
      | none => if b + p.2 ≤ h then (packL w h (sh ++ [takeS (b, p.2, 0) p]) (b + p.2) r).map (placeR (b, p.2, 0) p :: ·) else none
    else none
theorem packL_bad {w h : Int} {sh : List (Int × Int × Int)} {b : Int} {p : Int × Int} {r : List (Int × Int)} (h1 : okP w p = false) : packL w h sh b (p :: r) = none := by
  simp [packL, h1]
theorem packL_fit {w h : Int} {sh : List (Int × Int × Int)} {b : Int} {p : Int × Int} {r : List (Int × Int)} (h1 : okP w p = true) {i : Nat} (hi : i < sh.length) (he : ffit w p sh = i) : packL w h sh b (p :: r) = (packL w h (sh.set i (takeS sh[i] p)) b r).map (placeR sh[i] p :: ·) := by
  subst he
  simp [packL, h1, List.getElem?_eq_getElem hi]
theorem packL_new {w h : Int} {sh : List (Int × Int × Int)} {b : Int} {p : Int × Int} {r : List (Int × Int)} (h1 : okP w p = true) (he : ffit w p sh = sh.length) (hb : b + p.2 ≤ h) : packL w h sh b (p :: r) = (packL w h (sh ++ [takeS (b, p.2, 0) p]) (b + p.2) r).map (placeR (b, p.2, 0) p :: ·) := by
  simp [packL, h1, he, hb]
theorem packL_full {w h : Int} {sh : List (Int × Int × Int)} {b : Int} {p : Int × Int} {r : List (Int × Int)} (h1 : okP w p = true) (he : ffit w p sh = sh.length) (hb : ¬ b + p.2 ≤ h) : packL w h sh b (p :: r) = none := by
  simp [packL, h1, he, hb]
/-- Shelves of a page. -/
def SOk (b : Int) (sh : List (Int × Int × Int)) : Prop := 0 ≤ b ∧ b ≤ 4096 ∧ ∀ i (h : i < sh.length), 0 ≤ sh[i].1 ∧ sh[i].1 ≤ 4096 ∧ 1 ≤ sh[i].2.1 ∧ sh[i].2.1 ≤ 4096 ∧ 0 ≤ sh[i].2.2 ∧ sh[i].2.2 ≤ 4096
theorem SOk.zero : SOk 0 [] := ⟨by omega, by omega, fun i h => by simp at h⟩
theorem SOk.new {b : Int} {sh : List (Int × Int × Int)} (h : SOk b sh) {y h' : Int} (h1 : 1 ≤ y) (h2 : y ≤ 4096) (h3 : b + y ≤ 4096) : SOk (b + y) (sh ++ [(b, y, 0)]) := by
  refine ⟨by have := h.1; omega, h3, fun i hi => ?_⟩
  rw [List.getElem_append]
  split
  · exact h.2.2 i ‹_›
  · simp; have := h.1; have := h.2.1; omega
theorem SOk.take {b : Int} {sh : List (Int × Int × Int)} (h : SOk b sh) {i : Nat} (hi : i < sh.length) {p : Int × Int} (h1 : 0 ≤ p.1) (h2 : sh[i].2.2 + p.1 ≤ 4096) : SOk b (sh.set i (takeS sh[i] p)) := by
  refine ⟨h.1, h.2.1, fun j hj => ?_⟩
  rw [List.getElem_set]
  split
  · have := h.2.2 i hi
    simp only [takeS]; omega
  · exact h.2.2 j (by simpa using hj)
theorem ffit_at {w : Int} {p : Int × Int} {l : List (Int × Int × Int)} {i : Nat} (hi : i < l.length) (h : ffit w p l = i) : p.2 ≤ l[i].2.1 ∧ p.1 ≤ w - l[i].2.2 := by
  have h2 : fitB w p (l[i]'hi) = true := by
    subst h
    exact List.findIdx_getElem (w := hi)
  simpa [fitB] using h2
theorem ffit_step {w : Int} {p : Int × Int} {l : List (Int × Int × Int)} {k : Nat} (hk : k < l.length) (h : ∀ j (hj : j < l.length), j < k → fitB w p l[j] = false) (hf : fitB w p l[k] = true) : ffit w p l = k := by
  unfold ffit
  rw [List.findIdx_eq hk]
  exact ⟨hf, fun j hj => h j (by omega) hj⟩
theorem ffit_none {w : Int} {p : Int × Int} {l : List (Int × Int × Int)} (h : ∀ j (hj : j < l.length), fitB w p l[j] = false) : ffit w p l = l.length := by
  unfold ffit
  rw [List.findIdx_eq_length]
  intro x hx
  obtain ⟨i, hi, rfl⟩ := List.mem_iff_getElem.1 hx
  exact h i hi
end Go.Proofs.Ytciaidlkhlgflaa
