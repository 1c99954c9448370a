import Derived.Test.YtciaidlkhlgflaaPk
import Derived.Test.YtciaidlkhlgflaaRectNum2
namespace Go.Proofs.Ytciaidlkhlgflaa
set_option linter.unusedVariables false
/- packed rectangles are apart -/
def gS (s : Int × Int × Int) : Int × Int := (s.1, s.2.1)
def apR (r t : Int × Int × Int × Int) : Prop := r.2.2.1 ≤ t.1 ∨ t.2.2.1 ≤ r.1 ∨ r.2.2.2 ≤ t.2.1 ∨ t.2.2.2 ≤ r.2.1
def inS (r : Int × Int × Int × Int) (s : Int × Int × Int) : Prop := r.2.1 = s.1 ∧ r.2.2.2 ≤ s.1 + s.2.1 ∧ r.2.2.1 ≤ s.2.2 ∧ 0 ≤ r.1 ∧ r.1 < r.2.2.1 ∧ r.2.1 < r.2.2.2
structure PkI (w h : Int) (sh : List (Int × Int × Int)) (b : Int) (acc : List (Int × Int × Int × Int)) : Prop where
  up : (sh.map gS).Pairwise fun s t => s.1 + s.2 ≤ t.1
  bd : ∀ s ∈ sh, 0 ≤ s.1 ∧ s.1 + s.2.1 ≤ b ∧ 1 ≤ s.2.1 ∧ 0 ≤ s.2.2 ∧ s.2.2 ≤ w
  b0 : 0 ≤ b
  b1 : b ≤ h
  ins : ∀ r ∈ acc, ∃ i, ∃ hi : i < sh.length, inS r sh[i]
  ap : acc.Pairwise apR
theorem set_gS (sh : List (Int × Int × Int)) (i : Nat) (hi : i < sh.length) (p : Int × Int) : (sh.set i (takeS sh[i] p)).map gS = sh.map gS := by
  rw [List.map_set]
  apply List.ext_getElem (by simp)
  intro j h1 h2
  rw [List.getElem_set]
  split
  · subst_vars; simp [gS, takeS]
  · rfl
theorem PkI.step {w h : Int} {sh : List (Int × Int × Int)} {b : Int} {acc : List (Int × Int × Int × Int)} (I : PkI w h sh b acc) {i : Nat} (hi : i < sh.length) {p : Int × Int} (h1 : 1 ≤ p.1) (h2 : 1 ≤ p.2) (h3 : p.2 ≤ sh[i].2.1) (h4 : p.1 ≤ w - sh[i].2.2) :
    PkI w h (sh.set i (takeS sh[i] p)) b (acc ++ [placeR sh[i] p]) := by
  have hb := I.bd sh[i] (List.getElem_mem hi)
  refine ⟨by rw [set_gS sh i hi]; exact I.up, fun s hs => ?_, I.b0, I.b1, fun r hr => ?_, ?_⟩
  · rcases List.mem_or_eq_of_mem_set hs with h | rfl
    · exact I.bd s h
    · simp only [takeS]; omega
  · rcases List.mem_append.1 hr with h | h
    · obtain ⟨j, hj, hin⟩ := I.ins r h
      refine ⟨j, by simpa using hj, ?_⟩
      rw [List.getElem_set]
      split
      · subst_vars
        obtain ⟨e1, e2, e3, e4⟩ := hin
        exact ⟨e1, e2, by simp only [takeS]; omega, e4⟩
      · exact hin
    · simp at h
      subst h
      refine ⟨i, by simpa using hi, ?_⟩
      rw [List.getElem_set_self]
      refine ⟨rfl, ?_, ?_, ?_, ?_, ?_⟩
      all_goals (simp only [placeR, takeS]; omega)
  · rw [List.pairwise_append]
    refine ⟨I.ap, List.pairwise_singleton _ _, fun r hr t ht => ?_⟩
    simp at ht
    subst ht
    obtain ⟨j, hj, e1, e2, e3, e4, e5, e6⟩ := I.ins r hr
    have up := List.pairwise_iff_getElem.1 I.up
    rcases Nat.lt_trichotomy j i with h | h | h
    · have := up j i (by simpa using hj) (by simpa using hi) h
      simp [gS] at this
      exact .inr (.inr (.inl (by simp only [placeR]; omega)))
    · subst h
      exact .inl (by simp only [placeR]; omega)
    · have := up i j (by simpa using hi) (by simpa using hj) h
      simp [gS] at this
      exact .inr (.inr (.inr (by simp only [placeR]; omega)))
theorem PkI.new {w h : Int} {sh : List (Int × Int × Int)} {b : Int} {acc : List (Int × Int × Int × Int)} (I : PkI w h sh b acc) {y : Int} (h1 : 1 ≤ y) (h2 : b + y ≤ h) (hw : 0 ≤ w) : PkI w h (sh ++ [(b, y, 0)]) (b + y) acc := by
  refine ⟨?_, fun s hs => ?_, by have := I.b0; omega, h2, fun r hr => ?_, I.ap⟩
  · rw [List.map_append, List.pairwise_append]
    refine ⟨I.up, List.pairwise_singleton _ _, fun s hs t ht => ?_⟩
    simp at ht
    subst ht
    obtain ⟨s', hs', rfl⟩ := List.mem_map.1 hs
    exact (I.bd s' hs').2.1
  · rcases List.mem_append.1 hs with h | h
    · have := I.bd s h; omega
    · simp at h
      subst h
      have := I.b0
      simp; omega
  · obtain ⟨j, hj, hin⟩ := I.ins r hr
    exact ⟨j, by simp; omega, by rw [List.getElem_append_left hj]; exact hin⟩
theorem packL_inv {w h : Int} (hw : 0 ≤ w) : ∀ (l : List (Int × Int)) (sh : List (Int × Int × Int)) (b : Int) (acc r : List (Int × Int × Int × Int)), packL w h sh b l = some r → PkI w h sh b acc → ∃ sh' b', PkI w h sh' b' (acc ++ r)
  | [], sh, b, acc, r, hr, I => by simp [packL] at hr; subst hr; exact ⟨sh, b, by simpa using I⟩
  | p :: t, sh, b, acc, r, hr, I => by
    have ih := packL_inv (h := h) hw t
    cases hok : okP w p with
    | false => rw [packL_bad hok] at hr; cases hr
    | true =>
      have hok' := hok
      simp [okP, sideB] at hok'
      obtain ⟨i, hie⟩ : ∃ i, ffit w p sh = i := ⟨_, rfl⟩
      have hile : i ≤ sh.length := by rw [← hie]; exact ffit_le _ _ _
      by_cases hi : i < sh.length
      · rw [packL_fit hok hi hie, Option.map_eq_some_iff] at hr
        obtain ⟨r', h2, rfl⟩ := hr
        have hat := ffit_at hi hie
        obtain ⟨sh', b', I'⟩ := ih _ _ _ _ h2 (I.step hi (by omega) (by omega) hat.1 hat.2)
        exact ⟨sh', b', by simpa using I'⟩
      · obtain rfl : i = sh.length := by omega
        by_cases hb : b + p.2 ≤ h
        · rw [packL_new hok hie hb, Option.map_eq_some_iff] at hr
          obtain ⟨r', h2, rfl⟩ := hr
          have I2 := I.new (y := p.2) (by omega) hb hw
          have I3 := I2.step (i := sh.length) (by simp) (p := p) (by omega) (by omega) (by simp) (by simp; omega)
          have e : (sh ++ [(b, p.2, (0 : Int))]).set sh.length (takeS (sh ++ [(b, p.2, (0 : Int))])[sh.length] p) = sh ++ [takeS (b, p.2, 0) p] := by simp
          rw [e] at I3
          simp at I3
          obtain ⟨sh', b', I'⟩ := ih _ _ _ _ h2 I3
          exact ⟨sh', b', by simpa using I'⟩
        · rw [packL_full hok hie hb] at hr; cases hr
theorem packL_size {w h : Int} : ∀ (l : List (Int × Int)) (sh : List (Int × Int × Int)) (b : Int) (r : List (Int × Int × Int × Int)), packL w h sh b l = some r → r.map (fun t => (t.2.2.1 - t.1, t.2.2.2 - t.2.1)) = l
  | [], sh, b, r, hr => by simp [packL] at hr; subst hr; rfl
  | p :: t, sh, b, r, hr => by
    have ih := packL_size (w := w) (h := h) t
    unfold packL at hr
    split at hr
    · split at hr
      · rw [Option.map_eq_some_iff] at hr
        obtain ⟨r', h2, rfl⟩ := hr
        rw [List.map_cons, ih _ _ _ h2]
        exact congrArg (· :: t) (Prod.ext (by simp only [placeR]; omega) (by simp only [placeR]; omega))
      · split at hr
        · rw [Option.map_eq_some_iff] at hr
          obtain ⟨r', h2, rfl⟩ := hr
          rw [List.map_cons, ih _ _ _ h2]
          exact congrArg (· :: t) (Prod.ext (by simp only [placeR]; omega) (by simp only [placeR]; omega))
        · cases hr
    · cases hr
theorem packL_good {w h : Int} {l : List (Int × Int)} {r : List (Int × Int × Int × Int)} (hw : 1 ≤ w) (hw2 : w ≤ 4096) (hh : 0 ≤ h) (hh2 : h ≤ 4096) (hr : packL w h [] 0 l = some r) :
    (∀ i (hi : i < r.length), 0 ≤ r[i].1 ∧ r[i].1 < r[i].2.2.1 ∧ r[i].2.2.1 ≤ w ∧ 0 ≤ r[i].2.1 ∧ r[i].2.1 < r[i].2.2.2 ∧ r[i].2.2.2 ≤ h) ∧ r.Pairwise apR := by
  obtain ⟨sh, b, I⟩ := packL_inv (h := h) (by omega) l [] 0 [] r hr ⟨by simp, by simp, by omega, by omega, by simp, by simp⟩
  rw [List.nil_append] at I
  refine ⟨fun i hi => ?_, I.ap⟩
  obtain ⟨j, hj, e1, e2, e3, e4, e5, e6⟩ := I.ins r[i] (List.getElem_mem hi)
  have := I.bd sh[j] (List.getElem_mem hj)
  have := I.b1
  omega
/-- Rectangles apart have no pixel in common. -/
theorem ap_empty {r t : Int × Int × Int × Int} {m0 m1 m2 m3 : Int} (h : apR r t) (j0 : max r.1 t.1 = m0) (j1 : max r.2.1 t.2.1 = m1) (j2 : min r.2.2.1 t.2.2.1 = m2) (j3 : min r.2.2.2 t.2.2.2 = m3) : eR m0 m1 m2 m3 = true := by
  cases he : eR m0 m1 m2 m3 with
  | true => rfl
  | false =>
    have := (eR_false _ _ _ _).1 he
    simp only [apR] at h
    omega
end Go.Proofs.Ytciaidlkhlgflaa
