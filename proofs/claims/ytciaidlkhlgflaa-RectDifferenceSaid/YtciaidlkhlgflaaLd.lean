import Derived.Test.YtciaidlkhlgflaaSv
namespace Go.Proofs.Ytciaidlkhlgflaa
open Go.RowKit
set_option linter.unusedVariables false
set_option linter.unusedSimpArgs false
/-- The rectangles of a difference. -/
def subL (a b c d s t u v : Int) : List (Int × Int × Int × Int) :=
  if eR a b c d = true then [] else
    if eR (max a (cn (eR s t u v) s)) (max b (cn (eR s t u v) t)) (min c (cn (eR s t u v) u)) (min d (cn (eR s t u v) v)) = true then [(a, b, c, d)]
    else neL (parts a b c d (max a (cn (eR s t u v) s)) (max b (cn (eR s t u v) t)) (min c (cn (eR s t u v) u)) (min d (cn (eR s t u v) v)))
theorem subL_le (a b c d s t u v : Int) : (subL a b c d s t u v).length ≤ 4 := by
  unfold subL
  split
  · simp
  · split
    · simp
    · exact Nat.le_trans (neL_le _) (by simp [parts])
theorem eR_self1 (a d c : Int) : eR a d a c = true := by simp [eR]
theorem eR_self2 (a d c : Int) : eR a d c d = true := by simp [eR]
theorem sub_any (a b c d s t u v : Int) (w : World) :
    Calls Try.prog 11 #[.agg #[.int .i64 a, .int .i64 b, .int .i64 c, .int .i64 d], .agg #[.int .i64 s, .int .i64 t, .int .i64 u, .int .i64 v]] w (SuPost w (subL a b c d s t u v)) := by
  cases ea : eR a b c d with
  | true =>
    refine sub_w a b c d s t u v 0 0 0 0 0 0 0 0 w _ (fun W => ?_) (fun W => ?_) ?_
    · have := canon_any a b c d W
      rw [ea] at this
      exact this
    · have h := intersect_any 0 0 0 0 s t u v _ _ _ _ rfl rfl rfl rfl W
      rw [ix_empty 0 0 0 0 s t u v _ _ _ _ rfl rfl rfl rfl (.inl (by decide))] at h
      exact h
    · simp [neL, eT, subL, ea]
      decide
  | false =>
    cases em : eR (max a (cn (eR s t u v) s)) (max b (cn (eR s t u v) t)) (min c (cn (eR s t u v) u)) (min d (cn (eR s t u v) v)) with
    | true =>
      refine sub_w a b c d s t u v a b c d 0 0 0 0 w _ (fun W => ?_) (fun W => ?_) ?_
      · have := canon_any a b c d W
        rw [ea] at this
        exact this
      · have h := intersect_any a b c d s t u v _ _ _ _ rfl rfl rfl rfl W
        rw [ea] at h
        simp only [cn_false] at h
        rw [em] at h
        exact h
      · simp [neL, eT, subL, ea, em]
    | false =>
      refine sub_w a b c d s t u v a b c d (max a (cn (eR s t u v) s)) (max b (cn (eR s t u v) t)) (min c (cn (eR s t u v) u)) (min d (cn (eR s t u v) v)) w _ (fun W => ?_) (fun W => ?_) ?_
      · have := canon_any a b c d W
        rw [ea] at this
        exact this
      · have h := intersect_any a b c d s t u v _ _ _ _ rfl rfl rfl rfl W
        rw [ea] at h
        simp only [cn_false] at h
        rw [em] at h
        exact h
      · have hn := (eR_false _ _ _ _).1 em
        rw [if_neg (by
          intro h
          simp only [Prod.mk.injEq] at h
          omega)]
        simp only [subL, ea, em, Bool.false_eq_true, if_false]
theorem rsub_any (a b c d s t u v : Int) (w : World) :
    Calls Try.prog 12 #[.agg #[.int .i64 a, .int .i64 b, .int .i64 c, .int .i64 d], .agg #[.int .i64 s, .int .i64 t, .int .i64 u, .int .i64 v]] w (SuPost w (subL a b c d s t u v)) := by
  cases ea : eR a b c d with
  | true =>
    refine rsub_w a b c d s t u v _ _ _ _ w _ _ true (fun W => rintersect_any a b c d s t u v _ _ _ _ rfl rfl rfl rfl W) (fun W => rempty_any _ _ _ _ W) (fun W => ?_) (by simp [subL, ea])
    have h := rempty_any a b c d W
    rwa [ea] at h
  | false =>
    have he : ∀ W, Calls Try.prog 28 #[.agg #[.int .i64 a, .int .i64 b, .int .i64 c, .int .i64 d]] W fun e w' => e = .returned (.bool false) ∧ Below W.heap.size W w' := fun W => by
      have h := rempty_any a b c d W
      rwa [ea] at h
    cases em : eR (max a (cn (eR s t u v) s)) (max b (cn (eR s t u v) t)) (min c (cn (eR s t u v) u)) (min d (cn (eR s t u v) v)) with
    | true =>
      refine rsub_w a b c d s t u v 0 0 0 0 w _ true false (fun W => ?_) (fun W => rempty_any 0 0 0 0 W) he ?_
      · have h := rintersect_any a b c d s t u v _ _ _ _ rfl rfl rfl rfl W
        rw [ea] at h
        simp only [cn_false] at h
        rw [em] at h
        exact h
      · simp only [subL, ea, em, Bool.false_eq_true, if_false, if_true]
        simp [neL, eT, parts, ea, eR_self1, eR_self2]
    | false =>
      refine rsub_w a b c d s t u v (max a (cn (eR s t u v) s)) (max b (cn (eR s t u v) t)) (min c (cn (eR s t u v) u)) (min d (cn (eR s t u v) v)) w _ false false (fun W => ?_) (fun W => ?_) he ?_
      · have h := rintersect_any a b c d s t u v _ _ _ _ rfl rfl rfl rfl W
        rw [ea] at h
        simp only [cn_false] at h
        rw [em] at h
        exact h
      · have h := rempty_any (max a (cn (eR s t u v) s)) (max b (cn (eR s t u v) t)) (min c (cn (eR s t u v) u)) (min d (cn (eR s t u v) v)) W
        rwa [em] at h
      · simp only [subL, ea, em, Bool.false_eq_true, if_false]
/-- What Subtract answers, as rows. -/
def SuA (w : World) (L : List (Int × Int × Int × Int)) (e : Ending) (w' : World) : Prop := ∃ x c, e = .returned (.slice x L.length c) ∧ L.length ≤ c ∧ RS 4 rcV w' x L ∧ Below w.heap.size w w'
theorem SuPost.a {w w' : World} {L : List (Int × Int × Int × Int)} {e : Ending} (h : SuPost w L e w') : SuA w L e w' := by
  obtain ⟨a, c, rfl, ho, hb⟩ := h
  exact ⟨a, c, rfl, own_capK ho, own_rs (by omega) rcV_len ho, hb⟩
set_option maxRecDepth 50000 in
set_option maxHeartbeats 4000000 in
theorem rectDifference_w (a b c d s t u v : Int) (w : World) :
    Calls Try.prog 3 #[.agg #[.int .i64 a, .int .i64 b, .int .i64 c, .int .i64 d], .agg #[.int .i64 s, .int .i64 t, .int .i64 u, .int .i64 v]] w fun e w' => e = .returned (.bool true) ∧ Below w.heap.size w w' := by
  have hx := fun W => rex_any W
  obtain ⟨L, hL⟩ : ∃ L, subL a b c d s t u v = L := ⟨_, rfl⟩
  have hl := subL_le a b c d s t u v
  have h1 := fun W => (sub_any a b c d s t u v W).mono fun e w' x => x.a
  have h2 := fun W => (rsub_any a b c d s t u v W).mono fun e w' x => x.a
  rw [hL] at h1 h2 hl
  have h3 : Hid (∀ W (a1 a2 : Option Addr) (c1 c2 : Nat), RS 4 rcV W a1 L → RS 4 rcV W a2 L → Calls Try.prog 10 #[.slice a1 L.length c1, .slice a2 L.length c2] W fun e w' => e = .returned (.bool true) ∧ ∃ nd, w' = W.drewN nd) := fun W a1 a2 c1 c2 x y => by
    have := sameR_any a1 a2 _ _ c1 c2 L L W rfl rfl (by omega) (by omega) x y
    simpa using this
  have H1 := Lib.hid h1
  have H2 := Lib.hid h2
  have HX := Lib.hid hx
  have HL := Lib.hid hl
  clear h1 h2 hx hL hl
  have hb0 : Below w.heap.size w ((w.alloc (.cells #[.int .i64 a, .int .i64 b, .int .i64 c, .int .i64 d] 23)).alloc (.cells #[.int .i64 s, .int .i64 t, .int .i64 u, .int .i64 v] 23)) := ((Below.refl _ w).alloc (Nat.le_refl _) _).alloc (by simp) _
  go_enter Try.func3, Try.ntmps3
  have hcell : ∀ W, Below ((w.alloc (.cells #[.int .i64 a, .int .i64 b, .int .i64 c, .int .i64 d] 23)).alloc (.cells #[.int .i64 s, .int .i64 t, .int .i64 u, .int .i64 v] 23)).heap.size ((w.alloc (.cells #[.int .i64 a, .int .i64 b, .int .i64 c, .int .i64 d] 23)).alloc (.cells #[.int .i64 s, .int .i64 t, .int .i64 u, .int .i64 v] 23)) W → W.cell? ⟨w.heap.size, 0, none⟩ = some (.int .i64 a) ∧ W.cell? ⟨w.heap.size, 1, none⟩ = some (.int .i64 b) ∧ W.cell? ⟨w.heap.size, 2, none⟩ = some (.int .i64 c) ∧ W.cell? ⟨w.heap.size, 3, none⟩ = some (.int .i64 d) ∧ W.cell? ⟨w.heap.size + 1, 0, none⟩ = some (.int .i64 s) ∧ W.cell? ⟨w.heap.size + 1, 1, none⟩ = some (.int .i64 t) ∧ W.cell? ⟨w.heap.size + 1, 2, none⟩ = some (.int .i64 u) ∧ W.cell? ⟨w.heap.size + 1, 3, none⟩ = some (.int .i64 v) := fun W hW => by
    have P1 : B.Bx ((w.alloc (.cells #[.int .i64 a, .int .i64 b, .int .i64 c, .int .i64 d] 23)).alloc (.cells #[.int .i64 s, .int .i64 t, .int .i64 u, .int .i64 v] 23)) w.heap.size [.int .i64 a, .int .i64 b, .int .i64 c, .int .i64 d] := (B.Bx.new w [.int .i64 a, .int .i64 b, .int .i64 c, .int .i64 d] 23).al _
    have P2 : B.Bx ((w.alloc (.cells #[.int .i64 a, .int .i64 b, .int .i64 c, .int .i64 d] 23)).alloc (.cells #[.int .i64 s, .int .i64 t, .int .i64 u, .int .i64 v] 23)) (w.heap.size + 1) [.int .i64 s, .int .i64 t, .int .i64 u, .int .i64 v] := B.Bx.newAt _ [.int .i64 s, .int .i64 t, .int .i64 u, .int .i64 v] 23 (by simp)
    obtain ⟨⟨k0, _⟩, ⟨k1, _⟩, ⟨k2, _⟩, ⟨k3, _⟩, _⟩ := (P1.below hW).x4
    obtain ⟨⟨k4, _⟩, ⟨k5, _⟩, ⟨k6, _⟩, ⟨k7, _⟩, _⟩ := (P2.below hW).x4
    exact ⟨k0, k1, k2, k3, k4, k5, k6, k7⟩
  have HC := Lib.hid hcell
  clear hcell
  go_wp2
  go_region_held3 (fun W => W.cell? ⟨w.heap.size, 0, none⟩ = some (.int .i64 a) ∧ W.cell? ⟨w.heap.size, 1, none⟩ = some (.int .i64 b) ∧ W.cell? ⟨w.heap.size, 2, none⟩ = some (.int .i64 c) ∧ W.cell? ⟨w.heap.size, 3, none⟩ = some (.int .i64 d) ∧ W.cell? ⟨w.heap.size + 1, 0, none⟩ = some (.int .i64 s) ∧ W.cell? ⟨w.heap.size + 1, 1, none⟩ = some (.int .i64 t) ∧ W.cell? ⟨w.heap.size + 1, 2, none⟩ = some (.int .i64 u) ∧ W.cell? ⟨w.heap.size + 1, 3, none⟩ = some (.int .i64 v)) (first | go_keep | (with_reducible exact KP) | fail) (first
    | ((with_reducible refine (H1.out _).mono ?_); rintro e w1 ⟨x1, c1, rfl, hc1, hr1, hb1⟩; have hB1 := (Below.refl _ ((w.alloc (.cells #[.int .i64 a, .int .i64 b, .int .i64 c, .int .i64 d] 23)).alloc (.cells #[.int .i64 s, .int .i64 t, .int .i64 u, .int .i64 v] 23))).drew.trans (hb1.mono (Nat.le_refl _)); have KP := HC.out w1 hB1)
    | ((with_reducible refine (H2.out _).mono ?_); rintro e w2 ⟨x2, c2, rfl, hc2, hr2, hb2⟩; have hr3 := hr1.below hb2; have hB2 := hB1.trans (hb2.mono hB1.size); have KP := HC.out w2 hB2)
    | ((with_reducible refine (h3.out _ _ _ _ _ hr3 hr2).mono ?_); rintro e w3 ⟨rfl, nd, rfl⟩)
    | ((with_reducible refine (HX.out _).mono ?_); rintro e w4 ⟨rfl, hb4⟩; have hB4 := (below_drewN hB2 _).trans (hb4.mono (below_drewN hB2 0).size); have KP := HC.out w4 hB4))
  go_wp2
  go_ret
  exact ⟨rfl, hb0.trans (hB4.mono hb0.size)⟩
end Go.Proofs.Ytciaidlkhlgflaa
