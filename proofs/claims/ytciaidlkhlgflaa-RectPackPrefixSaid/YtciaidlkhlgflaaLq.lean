import Derived.Test.YtciaidlkhlgflaaLp
namespace Go.Proofs.Ytciaidlkhlgflaa
open Go.RowKit
set_option linter.unusedVariables false
set_option linter.unusedSimpArgs false
theorem packL_take {w h : Int} : ∀ (l : List (Int × Int)) (sh : List (Int × Int × Int)) (b : Int) (r : List (Int × Int × Int × Int)) (k : Nat), packL w h sh b l = some r → packL w h sh b (l.take k) = some (r.take k)
  | [], sh, b, r, k, hr => by simp [packL] at hr; subst hr; simp [packL]
  | p :: t, sh, b, r, 0, hr => by simp [packL]
  | p :: t, sh, b, r, k + 1, hr => by
    have ih := packL_take (w := w) (h := h) t
    unfold packL at hr
    rw [List.take_succ_cons]
    unfold packL
    split at hr
    · rename_i h1
      rw [if_pos h1]
      split at hr
      · rename_i s hs
        simp only [Option.map_eq_some_iff] at hr
        obtain ⟨r', h2, rfl⟩ := hr
        simp [ih _ _ _ k h2]
      · rename_i hs
        split at hr
        · rename_i h3
          simp only [Option.map_eq_some_iff] at hr
          obtain ⟨r', h2, rfl⟩ := hr
          simp [h3, ih _ _ _ k h2]
        · cases hr
    · cases hr
theorem packL_tall {w h h' : Int} (hh : h ≤ h') : ∀ (l : List (Int × Int)) (sh : List (Int × Int × Int)) (b : Int) (r : List (Int × Int × Int × Int)), packL w h sh b l = some r → packL w h' sh b l = some r
  | [], sh, b, r, hr => by simpa [packL] using hr
  | p :: t, sh, b, r, hr => by
    have ih := packL_tall (w := w) hh t
    unfold packL at hr ⊢
    split at hr
    · rename_i h1
      rw [if_pos h1]
      split at hr
      · rename_i s hs
        simp only [Option.map_eq_some_iff] at hr
        obtain ⟨r', h2, rfl⟩ := hr
        simp [ih _ _ _ h2]
      · rename_i hs
        split at hr
        · rename_i h3
          simp only [Option.map_eq_some_iff] at hr
          obtain ⟨r', h2, rfl⟩ := hr
          have h4 : b + p.2 ≤ h' := by omega
          simp [h4, ih _ _ _ h2]
        · cases hr
    · cases hr
theorem packR_take {q h : Int} {l : List (Int × Int)} {r : List (Int × Int × Int × Int)} (k : Nat) (hr : packR q h l = some r) : packR q h (l.take k) = some (r.take k) := by
  unfold packR at hr ⊢
  split at hr
  · rename_i h1
    have h2 : (sideB q && sideB h && decide ((l.take k).length ≤ 1024)) = true := by
      simp at h1 ⊢
      exact ⟨h1.1, by omega⟩
    rw [if_pos h2]
    exact packL_take _ _ _ _ k hr
  · cases hr
theorem packR_tall {q h h' : Int} {l : List (Int × Int)} {r : List (Int × Int × Int × Int)} (h1 : h ≤ h') (h2 : h' ≤ 4096) (hr : packR q h l = some r) : packR q h' l = some r := by
  unfold packR at hr ⊢
  split at hr
  · rename_i h3
    simp at h3
    have h4 := (sideB_iff h).1 h3.1.2
    have h5 : sideB h' = true := (sideB_iff h').2 (by omega)
    rw [if_pos (by simp [h3.1.1, h5, h3.2])]
    exact packL_tall h1 _ _ _ _ hr
  · cases hr
theorem clampN (n : Int) (m : Nat) : ∃ (x : Int) (k : Nat), k ≤ m ∧ (if (m : Int) < n then (m : Int) else n) = x ∧ min n (m : Int) = x ∧ (if 0 < x then x else 0) = (k : Int) ∧ max 0 x = (k : Int) := by
  refine ⟨min n (m : Int), (max 0 (min n (m : Int))).toNat, by omega, ?_, rfl, ?_, by omega⟩
  · split <;> omega
  · split <;> omega
set_option maxRecDepth 50000 in
set_option maxHeartbeats 4000000 in
theorem rectPackPrefix_w (q h g : Int) (a : Option Addr) (n c : Nat) (l : List (Int × Int)) (t : Int) (w : World) (hn : l.length = n) (hnc : n ≤ c) (hr : RS 2 ptV w a l) :
    Calls Try.prog 8 #[.agg #[.int .i64 q, .int .i64 h, .int .i64 g], .slice a n c, .int .i64 t] w fun e w' => e = .returned (.bool true) ∧ Below w.heap.size w w' := by
  have hx := fun W => rex_any W
  have hb0 := Below.alloc (Below.refl w.heap.size w) (Nat.le_refl _) (.cells #[.int .i64 q, .int .i64 h, .int .i64 g] 45)
  by_cases hbig : 40 < n
  · go_enter Try.func8, Try.ntmps8
    go_wp2
    go_quiet (fail)
    go_wp2_with (go_at_call 13; go_loud ((with_reducible refine (hx _).mono ?_); rintro e w1 ⟨rfl, hb1⟩))
    go_ret
    exact ⟨rfl, (below_drewN hb0 _).trans (hb1.mono (below_drewN hb0 1).size)⟩
  have hbq : ∀ nq, Below w.heap.size w ((w.alloc (.cells #[.int .i64 q, .int .i64 h, .int .i64 g] 45)).drewN nq) := fun nq => below_drewN hb0 nq
  have HBQ := Lib.hid hbq
  clear hb0 hbq
  obtain ⟨x9, k, hk, hk1, hk2, hk3, hk4⟩ := clampN t n
  have hkc : k ≤ c := by omega
  have h3 : Hid (∀ W (a1 a2 : Option Addr) (m c1 c2 : Nat) (M : List (Int × Int × Int × Int)), M.length = m → m ≤ 1024 → RS 4 rcV W a1 M → RS 4 rcV W a2 M → Calls Try.prog 24 #[.slice a1 m c1, .slice a2 m c2] W fun e w' => e = .returned (.bool true) ∧ Below W.heap.size W w') := fun W a1 a2 m c1 c2 M hm hs x y => by
    have := eqr_any a1 a2 m m c1 c2 M M W hm hm (by omega) (by omega) x y
    simpa using this
  cases hP : packR q h l with
  | none =>
    have h1 := Lib.hid (fun W (hr' : RS 2 ptV W a l) => (pack_any a n c q h l W hn hr').mono fun e w' x => x.a (L := []) (ok := false) (by rw [hP]; rfl) (by rw [hP]; rfl))
    clear hP
    go_enter Try.func8, Try.ntmps8
    go_wp2
    go_quiet (fail)
    go_wp2_with (first
      | (go_at_call 22; go_loud ((with_reducible refine (h1.out _ (hr.below (by first | exact HBQ.out _))).mono ?_); rintro e w1 ⟨a1, c1, rfl, hc1, hr1, hb1⟩))
      | (go_at_call 13; go_loud ((with_reducible refine (hx _).mono ?_); rintro e w6 ⟨rfl, hb6⟩)))
    go_ret
    exact ⟨rfl, ((HBQ.out _).trans (hb1.mono (HBQ.out 0).size)).trans (hb6.mono (Nat.le_trans (HBQ.out 0).size hb1.size))⟩
  | some L =>
    have hLl := packR_len hP
    have hLn : L.length = n := by omega
    have h1 := Lib.hid (fun W (hr' : RS 2 ptV W a l) => (pack_any a n c q h l W hn hr').mono fun e w' x => x.a (L := L) (ok := true) (by rw [hP]; rfl) (by rw [hP]; rfl))
    have hPt := packR_take k hP
    have htl : (L.take k).length = k := by simp; omega
    have h2 : Hid (∀ W, RS 2 ptV W a l → Calls Try.prog 22 #[.int .i64 q, .int .i64 h, .slice a k c] W fun e w' => ∃ a2 c2, e = .returned (.tuple #[.slice a2 k c2, .bool true]) ∧ RS 4 rcV w' a2 (L.take k) ∧ Below W.heap.size W w') := fun W hr' =>
      (pack_any a k c q h (l.take k) W (by simp; omega) (hr'.take k)).mono fun e w' x => by
        obtain ⟨a2, c2, h5, _, h6, h7⟩ := x.a (L := L.take k) (ok := true) (by rw [hPt]; rfl) (by rw [hPt]; rfl)
        rw [htl] at h5
        exact ⟨a2, c2, h5, h6, h7⟩
    have HTL := Lib.hid htl
    have HLN := Lib.hid hLn
    have hk24 : k ≤ 1024 := by omega
    have hn24 : n ≤ 1024 := by omega
    have h1' : Hid (∀ W, RS 2 ptV W a l → Calls Try.prog 22 #[.int .i64 q, .int .i64 h, .slice a n c] W fun e w' => ∃ a2 c2, e = .returned (.tuple #[.slice a2 n c2, .bool true]) ∧ n ≤ c2 ∧ RS 4 rcV w' a2 L ∧ Below W.heap.size W w') := fun W hr' => by
      refine (h1.out W hr').mono fun e w' x => ?_
      obtain ⟨a2, c2, h5, h6, h7, h8⟩ := x
      rw [hLn] at h5 h6
      exact ⟨a2, c2, h5, h6, h7, h8⟩
    clear h1 htl hLn hLl hPt
    by_cases hg1 : g < h
    · clear hP
      go_enter Try.func8, Try.ntmps8
      go_wp2
      go_quiet (fail)
      go_wp2_with (first
        | (go_at_call 22; go_loud (first
          | ((with_reducible refine (h1'.out _ (hr.below (by first | exact HBQ.out _))).mono ?_); rintro e w1 ⟨a1, c1, rfl, hc1, hr1, hb1'⟩; have hb1 := (HBQ.out _).trans (hb1'.mono (HBQ.out 0).size); have hk9 : k ≤ c1 := Nat.le_trans hk hc1)
          | ((with_reducible refine (h2.out _ (hr.below hb1)).mono ?_); rintro e w2 ⟨a2, c2, rfl, hr2, hb2'⟩; have hr3 := hr1.below hb2'; have hb2 := hb1.trans (hb2'.mono hb1.size))))
        | (go_at_call 24; go_loud (first
          | ((with_reducible refine (h3.out _ _ _ _ _ _ _ HTL.out hk24 hr2 (hr3.take k)).mono ?_); rintro e w4 ⟨rfl, hb4⟩; have hr4 := hr3.below hb4; have hb5 := hb2.trans (hb4.mono hb2.size))))
        | (go_at_call 13; go_loud ((with_reducible refine (hx _).mono ?_); rintro e w6 ⟨rfl, hb6⟩)))
      go_ret
      exact ⟨rfl, hb5.trans (hb6.mono hb5.size)⟩
    by_cases hg2 : 4096 < g
    · clear hP
      go_enter Try.func8, Try.ntmps8
      go_wp2
      go_quiet (fail)
      go_wp2_with (first
        | (go_at_call 22; go_loud (first
          | ((with_reducible refine (h1'.out _ (hr.below (by first | exact HBQ.out _))).mono ?_); rintro e w1 ⟨a1, c1, rfl, hc1, hr1, hb1'⟩; have hb1 := (HBQ.out _).trans (hb1'.mono (HBQ.out 0).size); have hk9 : k ≤ c1 := Nat.le_trans hk hc1)
          | ((with_reducible refine (h2.out _ (hr.below hb1)).mono ?_); rintro e w2 ⟨a2, c2, rfl, hr2, hb2'⟩; have hr3 := hr1.below hb2'; have hb2 := hb1.trans (hb2'.mono hb1.size))))
        | (go_at_call 24; go_loud (first
          | ((with_reducible refine (h3.out _ _ _ _ _ _ _ HTL.out hk24 hr2 (hr3.take k)).mono ?_); rintro e w4 ⟨rfl, hb4⟩; have hr4 := hr3.below hb4; have hb5 := hb2.trans (hb4.mono hb2.size))))
        | (go_at_call 13; go_loud ((with_reducible refine (hx _).mono ?_); rintro e w6 ⟨rfl, hb6⟩)))
      go_ret
      exact ⟨rfl, hb5.trans (hb6.mono hb5.size)⟩
    have hPg := packR_tall (h' := g) (by omega) (by omega) hP
    have h7 : Hid (∀ W, RS 2 ptV W a l → Calls Try.prog 22 #[.int .i64 q, .int .i64 g, .slice a n c] W fun e w' => ∃ a2 c2, e = .returned (.tuple #[.slice a2 n c2, .bool true]) ∧ n ≤ c2 ∧ RS 4 rcV w' a2 L ∧ Below W.heap.size W w') := fun W hr' =>
      (pack_any a n c q g l W hn hr').mono fun e w' x => by
        obtain ⟨a2, c2, h5, h6, h7, h8⟩ := x.a (L := L) (ok := true) (by rw [hPg]; rfl) (by rw [hPg]; rfl)
        rw [HLN.out] at h5 h6
        exact ⟨a2, c2, h5, h6, h7, h8⟩
    clear hP hPg
    go_enter Try.func8, Try.ntmps8
    go_wp2
    go_quiet (fail)
    go_wp2_with (first
      | (go_at_call 22; go_loud (first
        | ((with_reducible refine (h1'.out _ (hr.below (by first | exact HBQ.out _))).mono ?_); rintro e w1 ⟨a1, c1, rfl, hc1, hr1, hb1'⟩; have hb1 := (HBQ.out _).trans (hb1'.mono (HBQ.out 0).size); have hk9 : k ≤ c1 := Nat.le_trans hk hc1)
        | ((with_reducible refine (h2.out _ (hr.below hb1)).mono ?_); rintro e w2 ⟨a2, c2, rfl, hr2, hb2'⟩; have hr3 := hr1.below hb2'; have hb2 := hb1.trans (hb2'.mono hb1.size))
        | ((with_reducible refine (h7.out _ (hr.below hb5)).mono ?_); rintro e w7 ⟨a7, c7, rfl, hc7, hr7, hb7'⟩; have hr8 := hr4.below hb7'; have hb8 := hb5.trans (hb7'.mono hb5.size))))
      | (go_at_call 24; go_loud (first
        | ((with_reducible refine (h3.out _ _ _ _ _ _ _ HTL.out hk24 hr2 (hr3.take k)).mono ?_); rintro e w4 ⟨rfl, hb4⟩; have hr4 := hr3.below hb4; have hb5 := hb2.trans (hb4.mono hb2.size))
        | ((with_reducible refine (h3.out _ _ _ _ _ _ _ HLN.out hn24 hr7 hr8).mono ?_); rintro e w9 ⟨rfl, hb9⟩; replace hb5 := hb8.trans (hb9.mono hb8.size))))
      | (go_at_call 13; go_loud ((with_reducible refine (hx _).mono ?_); rintro e w6 ⟨rfl, hb6⟩)))
    go_ret
    exact ⟨rfl, hb5.trans (hb6.mono hb5.size)⟩
end Go.Proofs.Ytciaidlkhlgflaa
