import Derived.Test.YtciaidlkhlgflaaPs
namespace Go.Proofs.Ytciaidlkhlgflaa
open Go.RowKit
set_option linter.unusedVariables false
set_option linter.unusedSimpArgs false
theorem eqr_any (a b : Option Addr) (n m c d : Nat) (l k : List (Int × Int × Int × Int)) (w : World) (hn : l.length = n) (hm : k.length = m) (hnl : n ≤ 1000000000) (hml : m ≤ 1000000000) (ha : RS 4 rcV w a l) (hb : RS 4 rcV w b k) :
    Calls Try.prog 24 #[.slice a n c, .slice b m d] w fun e w' => e = .returned (.bool (decide (l = k))) ∧ Below w.heap.size w w' := by
  have h1 := Lib.hid (fun W => sameR_any a b n m c d l k W hn hm hnl hml)
  go_enter Try.func24, Try.ntmps24
  go_wp2_with (go_at_call 10; go_loud ((with_reducible refine (h1.out _ ha hb).mono ?_); rintro e w1 ⟨rfl, nd, rfl⟩))
  go_ret
  exact ⟨rfl, below_drewN (Below.refl _ _) _⟩
/-- What Pack answers, as rows. -/
def PkA (w : World) (L : List (Int × Int × Int × Int)) (ok : Bool) (e : Ending) (w' : World) : Prop := ∃ a c, e = .returned (.tuple #[.slice a L.length c, .bool ok]) ∧ L.length ≤ c ∧ RS 4 rcV w' a L ∧ Below w.heap.size w w'
theorem PkPost.a {w w' : World} {r : Option (List (Int × Int × Int × Int))} {L : List (Int × Int × Int × Int)} {ok : Bool} {e : Ending} (h : PkPost w r e w') (h1 : r.getD [] = L) (h2 : r.isSome = ok) : PkA w L ok e w' := by
  obtain ⟨a, c, rfl, ho, hb⟩ := h
  subst h1 h2
  exact ⟨a, c, rfl, own_capK ho, own_rs (by omega) rcV_len ho, hb⟩
theorem packL_len {w h : Int} : ∀ (l : List (Int × Int)) (sh : List (Int × Int × Int)) (b : Int) (r : List (Int × Int × Int × Int)), packL w h sh b l = some r → r.length = l.length
  | [], sh, b, r, hr => by simp [packL] at hr; subst hr; rfl
  | p :: t, sh, b, r, hr => by
    have ih := packL_len (w := w) (h := h) t
    unfold packL at hr
    split at hr
    · split at hr
      · simp only [Option.map_eq_some_iff] at hr
        obtain ⟨r', h1, rfl⟩ := hr
        simp [ih _ _ _ h1]
      · split at hr
        · simp only [Option.map_eq_some_iff] at hr
          obtain ⟨r', h1, rfl⟩ := hr
          simp [ih _ _ _ h1]
        · cases hr
    · cases hr
theorem packR_len {q h : Int} {l : List (Int × Int)} {r : List (Int × Int × Int × Int)} (hr : packR q h l = some r) : r.length = l.length ∧ l.length ≤ 1024 := by
  unfold packR at hr
  split at hr
  · rename_i h1
    simp at h1
    exact ⟨packL_len _ _ _ _ hr, h1.2⟩
  · cases hr
theorem packR_small (q h : Int) (l : List (Int × Int)) : ((packR q h l).getD []).length ≤ 1024 := by
  cases hr : packR q h l with
  | none => simp
  | some r => have := packR_len hr; simp; omega
set_option maxRecDepth 50000 in
set_option maxHeartbeats 2000000 in
theorem rectPack_w (q h : Int) (a : Option Addr) (n c : Nat) (l : List (Int × Int)) (w : World) (hn : l.length = n) (hr : RS 2 ptV w a l) :
    Calls Try.prog 6 #[.int .i64 q, .int .i64 h, .slice a n c] w fun e w' => e = .returned (.bool true) ∧ Below w.heap.size w w' := by
  have hx := fun W => rex_any W
  by_cases hmid : 60 < n ∧ n < 1024
  · obtain ⟨m1, m2⟩ := hmid
    go_enter Try.func6, Try.ntmps6
    go_wp2_with (go_at_call 13; go_loud ((with_reducible refine (hx _).mono ?_); rintro e w1 ⟨rfl, hb1⟩))
    go_ret
    exact ⟨rfl, hb1⟩
  obtain ⟨L, hL⟩ : ∃ L, (packR q h l).getD [] = L := ⟨_, rfl⟩
  obtain ⟨ok, hok⟩ : ∃ ok, (packR q h l).isSome = ok := ⟨_, rfl⟩
  have hLs : L.length ≤ 1024 := by rw [← hL]; exact packR_small q h l
  have h1 := Lib.hid (fun W (hr' : RS 2 ptV W a l) => (pack_any a n c q h l W hn hr').mono fun e w' x => x.a hL hok)
  have h2 := Lib.hid (fun W (hr' : RS 2 ptV W a l) => (rpack_any a n c q h l W hn hr').mono fun e w' x => x.a hL hok)
  have h3 : Hid (∀ W (a1 a2 : Option Addr) (c1 c2 : Nat), RS 4 rcV W a1 L → RS 4 rcV W a2 L → Calls Try.prog 24 #[.slice a1 L.length c1, .slice a2 L.length c2] W fun e w' => e = .returned (.bool true) ∧ Below W.heap.size W w') := fun W a1 a2 c1 c2 x y => by
    have := eqr_any a1 a2 _ _ c1 c2 L L W rfl rfl (by omega) (by omega) x y
    simpa using this
  have hmid2 : n ≤ 60 ∨ 1024 ≤ n := by omega
  clear hmid hL hok
  rcases hmid2 with hm | hm
  all_goals
    cases ok
    all_goals
      go_enter Try.func6, Try.ntmps6
      go_wp2_with (first
        | (go_at_call 22; go_loud ((with_reducible refine (h1.out _ hr).mono ?_); rintro e w1 ⟨a1, c1, rfl, hc1, hr1, hb1⟩))
        | (go_at_call 23; go_loud ((with_reducible refine (h2.out _ (hr.below hb1)).mono ?_); rintro e w2 ⟨a2, c2, rfl, hc2, hr2, hb2⟩; have hr3 := hr1.below hb2; have hb3 := hb1.trans (hb2.mono hb1.size)))
        | (go_at_call 24; go_loud ((with_reducible refine (h3.out _ _ _ _ _ hr3 hr2).mono ?_); rintro e w4 ⟨rfl, hb4⟩; have hb5 := hb3.trans (hb4.mono hb3.size)))
        | (go_at_call 13; go_loud ((with_reducible refine (hx _).mono ?_); rintro e w6 ⟨rfl, hb6⟩)))
      go_ret
      exact ⟨rfl, hb5.trans (hb6.mono hb5.size)⟩
end Go.Proofs.Ytciaidlkhlgflaa
