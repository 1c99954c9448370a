import Derived.Test.YtbplcgbfhijbcaaEj
namespace Go.Proofs.Ytbplcgbfhijbcaa
open Go.RowKit
set_option linter.unusedVariables false
set_option linter.unusedSimpArgs false
theorem Ds.slice {w : World} {g : Nat} {l : List (BitVec 8)} {p e : Nat} (h : Ds w g l p e) : ∃ a c, l.length ≤ c ∧ Rd w a l ∧ w.cell? ⟨g, 0, none⟩ = some (.slice a l.length c) := by
  obtain ⟨a, c, hc, hr, hne, hrow⟩ := h
  exact ⟨a, c, hc, hr, row_cell hrow 0⟩
theorem clone8_n (a : Option Addr) (n c : Nat) (l : List (BitVec 8)) (w : World) (hn : l.length = n) (hl : n ≤ 100000000) (hr : Rd w a l) :
    Calls Try.prog 71 #[.slice a n c] w fun e w' => ∃ a' c', e = .returned (.slice a' n c') ∧ n ≤ c' ∧ w'.ownsRow w.heap.size 5 1 (.slice a' n c') n (bv8 l) ∧ Below w.heap.size w w' := by
  subst hn
  exact clone8_any a _ c l w rfl hl hr
/-- A byte string taken from the input: a new row. -/
def TkB (w : World) (g : Nat) (l : List (BitVec 8)) (p : Nat) (e' : Ending) (w' : World) : Prop := ∃ a c, e' = .returned (.slice a (uvV l) c) ∧ uvV l ≤ c ∧ ((l.drop (uvN l)).take (uvV l)).length = uvV l ∧ w'.ownsRow w.heap.size 5 1 (.slice a (uvV l) c) (uvV l) (bv8 ((l.drop (uvN l)).take (uvV l))) ∧ Ds w' g (l.drop (uvN l + uvV l)) (p + (uvN l + uvV l)) 0 ∧ w.grownBy w' (some g)
theorem dby_ok (g : Nat) (l : List (BitVec 8)) (p : Nat) (most : Int) (w : World) (hp : p + l.length ≤ 4611686018427387904) (hm : most ≤ 9223372036854775807) (hd : Ds w g l p 0) (hu : lenE l most = 0) (hv : uvN l + uvV l ≤ l.length) (hb : uvV l ≤ 100000000) :
    Calls Try.prog 48 #[.pointer (some ⟨g, 0, none⟩), .int .i64 most] w (TkB w g l p) := by
  have hcon := dlen_ok g l p most w hp hm hd hu
  unfold TkB
  obtain ⟨x, hx⟩ : ∃ x, uvV l = x := ⟨_, rfl⟩
  obtain ⟨m, hmm⟩ : ∃ m, uvN l = m := ⟨_, rfl⟩
  rw [hx, hmm] at hcon
  rw [hx, hmm] at hv ⊢
  rw [hx] at hb
  have hgl := hd.lt
  have HC := Lib.hid hcon
  have hk : ((l.drop m).take x).length = x := by rw [List.length_take, List.length_drop]; omega
  have HK := Lib.hid hk
  have hdl : (l.drop m).length = l.length - m := List.length_drop ..
  have HD := Lib.hid hdl
  have hv2 : x ≤ (l.drop m).length := by omega
  have hp2 : p + m + (l.drop m).length ≤ 4611686018427387904 := by omega
  have d1 : decide (((l.drop m).length : Int) < (x : Int)) = false := by simp; omega
  clear hx hmm hcon hk hdl
  go_enter Try.func48, Try.ntmps48
  go_wp2_with (first | (go_at_call 67; go_loud ((with_reducible refine HC.out.mono ?_); rintro e1 w2 ⟨rfl, hd2, hg2⟩; obtain ⟨k1, k2⟩ := hd2.cells; obtain ⟨a2, c2, hc2, hr2, k0⟩ := hd2.slice)) | (go_at_call 71; go_loud ((with_reducible refine (clone8_n _ _ _ _ _ HK.out hb (hr2.take x)).mono ?_); rintro e1 w3 ⟨a3, c3, rfl, hc3, ho3, hb3⟩; have hd3 := hd2.below hb3)) | (go_at_call 72; go_loud ((with_reducible refine (skip_any _ _ _ _ _ _ hv2 hp2 hd3).mono ?_); rintro e1 w4 ⟨rfl, hd4, hg4⟩)))
  go_ret
  refine ⟨a3, c3, rfl, hc3, HK.out, ?_, ?_, grown_trans hg2 (grown_trans (grown_below hb3) hg4)⟩
  · have hsz := hg2.size
    refine own_mono (ho3.kept hg4 ?_) hsz
    rcases hq : Value.ownBlock (.slice a3 x c3) with _ | q
    · exact .inl rfl
    · right
      intro e
      have h5 := ho3.lt q hq
      injection e with e
      omega
  · rw [List.drop_drop] at hd4
    rw [← Nat.add_assoc]
    exact hd4
theorem dby_bad (g : Nat) (l : List (BitVec 8)) (p : Nat) (most : Int) (w : World) (hp : p + l.length ≤ 4611686018427387904) (hm : most ≤ 9223372036854775807) (hd : Ds w g l p 0) (hu : bytE l most ≠ 0) :
    Calls Try.prog 48 #[.pointer (some ⟨g, 0, none⟩), .int .i64 most] w fun e' w' => e' = .returned (.slice none 0 0) ∧ (∃ l' p', p' + l'.length = p + l.length ∧ Ds w' g l' p' (bytE l most)) ∧ w.grownBy w' (some g) := by
  by_cases h1 : lenE l most = 0
  · have hcon := dlen_ok g l p most w hp hm hd h1
    have hn := uvE_len l (lenE_ok h1).1
    unfold bytE at hu ⊢
    rw [if_neg (by omega)] at hu ⊢
    by_cases h2 : l.length < uvN l + uvV l
    · rw [if_pos h2]
      obtain ⟨x, hx⟩ : ∃ x, uvV l = x := ⟨_, rfl⟩
      obtain ⟨m, hmm⟩ : ∃ m, uvN l = m := ⟨_, rfl⟩
      rw [hx, hmm] at hcon h2
      rw [hmm] at hn
      have HC := Lib.hid hcon
      have hdl : (l.drop m).length = l.length - m := List.length_drop ..
      have d1 : decide (((l.drop m).length : Int) < (x : Int)) = true := by simp; omega
      have HD := Lib.hid hdl
      clear hcon hx hmm hu hdl
      go_enter Try.func48, Try.ntmps48
      go_wp2_with (first | (go_at_call 67; go_loud ((with_reducible refine HC.out.mono ?_); rintro e1 w2 ⟨rfl, hd2, hg2⟩; obtain ⟨k1, k2⟩ := hd2.cells; obtain ⟨a2, c2, hc2, hr2, k0⟩ := hd2.slice)) | (go_at_call 50; go_loud ((with_reducible refine (fail_any _ _ _ _ 4 _ _ lit4 hd2).mono ?_); rintro e1 w3 ⟨rfl, hd3, hg3⟩; obtain ⟨k3, k4⟩ := hd3.cells)))
      go_ret
      exact ⟨rfl, ⟨_, _, by rw [HD.out]; omega, hd3⟩, grown_trans hg2 hg3⟩
    · rw [if_neg h2] at hu
      exact absurd rfl hu
  · unfold bytE at hu ⊢
    rw [if_pos h1] at hu ⊢
    have q1 : (((lenE l most : Nat) : Int) == 0) = false := by simp; exact h1
    have q2 : (((lenE l most : Nat) : Int) != 0) = true := by simp; exact h1
    have HU := Lib.hid h1
    clear h1 hu
    go_enter Try.func48, Try.ntmps48
    go_wp2_with (first | (go_at_call 67; go_loud ((with_reducible refine (dlen_bad _ _ _ _ _ hp hm hd HU.out).mono ?_); rintro e1 w2 ⟨rfl, ⟨l', p', hlp, hd2⟩, hg2⟩; obtain ⟨k1, k2⟩ := hd2.cells; obtain ⟨a2, c2, hc2, hr2, k0⟩ := hd2.slice)))
    go_ret
    exact ⟨rfl, ⟨_, _, hlp, hd2⟩, hg2⟩
theorem dby_err (g : Nat) (l : List (BitVec 8)) (p e : Nat) (most : Int) (w : World) (hd : Ds w g l p e) (he : e ≠ 0) :
    Calls Try.prog 48 #[.pointer (some ⟨g, 0, none⟩), .int .i64 most] w fun e' w' => e' = .returned (.slice none 0 0) ∧ w = w' := by
  obtain ⟨k1, k2⟩ := hd.cells
  obtain ⟨a2, c2, hc2, hr2, k0⟩ := hd.slice
  have q1 : ((e : Int) == 0) = false := by simp; exact he
  have q2 : ((e : Int) != 0) = true := by simp; exact he
  have HU := Lib.hid he
  clear he
  go_enter Try.func48, Try.ntmps48
  go_wp2_with ((go_at_call 67; go_loud ((with_reducible refine (dlen_err _ _ _ _ _ _ hd HU.out).mono ?_); rintro e1 w2 ⟨rfl, rfl⟩)))
  go_ret
  exact ⟨rfl, rfl⟩
def trs (v : Value) (p e : Int) : Ending := .returned (.tuple #[v, .int .i64 p, .int .i64 e])
theorem bb_out (a : Option Addr) (n c : Nat) (at' most : Int) (w : World) (hn : n ≤ 4611686018427387904) (hb : at' < 0 ∨ (n : Int) < at') :
    Calls Try.prog 23 #[.slice a n c, .int .i64 at', .int .i64 most] w fun e w' => e = trs (.slice none 0 0) 0 2 ∧ Below w.heap.size w w' := by
  go_enter Try.func23, Try.ntmps23
  go_wp2_with (first | (go_at_call 45; go_loud ((with_reducible refine (newd_bad a n c at' _ hn hb).mono ?_); rintro e1 w1 ⟨rfl, hd1, hb1⟩; obtain ⟨k1, k2⟩ := hd1.cells)) | (go_at_call 48; go_loud ((with_reducible refine (dby_err _ _ _ _ _ _ hd1 (by decide)).mono ?_); rintro e1 w2 ⟨rfl, rfl⟩)))
  go_quiet (fail)
  go_wp2
  go_ret3
  exact ⟨rfl, below_drewN hb1 _⟩
/-- A byte string decoded: a new row. -/
def TkA (w : World) (l : List (BitVec 8)) (k : Nat) (e : Ending) (w' : World) : Prop := ∃ a c, e = trs (.slice a (uvV l) c) ((k + (uvN l + uvV l) : Nat) : Int) 0 ∧ uvV l ≤ c ∧ ((l.drop (uvN l)).take (uvV l)).length = uvV l ∧ w'.ownsRow w.heap.size 5 1 (.slice a (uvV l) c) (uvV l) (bv8 ((l.drop (uvN l)).take (uvV l))) ∧ Below w.heap.size w w'
theorem bytE_ok {l : List (BitVec 8)} {most : Int} (h : bytE l most = 0) : lenE l most = 0 ∧ uvN l + uvV l ≤ l.length := by
  unfold bytE at h
  split at h
  · omega
  · split at h
    · omega
    · omega
theorem bb_ok (a : Option Addr) (n c k : Nat) (most : Int) (l : List (BitVec 8)) (w : World) (hn : l.length = n) (hc : n ≤ c) (hl : n ≤ 100000000) (hm : most ≤ 9223372036854775807) (hr : Rd w a l) (hk : k ≤ n) (hu : bytE (l.drop k) most = 0) :
    Calls Try.prog 23 #[.slice a n c, .int .i64 k, .int .i64 most] w (TkA w (l.drop k) k) := by
  obtain ⟨h1, h2⟩ := bytE_ok hu
  have hdl : (l.drop k).length = l.length - k := List.length_drop ..
  have hp : k + (l.drop k).length ≤ 4611686018427387904 := by omega
  have hv : uvV (l.drop k) ≤ 100000000 := by omega
  have HH := Lib.hid h2
  have HL := Lib.hid hdl
  clear h2 hdl hu
  go_enter Try.func23, Try.ntmps23
  go_wp2_with (first | (go_at_call 45; go_loud ((with_reducible refine (newd_ok a n c k l _ hn hc (by omega) hr hk).mono ?_); rintro e1 w1 ⟨rfl, hd1, hb1⟩)) | (go_at_call 48; go_loud ((with_reducible refine (dby_ok _ _ _ _ _ hp hm hd1 h1 HH.out hv).mono ?_); rintro e1 w2 ⟨a2, c2, rfl, hc2, hlen, ho2, hd2, hg2⟩; obtain ⟨k1, k2⟩ := hd2.cells; have HLEN := Lib.hid hlen; clear hlen)))
  go_quiet (fail)
  go_wp2
  go_ret3
  exact ⟨a2, c2, rfl, hc2, HLEN.out, own_mono (w := World.drewN _ _) ho2 hb1.size, below_drewN (hb1.grown hg2 hb1.size (fun q hq => by cases hq; exact Nat.le_refl _)) _⟩
theorem bb_bad (a : Option Addr) (n c k : Nat) (most : Int) (l : List (BitVec 8)) (w : World) (hn : l.length = n) (hc : n ≤ c) (hl : n ≤ 4611686018427387904) (hm : most ≤ 9223372036854775807) (hr : Rd w a l) (hk : k ≤ n) (hu : bytE (l.drop k) most ≠ 0) :
    Calls Try.prog 23 #[.slice a n c, .int .i64 k, .int .i64 most] w fun e w' => e = trs (.slice none 0 0) 0 (bytE (l.drop k) most) ∧ Below w.heap.size w w' := by
  have hp : k + (l.drop k).length ≤ 4611686018427387904 := by rw [List.length_drop]; omega
  obtain ⟨E, hE⟩ : ∃ E, bytE (l.drop k) most = E := ⟨_, rfl⟩
  have hcon := fun g w hd => dby_bad g (l.drop k) k most w hp hm hd hu
  simp only [hE] at hcon
  rw [hE] at hu ⊢
  have q1 : ((E : Int) == 0) = false := by simp; exact hu
  have q2 : ((E : Int) != 0) = true := by simp; exact hu
  have HC := Lib.hid hcon
  clear hcon hE hu
  go_enter Try.func23, Try.ntmps23
  go_wp2_with (first | (go_at_call 45; go_loud ((with_reducible refine (newd_ok a n c k l _ hn hc hl hr hk).mono ?_); rintro e1 w1 ⟨rfl, hd1, hb1⟩)) | (go_at_call 48; go_loud ((with_reducible refine (HC.out _ _ hd1).mono ?_); rintro e1 w2 ⟨rfl, ⟨l', p', hlp, hd2⟩, hg2⟩; obtain ⟨k1, k2⟩ := hd2.cells)))
  go_quiet (fail)
  go_wp2
  go_ret3
  exact ⟨rfl, below_drewN (hb1.grown hg2 hb1.size (fun q hq => by cases hq; exact Nat.le_refl _)) _⟩
end Go.Proofs.Ytbplcgbfhijbcaa
