import Derived.Test.YtbplcgbfhijbcaaEr
namespace Go.Proofs.Ytbplcgbfhijbcaa
open Go.RowKit
set_option linter.unusedVariables false
set_option linter.unusedSimpArgs false
/-- What Runs answers: the bytes in a row of their own, or an error. -/
def RsA (w : World) (F : List (BitVec 8) × Nat × Nat) (e : Ending) (w' : World) : Prop :=
  (F.2.2 = 0 ∧ ∃ a c, e = trs (.slice a F.1.length c) (F.2.1 : Int) 0 ∧ F.1.length ≤ c ∧ w'.ownsRow w.heap.size 5 1 (.slice a F.1.length c) F.1.length (bv8 F.1) ∧ Below w.heap.size w w') ∨
  (F.2.2 ≠ 0 ∧ e = trs (.slice none 0 0) 0 (F.2.2 : Int) ∧ Below w.heap.size w w')
def runsM (l : List (BitVec 8)) (at' most : Int) : List (BitVec 8) × Nat × Nat :=
  if at' < 0 ∨ (l.length : Int) < at' then ([], 0, 2)
  else if uvE (l.drop at'.toNat) ≠ 0 then ([], 0, uvE (l.drop at'.toNat))
  else if most < 0 then ([], 0, 5)
  else rdec l most.toNat (uvV (l.drop at'.toNat)) (at'.toNat + uvN (l.drop at'.toNat)) []
theorem RsA.bad {w w' : World} {F : List (BitVec 8) × Nat × Nat} {E : Nat} (h : F = ([], 0, E)) (hE : E ≠ 0) (hb : Below w.heap.size w w') : RsA w F (trs (.slice none 0 0) 0 (E : Int)) w' := by
  subst h; exact .inr ⟨hE, rfl, hb⟩
theorem RsA.good {w w' : World} {F : List (BitVec 8) × Nat × Nat} {v : List (BitVec 8)} {V : Value} {q n : Nat} (h : F = (v, q, 0)) (hn : v.length = n) (ho : w'.ownsRow w.heap.size 5 1 V n (bv8 v)) (hb : Below w.heap.size w w') : RsA w F (trs V (q : Int) 0) w' := by
  subst h hn
  obtain ⟨a, c, rfl⟩ := own_slice ho
  exact .inl ⟨rfl, a, c, rfl, own_cap ho, ho, hb⟩
def qua (v b p e : Int) : Ending := .returned (.tuple #[.int .u64 v, .int .u8 b, .int .i64 p, .int .i64 e])
theorem rrun_bad (a : Option Addr) (n c k : Nat) (l : List (BitVec 8)) (w : World) (hn : l.length = n) (hl : n ≤ 4611686018427387904) (hr : Rd w a l) (hk : k ≤ n) (hu : uvE (l.drop k) ≠ 0) :
    Calls Try.prog 70 #[.slice a n c, .int .i64 k] w fun e w' => e = qua 0 0 0 (uvE (l.drop k)) ∧ w = w' := by
  have hcon := ru_bad a n c k l w hn hl hr hk hu
  obtain ⟨E, hE⟩ : ∃ E, uvE (l.drop k) = E := ⟨_, rfl⟩
  rw [hE] at hcon hu ⊢
  have q1 : ((E : Int) == 0) = false := by simp; exact hu
  have q2 : ((E : Int) != 0) = true := by simp; exact hu
  have HC := Lib.hid hcon
  clear hcon hE hu
  go_enter Try.func70, Try.ntmps70
  go_wp2_with ((go_at_call 14; go_loud ((with_reducible refine HC.out.mono ?_); unfold tri; rintro e1 w1 ⟨rfl, rfl⟩)))
  refine bodyPost_ret (v := .tuple #[.int .u64 0, .int .u8 0, .int .i64 0, .int .i64 E]) (by simp [results, Try.results70, go_sem, *]) rfl ?_
  exact ⟨rfl, rfl⟩
theorem rrun_cut (a : Option Addr) (n c k : Nat) (l : List (BitVec 8)) (w : World) (hn : l.length = n) (hl : n ≤ 4611686018427387904) (hr : Rd w a l) (hk : k ≤ n) (hu : uvE (l.drop k) = 0) (hp : n ≤ k + uvN (l.drop k)) :
    Calls Try.prog 70 #[.slice a n c, .int .i64 k] w fun e w' => e = qua 0 0 0 4 ∧ w = w' := by
  have hcon := ru_ok a n c k l w hn hl hr hk hu
  obtain ⟨x, hx⟩ : ∃ x, uvV (l.drop k) = x := ⟨_, rfl⟩
  obtain ⟨p, hpp⟩ : ∃ p, k + uvN (l.drop k) = p := ⟨_, rfl⟩
  rw [hpp] at hcon hp
  rw [hx] at hcon
  have HC := Lib.hid hcon
  have d1 : decide ((n : Int) ≤ (p : Int)) = true := by simp; omega
  clear hcon hx hpp hu
  go_enter Try.func70, Try.ntmps70
  go_wp2_with ((go_at_call 14; go_loud ((with_reducible refine HC.out.mono ?_); unfold tri; rintro e1 w1 ⟨rfl, rfl⟩)))
  refine bodyPost_ret (v := .tuple #[.int .u64 0, .int .u8 0, .int .i64 0, .int .i64 4]) (by simp [results, Try.results70, go_sem, *]) rfl ?_
  exact ⟨rfl, rfl⟩
theorem rrun_ok (a : Option Addr) (n c k : Nat) (l : List (BitVec 8)) (w : World) (hn : l.length = n) (hl : n ≤ 4611686018427387904) (hr : Rd w a l) (hk : k ≤ n) (hu : uvE (l.drop k) = 0) (hp : k + uvN (l.drop k) < n) :
    Calls Try.prog 70 #[.slice a n c, .int .i64 k] w fun e w' => e = qua (uvV (l.drop k)) (byA l (k + uvN (l.drop k))) ((k + uvN (l.drop k) + 1 : Nat) : Int) 0 ∧ ∃ m, w' = World.drewN w m := by
  subst hn
  have hcon := ru_ok a _ c k l w rfl hl hr hk hu
  obtain ⟨x, hx⟩ : ∃ x, uvV (l.drop k) = x := ⟨_, rfl⟩
  obtain ⟨p, hpp⟩ : ∃ p, k + uvN (l.drop k) = p := ⟨_, rfl⟩
  rw [hpp] at hcon hp ⊢
  rw [hx] at hcon ⊢
  have HC := Lib.hid hcon
  obtain ⟨ad, rfl, hcell⟩ := byA_cell hr p hp
  obtain ⟨y, hy⟩ : ∃ y, byA l p = y := ⟨_, rfl⟩
  rw [hy] at hcell ⊢
  have d1 : decide ((l.length : Int) ≤ (p : Int)) = false := by simp; omega
  clear hcon hx hpp hu hy
  go_enter Try.func70, Try.ntmps70
  go_wp2_with ((go_at_call 14; go_loud ((with_reducible refine HC.out.mono ?_); unfold tri; rintro e1 w1 ⟨rfl, rfl⟩)))
  go_quiet (fail)
  go_wp2
  refine bodyPost_ret (v := .tuple #[.int .u64 x, .int .u8 y, .int .i64 ((p : Int) + 1), .int .i64 0]) (by simp [results, Try.results70, go_sem, *]) rfl ?_
  exact ⟨rfl, _, rfl⟩
theorem rr_out (a : Option Addr) (n c : Nat) (at' most : Int) (w : World) (hn : n ≤ 4611686018427387904) (hb : at' < 0 ∨ (n : Int) < at') :
    Calls Try.prog 42 #[.slice a n c, .int .i64 at', .int .i64 most] w fun e w' => e = trs (.slice none 0 0) 0 2 ∧ Below w.heap.size w w' := by
  go_enter Try.func42, Try.ntmps42
  go_wp2_with ((go_at_call 14; go_loud ((with_reducible refine (ru_out _ _ _ _ _ hn hb).mono ?_); rintro e1 w1 ⟨rfl, rfl⟩; unfold tri)))
  go_ret3
  exact ⟨rfl, Below.refl _ _⟩
theorem rr_bad (a : Option Addr) (n c k : Nat) (most : Int) (l : List (BitVec 8)) (w : World) (hn : l.length = n) (hl : n ≤ 4611686018427387904) (hr : Rd w a l) (hk : k ≤ n) (hu : uvE (l.drop k) ≠ 0) :
    Calls Try.prog 42 #[.slice a n c, .int .i64 k, .int .i64 most] w fun e w' => e = trs (.slice none 0 0) 0 (uvE (l.drop k)) ∧ Below w.heap.size w w' := by
  have hcon := ru_bad a n c k l w hn hl hr hk hu
  obtain ⟨E, hE⟩ : ∃ E, uvE (l.drop k) = E := ⟨_, rfl⟩
  rw [hE] at hcon hu ⊢
  have q1 : ((E : Int) == 0) = false := by simp; exact hu
  have q2 : ((E : Int) != 0) = true := by simp; exact hu
  have HC := Lib.hid hcon
  clear hcon hE hu
  go_enter Try.func42, Try.ntmps42
  go_wp2_with ((go_at_call 14; go_loud ((with_reducible refine HC.out.mono ?_); rintro e1 w1 ⟨rfl, rfl⟩; unfold tri)))
  go_ret3
  exact ⟨rfl, Below.refl _ _⟩
theorem rr_neg (a : Option Addr) (n c k : Nat) (most : Int) (l : List (BitVec 8)) (w : World) (hn : l.length = n) (hl : n ≤ 4611686018427387904) (hr : Rd w a l) (hk : k ≤ n) (hu : uvE (l.drop k) = 0) (hm : most < 0) :
    Calls Try.prog 42 #[.slice a n c, .int .i64 k, .int .i64 most] w fun e w' => e = trs (.slice none 0 0) 0 5 ∧ Below w.heap.size w w' := by
  have hcon := ru_ok a n c k l w hn hl hr hk hu
  obtain ⟨x, hx⟩ : ∃ x, uvV (l.drop k) = x := ⟨_, rfl⟩
  rw [hx] at hcon
  have d1 : decide (most < 0) = true := by simp; omega
  have HC := Lib.hid hcon
  clear hcon hx hu
  go_enter Try.func42, Try.ntmps42
  go_wp2_with ((go_at_call 14; go_loud ((with_reducible refine HC.out.mono ?_); rintro e1 w1 ⟨rfl, rfl⟩; unfold tri)))
  go_ret3
  exact ⟨rfl, Below.refl _ _⟩
end Go.Proofs.Ytbplcgbfhijbcaa
