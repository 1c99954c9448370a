import Derived.Test.YtciaidlkhlgflaaLp
import Derived.Test.YtciaidlkhlgflaaPq
namespace Go.Proofs.Ytciaidlkhlgflaa
open Go.RowKit
set_option linter.unusedVariables false
set_option linter.unusedSimpArgs false
theorem info_pt : (Try.prog.info? 44).map (fun i => (i.zero, i.size, i.bytes)) = some (some (.agg #[.int .i64 0, .int .i64 0]), 2, 16) := by kernel_rfl
theorem one2 (s : Int × Int) : ∀ u ∈ ptV s, u.oneCell' = true := by
  intro u hu; simp [ptV] at hu; rcases hu with rfl | rfl <;> rfl
theorem u8_nat {x : Int} (h : (Lit.int .u8 x).wf = true) : ∃ n : Nat, x = (n : Int) ∧ n ≤ 255 := by
  simp [Lit.wf, IntKind.min, IntKind.max, IntKind.signed, IntKind.bits] at h
  exact ⟨x.toNat, by omega, by omega⟩
/-- An empty row, just made. -/
theorem own_empty {W : World} {B g k : Nat} {T : TypeId} {xs : List Value} (hg : g = W.heap.size) (hB : B ≤ W.heap.size) (hx : xs = []) : (W.alloc (.cells #[] T)).ownsRow B T k (.slice (some ⟨g, 0, none⟩) 0 0) 0 xs := by
  subst hg hx
  exact World.ownsRow_made W #[] 0 hB (by unfold maxLen; omega) (by simp)
theorem sq_R (W H s n : Nat) (hs : 0 < s) (hs2 : s ≤ 64) (hW : 0 < W) (hW2 : W ≤ 64) (hH : 0 < H) (hH2 : H ≤ 64) (hn : n ≤ 255) : (packR (W : Int) (H : Int) (List.replicate n ((s : Int), (s : Int)))).isSome = decide (n ≤ (W / s) * (H / s)) := by
  have h1 : (sideB (W : Int) && sideB (H : Int) && decide ((List.replicate n ((s : Int), (s : Int))).length ≤ 1024)) = true := by simp [sideB]; omega
  unfold packR
  rw [if_pos h1]
  by_cases hc : s ≤ W
  · have hc0 : 0 < W / s := Nat.div_pos hc hs
    have := sq_all W H s (W / s) (H / s) hs (by omega) hc0 (Nat.div_mul_le_self W s) (by rw [Nat.mul_comm]; exact Nat.lt_mul_div_succ W hs) (Nat.div_mul_le_self H s) (by rw [Nat.mul_comm]; exact Nat.lt_mul_div_succ H hs) n 0 0 hc0 (Nat.zero_le _) (by omega)
    simpa [sqS, sqB] using this
  · have hz : W / s = 0 := Nat.div_eq_of_lt (by omega)
    rw [hz, Nat.zero_mul]
    cases n with
    | zero => simp [packL]
    | succ n =>
      rw [List.replicate_succ, packL_bad (by simp [okP]; omega)]
      simp
set_option maxRecDepth 50000 in
set_option maxHeartbeats 4000000 in
theorem rectPackSquares_w (a b s n : Nat) (w : World) (ha : a ≤ 255) (hb : b ≤ 255) (hs : s ≤ 255) (hn : n ≤ 255) :
    Calls Try.prog 9 #[.agg #[.int .u8 a, .int .u8 b], .int .u8 s, .int .u8 n] w fun e w' => e = .returned (.bool true) ∧ Below w.heap.size w w' := by
  have hx := fun W => rex_any W
  have hb0 := Below.alloc (Below.refl w.heap.size w) (Nat.le_refl _) (.cells #[.int .u8 a, .int .u8 b] 47)
  obtain ⟨p, hp⟩ : ∃ p : Nat, a % 64 = p := ⟨_, rfl⟩
  obtain ⟨q, hq⟩ : ∃ q : Nat, b % 64 = q := ⟨_, rfl⟩
  obtain ⟨r, hr⟩ : ∃ r : Nat, s % 64 = r := ⟨_, rfl⟩
  have p1 : (a : Int).tmod 64 = (p : Int) := by rw [Int.tmod_eq_emod_of_nonneg (by omega)]; omega
  have q1 : (b : Int).tmod 64 = (q : Int) := by rw [Int.tmod_eq_emod_of_nonneg (by omega)]; omega
  have r1 : (s : Int).tmod 64 = (r : Int) := by rw [Int.tmod_eq_emod_of_nonneg (by omega)]; omega
  have p2 : IntKind.u8.wrap (p : Int) = (p : Int) := by rw [IntKind.wrap_u8]; omega
  have q2 : IntKind.u8.wrap (q : Int) = (q : Int) := by rw [IntKind.wrap_u8]; omega
  have r2 : IntKind.u8.wrap (r : Int) = (r : Int) := by rw [IntKind.wrap_u8]; omega
  have p3 : IntKind.i64.wrap (p : Int) = (p : Int) := IntWalk.i64_in _ (by omega)
  have q3 : IntKind.i64.wrap (q : Int) = (q : Int) := IntWalk.i64_in _ (by omega)
  have r3 : IntKind.i64.wrap (r : Int) = (r : Int) := IntWalk.i64_in _ (by omega)
  have p4 : IntKind.i64.wrap (1 + (p : Int)) = 1 + (p : Int) := IntWalk.i64_in _ (by omega)
  have q4 : IntKind.i64.wrap (1 + (q : Int)) = 1 + (q : Int) := IntWalk.i64_in _ (by omega)
  have r4 : IntKind.i64.wrap (1 + (r : Int)) = 1 + (r : Int) := IntWalk.i64_in _ (by omega)
  go_enter Try.func9, Try.ntmps9
  go_wp2
  go_quiet (fail)
  go_wp2
  have hbq : ∀ nq : Nat, Below w.heap.size w ((w.alloc (.cells #[.int .u8 a, .int .u8 b] 47)).drewN nq) := fun nq => below_drewN hb0 nq
  have HBQ := Lib.hid hbq
  clear hb0 hbq p1 p2 p3 p4 q1 q2 q3 q4 r1 r2 r3 r4
  go_loopw [10, 30] (fun v i wr => ∃ j : Nat, j ≤ n ∧ i = .int .i64 j ∧ wr.ownsRow w.heap.size 44 2 v j (Cl ptV (List.replicate j ((1 + (r : Int)), (1 + (r : Int))))) ∧ Below w.heap.size w wr) (fun _ i _ => n - (intOf i).toNat)
  case atStart => exact ⟨0, Nat.zero_le _, rfl, own_empty (by simp) (by simp) rfl, (HBQ.out _).alloc (by simp) _⟩
  case round =>
    obtain ⟨j, hj, rfl, hown, hbw⟩ := hrel
    have hz := hbw.size
    by_cases hlt : j < n
    · have hn9 : j + 1 ≤ 1000000 := by omega
      go_wp2_with (at_builtin; go_loud (refine wpList_snocS (B := w.heap.size) ptV rfl _ _ _ _ rfl Try.underlying40 info_pt rfl (by omega) hown hz hn9 (by omega) ((1 + (r : Int)), (1 + (r : Int))) _ rfl rfl (one2 _) rfl rfl rfl ?_; intro v5 w5 hown5 hbw5 hgr5))
      go_roundw
      case rel => exact ⟨j + 1, by omega, by go_num, by rw [List.replicate_succ']; exact hown5, hbw.trans hbw5⟩
      case measure => (simp [intOf]; try omega)
    · obtain rfl : j = n := by omega
      obtain ⟨a3, c3, rfl⟩ := own_slice hown
      have hcW : (1 + p) / (1 + r) ≤ 64 := Nat.le_trans (Nat.div_le_self _ _) (by omega)
      have hdH : (1 + q) / (1 + r) ≤ 64 := Nat.le_trans (Nat.div_le_self _ _) (by omega)
      obtain ⟨C, hC⟩ : ∃ C, (1 + p) / (1 + r) = C := ⟨_, rfl⟩
      obtain ⟨D, hD⟩ : ∃ D, (1 + q) / (1 + r) = D := ⟨_, rfl⟩
      rw [hC] at hcW
      rw [hD] at hdH
      obtain ⟨m, hm⟩ : ∃ m, C * D = m := ⟨_, rfl⟩
      have hm2 : m ≤ 4096 := by rw [← hm]; exact Nat.mul_le_mul hcW hdH
      obtain ⟨ok, hok⟩ : ∃ ok, decide (j ≤ m) = ok := ⟨_, rfl⟩
      have hres := sq_R (1 + p) (1 + q) (1 + r) j (by omega) (by omega) (by omega) (by omega) (by omega) (by omega) (by omega)
      rw [hC, hD, hm, hok] at hres
      obtain ⟨W, hW⟩ : ∃ W : Int, 1 + (p : Int) = W := ⟨_, rfl⟩
      obtain ⟨H, hH⟩ : ∃ H : Int, 1 + (q : Int) = H := ⟨_, rfl⟩
      obtain ⟨S, hS⟩ : ∃ S : Int, 1 + (r : Int) = S := ⟨_, rfl⟩
      have e1 : ((1 + p : Nat) : Int) = W := by omega
      have e2 : ((1 + q : Nat) : Int) = H := by omega
      have e3 : ((1 + r : Nat) : Int) = S := by omega
      rw [e1, e2, e3] at hres
      rw [hS] at hown
      obtain ⟨c, hc⟩ : ∃ c : Int, W.tdiv S = c := ⟨_, rfl⟩
      obtain ⟨d, hd⟩ : ∃ d : Int, H.tdiv S = d := ⟨_, rfl⟩
      have hc2 : c = (C : Int) := by rw [← hc, ← hC, ← e1, ← e3]; rfl
      have hd2 : d = (D : Int) := by rw [← hd, ← hD, ← e2, ← e3]; rfl
      have t2 : IntKind.i64.wrap c = c := IntWalk.i64_in _ (by omega)
      have t3 : IntKind.i64.wrap d = d := IntWalk.i64_in _ (by omega)
      obtain ⟨M, hM⟩ : ∃ M : Int, c * d = M := ⟨_, rfl⟩
      have hM2 : M = (m : Int) := by rw [← hM, hc2, hd2, ← hm]; simp
      have t5 : IntKind.i64.wrap M = M := IntWalk.i64_in _ (by omega)
      have t6 : ¬ S = 0 := by omega
      have t7 : IntKind.i64.wrap (j : Int) = (j : Int) := IntWalk.i64_in _ (by omega)
      have t8 : (ok == ok) = true := by simp
      have t9 : decide ((j : Int) ≤ M) = ok := by rw [← hok, hM2]; simp
      have hpk : Hid (∀ W', Below w.heap.size w W' → RS 2 ptV W' a3 (List.replicate j (S, S)) → Calls Try.prog 22 #[.int .i64 W, .int .i64 H, .slice a3 j c3] W' fun e w' => ∃ a2 n2 c2, e = .returned (.tuple #[.slice a2 n2 c2, .bool ok]) ∧ Below W'.heap.size W' w') := fun W' _ hr' =>
        (pack_any a3 j c3 W H _ W' (by simp) hr').mono fun e w' x => by
          obtain ⟨a2, c2, h1, _, h2⟩ := x
          rw [hres] at h1
          exact ⟨a2, _, c2, h1, h2⟩
      have hro := own_rs (by omega) ptV_len hown
      rw [hW, hH, hS]
      clear hC hD hW hH hS e1 e2 e3 hc2 hd2 hm hp hq hr hres hM2 hok hcW hdH
      go_wp2_with (go_at_call 22; go_loud ((with_reducible refine (hpk.out _ hbw hro).mono ?_); rintro e w1 ⟨a1, n1, c1, rfl, hb1'⟩; have hb1 := hbw.trans (hb1'.mono hz)))
      go_still_tail 13, (by kernel_rfl)
      go_wp2_with (go_at_call 13; go_loud ((with_reducible refine (hx _).mono ?_); rintro e w6 ⟨rfl, hb6⟩))
      go_ret
      have hb2 : Below w.heap.size w w1.drew := hb1.drew
      exact ⟨rfl, hb2.trans (hb6.mono hb2.size)⟩
end Go.Proofs.Ytciaidlkhlgflaa
