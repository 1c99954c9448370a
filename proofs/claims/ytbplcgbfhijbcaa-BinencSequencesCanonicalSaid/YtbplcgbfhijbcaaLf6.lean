import Derived.Test.YtbplcgbfhijbcaaLf5
namespace Go.Proofs.Ytbplcgbfhijbcaa
open Go.RowKit
set_option linter.unusedVariables false
set_option linter.unusedSimpArgs false
theorem RsA.no {w w' : World} {E : Nat} {e : Ending} (h : RsA w ([], 0, E) e w') (hE : E ≠ 0) : e = trs (.slice none 0 0) 0 (E : Int) ∧ Below w.heap.size w w' := by
  rcases h with ⟨h0, _⟩ | ⟨_, h⟩
  · exact absurd h0 hE
  · exact h
theorem take_of_app {b m r : List (BitVec 8)} {k : Nat} (h : b.drop k = m ++ r) : m = (b.drop k).take m.length := by rw [h]; simp
theorem app_le {b m r : List (BitVec 8)} {k : Nat} (h : b.drop k = m ++ r) (hk : k ≤ b.length) : k + m.length ≤ b.length := by
  have := congrArg List.length h
  rw [List.length_drop, List.length_append] at this
  omega
theorem idec_err {b : List (BitVec 8)} : ∀ (n p : Nat) (last : Int) (acc : List Int), (idec b n p last acc).2.2 ≠ 0 → idec b n p last acc = ([], 0, (idec b n p last acc).2.2) := by
  intro n
  induction n with
  | zero => intro p last acc h; rw [idec_zero] at h; exact absurd rfl h
  | succ n ih =>
    intro p last acc h
    by_cases he : uvE (b.drop p) = 0
    · rw [idec_ok he] at h ⊢; exact ih _ _ _ h
    · rw [idec_bad he]
theorem rdec_err {b : List (BitVec 8)} {most : Nat} : ∀ (n p : Nat) (acc : List (BitVec 8)), (rdec b most n p acc).2.2 ≠ 0 → rdec b most n p acc = ([], 0, (rdec b most n p acc).2.2) := by
  intro n
  induction n with
  | zero => intro p acc h; rw [rdec_zero] at h; exact absurd rfl h
  | succ n ih =>
    intro p acc h
    rw [rdec] at h ⊢
    split
    · rfl
    · rename_i h1
      rw [if_neg h1] at h
      split
      · rfl
      · rename_i h2
        rw [if_neg h2] at h
        split
        · rfl
        · rename_i h3
          rw [if_neg h3] at h
          split
          · rfl
          · rename_i h4
            rw [if_neg h4] at h
            exact ih _ _ h
/-- What Ints decodes is the encoding of what it read. -/
theorem ints_canon (b : List (BitVec 8)) (at' most : Int) (h : (intsM b at' most).2.2 = 0) : ∃ (k : Nat) (L : List Int), at' = (k : Int) ∧ intsM b at' most = (L, k + (putI L).length, 0) ∧ In64 L ∧ L.length ≤ b.length ∧ k + (putI L).length ≤ b.length ∧ putI L = (b.drop k).take (putI L).length := by
  have hfit := intsM_fit h
  unfold intsM at h hfit ⊢
  split at h
  · simp at h
  · rename_i h1
    rw [if_neg h1] at hfit ⊢
    split at h
    · rename_i h2; exact absurd h h2
    · rename_i h2
      rw [if_neg h2] at hfit ⊢
      obtain ⟨k, rfl⟩ := Int.eq_ofNat_of_zero_le (show 0 ≤ at' by omega)
      rw [show ((k : Int)).toNat = k from rfl] at h h2 hfit ⊢
      have hu : lenE (b.drop k) most = 0 := by omega
      obtain ⟨h3, h4, h5⟩ := lenE_ok hu
      obtain ⟨F, hF⟩ : ∃ F, idec b (uvV (b.drop k)) (k + uvN (b.drop k)) 0 [] = F := ⟨_, rfl⟩
      rw [hF] at h hfit ⊢
      obtain ⟨v, q, e⟩ := F
      simp only at h hfit
      subst h
      obtain ⟨L, hv, hl, hi, hd, hq⟩ := idec_canon _ _ _ _ (by omega) (by omega) hF
      rw [List.nil_append] at hv
      subst hv
      have hpu := putU_uv _ h3
      have hall : b.drop k = putI v ++ b.drop q := by
        unfold putI
        rw [hl, hpu, List.append_assoc, ← hd, ← List.drop_drop, List.take_append_drop]
      have hlen : (putI v).length = uvN (b.drop k) + (denc 0 v).length := by
        unfold putI
        rw [hl, List.length_append, hpu, List.length_take, Nat.min_eq_left (by have := uvE_len _ h3; omega)]
      exact ⟨k, v, rfl, by rw [hq, hlen]; simp [Nat.add_assoc], hi, hfit, app_le hall (by omega), take_of_app hall⟩
theorem runs_canon (b : List (BitVec 8)) (at' most : Int) (hm : most ≤ 5000) (h : (runsM b at' most).2.2 = 0) : ∃ (k : Nat) (S : List (BitVec 8)), at' = (k : Int) ∧ runsM b at' most = (S, k + (putR S).length, 0) ∧ (S.length : Int) ≤ most ∧ k + (putR S).length ≤ b.length ∧ putR S = (b.drop k).take (putR S).length := by
  unfold runsM at h ⊢
  split at h
  · simp at h
  · rename_i h1
    rw [if_neg h1]
    split at h
    · rename_i h2; exact absurd h h2
    · rename_i h2
      rw [if_neg h2]
      split at h
      · simp at h
      · rename_i h6
        rw [if_neg h6]
        obtain ⟨k, rfl⟩ := Int.eq_ofNat_of_zero_le (show 0 ≤ at' by omega)
        rw [show ((k : Int)).toNat = k from rfl] at h h2 ⊢
        have h3 : uvE (b.drop k) = 0 := by omega
        obtain ⟨F, hF⟩ : ∃ F, rdec b most.toNat (uvV (b.drop k)) (k + uvN (b.drop k)) [] = F := ⟨_, rfl⟩
        rw [hF] at h ⊢
        obtain ⟨v, q, e⟩ := F
        simp only at h
        subst h
        obtain ⟨L, hv, hl, hi, hd, hq, hvl⟩ := rdec_canon _ _ _ hF (by simp)
        rw [List.nil_append] at hv
        subst hv
        have hpu := putU_uv _ h3
        have hall : b.drop k = putR v ++ b.drop q := by
          unfold putR
          rw [hl, hpu, List.append_assoc, ← hd, ← List.drop_drop, List.take_append_drop]
        have hlen : (putR v).length = uvN (b.drop k) + (renc v).length := by
          unfold putR
          rw [hl, List.length_append, hpu, List.length_take, Nat.min_eq_left (by have := uvE_len _ h3; omega)]
        exact ⟨k, v, rfl, by rw [hq, hlen]; simp [Nat.add_assoc], by omega, app_le hall (by omega), take_of_app hall⟩
theorem isenc_yes (a b : Option Addr) (n c m d k q : Nat) (y : Int) (l p : List (BitVec 8)) (w : World) (hn : l.length = n) (hc : n ≤ c) (hm : p.length = m) (hq : k + m = q) (hy : y = (q : Int)) (hql : q ≤ n) (hl : n ≤ 1000000) (hr : Rd w a l) (hs : Rd w b p) (he : p = (l.drop k).take m) :
    Calls Try.prog 34 #[.slice a n c, .int .i64 k, .int .i64 y, .slice b m d] w fun e w' => e = .returned (.bool true) ∧ Below w.heap.size w w' := by
  subst hy
  have hm1 : m ≤ 1000000000 := by omega
  have hsub : q - k = m := by omega
  have hdl : ((l.drop k).take m).length = m := by rw [← he]; exact hm
  have hrd := (hr.drop k).take m
  have d1 : decide ((k : Int) ≤ (q : Int)) = true := by simp; omega
  have d2 : decide ((q : Int) ≤ (n : Int)) = true := by simp; omega
  by_cases hck : c = k
  · obtain rfl : m = 0 := by omega
    obtain rfl : p = [] := List.length_eq_zero_iff.1 hm
    go_enter Try.func34, Try.ntmps34
    go_wp2_with (go_at_call 15; go_loud ((with_reducible refine (same8_yes _ _ 0 _ 0 _ [] [] _ List.length_nil List.length_nil hm1 hs (Rd.nil _ _) rfl).mono ?_); rintro e w6 ⟨rfl, hb6⟩))
    all_goals go_ret
    all_goals exact ⟨rfl, hb6⟩
  · go_enter Try.func34, Try.ntmps34
    go_wp2_with (go_at_call 15; go_loud ((with_reducible refine (same8_yes _ _ _ _ _ _ _ _ _ hm hdl hm1 hs hrd he).mono ?_); rintro e w6 ⟨rfl, hb6⟩))
    all_goals go_ret
    all_goals exact ⟨rfl, hb6⟩
theorem lsc_big (a : Option Addr) (n c : Nat) (at' : Int) (w : World) (h : 300 < n) (hn : n ≤ 9223372036854775807) :
    Calls Try.prog 12 #[.slice a n c, .int .i64 at'] w fun e w' => e = .returned (.bool true) ∧ Below w.heap.size w w' := by
  go_enter Try.func12, Try.ntmps12
  go_wp2_with (go_at_call 18; go_loud ((with_reducible refine (ex_any _).mono ?_); rintro e w6 ⟨rfl, hb6⟩))
  go_ret
  exact ⟨rfl, hb6⟩
/-- What either decoder answers, in one of two forms. -/
theorem ints_two (b : List (BitVec 8)) (at' : Int) (hb : b.length ≤ 300) : (∃ E, intsM b at' 1000 = ([], 0, E) ∧ E ≠ 0) ∨ ∃ (k : Nat) (L : List Int) (q : Nat), at' = (k : Int) ∧ intsM b at' 1000 = (L, q, 0) ∧ k + (putI L).length = q ∧ In64 L ∧ L.length ≤ 300 ∧ q ≤ b.length ∧ putI L = (b.drop k).take (putI L).length := by
  by_cases h : (intsM b at' 1000).2.2 = 0
  · obtain ⟨k, L, h1, h2, h3, h4, h5, h6⟩ := ints_canon b at' 1000 h
    exact .inr ⟨k, L, _, h1, h2, rfl, h3, by omega, h5, h6⟩
  · refine .inl ⟨_, ?_, h⟩
    unfold intsM at h ⊢
    split
    · rfl
    · rename_i h1
      rw [if_neg h1] at h
      split
      · rfl
      · rename_i h2
        rw [if_neg h2] at h
        exact idec_err _ _ _ _ h
theorem runs_two (b : List (BitVec 8)) (at' : Int) (hb : b.length ≤ 300) : (∃ E, runsM b at' 1000 = ([], 0, E) ∧ E ≠ 0) ∨ ∃ (k : Nat) (L : List (BitVec 8)) (q : Nat), at' = (k : Int) ∧ runsM b at' 1000 = (L, q, 0) ∧ k + (putR L).length = q ∧ L.length ≤ 1000 ∧ q ≤ b.length ∧ putR L = (b.drop k).take (putR L).length := by
  by_cases h : (runsM b at' 1000).2.2 = 0
  · obtain ⟨k, L, h1, h2, h3, h5, h6⟩ := runs_canon b at' 1000 (by omega) h
    exact .inr ⟨k, L, _, h1, h2, rfl, by omega, h5, h6⟩
  · refine .inl ⟨_, ?_, h⟩
    unfold runsM at h ⊢
    split
    · rfl
    · rename_i h1
      rw [if_neg h1] at h
      split
      · rfl
      · rename_i h2
        rw [if_neg h2] at h
        split
        · rfl
        · rename_i h3
          rw [if_neg h3] at h
          exact rdec_err _ _ _ h
theorem lsc_00 (a : Option Addr) (n c : Nat) (at' : Int) (l : List (BitVec 8)) (w : World) (hn : l.length = n) (hc : n ≤ c) (h : n ≤ 300) (hr : Rd w a l) (E1 : Nat) (I1 : intsM l at' 1000 = ([], 0, E1)) (IE : E1 ≠ 0) (E2 : Nat) (R1 : runsM l at' 1000 = ([], 0, E2)) (RE : E2 ≠ 0) :
    Calls Try.prog 12 #[.slice a n c, .int .i64 at'] w fun e w' => e = .returned (.bool true) ∧ Below w.heap.size w w' := by
  subst hn
  have hbi := fun W hW => (bi_any a _ c at' 1000 l W rfl hc (by omega) (by omega) hW).mono fun e w' h => IsA.no (I1 ▸ h) IE
  have qi1 : ((E1 : Int) == 0) = false := by simp; exact IE
  have qi2 : ((E1 : Int) != 0) = true := by simp; exact IE
  have H1 := Lib.hid hbi
  clear hbi I1 IE
  have hbr := fun W hW => (br_any a _ c at' 1000 l W rfl hc (by omega) (by omega) hW).mono fun e w' h => RsA.no (R1 ▸ h) RE
  have qr1 : ((E2 : Int) == 0) = false := by simp; exact RE
  have qr2 : ((E2 : Int) != 0) = true := by simp; exact RE
  have H2 := Lib.hid hbr
  clear hbr R1 RE
  have hl9 : l.length ≤ 1000000 := by omega
  go_enter Try.func12, Try.ntmps12
  go_wp2_with (first
    | (go_at_call 36; go_loud ((with_reducible refine (H1.out _ hr).mono ?_); unfold trs; rintro e w1 ⟨rfl, hbx1⟩; have hr1 := hr.below hbx1))
    | (go_at_call 41; go_loud ((with_reducible refine (H2.out _ hr1).mono ?_); unfold trs; rintro e w5 ⟨rfl, hbw5⟩; have hbx5 := bel_step hbx1 hbw5))
    | (go_at_call 18; go_loud ((with_reducible refine (ex_any _).mono ?_); rintro e w6 ⟨rfl, hbw6⟩; have hbx6 := bel_step hbx5 hbw6)))
  go_ret
  exact ⟨rfl, hbx6⟩
theorem lsc_01 (a : Option Addr) (n c : Nat) (at' : Int) (l : List (BitVec 8)) (w : World) (hn : l.length = n) (hc : n ≤ c) (h : n ≤ 300) (hr : Rd w a l) (E1 : Nat) (I1 : intsM l at' 1000 = ([], 0, E1)) (IE : E1 ≠ 0) (k2 : Nat) (L2 : List (BitVec 8)) (q2 : Nat) (R0 : at' = (k2 : Int)) (R2 : runsM l at' 1000 = (L2, q2, 0)) (R3 : k2 + (putR L2).length = q2) (R5 : L2.length ≤ 1000) (R7 : q2 ≤ l.length) (R6 : putR L2 = (l.drop k2).take (putR L2).length) :
    Calls Try.prog 12 #[.slice a n c, .int .i64 at'] w fun e w' => e = .returned (.bool true) ∧ Below w.heap.size w w' := by
  subst hn
  subst R0
  have hbi := fun W hW => (bi_any a _ c (k2 : Int) 1000 l W rfl hc (by omega) (by omega) hW).mono fun e w' h => IsA.no (I1 ▸ h) IE
  have qi1 : ((E1 : Int) == 0) = false := by simp; exact IE
  have qi2 : ((E1 : Int) != 0) = true := by simp; exact IE
  have H1 := Lib.hid hbi
  clear hbi I1 IE
  have hbr := fun W hW => (br_any a _ c (k2 : Int) 1000 l W rfl hc (by omega) (by omega) hW).mono fun e w' h => RsA.ok (R2 ▸ h)
  have H2 := Lib.hid hbr
  have HR := Lib.hid R6
  have HRq := Lib.hid R3
  have hS9 : L2.length ≤ 1000000 := by omega
  clear hbr R2 R3 R6
  have hl9 : l.length ≤ 1000000 := by omega
  go_enter Try.func12, Try.ntmps12
  go_wp2_with (first
    | (go_at_call 36; go_loud ((with_reducible refine (H1.out _ hr).mono ?_); unfold trs; rintro e w1 ⟨rfl, hbx1⟩; have hr1 := hr.below hbx1))
    | (go_at_call 41; go_loud ((with_reducible refine (H2.out _ hr1).mono ?_); unfold trs; rintro e w3 ⟨a3, c3, rfl, hc3, ho3, hbw3⟩; have hbx3 := bel_step hbx1 hbw3; have hr3 := hr1.below hbw3))
    | (go_at_call 43; go_loud ((with_reducible refine (pru_any _ _ _ _ _ rfl hc3 hS9 (Rd.of_own ho3)).mono ?_); rintro e w4 ⟨a4, c4, rfl, hc4, ho4, hbw4⟩; have hbx4 := bel_step hbx3 hbw4; have hr4 := hr3.below hbw4))
    | (go_at_call 34; go_loud ((with_reducible refine (isenc_yes _ _ _ _ _ _ k2 q2 _ _ _ _ rfl hc rfl HRq.out rfl R7 hl9 hr4 (Rd.of_own ho4) HR.out).mono ?_); rintro e w5 ⟨rfl, hbw5⟩; have hbx5 := bel_step hbx4 hbw5))
    | (go_at_call 18; go_loud ((with_reducible refine (ex_any _).mono ?_); rintro e w6 ⟨rfl, hbw6⟩; have hbx6 := bel_step hbx5 hbw6)))
  go_ret
  exact ⟨rfl, hbx6⟩
theorem lsc_10 (a : Option Addr) (n c : Nat) (at' : Int) (l : List (BitVec 8)) (w : World) (hn : l.length = n) (hc : n ≤ c) (h : n ≤ 300) (hr : Rd w a l) (k1 : Nat) (L1 : List Int) (q1 : Nat) (I0 : at' = (k1 : Int)) (I2 : intsM l at' 1000 = (L1, q1, 0)) (I3 : k1 + (putI L1).length = q1) (I4 : In64 L1) (I5 : L1.length ≤ 300) (I7 : q1 ≤ l.length) (I6 : putI L1 = (l.drop k1).take (putI L1).length) (E2 : Nat) (R1 : runsM l at' 1000 = ([], 0, E2)) (RE : E2 ≠ 0) :
    Calls Try.prog 12 #[.slice a n c, .int .i64 at'] w fun e w' => e = .returned (.bool true) ∧ Below w.heap.size w w' := by
  subst hn
  subst I0
  have hbi := fun W hW => (bi_any a _ c (k1 : Int) 1000 l W rfl hc (by omega) (by omega) hW).mono fun e w' h => IsA.ok (I2 ▸ h)
  have H1 := Lib.hid hbi
  have HI := Lib.hid I6
  have HIq := Lib.hid I3
  have hL9 : L1.length ≤ 1000000 := by omega
  clear hbi I2 I3 I6
  have hbr := fun W hW => (br_any a _ c (k1 : Int) 1000 l W rfl hc (by omega) (by omega) hW).mono fun e w' h => RsA.no (R1 ▸ h) RE
  have qr1 : ((E2 : Int) == 0) = false := by simp; exact RE
  have qr2 : ((E2 : Int) != 0) = true := by simp; exact RE
  have H2 := Lib.hid hbr
  clear hbr R1 RE
  have hl9 : l.length ≤ 1000000 := by omega
  go_enter Try.func12, Try.ntmps12
  go_wp2_with (first
    | (go_at_call 36; go_loud ((with_reducible refine (H1.out _ hr).mono ?_); unfold trs; rintro e w1a ⟨a1, c1, rfl, hc1, ho1, hbx1a⟩; have hr1a := hr.below hbx1a))
    | (go_at_call 38; go_loud ((with_reducible refine (pi_any _ _ _ _ _ rfl hL9 I4 (Ri.of_own ho1)).mono ?_); rintro e w1b ⟨a2, c2, rfl, hc2, ho2, hbw1b⟩; have hbx1b := bel_step hbx1a hbw1b; have hr1b := hr1a.below hbw1b))
    | (go_at_call 34; go_loud ((with_reducible refine (isenc_yes _ _ _ _ _ _ k1 q1 _ _ _ _ rfl hc rfl HIq.out rfl I7 hl9 hr1b (Rd.of_own ho2) HI.out).mono ?_); rintro e w1 ⟨rfl, hbw1⟩; have hbx1 := bel_step hbx1b hbw1; have hr1 := hr1b.below hbw1))
    | (go_at_call 41; go_loud ((with_reducible refine (H2.out _ hr1).mono ?_); unfold trs; rintro e w5 ⟨rfl, hbw5⟩; have hbx5 := bel_step hbx1 hbw5))
    | (go_at_call 18; go_loud ((with_reducible refine (ex_any _).mono ?_); rintro e w6 ⟨rfl, hbw6⟩; have hbx6 := bel_step hbx5 hbw6)))
  go_ret
  exact ⟨rfl, hbx6⟩
theorem lsc_11 (a : Option Addr) (n c : Nat) (at' : Int) (l : List (BitVec 8)) (w : World) (hn : l.length = n) (hc : n ≤ c) (h : n ≤ 300) (hr : Rd w a l) (k1 : Nat) (L1 : List Int) (q1 : Nat) (I0 : at' = (k1 : Int)) (I2 : intsM l at' 1000 = (L1, q1, 0)) (I3 : k1 + (putI L1).length = q1) (I4 : In64 L1) (I5 : L1.length ≤ 300) (I7 : q1 ≤ l.length) (I6 : putI L1 = (l.drop k1).take (putI L1).length) (k2 : Nat) (L2 : List (BitVec 8)) (q2 : Nat) (R0 : at' = (k2 : Int)) (R2 : runsM l at' 1000 = (L2, q2, 0)) (R3 : k2 + (putR L2).length = q2) (R5 : L2.length ≤ 1000) (R7 : q2 ≤ l.length) (R6 : putR L2 = (l.drop k2).take (putR L2).length) :
    Calls Try.prog 12 #[.slice a n c, .int .i64 at'] w fun e w' => e = .returned (.bool true) ∧ Below w.heap.size w w' := by
  subst hn
  obtain rfl : k1 = k2 := by omega
  subst I0
  have hbi := fun W hW => (bi_any a _ c (k1 : Int) 1000 l W rfl hc (by omega) (by omega) hW).mono fun e w' h => IsA.ok (I2 ▸ h)
  have H1 := Lib.hid hbi
  have HI := Lib.hid I6
  have HIq := Lib.hid I3
  have hL9 : L1.length ≤ 1000000 := by omega
  clear hbi I2 I3 I6
  have hbr := fun W hW => (br_any a _ c (k1 : Int) 1000 l W rfl hc (by omega) (by omega) hW).mono fun e w' h => RsA.ok (R2 ▸ h)
  have H2 := Lib.hid hbr
  have HR := Lib.hid R6
  have HRq := Lib.hid R3
  have hS9 : L2.length ≤ 1000000 := by omega
  clear hbr R2 R3 R6
  have hl9 : l.length ≤ 1000000 := by omega
  go_enter Try.func12, Try.ntmps12
  go_wp2_with (first
    | (go_at_call 36; go_loud ((with_reducible refine (H1.out _ hr).mono ?_); unfold trs; rintro e w1a ⟨a1, c1, rfl, hc1, ho1, hbx1a⟩; have hr1a := hr.below hbx1a))
    | (go_at_call 38; go_loud ((with_reducible refine (pi_any _ _ _ _ _ rfl hL9 I4 (Ri.of_own ho1)).mono ?_); rintro e w1b ⟨a2, c2, rfl, hc2, ho2, hbw1b⟩; have hbx1b := bel_step hbx1a hbw1b; have hr1b := hr1a.below hbw1b))
    | (go_at_call 34; go_loud ((with_reducible refine (isenc_yes _ _ _ _ _ _ k1 q1 _ _ _ _ rfl hc rfl HIq.out rfl I7 hl9 hr1b (Rd.of_own ho2) HI.out).mono ?_); rintro e w1 ⟨rfl, hbw1⟩; have hbx1 := bel_step hbx1b hbw1; have hr1 := hr1b.below hbw1))
    | (go_at_call 41; go_loud ((with_reducible refine (H2.out _ hr1).mono ?_); unfold trs; rintro e w3 ⟨a3, c3, rfl, hc3, ho3, hbw3⟩; have hbx3 := bel_step hbx1 hbw3; have hr3 := hr1.below hbw3))
    | (go_at_call 43; go_loud ((with_reducible refine (pru_any _ _ _ _ _ rfl hc3 hS9 (Rd.of_own ho3)).mono ?_); rintro e w4 ⟨a4, c4, rfl, hc4, ho4, hbw4⟩; have hbx4 := bel_step hbx3 hbw4; have hr4 := hr3.below hbw4))
    | (go_at_call 34; go_loud ((with_reducible refine (isenc_yes _ _ _ _ _ _ k1 q2 _ _ _ _ rfl hc rfl HRq.out rfl R7 hl9 hr4 (Rd.of_own ho4) HR.out).mono ?_); rintro e w5 ⟨rfl, hbw5⟩; have hbx5 := bel_step hbx4 hbw5))
    | (go_at_call 18; go_loud ((with_reducible refine (ex_any _).mono ?_); rintro e w6 ⟨rfl, hbw6⟩; have hbx6 := bel_step hbx5 hbw6)))
  go_ret
  exact ⟨rfl, hbx6⟩
theorem lsc_w (a : Option Addr) (n c : Nat) (at' : Int) (l : List (BitVec 8)) (w : World) (hn : l.length = n) (hc : n ≤ c) (hn9 : n ≤ 9223372036854775807) (hr : Rd w a l) :
    Calls Try.prog 12 #[.slice a n c, .int .i64 at'] w fun e w' => e = .returned (.bool true) ∧ Below w.heap.size w w' := by
  by_cases h : 300 < n
  · exact lsc_big a n c at' w h hn9
  · rcases ints_two l at' (by omega) with ⟨E1, i1, i2⟩ | ⟨k1, L1, q1, i1, i2, i3, i4, i5, i6, i7⟩
    · rcases runs_two l at' (by omega) with ⟨E2, r1, r2⟩ | ⟨k2, L2, q2, r1, r2, r3, r5, r6, r7⟩
      · exact lsc_00 a n c at' l w hn hc (by omega) hr E1 i1 i2 E2 r1 r2
      · exact lsc_01 a n c at' l w hn hc (by omega) hr E1 i1 i2 k2 L2 q2 r1 r2 r3 r5 r6 r7
    · rcases runs_two l at' (by omega) with ⟨E2, r1, r2⟩ | ⟨k2, L2, q2, r1, r2, r3, r5, r6, r7⟩
      · exact lsc_10 a n c at' l w hn hc (by omega) hr k1 L1 q1 i1 i2 i3 i4 i5 i6 i7 E2 r1 r2
      · exact lsc_11 a n c at' l w hn hc (by omega) hr k1 L1 q1 i1 i2 i3 i4 i5 i6 i7 k2 L2 q2 r1 r2 r3 r5 r6 r7
end Go.Proofs.Ytbplcgbfhijbcaa
