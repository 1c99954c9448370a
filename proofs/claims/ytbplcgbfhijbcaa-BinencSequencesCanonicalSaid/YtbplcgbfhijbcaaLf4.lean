import Derived.Test.YtbplcgbfhijbcaaJ7
import Derived.Test.YtbplcgbfhijbcaaEy
namespace Go.Proofs.Ytbplcgbfhijbcaa
open Go.RowKit
set_option linter.unusedVariables false
set_option linter.unusedSimpArgs false
theorem br_any (a : Option Addr) (n c : Nat) (at' most : Int) (l : List (BitVec 8)) (w : World) (hn : l.length = n) (hc : n ≤ c) (hl : n ≤ 1000000) (hm : most ≤ 5000) (hr : Rd w a l) :
    Calls Try.prog 41 #[.slice a n c, .int .i64 at', .int .i64 most] w (RsA w (runsM l at' most)) := by
  unfold runsM
  by_cases h : at' < 0 ∨ (l.length : Int) < at'
  · rw [if_pos h]
    exact (br_out a n c at' most w hm (by omega) (by omega)).mono fun e w' ⟨h1, h2⟩ => by subst h1; exact RsA.bad rfl (by decide) h2
  · rw [if_neg h]
    obtain ⟨k, rfl⟩ := Int.eq_ofNat_of_zero_le (show 0 ≤ at' by omega)
    rw [show ((k : Int)).toNat = k from rfl]
    by_cases hu : uvE (l.drop k) = 0
    · rw [if_neg (by omega)]
      by_cases hneg : most < 0
      · rw [if_pos hneg]
        exact (br_neg a n c k most l w hn hc (by omega) hneg hr (by omega) hu).mono fun e w' ⟨h1, h2⟩ => by subst h1; exact RsA.bad rfl (by decide) h2
      · rw [if_neg hneg]
        obtain ⟨M, rfl⟩ := Int.eq_ofNat_of_zero_le (show 0 ≤ most by omega)
        exact br_dec a n c k M _ l w hn hc hl rfl (by omega) hr (by omega) hu
    · rw [if_pos hu]
      exact (br_bad a n c k most l w hn hc (by omega) hm hr (by omega) hu).mono fun e w' ⟨h1, h2⟩ => by subst h1; exact RsA.bad rfl hu h2
theorem runsM_fit {l : List (BitVec 8)} {at' most : Int} (h : (runsM l at' most).2.2 = 0) (hm : most ≤ 5000) : (runsM l at' most).1.length ≤ 5000 := by
  unfold runsM at h ⊢
  split at h
  · simp at h
  · rename_i h1
    rw [if_neg h1]
    split at h
    · rename_i h2; exact absurd h h2
    · rename_i h2
      rw [if_neg h2]
      split at h
      · simp at h
      · rename_i h3
        rw [if_neg h3]
        obtain ⟨F, hF⟩ : ∃ F, rdec l most.toNat (uvV (l.drop at'.toNat)) (at'.toNat + uvN (l.drop at'.toNat)) [] = F := ⟨_, rfl⟩
        rw [hF] at h ⊢
        obtain ⟨v, q, e⟩ := F
        simp only at h
        subst h
        obtain ⟨s, _, _, _, _, _, h9⟩ := rdec_canon _ _ _ hF (by simp)
        show v.length ≤ 5000
        omega
/-- The answer's list, offset and error. -/
def rsL (F : List (BitVec 8) × Nat × Nat) : List (BitVec 8) := if F.2.2 = 0 then F.1 else []
def rsP (F : List (BitVec 8) × Nat × Nat) : Int := if F.2.2 = 0 then (F.2.1 : Int) else 0
theorem RsA.all {w w' : World} {F : List (BitVec 8) × Nat × Nat} {e : Ending} (h : RsA w F e w') : ∃ a c, e = trs (.slice a (rsL F).length c) (rsP F) (F.2.2 : Int) ∧ (rsL F).length ≤ c ∧ w'.ownsRow w.heap.size 5 1 (.slice a (rsL F).length c) (rsL F).length (bv8 (rsL F)) ∧ Below w.heap.size w w' := by
  rcases h with ⟨h0, a, c, h1, h2, h3, h4⟩ | ⟨h0, h1, h2⟩
  · unfold rsL rsP
    rw [if_pos h0, if_pos h0, h0]
    exact ⟨a, c, h1, h2, h3, h4⟩
  · unfold rsL rsP
    rw [if_neg h0, if_neg h0]
    exact ⟨none, 0, h1, by simp, nil_row8 _ _, h2⟩
theorem putR_len (l : List (BitVec 8)) (h : l.length ≤ 1000000) : (putR l).length ≤ 1000000000 := by
  have h1 := renc_len l.length l (Nat.le_refl _) (by omega)
  have h0 := rcnt_le l.length l (Nat.le_refl _)
  have h2 := putU_len10 (n := rcnt l) (by omega)
  unfold putR
  rw [List.length_append]; omega
theorem lru_big (a b : Option Addr) (n c m d : Nat) (at' most : Int) (w : World) (h : 2000 < n ∨ 2000 < m ∨ 5000 < most) (hn : n ≤ 9223372036854775807) (hmo : most ≤ 9223372036854775807) (hm : m ≤ 9223372036854775807) :
    Calls Try.prog 10 #[.slice a n c, .slice b m d, .agg #[.int .i64 at', .int .i64 most]] w fun e w' => e = .returned (.bool true) ∧ Below w.heap.size w w' := by
  have hb0 := Below.alloc (Below.refl w.heap.size w) (Nat.le_refl _) (.cells #[Value.int .i64 at', Value.int .i64 most] 36)
  have hz0 := hb0.size
  have hs : 2000 < n ∨ (n ≤ 2000 ∧ 2000 < m) ∨ (n ≤ 2000 ∧ m ≤ 2000 ∧ 5000 < most) := by omega
  clear h
  have kc1 : (w.alloc (.cells #[Value.int .i64 at', Value.int .i64 most] 36)).cell? ⟨w.heap.size, 1, none⟩ = some (.int .i64 most) := by go_simp
  rcases hs with h | ⟨h, h2⟩ | ⟨h, h2, h3⟩
  all_goals
    go_enter Try.func10, Try.ntmps10
    go_wp2_with (go_at_call 18; go_loud ((with_reducible refine (ex_any _).mono ?_); rintro e w6 ⟨rfl, hb6⟩))
    go_ret
    exact ⟨rfl, hb0.trans (hb6.mono hz0)⟩
set_option maxRecDepth 50000 in
set_option maxHeartbeats 1000000 in
theorem lru_in (a b : Option Addr) (n c m d : Nat) (l k : List (BitVec 8)) (at' most : Int) (w : World) (hn : l.length = n) (hm : k.length = m) (hd : m ≤ d) (hc : n ≤ c) (hn2 : n ≤ 2000) (hm2 : m ≤ 2000) (hmo : most ≤ 5000) (hr : Rd w a l) (hs : Rd w b k) :
    Calls Try.prog 10 #[.slice a n c, .slice b m d, .agg #[.int .i64 at', .int .i64 most]] w fun e w' => e = .returned (.bool true) ∧ Below w.heap.size w w' := by
  subst hn hm
  have h1 := fun W hW => br_any b _ d at' most k W rfl hd (by omega) hmo hW
  have h2 := fun W hW => rr_any b _ d at' most k W rfl (by omega) hmo hW
  have h3 : (rsL (runsM k at' most)).length ≤ 1000000000 := by
    unfold rsL
    split
    · rename_i h; have := runsM_fit h hmo; omega
    · simp
  obtain ⟨F, hF⟩ : ∃ F, runsM k at' most = F := ⟨_, rfl⟩
  simp only [hF] at h1 h2 h3
  have H1 := Lib.hid (fun W hW => (h1 W hW).mono fun e w' h => RsA.all h)
  have H2 := Lib.hid (fun W hW => (h2 W hW).mono fun e w' h => RsA.all h)
  obtain ⟨L, hL⟩ : ∃ L, rsL F = L := ⟨_, rfl⟩
  simp only [hL] at H1 H2 h3
  obtain ⟨P, hP⟩ : ∃ P, rsP F = P := ⟨_, rfl⟩
  simp only [hP] at H1 H2
  obtain ⟨E, hE⟩ : ∃ E, F.2.2 = E := ⟨_, rfl⟩
  simp only [hE] at H1 H2
  have H3 := Lib.hid h3
  have HP := Lib.hid (putR_len l (by omega))
  have hn9 : l.length ≤ 1000000 := by omega
  clear h1 h2 h3 hF hL hP hE
  have hb0 := Below.alloc (Below.refl w.heap.size w) (Nat.le_refl _) (.cells #[Value.int .i64 at', Value.int .i64 most] 36)
  have hsb := hs.below hb0
  have kc0 : (w.alloc (.cells #[Value.int .i64 at', Value.int .i64 most] 36)).cell? ⟨w.heap.size, 0, none⟩ = some (.int .i64 at') := by go_simp
  have kc1 : (w.alloc (.cells #[Value.int .i64 at', Value.int .i64 most] 36)).cell? ⟨w.heap.size, 1, none⟩ = some (.int .i64 most) := by go_simp
  go_enter Try.func10, Try.ntmps10
  go_wp2_with (first
    | (go_at_call 41; go_loud ((with_reducible refine (H1.out _ hsb).mono ?_); unfold trs; rintro e w2 ⟨a2, c2, rfl, hc2, ho2, hbw2⟩; have k2_0 := bcs hbw2 kc0; have k2_1 := bcs hbw2 kc1; have hbx2 := bel_step hb0 hbw2; have hs2 := hs.below hbx2))
    | (go_at_call 42; go_loud ((with_reducible refine (H2.out _ hs2).mono ?_); unfold trs; rintro e w3 ⟨a3, c3, rfl, hc3, ho3, hbw3⟩; have hbx3 := bel_step hbx2 hbw3; have ho2b := own_below ho2 hbw3; have hr3 := hr.below hbx3))
    | (go_at_call 43; go_loud ((with_reducible refine (pru_any _ _ _ _ _ rfl hc hn9 hr3).mono ?_); rintro e w4 ⟨a4, c4, rfl, hc4, ho4, hbw4⟩; have hbx4 := bel_step hbx3 hbw4; have hr4 := hr3.below hbw4; have ho2c := own_below ho2b hbw4; have ho3b := own_below ho3 hbw4))
    | (go_at_call 44; go_loud ((with_reducible refine (rpru_any _ _ _ _ _ rfl hn9 hr4).mono ?_); rintro e w5 ⟨a5, c5, rfl, hc5, ho5, hbw5⟩; have hbx5 := bel_step hbx4 hbw5; have ho2d := own_below ho2c hbw5; have ho3c := own_below ho3b hbw5; have ho4b := Rd.of_own (own_below ho4 hbw5); have ho5b := Rd.of_own ho5))
    | (go_at_call 15; go_loud (first
        | ((with_reducible refine (same8_yes _ _ _ _ _ _ _ _ _ rfl rfl H3.out (Rd.of_own ho2e) (Rd.of_own ho3d) rfl).mono ?_); rintro e w7 ⟨rfl, hbw7⟩; have hbx7 := bel_step hbx6 hbw7)
        | ((with_reducible refine (same8_yes _ _ _ _ _ _ _ _ _ rfl rfl HP.out ho4b ho5b rfl).mono ?_); rintro e w6 ⟨rfl, hbw6⟩; have hbx6 := bel_step hbx5 hbw6; have ho2e := own_below ho2d hbw6; have ho3d := own_below ho3c hbw6)))
    | (go_at_call 18; go_loud ((with_reducible refine (ex_any _).mono ?_); rintro e w8 ⟨rfl, hbw8⟩; have hbx8 := bel_step hbx7 hbw8)))
  go_ret
  exact ⟨rfl, hbx8⟩
theorem lru_w (a b : Option Addr) (n c m d : Nat) (l k : List (BitVec 8)) (at' most : Int) (w : World) (hn : l.length = n) (hc : n ≤ c) (hm : k.length = m) (hd : m ≤ d) (hn9 : n ≤ 9223372036854775807) (hm9 : m ≤ 9223372036854775807) (hmo : most ≤ 9223372036854775807) (hr : Rd w a l) (hs : Rd w b k) :
    Calls Try.prog 10 #[.slice a n c, .slice b m d, .agg #[.int .i64 at', .int .i64 most]] w fun e w' => e = .returned (.bool true) ∧ Below w.heap.size w w' := by
  by_cases h : 2000 < n ∨ 2000 < m ∨ 5000 < most
  · exact lru_big a b n c m d at' most w h hn9 hmo hm9
  · exact lru_in a b n c m d l k at' most w hn hm hd hc (by omega) (by omega) (by omega) hr hs
end Go.Proofs.Ytbplcgbfhijbcaa
