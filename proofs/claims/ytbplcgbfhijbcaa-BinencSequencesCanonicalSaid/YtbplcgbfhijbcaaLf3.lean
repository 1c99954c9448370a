import Derived.Test.YtbplcgbfhijbcaaJ7
import Derived.Test.YtbplcgbfhijbcaaEp
namespace Go.Proofs.Ytbplcgbfhijbcaa
open Go.RowKit
set_option linter.unusedVariables false
set_option linter.unusedSimpArgs false
theorem i64_of_wf {n : Int} (h : (Lit.int .i64 n).wf = true) : -9223372036854775808 ≤ n ∧ n ≤ 9223372036854775807 := by
  simp [Lit.wf, IntKind.min, IntKind.max, IntKind.signed, IntKind.bits] at h
  omega
theorem IsRow.ints {w : World} {a : Option Addr} {l c : Nat} {z : List Int} (h : IsRow .i64 w a l c z) : ∃ bs : List Int, bs.length = l ∧ l ≤ c ∧ Ri w a bs ∧ In64 bs := by
  rcases h with ⟨rfl, rfl, rfl, rfl⟩ | ⟨ad, rfl, hl, hm, hz, hc, hw⟩
  · exact ⟨[], rfl, Nat.le_refl _, Ri.nil _ _, fun x hx => by simp at hx⟩
  · refine ⟨z.take l, by simp; omega, hl, fun k hk => ⟨ad, rfl, ?_⟩, fun x hx => i64_of_wf (hw x (List.mem_of_mem_take hx))⟩
    have hk' : k < z.length := by simp at hk; omega
    rw [hc k hk', List.getElem_take]
    simp [List.getD, hk']
theorem idec_fit {b : List (BitVec 8)} {v : List Int} {q : Nat} : ∀ (n p : Nat) (last : Int) (acc : List Int), idec b n p last acc = (v, q, 0) → acc.length ≤ p → p ≤ b.length → v.length ≤ q ∧ q ≤ b.length := by
  intro n
  induction n with
  | zero => intro p last acc h h1 h2; rw [idec_zero] at h; injection h with h3 h4; injection h4 with h4 h5; subst h3 h4; exact ⟨h1, h2⟩
  | succ n ih =>
    intro p last acc h h1 h2
    by_cases he : uvE (b.drop p) = 0
    · rw [idec_ok he] at h
      have := uvE_len _ he
      rw [List.length_drop] at this
      refine ih _ _ _ h ?_ (by omega)
      rw [List.length_append, List.length_singleton]
      unfold uvN; omega
    · rw [idec_bad he] at h
      injection h with h1 h2
      injection h2 with h2 h3
      exact absurd h3 he
theorem intsM_fit {l : List (BitVec 8)} {at' most : Int} (h : (intsM l at' most).2.2 = 0) : (intsM l at' most).1.length ≤ l.length := by
  unfold intsM at h ⊢
  split at h
  · simp at h
  · rename_i h1
    rw [if_neg h1]
    split at h
    · rename_i h2; exact absurd h h2
    · rename_i h2
      rw [if_neg h2]
      have hu : lenE (l.drop at'.toNat) most = 0 := by omega
      obtain ⟨h3, h4, h5⟩ := lenE_ok hu
      have hN := uvE_len _ h3
      rw [List.length_drop] at hN
      obtain ⟨F, hF⟩ : ∃ F, idec l (uvV (l.drop at'.toNat)) (at'.toNat + uvN (l.drop at'.toNat)) 0 [] = F := ⟨_, rfl⟩
      rw [hF] at h ⊢
      obtain ⟨v, q, e⟩ := F
      simp only at h
      subst h
      have := idec_fit _ _ _ _ hF (by simp) (by omega)
      exact Nat.le_trans this.1 this.2
/-- The answer's list, offset and error. -/
def isL (F : List Int × Nat × Nat) : List Int := if F.2.2 = 0 then F.1 else []
def isP (F : List Int × Nat × Nat) : Int := if F.2.2 = 0 then (F.2.1 : Int) else 0
theorem IsA.all {w w' : World} {F : List Int × Nat × Nat} {e : Ending} (h : IsA w F e w') : ∃ a c, e = trs (.slice a (isL F).length c) (isP F) (F.2.2 : Int) ∧ (isL F).length ≤ c ∧ w'.ownsRow w.heap.size 3 1 (.slice a (isL F).length c) (isL F).length (iv (isL F)) ∧ Below w.heap.size w w' := by
  rcases h with ⟨h0, a, c, h1, h2, h3, h4⟩ | ⟨h0, h1, h2⟩
  · unfold isL isP
    rw [if_pos h0, if_pos h0, h0]
    exact ⟨a, c, h1, h2, h3, h4⟩
  · unfold isL isP
    rw [if_neg h0, if_neg h0]
    exact ⟨none, 0, h1, by simp, nil_rowi _ _, h2⟩
theorem putI_len (l : List Int) (h : l.length ≤ 1000000) : (putI l).length ≤ 1000000000 := by
  have h1 := denc_len 0 l
  have h2 := putU_len10 (n := l.length) (by omega)
  unfold putI
  rw [List.length_append]; omega
theorem lis_big (a b : Option Addr) (n c m d : Nat) (at' most : Int) (w : World) (h : 300 < n ∨ 2000 < m) (hn : n ≤ 9223372036854775807) (hm : m ≤ 9223372036854775807) :
    Calls Try.prog 9 #[.slice a n c, .slice b m d, .agg #[.int .i64 at', .int .i64 most]] w fun e w' => e = .returned (.bool true) ∧ Below w.heap.size w w' := by
  have hb0 := Below.alloc (Below.refl w.heap.size w) (Nat.le_refl _) (.cells #[Value.int .i64 at', Value.int .i64 most] 36)
  have hz0 := hb0.size
  have hs : 300 < n ∨ (n ≤ 300 ∧ 2000 < m) := by omega
  clear h
  rcases hs with h | ⟨h, h2⟩
  all_goals
    go_enter Try.func9, Try.ntmps9
    go_wp2_with (go_at_call 18; go_loud ((with_reducible refine (ex_any _).mono ?_); rintro e w6 ⟨rfl, hb6⟩))
    go_ret
    exact ⟨rfl, hb0.trans (hb6.mono hz0)⟩
set_option maxRecDepth 50000 in
set_option maxHeartbeats 1000000 in
theorem lis_in (a b : Option Addr) (n c m d : Nat) (l : List Int) (k : List (BitVec 8)) (at' most : Int) (w : World) (hn : l.length = n) (hm : k.length = m) (hd : m ≤ d) (hn2 : n ≤ 300) (hm2 : m ≤ 2000) (hmo : most ≤ 9223372036854775807) (hi : In64 l) (hr : Ri w a l) (hs : Rd w b k) :
    Calls Try.prog 9 #[.slice a n c, .slice b m d, .agg #[.int .i64 at', .int .i64 most]] w fun e w' => e = .returned (.bool true) ∧ Below w.heap.size w w' := by
  subst hn hm
  have h1 := fun W hW => bi_any b _ d at' most k W rfl hd (by omega) hmo hW
  have h2 := fun W hW => ri_any b _ d at' most k W rfl (by omega) hmo hW
  have h3 : (isL (intsM k at' most)).length ≤ 1000000000 := by
    unfold isL
    split
    · rename_i h; have := intsM_fit h; omega
    · simp
  obtain ⟨F, hF⟩ : ∃ F, intsM k at' most = F := ⟨_, rfl⟩
  simp only [hF] at h1 h2 h3
  have H1 := Lib.hid (fun W hW => (h1 W hW).mono fun e w' h => IsA.all h)
  have H2 := Lib.hid (fun W hW => (h2 W hW).mono fun e w' h => IsA.all h)
  obtain ⟨L, hL⟩ : ∃ L, isL F = L := ⟨_, rfl⟩
  simp only [hL] at H1 H2 h3
  obtain ⟨P, hP⟩ : ∃ P, isP F = P := ⟨_, rfl⟩
  simp only [hP] at H1 H2
  obtain ⟨E, hE⟩ : ∃ E, F.2.2 = E := ⟨_, rfl⟩
  simp only [hE] at H1 H2
  have H3 := Lib.hid h3
  have HP := Lib.hid (putI_len l (by omega))
  have hn9 : l.length ≤ 1000000 := by omega
  clear h1 h2 h3 hF hL hP hE
  have hb0 := Below.alloc (Below.refl w.heap.size w) (Nat.le_refl _) (.cells #[Value.int .i64 at', Value.int .i64 most] 36)
  have hsb := hs.below hb0
  have kc0 : (w.alloc (.cells #[Value.int .i64 at', Value.int .i64 most] 36)).cell? ⟨w.heap.size, 0, none⟩ = some (.int .i64 at') := by go_simp
  have kc1 : (w.alloc (.cells #[Value.int .i64 at', Value.int .i64 most] 36)).cell? ⟨w.heap.size, 1, none⟩ = some (.int .i64 most) := by go_simp
  go_enter Try.func9, Try.ntmps9
  go_wp2_with (first
    | (go_at_call 36; go_loud ((with_reducible refine (H1.out _ hsb).mono ?_); unfold trs; rintro e w2 ⟨a2, c2, rfl, hc2, ho2, hbw2⟩; have k2_0 := bcs hbw2 kc0; have k2_1 := bcs hbw2 kc1; have hbx2 := bel_step hb0 hbw2; have hs2 := hs.below hbx2))
    | (go_at_call 37; go_loud ((with_reducible refine (H2.out _ hs2).mono ?_); unfold trs; rintro e w3 ⟨a3, c3, rfl, hc3, ho3, hbw3⟩; have hbx3 := bel_step hbx2 hbw3; have ho2b := own_below ho2 hbw3; have hr3 := hr.below hbx3))
    | (go_at_call 38; go_loud ((with_reducible refine (pi_any _ _ _ _ _ rfl hn9 hi hr3).mono ?_); rintro e w4 ⟨a4, c4, rfl, hc4, ho4, hbw4⟩; have hbx4 := bel_step hbx3 hbw4; have hr4 := hr3.below hbw4; have ho2c := own_below ho2b hbw4; have ho3b := own_below ho3 hbw4))
    | (go_at_call 39; go_loud ((with_reducible refine (rpi_any _ _ _ _ _ rfl hn9 hi hr4).mono ?_); rintro e w5 ⟨a5, c5, rfl, hc5, ho5, hbw5⟩; have hbx5 := bel_step hbx4 hbw5; have ho2d := own_below ho2c hbw5; have ho3c := own_below ho3b hbw5; have ho4b := Rd.of_own (own_below ho4 hbw5); have ho5b := Rd.of_own ho5))
    | (go_at_call 15; go_loud ((with_reducible refine (same8_yes _ _ _ _ _ _ _ _ _ rfl rfl HP.out ho4b ho5b rfl).mono ?_); rintro e w6 ⟨rfl, hbw6⟩; have hbx6 := bel_step hbx5 hbw6; have ho2e := own_below ho2d hbw6; have ho3d := own_below ho3c hbw6))
    | (go_at_call 40; go_loud ((with_reducible refine (samei_yes _ _ _ _ _ _ _ _ _ rfl rfl H3.out (Ri.of_own ho2e) (Ri.of_own ho3d) rfl).mono ?_); rintro e w7 ⟨rfl, hbw7⟩; have hbx7 := bel_step hbx6 hbw7))
    | (go_at_call 18; go_loud ((with_reducible refine (ex_any _).mono ?_); rintro e w8 ⟨rfl, hbw8⟩; have hbx8 := bel_step hbx7 hbw8)))
  go_ret
  exact ⟨rfl, hbx8⟩
theorem lis_w (a b : Option Addr) (n c m d : Nat) (l : List Int) (k : List (BitVec 8)) (at' most : Int) (w : World) (hn : l.length = n) (hm : k.length = m) (hd : m ≤ d) (hn9 : n ≤ 9223372036854775807) (hm9 : m ≤ 9223372036854775807) (hmo : most ≤ 9223372036854775807) (hi : In64 l) (hr : Ri w a l) (hs : Rd w b k) :
    Calls Try.prog 9 #[.slice a n c, .slice b m d, .agg #[.int .i64 at', .int .i64 most]] w fun e w' => e = .returned (.bool true) ∧ Below w.heap.size w w' := by
  by_cases h : 300 < n ∨ 2000 < m
  · exact lis_big a b n c m d at' most w h hn9 hm9
  · exact lis_in a b n c m d l k at' most w hn hm hd (by omega) (by omega) hmo hi hr hs
end Go.Proofs.Ytbplcgbfhijbcaa
