import Derived.Test.YtbplcgbfhijbcaaLf3
import Derived.Test.YtbplcgbfhijbcaaLf4
namespace Go.Proofs.Ytbplcgbfhijbcaa
open Go.RowKit
set_option linter.unusedVariables false
set_option linter.unusedSimpArgs false
theorem seq_lenE (l : List Int) (hl : l.length ≤ 300) (r : List (BitVec 8)) : uvE (putI l ++ r) = 0 ∧ uvV (putI l ++ r) = l.length ∧ uvN (putI l ++ r) = (putU l.length).length := by
  unfold putI
  rw [List.append_assoc]
  exact uv_putU _ (by omega) _
theorem seq_ints (pre r : List (BitVec 8)) (l : List Int) (hl : l.length ≤ 300) (hi : In64 l) : intsM (pre ++ (putI l ++ r)) (pre.length : Int) (l.length : Int) = (l, pre.length + (putI l).length, 0) := by
  obtain ⟨h1, h2, h3⟩ := seq_lenE l hl r
  have hd : (pre ++ (putI l ++ r)).drop pre.length = putI l ++ r := by simp
  unfold intsM
  rw [if_neg (by simp; omega), show ((pre.length : Int)).toNat = pre.length from rfl, hd, lenE_fine h1 (by rw [h2]; omega), if_neg (by decide), h2, h3, idec_denc _ r l _ 0 [] hi (by
    rw [← List.drop_drop, hd]; unfold putI; rw [List.append_assoc, List.drop_left])]
  unfold putI
  rw [List.length_append]; simp; omega
theorem seq_lim (pre r : List (BitVec 8)) (l : List Int) (hl : l.length ≤ 300) : intsM (pre ++ (putI l ++ r)) (pre.length : Int) ((l.length : Int) - 1) = ([], 0, 5) := by
  obtain ⟨h1, h2, h3⟩ := seq_lenE l hl r
  have hd : (pre ++ (putI l ++ r)).drop pre.length = putI l ++ r := by simp
  unfold intsM
  rw [if_neg (by simp; omega), show ((pre.length : Int)).toNat = pre.length from rfl, hd, lenE_lim h1 (by rw [h2]; omega), if_pos (by decide)]
theorem seq_runs (pre r : List (BitVec 8)) (s : List (BitVec 8)) (hl : s.length ≤ 300) : runsM (pre ++ (putR s ++ r)) (pre.length : Int) (s.length : Int) = (s, pre.length + (putR s).length, 0) := by
  have h0 := rcnt_le s.length s (Nat.le_refl _)
  have hd : (pre ++ (putR s ++ r)).drop pre.length = putR s ++ r := by simp
  obtain ⟨h1, h2, h3⟩ : uvE (putR s ++ r) = 0 ∧ uvV (putR s ++ r) = rcnt s ∧ uvN (putR s ++ r) = (putU (rcnt s)).length := by
    unfold putR; rw [List.append_assoc]; exact uv_putU _ (by omega) _
  unfold runsM
  rw [if_neg (by simp; omega), show ((pre.length : Int)).toNat = pre.length from rfl, hd, if_neg (by omega), if_neg (by omega), h2, h3, rdec_renc _ r _ s.length s (Nat.le_refl _) _ [] (by omega) (.inl rfl) (by simp) (by
    rw [← List.drop_drop, hd]; unfold putR; rw [List.append_assoc, List.drop_left])]
  unfold putR
  rw [List.length_append]; simp; omega
theorem IsA.ok {w w' : World} {v : List Int} {q : Nat} {e : Ending} (h : IsA w (v, q, 0) e w') : ∃ a c, e = trs (.slice a v.length c) (q : Int) 0 ∧ v.length ≤ c ∧ w'.ownsRow w.heap.size 3 1 (.slice a v.length c) v.length (iv v) ∧ Below w.heap.size w w' := by
  rcases h with ⟨h0, h⟩ | ⟨h0, _⟩
  · exact h
  · exact absurd rfl h0
theorem IsA.no {w w' : World} {E : Nat} {e : Ending} (h : IsA w ([], 0, E) e w') (hE : E ≠ 0) : e = trs (.slice none 0 0) 0 (E : Int) ∧ Below w.heap.size w w' := by
  rcases h with ⟨h0, _⟩ | ⟨_, h⟩
  · exact absurd h0 hE
  · exact h
theorem RsA.ok {w w' : World} {v : List (BitVec 8)} {q : Nat} {e : Ending} (h : RsA w (v, q, 0) e w') : ∃ a c, e = trs (.slice a v.length c) (q : Int) 0 ∧ v.length ≤ c ∧ w'.ownsRow w.heap.size 5 1 (.slice a v.length c) v.length (bv8 v) ∧ Below w.heap.size w w' := by
  rcases h with ⟨h0, h⟩ | ⟨h0, _⟩
  · exact h
  · exact absurd rfl h0
theorem own_list {w : World} {B : Nat} {v : Value} {n : Nat} {l1 l2 : List (BitVec 8)} (h : w.ownsRow B 5 1 v n (bv8 l1)) (e : l1 = l2) : w.ownsRow B 5 1 v n (bv8 l2) := e ▸ h
theorem lsq_big (a b f : Option Addr) (n c m d q g : Nat) (w : World) (h : 300 < n ∨ 300 < m ∨ 300 < q) (hn : n ≤ 9223372036854775807) (hm : m ≤ 9223372036854775807) (hq : q ≤ 9223372036854775807) :
    Calls Try.prog 11 #[.slice a n c, .slice b m d, .slice f q g] w fun e w' => e = .returned (.bool true) ∧ Below w.heap.size w w' := by
  have hs : 300 < n ∨ (n ≤ 300 ∧ 300 < m) ∨ (n ≤ 300 ∧ m ≤ 300 ∧ 300 < q) := by omega
  clear h
  rcases hs with h | ⟨h, h2⟩ | ⟨h, h2, h3⟩
  all_goals
    go_enter Try.func11, Try.ntmps11
    go_wp2_with (go_at_call 18; go_loud ((with_reducible refine (ex_any _).mono ?_); rintro e w6 ⟨rfl, hb6⟩))
    go_ret
    exact ⟨rfl, hb6⟩
set_option maxRecDepth 50000 in
set_option maxHeartbeats 1000000 in
theorem lsq_in (a b f : Option Addr) (n c m d q g : Nat) (l : List Int) (s ar : List (BitVec 8)) (w : World) (hn : l.length = n) (hm : s.length = m) (hmd : m ≤ d) (hq : ar.length = q) (hn2 : n ≤ 300) (hm2 : m ≤ 300) (hq2 : q ≤ 300) (hi : In64 l) (hr : Ri w a l) (hs : Rd w b s) (ha : Rd w f ar) :
    Calls Try.prog 11 #[.slice a n c, .slice b m d, .slice f q g] w fun e w' => e = .returned (.bool true) ∧ Below w.heap.size w w' := by
  subst hn hm hq
  have hI := denc_len 0 l
  have hI2 := putU_len10 (n := l.length) (by omega)
  have hI3 : (putI l).length ≤ 4000 := by unfold putI; rw [List.length_append]; omega
  have hR := renc_len s.length s (Nat.le_refl _) (by omega)
  have hR2 := rcnt_le s.length s (Nat.le_refl _)
  have hR4 := putU_len10 (n := rcnt s) (by omega)
  have hR3 : (putR s).length ≤ 4000 := by unfold putR; rw [List.length_append]; omega
  have hpi := fun W hW => pi_any a l.length c l W rfl (by omega) hi hW
  have hpr := fun W hW => pru_any b s.length d s W rfl hmd (by omega) hW
  have M1 := seq_ints ar (putR s ++ ar) l hn2 hi
  have M2 := seq_lim ar (putR s ++ ar) l hn2
  have M3 := seq_runs (ar ++ putI l) ar s hm2
  rw [List.length_append] at M3
  obtain ⟨A, hA⟩ : ∃ A, putI l = A := ⟨_, rfl⟩
  obtain ⟨R, hR9⟩ : ∃ R, putR s = R := ⟨_, rfl⟩
  simp only [hA] at hpi M1 M2 M3 hI3
  simp only [hR9] at hpr M1 M2 M3 hR3
  have hb1 := fun v cc (hvc : ar.length + A.length + R.length + ar.length ≤ cc) W hW => bi_any v (ar.length + A.length + R.length + ar.length) cc (ar.length : Int) (l.length : Int) (ar ++ (A ++ (R ++ ar))) W (by simp; omega) hvc (by omega) (by omega) hW
  have hb2 := fun v cc (hvc : ar.length + A.length + R.length + ar.length ≤ cc) W hW => bi_any v (ar.length + A.length + R.length + ar.length) cc (ar.length : Int) ((l.length : Int) - 1) (ar ++ (A ++ (R ++ ar))) W (by simp; omega) hvc (by omega) (by omega) hW
  have hb3 := fun v cc (hvc : ar.length + A.length + R.length + ar.length ≤ cc) W hW => br_any v (ar.length + A.length + R.length + ar.length) cc ((ar.length + A.length : Nat) : Int) (s.length : Int) (ar ++ A ++ (R ++ ar)) W (by simp; omega) hvc (by omega) (by omega) hW
  simp only [M1] at hb1
  simp only [M2] at hb2
  simp only [M3] at hb3
  obtain ⟨P1, hP1⟩ : ∃ P1, ar.length + A.length = P1 := ⟨_, rfl⟩
  obtain ⟨P2, hP2⟩ : ∃ P2, P1 + R.length = P2 := ⟨_, rfl⟩
  obtain ⟨P3, hP3⟩ : ∃ P3, P2 + ar.length = P3 := ⟨_, rfl⟩
  simp only [hP1, hP2, hP3] at hb1 hb2 hb3
  have HI := Lib.hid hpi
  have HR := Lib.hid hpr
  have H1 := Lib.hid (fun v cc hvc W hW => (hb1 v cc hvc W hW).mono fun e w' h => IsA.ok h)
  have H2 := Lib.hid (fun v cc hvc W hW => (hb2 v cc hvc W hW).mono fun e w' h => IsA.no h (by decide))
  have H3 := Lib.hid (fun v cc hvc W hW => (hb3 v cc hvc W hW).mono fun e w' h => RsA.ok h)
  have HP1 := Lib.hid hP1
  have HP2 := Lib.hid hP2
  have HP3 := Lib.hid hP3
  have B1 := Lib.hid (show 0 + ar.length ≤ 100000000 by omega)
  have B2 := Lib.hid (show ar.length + A.length ≤ 100000000 by omega)
  have B3 := Lib.hid (show P1 + R.length ≤ 100000000 by omega)
  have B4 := Lib.hid (show P2 + ar.length ≤ 100000000 by omega)
  have hP9 : P2 ≤ 100000 := by omega
  clear hpi hpr M1 M2 M3 hb1 hb2 hb3 hA hR9 hP1 hP2 hP3 hI hI2 hI3 hR hR2 hR3 hR4
  have hb0 := Below.alloc (Below.refl w.heap.size w) (Nat.le_refl _) (.cells #[] 5)
  have hown0 : (w.alloc (.cells #[] 5)).ownsRow w.heap.size 5 1 (.slice (some ⟨w.heap.size, 0, none⟩) 0 0) 0 (bv8 []) := fresh_row8 w
  have ha0 := ha.below hb0
  go_enter Try.func11, Try.ntmps11
  go_wp2_with (first
    | (go_at_call 38; go_loud ((with_reducible refine (HI.out _ hr1).mono ?_); rintro e w2 ⟨a2, c2, rfl, hc2, ho2, hbw2⟩; have hbx2 := bel_step hbx1 hbw2; have hown1b := own_below hown1 hbw2))
    | (go_at_call 43; go_loud ((with_reducible refine (HR.out _ hs3).mono ?_); rintro e w4 ⟨a4, c4, rfl, hc4, ho4, hbw4⟩; have hbx4 := bel_step hbx3 hbw4; have hown3b := own_below hown3 hbw4))
    | (go_at_call 36; go_loud (first
        | ((with_reducible refine (H2.out _ _ (own_cap hown6) _ (Rd.of_own hown6a)).mono ?_); unfold trs; rintro e w11 ⟨rfl, hbw11⟩; have hbx11 := bel_step hbx10 hbw11)
        | ((with_reducible refine (H1.out _ _ (own_cap hown6) _ (Rd.of_own hown6)).mono ?_); unfold trs; rintro e w7 ⟨a7, c7, rfl, hc7, ho7, hbw7⟩; have hbx7 := bel_step hbx6 hbw7; have hr7 := hr.below hbx7; have hown7 := own_below hown6 hbw7)))
    | (go_at_call 40; go_loud ((with_reducible refine (samei_yes _ _ _ _ _ _ _ _ _ rfl rfl (by omega) (Ri.of_own ho7) hr7 rfl).mono ?_); rintro e w8 ⟨rfl, hbw8⟩; have hbx8 := bel_step hbx7 hbw8; have hown8 := own_below hown7 hbw8))
    | (go_at_call 41; go_loud ((with_reducible refine (H3.out _ _ (own_cap hown8) _ (Rd.of_own (own_list hown8 (l2 := ar ++ A ++ (R ++ ar)) (by simp)))).mono ?_); unfold trs; rintro e w9 ⟨a9, c9, rfl, hc9, ho9, hbw9⟩; have hbx9 := bel_step hbx8 hbw9; have hs9 := hs.below hbx9; have hown9 := own_below hown8 hbw9))
    | (go_at_call 15; go_loud ((with_reducible refine (same8_yes _ _ _ _ _ _ _ _ _ rfl rfl (by omega) (Rd.of_own ho9) hs9 rfl).mono ?_); rintro e w10 ⟨rfl, hbw10⟩; have hbx10 := bel_step hbx9 hbw10; have hown6a := own_below hown9 hbw10))
    | (go_at_call 18; go_loud ((with_reducible refine (ex_any _).mono ?_); rintro e w12 ⟨rfl, hbw12⟩; have hbx12 := bel_step hbx11 hbw12))
    | (at_builtin; go_loud (first
        | (refine wpList_apps8 (B := w.heap.size) rfl _ _ rfl hown5 hbx5.size (k := ar) rfl (ha.below hbx5) B4.out rfl rfl ?_; intro v6 w6 hown6' hb6; have hbx6 := hbx5.trans hb6; rw [HP3.out] at hown6'; obtain ⟨a6, c6, rfl⟩ := own_slice hown6'; have hown6 := own_list hown6' (l2 := ar ++ (A ++ (R ++ ar))) (by simp))
        | (refine wpList_apps8 (B := w.heap.size) rfl _ _ rfl hown3b hbx4.size (k := R) rfl (Rd.of_own ho4) B3.out rfl rfl ?_; intro v5 w5 hown5' hb5; have hbx5 := hbx4.trans hb5; rw [HP2.out] at hown5'; obtain ⟨a5, c5, rfl⟩ := own_slice hown5'; have hown5 := hown5')
        | (refine wpList_apps8 (B := w.heap.size) rfl _ _ rfl hown1b hbx2.size (k := A) rfl (Rd.of_own ho2) B2.out rfl rfl ?_; intro v3 w3 hown3' hb3; have hbx3 := hbx2.trans hb3; rw [HP1.out] at hown3'; obtain ⟨a3, c3, rfl⟩ := own_slice hown3'; have hown3 := hown3'; have hs3 := hs.below hbx3)
        | (refine wpList_apps8 (B := w.heap.size) rfl _ _ rfl hown0 hb0.size (k := ar) rfl ha0 B1.out rfl rfl ?_; intro v1 w1 hown1' hb1; have hbx1 := hb0.trans hb1; rw [Nat.zero_add] at hown1'; obtain ⟨a1, c1, rfl⟩ := own_slice hown1'; have hown1 := hown1'; have hr1 := hr.below hbx1))))
  go_ret
  exact ⟨rfl, hbx12⟩
theorem lsq_w (a b f : Option Addr) (n c m d q g : Nat) (l : List Int) (s ar : List (BitVec 8)) (w : World) (hn : l.length = n) (hm : s.length = m) (hmd : m ≤ d) (hq : ar.length = q) (hn9 : n ≤ 9223372036854775807) (hm9 : m ≤ 9223372036854775807) (hq9 : q ≤ 9223372036854775807) (hi : In64 l) (hr : Ri w a l) (hs : Rd w b s) (ha : Rd w f ar) :
    Calls Try.prog 11 #[.slice a n c, .slice b m d, .slice f q g] w fun e w' => e = .returned (.bool true) ∧ Below w.heap.size w w' := by
  by_cases h : 300 < n ∨ 300 < m ∨ 300 < q
  · exact lsq_big a b f n c m d q g w h hn9 hm9 hq9
  · exact lsq_in a b f n c m d q g l s ar w hn hm hmd hq (by omega) (by omega) (by omega) hi hr hs ha
end Go.Proofs.Ytbplcgbfhijbcaa
