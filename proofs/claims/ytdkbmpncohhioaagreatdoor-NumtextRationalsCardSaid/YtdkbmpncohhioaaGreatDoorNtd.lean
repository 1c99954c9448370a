
import Derived.Test.YtdkbmpncohhioaaGreatDoorNtb
import Derived.Test.YtdkbmpncohhioaaGreatDoorNt5
namespace Go.Proofs.YtdkbmpncohhioaaGreatDoor
open Go.RowKit
set_option linter.unusedVariables false
set_option linter.unusedSimpArgs false
attribute [local go_sem ↓] Go.wp_at_zero Go.wp_at_succ
theorem str_take {S : ByteArray} {L : List UInt8} (h : S.data.toList = L) (i : Nat) : (S.extract 0 i).data.toList = L.take i := by
  subst h
  rw [ByteArray.data_extract, Array.toList_extract, List.extract_eq_drop_take']
  rfl
theorem qok {S : ByteArray} {l : List UInt8} (hS : S.data.toList = l) (hl : l.length ≤ 1000000) (h0 : pE l = 0) : ∀ W, Calls Tryz.prog 23 #[.string S] W fun e w' => ∃ (a : Option Addr) (c : Nat), e = .returned (.tuple #[.agg #[.bool (decide (pZ l < 0)), .slice a (canon (pZ l).natAbs).length c], .int .i64 0]) ∧ Rw w' a (canon (pZ l).natAbs) ∧ Below W.heap.size W w' := fun W => (qpa_any S l W hS hl).mono fun e w' h => by
  rcases h with ⟨h, _⟩ | ⟨_, a, c, h1, h2, h3⟩
  · exact absurd h0 h
  · exact ⟨a, c, h1, h2.rw, h3⟩
theorem qbad {S : ByteArray} {l : List UInt8} (hS : S.data.toList = l) (hl : l.length ≤ 1000000) (h0 : pE l ≠ 0) : ∀ W, Calls Tryz.prog 23 #[.string S] W fun e w' => e = .returned (errV (pE l)) ∧ Below W.heap.size W w' := fun W => (qpa_any S l W hS hl).mono fun e w' h => by
  rcases h with ⟨_, h⟩ | ⟨h, _⟩
  · exact h
  · exact absurd h h0
theorem qcm (x y : Int) (hx : (canon x.natAbs).length ≤ 400000) (hy : (canon y.natAbs).length ≤ 400000) : ∀ W (v1 : Option Addr) (k1 : Nat) (v2 : Option Addr) (k2 : Nat), Rw W v1 (canon x.natAbs) → Rw W v2 (canon y.natAbs) → Calls Tryz.prog 35 #[.agg #[.bool (decide (x < 0)), .slice v1 (canon x.natAbs).length k1], .agg #[.bool (decide (y < 0)), .slice v2 (canon y.natAbs).length k2]] W fun e w' => e = .returned (.int .i64 (x - y).sign) ∧ Below W.heap.size W w' := fun W v1 k1 v2 k2 h1 h2 => by
  have := qcmp_any (decide (x < 0)) (decide (y < 0)) v1 v2 _ k1 _ k2 (canon x.natAbs) (canon y.natAbs) W rfl rfl hx hy h1 h2
  rw [zv_canon, zv_canon] at this
  exact this
theorem qnw (x y : Int) (hx : (canon x.natAbs).length ≤ 300000) (hy : (canon y.natAbs).length ≤ 300000) (h0 : 0 < y) : ∀ W (v1 : Option Addr) (k1 : Nat) (v2 : Option Addr) (k2 : Nat), Rw W v1 (canon x.natAbs) → Rw W v2 (canon y.natAbs) → Calls Tryz.prog 36 #[.agg #[.bool (decide (x < 0)), .slice v1 (canon x.natAbs).length k1], .agg #[.bool (decide (y < 0)), .slice v2 (canon y.natAbs).length k2]] W fun e w' => ∃ (a : Option Addr) (c : Nat) (b : Option Addr) (d : Nat), e = .returned (.tuple #[.agg #[.bool (decide (rnN x y < 0)), .slice a (canon (rnN x y).natAbs).length c, .bool false, .slice b (canon (rnD x y).natAbs).length d], .int .i64 0]) ∧ RwF W.heap.size w' a (canon (rnN x y).natAbs) ∧ RwF W.heap.size w' b (canon (rnD x y).natAbs) ∧ Below W.heap.size W w' := fun W v1 k1 v2 k2 h1 h2 => by
  have := rnew_ok (decide (x < 0)) (decide (y < 0)) v1 v2 _ k1 _ k2 (canon x.natAbs) (canon y.natAbs) W rfl rfl hx hy h1 h2 (by rw [zv_canon]; exact h0)
  rw [zv_canon, zv_canon] at this
  refine this.mono ?_
  rintro e w' ⟨a, c, b, d, g1, g2, g3, g4⟩
  rw [show decide (rnD x y < 0) = false by have := (rn_form x y).1; simp; omega] at g1
  exact ⟨a, c, b, d, g1, g2, g3, g4⟩
/-- A fraction in rows, with no error. -/
def FrL (w : World) (sg : Bool) (X Y : List (BitVec 32)) (e : Ending) (w' : World) : Prop := ∃ (a : Option Addr) (c : Nat) (b : Option Addr) (d : Nat), e = .returned (.tuple #[.agg #[.bool sg, .slice a X.length c, .bool false, .slice b Y.length d], .int .i64 0]) ∧ Rw w' a X ∧ Rw w' b Y ∧ Below w.heap.size w w'
theorem rprat_any (S : ByteArray) (l : List UInt8) (w : World) (hS : S.data.toList = l) (hl : l.length ≤ 1000000) :
    Calls Tryz.prog 15 #[.string S] w fun e w' => (qE l ≠ 0 ∧ e = qerr (qE l) ∧ Below w.heap.size w w') ∨ (qE l = 0 ∧ FrL w (decide (pZ (cA l) < 0)) (canon (pZ (cA l)).natAbs) (canon (qD l).natAbs) e w') := by
  have hsz := str_size hS
  have hsl := fun W => rslash_any S l W hS hl
  rcases idx_spec l with h | ⟨i, h, h2, h3⟩
  · have eA : cA l = l := by unfold cA Lib.cut; rw [h]; rfl
    have eF : cF l = false := by unfold cF Lib.cut; rw [h]; rfl
    have eD : qD l = 1 := by unfold qD; rw [eF]; rfl
    rw [h] at hsl
    by_cases hA : pE l = 0
    · have e : qE l = 0 := by unfold qE; rw [eA, eD, eF]; simp [hA, (rnD_one _).1]
      have g1 := pZ_len hA
      have k1 : (canon (1 : Int).natAbs).length ≤ 2 := canon_in (by decide) (by decide)
      obtain ⟨n1, n2⟩ := rnD_one (pZ l)
      have hN := qnw (pZ l) 1 (by omega) (by omega) (by decide)
      rw [n1, n2] at hN
      have hC1 := qcm (pZ l) (pZ l) (by omega) (by omega)
      have hC2 := qcm 1 1 (by omega) (by omega)
      rw [Int.sub_self] at hC1 hC2
      have hB := qok (S := ⟨#[49]⟩) (l := [49]) rfl (by decide) (by decide +kernel)
      rw [show pZ [49] = 1 by decide +kernel] at hB
      have := rq_nc S S.size rfl (by omega) w hsl _ _ (qok hS hl hA) _ _ hB _ _ _ hN 0 rfl hC1 0 rfl hC2
      rw [eA, eD]
      exact this.mono fun e' w' h => .inr ⟨e, h⟩
    · have e : qE l = pE l := by unfold qE; rw [eA]; simp [hA]
      have := rq_nnum S S.size rfl (by omega) w hsl _ hA (qbad hS hl hA)
      exact this.mono fun e' w' h => .inl ⟨by rw [e]; exact hA, by rw [e]; exact h.1, h.2⟩
  · have eA : cA l = l.take i := by unfold cA Lib.cut; rw [h, if_pos (by omega)]; rfl
    have eB : cB l = l.drop (i + 1) := by unfold cB Lib.cut; rw [h, if_pos (by omega)]; rfl
    have eF : cF l = true := by unfold cF Lib.cut; rw [h, if_pos (by omega)]
    have eD : qD l = pZ (cB l) := by unfold qD; rw [eF]; rfl
    rw [h] at hsl
    have hSA := str_take hS i
    have hSB := str_drop hS (i + 1) (by omega) S.size hsz.symm
    rw [← eA] at hSA
    rw [← eB] at hSB
    have lA : (cA l).length ≤ 1000000 := by rw [eA, List.length_take]; omega
    have lB : (cB l).length ≤ 1000000 := by rw [eB, List.length_drop]; omega
    by_cases hA : pE (cA l) = 0
    · by_cases hB : pE (cB l) = 0
      · have g1 := pZ_len hA
        have g2 := pZ_len hB
        have pA := qok hSA lA hA
        have pB := qok hSB lB hB
        obtain ⟨x, hx⟩ : ∃ x, pZ (cA l) = x := ⟨_, rfl⟩
        obtain ⟨y, hy⟩ : ∃ y, pZ (cB l) = y := ⟨_, rfl⟩
        rw [hx] at g1 pA
        rw [hy] at g2 pB
        have k2 : (canon (2 : Int).natAbs).length ≤ 2 := canon_in (by decide) (by decide)
        have hF2 : ∀ W, Calls Tryz.prog 28 #[.int .i64 2] W fun e w' => ∃ (a : Option Addr) (c : Nat), e = .returned (.agg #[.bool false, .slice a (canon (2 : Int).natAbs).length c]) ∧ Rw w' a (canon (2 : Int).natAbs) ∧ Below W.heap.size W w' := fun W => (qfrom_any 2 (by decide) (by decide) W).mono fun e w' ⟨a, c, e1, e2, e3⟩ => ⟨a, c, e1, e2.rw, e3⟩
        have hC0 := qcm y 2 (by omega) (by omega)
        by_cases h1 : y ≤ 1
        · have e : qE l = 3 := by unfold qE; rw [eF, hy]; simp [hA, hB, h1]
          have := rq_sa S S.size rfl (by omega) i (by omega) w hsl _ _ pA _ _ pB _ hF2 _ (by rw [Int.sign_eq_neg_one_of_neg (by omega)]; decide) hC0
          exact this.mono fun e' w' h => .inl ⟨by rw [e]; decide, by rw [e]; exact h.1, h.2⟩
        · have hs2 : 0 ≤ (y - 2).sign := by
            rcases Int.lt_or_eq_of_le (show 0 ≤ y - 2 by omega) with h9 | h9
            · rw [Int.sign_eq_one_of_pos h9]; decide
            · rw [← h9]; decide
          have hN := qnw x y (by omega) (by omega) (by omega)
          have r1 := rnN_len (decide (x < 0)) (decide (y < 0)) (canon x.natAbs) (canon y.natAbs)
          have r2 := rnD_len (decide (x < 0)) (decide (y < 0)) (canon x.natAbs) (canon y.natAbs)
          rw [zv_canon, zv_canon] at r1 r2
          have hC1 := qcm (rnN x y) x (by omega) (by omega)
          have hC2 := qcm (rnD x y) y (by omega) (by omega)
          rw [show decide (rnD x y < 0) = false by have := (rn_form x y).1; simp; omega] at hC2
          by_cases h5 : rnD x y = y
          · have h6 : rnN x y = x := rn_low (by omega) h5
            have e : qE l = 0 := by unfold qE; rw [eD, eF, hy, hx]; simp [hA, hB, h1, h5]
            have := rq_sc S S.size rfl (by omega) i (by omega) w hsl _ _ pA _ _ pB _ hF2 _ hs2 hC0 _ _ _ hN _ (by rw [h6, Int.sub_self]; rfl) hC1 _ (by rw [h5, Int.sub_self]; rfl) hC2
            rw [h5, h6] at this
            rw [eD, hx, hy]
            exact this.mono fun e' w' h => .inr ⟨e, h⟩
          · have e : qE l = 3 := by unfold qE; rw [eD, eF, hy, hx]; simp [hA, hB, h1, h5]
            by_cases h6 : rnN x y = x
            · have := rq_sb2 S S.size rfl (by omega) i (by omega) w hsl _ _ pA _ _ pB _ hF2 _ hs2 hC0 _ _ _ hN _ (by rw [h6, Int.sub_self]; rfl) hC1 _ (fun h9 => h5 (by have := Int.sign_eq_zero_iff_zero.1 h9; omega)) hC2
              exact this.mono fun e' w' h => .inl ⟨by rw [e]; decide, by rw [e]; exact h.1, h.2⟩
            · have := rq_sb1 S S.size rfl (by omega) i (by omega) w hsl _ _ pA _ _ pB _ hF2 _ hs2 hC0 _ _ _ hN _ (fun h9 => h6 (by have := Int.sign_eq_zero_iff_zero.1 h9; omega)) hC1
              exact this.mono fun e' w' h => .inl ⟨by rw [e]; decide, by rw [e]; exact h.1, h.2⟩
      · have e : qE l = pE (cB l) := by unfold qE; rw [eF]; simp [hA, hB]
        have := rq_sden S S.size rfl (by omega) i (by omega) w hsl _ _ (qok hSA lA hA) _ hB (qbad hSB lB hB)
        exact this.mono fun e' w' h => .inl ⟨by rw [e]; exact hB, by rw [e]; exact h.1, h.2⟩
    · have e : qE l = pE (cA l) := by unfold qE; simp [hA]
      have := rq_snum S S.size rfl (by omega) i (by omega) w hsl _ hA (qbad hSA lA hA)
      exact this.mono fun e' w' h => .inl ⟨by rw [e]; exact hA, by rw [e]; exact h.1, h.2⟩
end Go.Proofs.YtdkbmpncohhioaaGreatDoor
