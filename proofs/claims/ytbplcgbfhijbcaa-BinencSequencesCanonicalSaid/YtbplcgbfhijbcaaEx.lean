import Derived.Test.YtbplcgbfhijbcaaEw
namespace Go.Proofs.Ytbplcgbfhijbcaa
open Go.RowKit
set_option linter.unusedVariables false
set_option linter.unusedSimpArgs false
theorem infoR : (Try.prog.info? 93).map (fun i => (i.zero, i.size, i.bytes)) = some (some (.agg #[.int .i64 0, .int .u8 0]), 2, 16) := by kernel_rfl
theorem zz0 : (0 : Int) = ((0 : Nat) : Int) := rfl
theorem zz8 : (0 : Int) = ((0#8 : BitVec 8).toNat : Int) := rfl
theorem nil_rowR (W : World) (B : Nat) : W.ownsRow B 93 2 (.slice none 0 0) 0 (runV []) := ⟨by simp [runV], .inl ⟨rfl, rfl⟩⟩
/-- One more run behind a row of the call's own. -/
theorem wpList_snocR {wr : World} {B : Nat} {ops : Array Oper} {rest : List Oper} {o : Oper} {a : Act} {Q : Exit → Act → World → Prop} (hgd : o.guard = none) (s x : Operand)
    (ho : o.op = .call { callee := .builtin .append, args := #[s, x], argTypes := #[91, 91] })
    {v : Value} {n : Nat} {rs : List (Nat × BitVec 8)} (hown : wr.ownsRow B 93 2 v n (runV rs)) (hB : B ≤ wr.heap.size) (hn : n + 1 ≤ 1000000)
    (L : Nat) (c : BitVec 8) {z y : Int} (hzL : z = (L : Int)) (hy : y = (c.toNat : Int)) {b : Nat} (hbb : wr.heap.size = b) (hs : a.eval s = v) (hx : a.eval x = .slice (some ⟨b, 0, none⟩) 1 1)
    (h : ∀ v' w', w'.ownsRow B 93 2 v' (n + 1) (runV (rs ++ [(L, c)])) → Below B wr w' → wr.grownBy w' v.ownBlock → wpList Try.prog ops Q rest (a.put o.dst v') w') :
    wpList Try.prog ops Q (o :: rest) a (wr.alloc (.cells #[.int .i64 z, .int .u8 y] 93)) := by
  subst hzL hy hbb
  obtain ⟨i0, hi, hz0, hz1, hz2⟩ := info_parts infoR
  have hb1 := Below.alloc (Below.refl B wr) hB (.cells #[.int .i64 L, .int .u8 (c.toNat : Int)] 93)
  have hsz : B ≤ (wr.alloc (.cells #[.int .i64 L, .int .u8 (c.toNat : Int)] 93)).heap.size := by simp; omega
  refine wpList_append_own _ hgd s x _ ho B 93 i0 (.agg #[.int .i64 0, .int .u8 0]) 2 16 Try.underlying91 hi hz0 hz1 hz2 rfl (by omega) v n (runV rs) hs (hown.alloc _) ⟨wr.heap.size, 0, none⟩ 1 1 [.int .i64 L, .int .u8 (c.toNat : Int)] hx rfl ?_ ?_ (by unfold maxLen; omega) (by omega) hsz ?_
  · intro j u hu
    have hadd : (⟨wr.heap.size, 0, none⟩ : Addr).add j = ⟨wr.heap.size, j, none⟩ := by unfold Addr.add; split <;> simp_all
    rw [hadd, row_cell (heap_alloc_new wr _) j]
    simpa using hu
  · intro u hu
    simp at hu
    rcases hu with rfl | rfl <;> rfl
  · intro v' w' hown2 hg _
    exact h v' w' (by rw [runV_snoc]; exact hown2) (hb1.grown hg hsz (fun q hq => (hown.lt q hq).1)) (grown_trans (World.grownBy_alloc wr _ _) hg)
theorem runs_le (rs : List (Nat × BitVec 8)) (h : ∀ q ∈ rs, 0 < q.1) : rs.length ≤ (exR rs).length := by
  induction rs with
  | nil => simp
  | cons r t ih =>
    have h1 := h r (by simp)
    have h2 := ih (fun q hq => h q (by simp [hq]))
    rw [exR_cons, List.length_append, List.length_replicate, List.length_cons]
    omega
theorem runs_last (rs : List (Nat × BitVec 8)) (m : Nat) (hm : rs.length = m + 1) (h : ∀ q ∈ rs, 0 < q.1) : exR rs ≠ [] ∧ byA (exR rs) ((exR rs).length - 1) = (rs[m]'(by omega)).2.toNat := by
  have hlt : m < rs.length := by omega
  have hs : rs = rs.take m ++ [rs[m]] := by
    conv => lhs; rw [← List.take_append_drop m rs, List.drop_eq_getElem_cons hlt, List.drop_eq_nil_iff.2 (by omega)]
  have hp := h rs[m] (List.getElem_mem hlt)
  have he : exR rs = exR (rs.take m) ++ List.replicate rs[m].1 rs[m].2 := by
    conv => lhs; rw [hs, exR_snoc]
  refine ⟨fun e => ?_, ?_⟩
  · rw [he] at e
    have := congrArg List.length e
    simp at this
    omega
  · rw [he, byA_last _ _ _ hp]
/-- The decoder's loop over the runs. -/
def BrR (w w1 : World) (l : List (BitVec 8)) (M x : Nat) (F : List (BitVec 8) × Nat × Nat) (v to i : Value) (wr : World) : Prop :=
  ∃ j : Nat, i = .int .u64 j ∧ j ≤ x ∧ Below w.heap.size w wr ∧ w1.heap.size ≤ wr.heap.size ∧
  ((∃ (r p T m : Nat) (rs : List (Nat × BitVec 8)), j + r = x ∧ to = .int .i64 T ∧ Hid (rdec l M r p (exR rs) = F) ∧ Hid ((exR rs).length = T ∧ rs.length = m ∧ ∀ q ∈ rs, 0 < q.1) ∧ T ≤ M ∧ p ≤ l.length ∧ wr.ownsRow w1.heap.size 93 2 v m (runV rs) ∧ Ds wr w.heap.size (l.drop p) p 0) ∨
   (∃ (E T p' : Nat) (l' : List (BitVec 8)), to = .int .i64 T ∧ Hid (F = ([], 0, E)) ∧ E ≠ 0 ∧ Ds wr w.heap.size l' p' E))
theorem br_out (a : Option Addr) (n c : Nat) (at' most : Int) (w : World) (hm : most ≤ 5000) (hn : n ≤ 4611686018427387904) (hb : at' < 0 ∨ (n : Int) < at') :
    Calls Try.prog 41 #[.slice a n c, .int .i64 at', .int .i64 most] w fun e w' => e = trs (.slice none 0 0) 0 2 ∧ Below w.heap.size w w' := by
  go_enter Try.func41, Try.ntmps41
  go_wp2_with (first
    | (go_at_call 45; go_loud ((with_reducible refine (newd_bad a n c at' _ hn hb).mono ?_); rintro e1 w1 ⟨rfl, hd1, hb1⟩; obtain ⟨k1, k2⟩ := hd1.cells))
    | (go_at_call 46; go_loud ((with_reducible refine (uvar_err _ _ _ _ _ hd1 (by decide)).mono ?_); rintro e1 w2 ⟨rfl, rfl⟩))
    | (go_at_call 50; go_loud ((with_reducible refine (fail_any _ _ _ _ 5 _ _ lit5 hd1).mono ?_); rw [if_neg (by decide)]; rintro e1 w3 ⟨rfl, hd3, hg3⟩; obtain ⟨k3a, k3b⟩ := hd3.cells)))
  all_goals (refine wp_loop_rounds 1 ?_; rw [rounds_succ])
  all_goals go_wp2
  all_goals go_quiet (fail)
  all_goals go_wp2
  all_goals go_ret3
  all_goals first
    | exact ⟨rfl, below_drewN (hb1.grown hg3 hb1.size (fun q hq => by cases hq; exact Nat.le_refl _)) _⟩
    | exact ⟨rfl, below_drewN hb1 _⟩
theorem br_bad (a : Option Addr) (n c k : Nat) (most : Int) (l : List (BitVec 8)) (w : World) (hn : l.length = n) (hc : n ≤ c) (hl : n ≤ 4611686018427387904) (hm : most ≤ 5000) (hr : Rd w a l) (hk : k ≤ n) (hu : uvE (l.drop k) ≠ 0) :
    Calls Try.prog 41 #[.slice a n c, .int .i64 k, .int .i64 most] w fun e w' => e = trs (.slice none 0 0) 0 (uvE (l.drop k)) ∧ Below w.heap.size w w' := by
  have hp : k + (l.drop k).length ≤ 4611686018427387904 := by rw [List.length_drop]; omega
  obtain ⟨E, hE⟩ : ∃ E, uvE (l.drop k) = E := ⟨_, rfl⟩
  have hcon := fun g w hd => uvar_bad g (l.drop k) k w hp hd hu
  simp only [hE] at hcon
  rw [hE] at hu ⊢
  have q1 : ((E : Int) == 0) = false := by simp; exact hu
  have q2 : ((E : Int) != 0) = true := by simp; exact hu
  have HC := Lib.hid hcon
  have HU := Lib.hid hu
  clear hcon hE hu
  go_enter Try.func41, Try.ntmps41
  go_wp2_with (first
    | (go_at_call 45; go_loud ((with_reducible refine (newd_ok a n c k l _ hn hc hl hr hk).mono ?_); rintro e1 w1 ⟨rfl, hd1, hb1⟩))
    | (go_at_call 46; go_loud ((with_reducible refine (HC.out _ _ hd1).mono ?_); rintro e1 w2 ⟨rfl, ⟨l', p', hlp, hd2⟩, hg2⟩; obtain ⟨k1, k2⟩ := hd2.cells; have hb2 := hb1.grown hg2 hb1.size (fun q hq => by cases hq; exact Nat.le_refl _)))
    | (go_at_call 50; go_loud ((with_reducible refine (fail_any _ _ _ _ 5 _ _ lit5 hd2).mono ?_); rw [if_neg HU.out]; rintro e1 w3 ⟨rfl, hd3, hg3⟩; obtain ⟨k3a, k3b⟩ := hd3.cells)))
  all_goals (refine wp_loop_rounds 1 ?_; rw [rounds_succ])
  all_goals go_wp2
  all_goals go_quiet (fail)
  all_goals go_wp2
  all_goals go_ret3
  all_goals first
    | exact ⟨rfl, below_drewN (hb2.grown hg3 hb2.size (fun q hq => by cases hq; exact Nat.le_refl _)) _⟩
    | exact ⟨rfl, below_drewN hb2 _⟩
theorem br_neg (a : Option Addr) (n c k : Nat) (most : Int) (l : List (BitVec 8)) (w : World) (hn : l.length = n) (hc : n ≤ c) (hl : n ≤ 4611686018427387904) (hm : most < 0) (hr : Rd w a l) (hk : k ≤ n) (hu : uvE (l.drop k) = 0) :
    Calls Try.prog 41 #[.slice a n c, .int .i64 k, .int .i64 most] w fun e w' => e = trs (.slice none 0 0) 0 5 ∧ Below w.heap.size w w' := by
  have hp : k + (l.drop k).length ≤ 4611686018427387904 := by rw [List.length_drop]; omega
  obtain ⟨V, hV⟩ : ∃ V, uvV (l.drop k) = V := ⟨_, rfl⟩
  have hcon := fun g w hd => uvar_ok g (l.drop k) k w hp hd hu
  simp only [hV] at hcon
  have HC := Lib.hid hcon
  clear hcon hV hu
  go_enter Try.func41, Try.ntmps41
  go_wp2_with (first
    | (go_at_call 45; go_loud ((with_reducible refine (newd_ok a n c k l _ hn hc hl hr hk).mono ?_); rintro e1 w1 ⟨rfl, hd1, hb1⟩))
    | (go_at_call 46; go_loud ((with_reducible refine (HC.out _ _ hd1).mono ?_); rintro e1 w2 ⟨rfl, hd2, hg2⟩; have hb2 := hb1.grown hg2 hb1.size (fun q hq => by cases hq; exact Nat.le_refl _)))
    | (go_at_call 50; go_loud ((with_reducible refine (fail_any _ _ _ _ 5 _ _ lit5 hd2).mono ?_); rw [if_pos rfl]; rintro e1 w3 ⟨rfl, hd3, hg3⟩; obtain ⟨k3a, k3b⟩ := hd3.cells)))
  all_goals (refine wp_loop_rounds 1 ?_; rw [rounds_succ])
  all_goals go_wp2
  all_goals go_quiet (fail)
  all_goals go_wp2
  all_goals go_ret3
  all_goals exact ⟨rfl, below_drewN (hb2.grown hg3 hb2.size (fun q hq => by cases hq; exact Nat.le_refl _)) _⟩
end Go.Proofs.Ytbplcgbfhijbcaa
