import Derived.Test.YtgaabdidddglhaaEnv
import Derived.Test.YtgaabdidddglhaaClamp
import Derived.WalkKit
import Derived.Maps.Own
import Derived.Maps.Keyed
import Derived.Carry
import Derived.OwnWalk
import Derived.WalkSpells
import Derived.WalkLawsBesides
import Derived.Lib.Hide
import Derived.Below
import Derived.Deep.QuietTactic
import Derived.BigQuiet
import Derived.Deep.RegionHeld3
import Derived.Deep.DrawnRows
import Derived.Deep.DeepFit
import Derived.IntWalk
namespace Go.Proofs.Ytgaabdidddglhaa
open Go.RowKit
set_option linter.unusedVariables false
set_option linter.unusedSimpArgs false
attribute [local go_sem ↓] Go.wp_at_zero Go.wp_at_succ
attribute [local go_sem] rhoF_tmp rhoF_const rhoF_global rhoF_func
open Go.Maps
/- the table of factors: how it reads, and what a look-up answers -/
def fd (a b : Int) : DataW Unit := .agg [.lit (.int .i64 a), .lit (.int .i64 b)]
def facR (v : Value) : Option (DataW Unit × List MemPlace) :=
  match v with
  | .agg cs => match cs.toList with
    | [.int .i64 a, .int .i64 b] => some (fd a b, [])
    | _ => none
  | _ => none
theorem facR_mk (a b : Int) : facR (.agg #[.int .i64 a, .int .i64 b]) = some (fd a b, []) := rfl
theorem facR_inv {v : Value} {y : DataW Unit × List MemPlace} (h : facR v = some y) : ∃ a b, v = .agg #[.int .i64 a, .int .i64 b] ∧ y.1 = fd a b := by
  unfold facR at h
  split at h
  · rename_i cs
    split at h
    · rename_i a b hl
      refine ⟨a, b, ?_, ?_⟩
      · congr 1
        exact Array.toList_inj.1 hl
      · injection h with h; rw [← h]
    · cases h
  · cases h
theorem fd_inj {a b c d : Int} (h : fd a b = fd c d) : a = c ∧ b = d := by
  unfold fd at h
  injection h with h
  injection h with h1 h2
  injection h1 with h1
  injection h1 with _ h1
  injection h2 with h2 _
  injection h2 with h2
  injection h2 with _ h2
  exact ⟨h1, h2⟩
theorem fd_ne (a b : Int) : fd a b ≠ .nil := by intro h; cases h
theorem kInt : Keyed Try.prog 3 := int_keyed Try.underlying3
theorem zeroF (w : World) : (zeroValue 44).run Try.prog w = .ok (.agg #[.int .i64 0, .int .i64 0]) w := by kernel_rfl
def facD (s d : Int) : DataW Unit := .map [(.int .i64 1, fd (0) (0)), (.int .i64 2, fd (255) (0)), (.int .i64 3, fd (255) (255 - s)), (.int .i64 4, fd (d) (0)), (.int .i64 5, fd (255 - d) (0)), (.int .i64 6, fd (d) (255 - s)), (.int .i64 7, fd (255 - d) (255 - s)), (.int .i64 8, fd (255) (255)), (.int .i64 9, fd (0) (s)), (.int .i64 10, fd (0) (255 - s))]
def fac1 (op s d : Int) : Int := if op = 1 then 0 else if op = 2 then 255 else if op = 3 then 255 else if op = 4 then d else if op = 5 then 255 - d else if op = 6 then d else if op = 7 then 255 - d else if op = 8 then 255 else if op = 9 then 0 else if op = 10 then 0 else 0
def fac2 (op s d : Int) : Int := if op = 1 then 0 else if op = 2 then 0 else if op = 3 then 255 - s else if op = 4 then 0 else if op = 5 then 0 else if op = 6 then 255 - s else if op = 7 then 255 - s else if op = 8 then 255 else if op = 9 then s else if op = 10 then 255 - s else 0
theorem fac_at (s d op : Int) (h : ¬ (1 ≤ op ∧ op ≤ 10)) : (facD s d).atKey (.int .i64 op) .nil = .nil := by
  have n1 : ¬ (1 : Int) = op := by omega
  have n2 : ¬ (2 : Int) = op := by omega
  have n3 : ¬ (3 : Int) = op := by omega
  have n4 : ¬ (4 : Int) = op := by omega
  have n5 : ¬ (5 : Int) = op := by omega
  have n6 : ¬ (6 : Int) = op := by omega
  have n7 : ¬ (7 : Int) = op := by omega
  have n8 : ¬ (8 : Int) = op := by omega
  have n9 : ¬ (9 : Int) = op := by omega
  have n10 : ¬ (10 : Int) = op := by omega
  simp [facD, DataW.atKey, List.find?, Lit.sameKey, n1, n2, n3, n4, n5, n6, n7, n8, n9, n10]
theorem fac_look (s d op : Int) (w : World) (b : Nat) (h : w.ownsMap Try.prog 3 facR b 10 (facD s d)) (hw : (Lit.int .i64 op).wf = true) :
    (Instr.lookup 46 (.map (some b)) (.int .i64 op) true).run Try.prog w = .ok (.tuple #[.agg #[.int .i64 (fac1 op s d), .int .i64 (fac2 op s d)], .bool (decide (1 ≤ op) && decide (op ≤ 10))]) w := by
  obtain ⟨es, clock, hb, FF, _, hD⟩ := h
  have hl := fit_look true kInt Try.underlying46 (zeroF w) hb FF (keyOf_int_mk Try.underlying3 hw)
  rw [← hD] at hl
  by_cases ho : 1 ≤ op ∧ op ≤ 10
  · rw [show (decide (1 ≤ op) && decide (op ≤ 10)) = true by simp [ho.1, ho.2]]
    have h10 : op = 1 ∨ op = 2 ∨ op = 3 ∨ op = 4 ∨ op = 5 ∨ op = 6 ∨ op = 7 ∨ op = 8 ∨ op = 9 ∨ op = 10 := by omega
    rcases hl with ⟨hrun, _, hat⟩ | ⟨e0, y, _, _, hrun, hR, hat, _⟩
    · exfalso
      have ha := hat .nil
      rcases h10 with rfl | rfl | rfl | rfl | rfl | rfl | rfl | rfl | rfl | rfl
      · exact fd_ne (0) (0) ((show (facD s d).atKey (.int .i64 1) .nil = fd (0) (0) from rfl).symm.trans ha)
      · exact fd_ne (255) (0) ((show (facD s d).atKey (.int .i64 2) .nil = fd (255) (0) from rfl).symm.trans ha)
      · exact fd_ne (255) (255 - s) ((show (facD s d).atKey (.int .i64 3) .nil = fd (255) (255 - s) from rfl).symm.trans ha)
      · exact fd_ne (d) (0) ((show (facD s d).atKey (.int .i64 4) .nil = fd (d) (0) from rfl).symm.trans ha)
      · exact fd_ne (255 - d) (0) ((show (facD s d).atKey (.int .i64 5) .nil = fd (255 - d) (0) from rfl).symm.trans ha)
      · exact fd_ne (d) (255 - s) ((show (facD s d).atKey (.int .i64 6) .nil = fd (d) (255 - s) from rfl).symm.trans ha)
      · exact fd_ne (255 - d) (255 - s) ((show (facD s d).atKey (.int .i64 7) .nil = fd (255 - d) (255 - s) from rfl).symm.trans ha)
      · exact fd_ne (255) (255) ((show (facD s d).atKey (.int .i64 8) .nil = fd (255) (255) from rfl).symm.trans ha)
      · exact fd_ne (0) (s) ((show (facD s d).atKey (.int .i64 9) .nil = fd (0) (s) from rfl).symm.trans ha)
      · exact fd_ne (0) (255 - s) ((show (facD s d).atKey (.int .i64 10) .nil = fd (0) (255 - s) from rfl).symm.trans ha)
    · obtain ⟨a, b', hv, hy⟩ := facR_inv hR
      have ha := hat .nil
      rw [hy] at ha
      rw [hv] at hrun
      rcases h10 with rfl | rfl | rfl | rfl | rfl | rfl | rfl | rfl | rfl | rfl
      · obtain ⟨e1, e2⟩ := fd_inj ((show (facD s d).atKey (.int .i64 1) .nil = fd (0) (0) from rfl).symm.trans ha)
        rw [← e1, ← e2] at hrun
        exact hrun
      · obtain ⟨e1, e2⟩ := fd_inj ((show (facD s d).atKey (.int .i64 2) .nil = fd (255) (0) from rfl).symm.trans ha)
        rw [← e1, ← e2] at hrun
        exact hrun
      · obtain ⟨e1, e2⟩ := fd_inj ((show (facD s d).atKey (.int .i64 3) .nil = fd (255) (255 - s) from rfl).symm.trans ha)
        rw [← e1, ← e2] at hrun
        exact hrun
      · obtain ⟨e1, e2⟩ := fd_inj ((show (facD s d).atKey (.int .i64 4) .nil = fd (d) (0) from rfl).symm.trans ha)
        rw [← e1, ← e2] at hrun
        exact hrun
      · obtain ⟨e1, e2⟩ := fd_inj ((show (facD s d).atKey (.int .i64 5) .nil = fd (255 - d) (0) from rfl).symm.trans ha)
        rw [← e1, ← e2] at hrun
        exact hrun
      · obtain ⟨e1, e2⟩ := fd_inj ((show (facD s d).atKey (.int .i64 6) .nil = fd (d) (255 - s) from rfl).symm.trans ha)
        rw [← e1, ← e2] at hrun
        exact hrun
      · obtain ⟨e1, e2⟩ := fd_inj ((show (facD s d).atKey (.int .i64 7) .nil = fd (255 - d) (255 - s) from rfl).symm.trans ha)
        rw [← e1, ← e2] at hrun
        exact hrun
      · obtain ⟨e1, e2⟩ := fd_inj ((show (facD s d).atKey (.int .i64 8) .nil = fd (255) (255) from rfl).symm.trans ha)
        rw [← e1, ← e2] at hrun
        exact hrun
      · obtain ⟨e1, e2⟩ := fd_inj ((show (facD s d).atKey (.int .i64 9) .nil = fd (0) (s) from rfl).symm.trans ha)
        rw [← e1, ← e2] at hrun
        exact hrun
      · obtain ⟨e1, e2⟩ := fd_inj ((show (facD s d).atKey (.int .i64 10) .nil = fd (0) (255 - s) from rfl).symm.trans ha)
        rw [← e1, ← e2] at hrun
        exact hrun
  · rw [show (decide (1 ≤ op) && decide (op ≤ 10)) = false by simp; omega]
    have hz1 : fac1 op s d = 0 := by unfold fac1; rw [if_neg (by omega)]; rw [if_neg (by omega)]; rw [if_neg (by omega)]; rw [if_neg (by omega)]; rw [if_neg (by omega)]; rw [if_neg (by omega)]; rw [if_neg (by omega)]; rw [if_neg (by omega)]; rw [if_neg (by omega)]; rw [if_neg (by omega)]
    have hz2 : fac2 op s d = 0 := by unfold fac2; rw [if_neg (by omega)]; rw [if_neg (by omega)]; rw [if_neg (by omega)]; rw [if_neg (by omega)]; rw [if_neg (by omega)]; rw [if_neg (by omega)]; rw [if_neg (by omega)]; rw [if_neg (by omega)]; rw [if_neg (by omega)]; rw [if_neg (by omega)]
    rw [hz1, hz2]
    rcases hl with ⟨hrun, _, hat⟩ | ⟨e0, y, _, _, hrun, hR, hat, _⟩
    · exact hrun
    · exfalso
      obtain ⟨a, b', hv, hy⟩ := facR_inv hR
      have ha := hat .nil
      rw [hy, fac_at s d op ho] at ha
      exact fd_ne a b' ha.symm

set_option maxHeartbeats 4000000 in
theorem operators_any (s d : Int) (s0 : 0 ≤ s) (s1 : s ≤ 255) (d0 : 0 ≤ d) (d1 : d ≤ 255) (w : World) :
    Calls Try.prog 24 #[.int .i64 s, .int .i64 d] w fun e w' => e = .returned (.map (some w.heap.size)) ∧ w'.ownsMap Try.prog 3 facR w.heap.size 10 (facD s d) ∧ Below w.heap.size w w' := by
  have hmm := @run_makeMap Try.prog
  have h0 := World.ownsMap_made w Try.prog 3 facR
  have b0 : Below w.heap.size w (w.alloc (.map #[] 0)) := (Below.refl _ _).alloc (Nat.le_refl _) _
  obtain ⟨w1, r1, h1, g1⟩ := h0.update kInt Try.underlying46 (by unfold maxLen; omega) (key := .int .i64 1) (val := .agg #[.int .i64 (0), .int .i64 (0)]) (keyOf_int_mk Try.underlying3 (by decide)) (facR_mk (0) (0))
  have b1 := b0.grown g1 b0.size (fun k hk => by injection hk with hk; omega)
  obtain ⟨w2, r2, h2, g2⟩ := h1.update kInt Try.underlying46 (by unfold maxLen; omega) (key := .int .i64 2) (val := .agg #[.int .i64 (255), .int .i64 (0)]) (keyOf_int_mk Try.underlying3 (by decide)) (facR_mk (255) (0))
  have b2 := b1.grown g2 b1.size (fun k hk => by injection hk with hk; omega)
  obtain ⟨w3, r3, h3, g3⟩ := h2.update kInt Try.underlying46 (by unfold maxLen; omega) (key := .int .i64 3) (val := .agg #[.int .i64 (255), .int .i64 (255 - s)]) (keyOf_int_mk Try.underlying3 (by decide)) (facR_mk (255) (255 - s))
  have b3 := b2.grown g3 b2.size (fun k hk => by injection hk with hk; omega)
  obtain ⟨w4, r4, h4, g4⟩ := h3.update kInt Try.underlying46 (by unfold maxLen; omega) (key := .int .i64 4) (val := .agg #[.int .i64 (d), .int .i64 (0)]) (keyOf_int_mk Try.underlying3 (by decide)) (facR_mk (d) (0))
  have b4 := b3.grown g4 b3.size (fun k hk => by injection hk with hk; omega)
  obtain ⟨w5, r5, h5, g5⟩ := h4.update kInt Try.underlying46 (by unfold maxLen; omega) (key := .int .i64 5) (val := .agg #[.int .i64 (255 - d), .int .i64 (0)]) (keyOf_int_mk Try.underlying3 (by decide)) (facR_mk (255 - d) (0))
  have b5 := b4.grown g5 b4.size (fun k hk => by injection hk with hk; omega)
  obtain ⟨w6, r6, h6, g6⟩ := h5.update kInt Try.underlying46 (by unfold maxLen; omega) (key := .int .i64 6) (val := .agg #[.int .i64 (d), .int .i64 (255 - s)]) (keyOf_int_mk Try.underlying3 (by decide)) (facR_mk (d) (255 - s))
  have b6 := b5.grown g6 b5.size (fun k hk => by injection hk with hk; omega)
  obtain ⟨w7, r7, h7, g7⟩ := h6.update kInt Try.underlying46 (by unfold maxLen; omega) (key := .int .i64 7) (val := .agg #[.int .i64 (255 - d), .int .i64 (255 - s)]) (keyOf_int_mk Try.underlying3 (by decide)) (facR_mk (255 - d) (255 - s))
  have b7 := b6.grown g7 b6.size (fun k hk => by injection hk with hk; omega)
  obtain ⟨w8, r8, h8, g8⟩ := h7.update kInt Try.underlying46 (by unfold maxLen; omega) (key := .int .i64 8) (val := .agg #[.int .i64 (255), .int .i64 (255)]) (keyOf_int_mk Try.underlying3 (by decide)) (facR_mk (255) (255))
  have b8 := b7.grown g8 b7.size (fun k hk => by injection hk with hk; omega)
  obtain ⟨w9, r9, h9, g9⟩ := h8.update kInt Try.underlying46 (by unfold maxLen; omega) (key := .int .i64 9) (val := .agg #[.int .i64 (0), .int .i64 (s)]) (keyOf_int_mk Try.underlying3 (by decide)) (facR_mk (0) (s))
  have b9 := b8.grown g9 b8.size (fun k hk => by injection hk with hk; omega)
  obtain ⟨w10, r10, h10, g10⟩ := h9.update kInt Try.underlying46 (by unfold maxLen; omega) (key := .int .i64 10) (val := .agg #[.int .i64 (0), .int .i64 (255 - s)]) (keyOf_int_mk Try.underlying3 (by decide)) (facR_mk (0) (255 - s))
  have b10 := b9.grown g10 b9.size (fun k hk => by injection hk with hk; omega)
  have fin : w10.ownsMap Try.prog 3 facR w.heap.size 10 (facD s d) := h10
  clear h0 h1 g1 h2 g2 h3 g3 h4 g4 h5 g5 h6 g6 h7 g7 h8 g8 h9 g9 h10 g10 b0 b1 b2 b3 b4 b5 b6 b7 b8 b9
  go_enter Try.func24, Try.ntmps24
  go_wp2
  go_ret
  exact ⟨rfl, fin, b10⟩
end Go.Proofs.Ytgaabdidddglhaa
