import Derived.Test.YtcofiekfhnfjpaaS1b
import Derived.Test.YtcofiekfhnfjpaaUA
import Derived.Test.YtcofiekfhnfjpaaU6
import Derived.Laws.CopyOwn
import Derived.BigQuiet
import Derived.Deep.CutRange
namespace Go.Proofs.Ytcofiekfhnfjpaa
open Go.RowKit
set_option linter.unusedVariables false
set_option linter.unusedSimpArgs false
attribute [local go_sem ↓] Go.wp_at_zero Go.wp_at_succ
attribute [local go_sem] rhoF_tmp rhoF_const rhoF_global rhoF_func
attribute [local go_sem] qV iV
theorem ob_ne {a b : Option Addr} {n c : Nat} (h : ∀ p q, a = some p → b = some q → p.block ≠ q.block) : (Value.slice b n c).ownBlock = none ∨ (Value.slice b n c).ownBlock ≠ a.map (fun (p : Addr) => p.block) := by
  cases b with
  | none => exact .inl rfl
  | some q =>
    right
    cases a with
    | none => simp [Value.ownBlock]
    | some p =>
      have := h p q rfl rfl
      simp [Value.ownBlock]
      exact fun e => this e.symm
theorem nb_ne {w : World} {lo n c : Nat} {a : Option Addr} {xs : List Value} (h : w.ownsRow lo 49 1 (.slice a n c) n xs) : some w.heap.size ≠ a.map (fun (p : Addr) => p.block) := by
  cases a with
  | none => simp
  | some p =>
    have := (h.lt p.block rfl).2
    simp
    omega
set_option maxRecDepth 50000 in
set_option maxHeartbeats 4000000 in
theorem ovr_any (s t : Bool) (a b : Option Addr) (c d : Nat) (l k : List (BitVec 32)) (w : World) (lo : Nat) (h1 : l.length ≤ 1000000) (h2 : k.length ≤ 1000000) (ha : w.ownsRow lo 49 1 (.slice a l.length c) l.length (bv32 l)) (hb : w.ownsRow lo 49 1 (.slice b k.length d) k.length (bv32 k)) (hne : ∀ p q, a = some p → b = some q → p.block ≠ q.block) :
    Calls Try.prog 20 #[.agg #[.bool s, .slice a l.length c, .bool t, .slice b k.length d]] w fun e w' => e = .returned (.tuple #[]) ∧ ∃ w1, w.grownBy w1 (a.map (fun (p : Addr) => p.block)) ∧ w1.grownBy w' (b.map (fun (p : Addr) => p.block)) := by
  have hal := Below.alloc (Below.refl w.heap.size w) (Nat.le_refl _) (.cells #[Value.bool s, Value.slice a l.length c, Value.bool t, Value.slice b k.length d] 26)
  have ha0 := own_below ha hal
  have hb0 := own_below hb hal
  have NA := nb_ne ha
  have NB := nb_ne hb
  have k0 : (w.alloc (.cells #[Value.bool s, Value.slice a l.length c, Value.bool t, Value.slice b k.length d] 26)).cell? ⟨w.heap.size, 1, none⟩ = some (.slice a l.length c) := by simp
  have k1 : (w.alloc (.cells #[Value.bool s, Value.slice a l.length c, Value.bool t, Value.slice b k.length d] 26)).cell? ⟨w.heap.size, 3, none⟩ = some (.slice b k.length d) := by simp
  have hg0 : w.grownBy (w.alloc (.cells #[Value.bool s, Value.slice a l.length c, Value.bool t, Value.slice b k.length d] 26)) (a.map (fun (p : Addr) => p.block)) := World.grownBy_alloc w _ _
  go_enter Try.func20, Try.ntmps20
  go_wp2
  go_loopw [2, 8] (fun _ i wr => ∃ (p : Nat) (Q : List (BitVec 32)), p ≤ l.length ∧ i = .int .i64 p ∧ Q.length = l.length ∧ wr.ownsRow lo 49 1 (.slice a l.length c) l.length (bv32 Q) ∧ ((w.alloc (.cells #[Value.bool s, Value.slice a l.length c, Value.bool t, Value.slice b k.length d] 26))).grownBy wr (a.map (fun (p : Addr) => p.block))) (fun _ i _ => l.length - (intOf i).toNat)
  case atStart => exact ⟨0, l, Nat.zero_le _, rfl, rfl, ha0, grownBy_same _ _⟩
  case round =>
    obtain ⟨p, Q, hp, rfl, hQ, hown, hg⟩ := hrel
    have c1 := hg.cell k0 NA
    have c3 := hg.cell k1 NA
    by_cases hlt : p < l.length
    · obtain ⟨g, rfl, _⟩ := own_form hown (by omega)
      obtain ⟨v, hv⟩ : ∃ v, Q[p]'(by omega) = v := ⟨_, rfl⟩
      have hc3 := own_cell hown p (.int .u32 (v.toNat : Int)) (by simp [bv32, show p < Q.length by omega, hv])
      have hf3 := hown.frozenAt p
      have q1 : decide ((p : Int) < (l.length : Int)) = true := by rw [decide_eq_true_iff]; omega
      have q2 : decide (p < l.length) = true := by rw [decide_eq_true_iff]; omega
      go_wp2
      go_roundw
      case rel =>
        refine ⟨p + 1, Q.set p 77#32, hlt, by go_num, by rw [List.length_set]; exact hQ, ?_, hg.trans (grownBy_set _ _ _ _)⟩
        rw [bv32_set]
        exact own_set hown _ _
      case measure => simp [intOf] <;> omega
    · have q1 : decide ((p : Int) < (l.length : Int)) = false := by rw [decide_eq_false_iff_not]; omega
      have q2 : decide (p < l.length) = false := by rw [decide_eq_false_iff_not]; omega
      have hb1 := hb0.kept hg (ob_ne hne)
      clear hlt
      go_wp2
      go_loopw [3, 21] (fun _ i wx => ∃ (p : Nat) (Q : List (BitVec 32)), p ≤ k.length ∧ i = .int .i64 p ∧ Q.length = k.length ∧ wx.ownsRow lo 49 1 (.slice b k.length d) k.length (bv32 Q) ∧ (wr).grownBy wx (b.map (fun (p : Addr) => p.block))) (fun _ i _ => k.length - (intOf i).toNat)
      case atStart => exact ⟨0, k, Nat.zero_le _, rfl, rfl, hb1, grownBy_same _ _⟩
      case round =>
        obtain ⟨p2, Q2, hp2, rfl, hQ2, hown2, hg2⟩ := hrel
        have c1' := hg2.cell c1 NB
        have c3' := hg2.cell c3 NB
        by_cases hlt2 : p2 < k.length
        · obtain ⟨g2, rfl, _⟩ := own_form hown2 (by omega)
          obtain ⟨v2, hv2⟩ : ∃ v, Q2[p2]'(by omega) = v := ⟨_, rfl⟩
          have hd3 := own_cell hown2 p2 (.int .u32 (v2.toNat : Int)) (by simp [bv32, show p2 < Q2.length by omega, hv2])
          have he3 := hown2.frozenAt p2
          have q3 : decide ((p2 : Int) < (k.length : Int)) = true := by rw [decide_eq_true_iff]; omega
          have q4 : decide (p2 < k.length) = true := by rw [decide_eq_true_iff]; omega
          go_wp2
          go_roundw
          case rel =>
            refine ⟨p2 + 1, Q2.set p2 77#32, hlt2, by go_num, by rw [List.length_set]; exact hQ2, ?_, hg2.trans (grownBy_set _ _ _ _)⟩
            rw [bv32_set]
            exact own_set hown2 _ _
          case measure => simp [intOf] <;> omega
        · have q3 : decide ((p2 : Int) < (k.length : Int)) = false := by rw [decide_eq_false_iff_not]; omega
          have q4 : decide (p2 < k.length) = false := by rw [decide_eq_false_iff_not]; omega
          clear hlt2
          go_wp2
          refine bodyPost_end (v := .tuple #[]) (by simp [results, Try.results20, go_sem, *]) rfl ?_
          exact ⟨rfl, _, hg0.trans hg, hg2⟩
end Go.Proofs.Ytcofiekfhnfjpaa
