import Derived.Test.YtfbgfnebodabpaaMc
import Derived.Test.YtfbgfnebodabpaaMn
import Derived.WalkKit
import Derived.WalkSpells
import Derived.WalkLawsBesides
import Derived.Lib.Hide
import Derived.Below
import Derived.Deep.QuietTactic
import Derived.BigQuiet
import Derived.StillTailTactics
import Derived.Deep.RegionHeld3
import Derived.IntWalk
namespace Go.Proofs.Ytfbgfnebodabpaa
open Go.RowKit
set_option linter.unusedVariables false
set_option linter.unusedSimpArgs false
/-- A mask and an error. -/
def AnsM (w : World) (a b c d : Int) (l : List Int) (k : Int) (e : Ending) (w' : World) : Prop := ∃ p q, e = .returned (.tuple #[.agg #[.int .i64 a, .int .i64 b, .int .i64 c, .int .i64 d, .slice p l.length q], .int .i64 k]) ∧ NM w.heap.size w' p l ∧ Below w.heap.size w w'
/-- A mask alone. -/
def AnsC (w : World) (a b c d : Int) (l : List Int) (e : Ending) (w' : World) : Prop := ∃ p q, e = .returned (.agg #[.int .i64 a, .int .i64 b, .int .i64 c, .int .i64 d, .slice p l.length q]) ∧ NM w.heap.size w' p l ∧ Below w.heap.size w w'
theorem rdv_u8 {w : World} {p : Option Addr} {l : List Int} (h : RS 1 u8V w p l) : RdV w p (Cl u8V l) := by
  intro j u hu
  rw [Cl_u8] at hu
  obtain ⟨x, hx, rfl⟩ := Option.map_eq_some_iff.1 hu
  obtain ⟨hj, rfl⟩ := List.getElem?_eq_some_iff.1 hx
  exact h.b hj
theorem Cl_u8len (l : List Int) : (Cl u8V l).length = l.length := by rw [Cl_len u8V_len, Nat.mul_one]
theorem Cl_u8one (l : List Int) : ∀ u ∈ Cl u8V l, u.oneCell' = true := by
  intro u hu
  simp only [Cl, u8V, List.mem_flatMap, List.mem_singleton] at hu
  obtain ⟨x, _, rfl⟩ := hu
  rfl
/-- An append to an empty slice without room. -/
theorem run_append_cut (w : World) (a0 : Option Addr) (A : Option Addr) (m c : Nat) (l : List Int) (hl : l.length = m) (hr : RS 1 u8V w A l) (hm : m ≤ 1000000) (ty : TypeId) :
    ∃ p q w', (Builtin.append_ #[24, 24] ty #[.slice a0 0 0, .slice A m c]).run Try.prog w = .ok (.slice p m q) w' ∧ NM w.heap.size w' p l ∧ m ≤ q ∧ Below w.heap.size w w' := by
  obtain ⟨i0, hi0, hz0⟩ := Option.map_eq_some_iff.1 infoB
  simp only [Prod.mk.injEq] at hz0
  obtain ⟨hz, hs, hb⟩ := hz0
  have hrd := rdv_u8 hr
  have hcl := Cl_u8len l
  cases a0 with
  | none =>
    obtain ⟨v', w', h1, h2, h3, h4⟩ := run_append_rd (P := Try.prog) w w.heap.size 24 ty 5 i0 (.int .u8 0) 1 Try.underlying24 hi0 hz hs hb rfl (.slice none 0 0) 0 [] (World.ownsRow_nil w w.heap.size 5 1) A m c (Cl u8V l) (by rw [hcl, hl]) hrd (Cl_u8one l) (by simp only [maxLen]; omega) (by omega) (Nat.le_refl _)
    rw [Nat.zero_add, List.nil_append] at h2
    obtain ⟨p, q, rfl⟩ := own_slice h2
    exact ⟨p, q, w', h1, nm_own h2, own_cap h2, ⟨h3.os, h3.tape, h3.output, h3.size, fun k hk => h3.block k hk (by simp [Value.ownBlock])⟩⟩
  | some ad =>
    by_cases h0 : m = 0
    · subst h0
      have h1 : l = [] := List.length_eq_zero_iff.1 hl
      subst h1
      refine ⟨some ad, 0, w, ?_, NM.nil _ _ _, Nat.le_refl _, Below.refl _ _⟩
      cases A <;> simp [Builtin.append_, run_underlying Try.underlying24, sizeOf, typeInfo, hi0, hs, Builtin.lenOf, Builtin.firstCells, storeCells, loadCells, loadCellsFrom]
    · obtain ⟨A', rfl⟩ : ∃ A', A = some A' := by
        obtain ⟨ad', e, _⟩ := hr 0 (by omega)
        exact ⟨ad', e⟩
      have hr2 := run_append_grow (P := Try.prog) w 24 ty 5 i0 (.int .u8 0) Try.underlying24 hi0 hz ad 0 0 [] (by simp) (by simp) A' m c (Cl u8V l) (by rw [hcl, hl, hs, Nat.mul_one]) (fun j u hu => by
        obtain ⟨ad', e, hc⟩ := hrd j u hu
        cases e
        exact hc) (by omega) (by omega) (growslice_fits (by omega) (by rw [hb]; omega))
      have hge := grownCap_ge w (0 + m) 0 5
      refine ⟨_, _, _, by simpa using hr2, ?_, by simpa using hge, ?_⟩
      · refine .inr ⟨w.heap.size, rfl, Nat.le_refl _, fun i v hv => ?_, by simp⟩
        have hcell := heap_alloc_new w.drew (.cells (#[] ++ (Cl u8V l).toArray ++ Builtin.zeroCells (Value.int .u8 0).cells (grownCap w m 0 5 - m)) 5 (0, 0))
        have hi : i < (Cl u8V l).length := (List.getElem?_eq_some_iff.1 hv).1
        refine ⟨?_, frozen_of_row _ _ _ _ _ (by simpa using hcell)⟩
        rw [cell_of_row _ _ i _ _ (0, 0) (by simpa using hcell)]
        simp only [Array.empty_append, List.getElem?_toArray, Array.getElem?_append, List.size_toArray]
        rw [if_pos hi]
        exact hv
      · exact ((Below.refl w.heap.size w).drew).alloc (Nat.le_refl _) _
theorem wp_append_cut {w : World} {o : Oper} {a : Act} {K : Act → World → Prop} {Q : Exit → Act → World → Prop} (s x : Operand)
    (ho : o.op = .call { callee := .builtin .append, args := #[s, x], argTypes := #[24, 24] })
    (a0 : Option Addr) (hs : a.eval s = .slice a0 0 0) (A : Option Addr) (m c : Nat) (l : List Int) (hx : a.eval x = .slice A m c) (hl : l.length = m) (hr : RS 1 u8V w A l) (hm : m ≤ 1000000)
    (h : ∀ p q w', NM w.heap.size w' p l → m ≤ q → Below w.heap.size w w' → K (a.put o.dst (.slice p m q)) w') : o.wp Try.prog a w K Q := by
  obtain ⟨p, q, w', hrun, h2, h3, h4⟩ := run_append_cut w a0 A m c l hl hr hm o.type
  unfold Oper.wp execOp
  simp only [ho, resolve, invoke, builtin, Sem.run_bind, Sem.run_pure, Result.andThen_ok, List.map_toArray, List.map_cons, List.map_nil, hs, hx, hrun]
  exact h p q w' h2 h3 h4
theorem wpList_append_cut {w : World} {ops : Array Oper} {rest : List Oper} {o : Oper} {a : Act} {Q : Exit → Act → World → Prop} (hgd : o.guard = none) (s x : Operand)
    (ho : o.op = .call { callee := .builtin .append, args := #[s, x], argTypes := #[24, 24] })
    (a0 : Option Addr) (hs : a.eval s = .slice a0 0 0) (A : Option Addr) (m c : Nat) (l : List Int) (hx : a.eval x = .slice A m c) (hl : l.length = m) (hr : RS 1 u8V w A l) (hm : m ≤ 1000000)
    (h : ∀ p q w', NM w.heap.size w' p l → m ≤ q → Below w.heap.size w w' → wpList Try.prog ops Q rest (a.put o.dst (.slice p m q)) w') : wpList Try.prog ops Q (o :: rest) a w :=
  wpList_plain hgd fun _ hK => by
    obtain ⟨p, q, w', hrun, h2, h3, h4⟩ := run_append_cut w a0 A m c l hl hr hm o.type
    unfold Oper.wp execOp
    simp only [ho, resolve, invoke, builtin, Sem.run_bind, Sem.run_pure, Result.andThen_ok, List.map_toArray, List.map_cons, List.map_nil, hs, hx, hrun]
    exact hK _ _ (h p q w' h2 h3 h4)
theorem NM.row {lo : Nat} {w : World} {p : Option Addr} {l : List Int} (h : NM lo w p l) : ∃ r : Option Nat, (∀ k, r = some k → lo ≤ k ∧ k < w.heap.size) ∧ (0 < l.length → ∃ g, p = some ⟨g, 0, none⟩ ∧ r = some g) := by
  rcases h with rfl | ⟨g, h1, h2, h3⟩
  · exact ⟨none, by simp, by simp⟩
  · exact ⟨some g, by rintro k e; cases e; exact ⟨h2, h3.2⟩, fun _ => ⟨g, h1, rfl⟩⟩
theorem NM.at {lo : Nat} {w : World} {g : Nat} {l : List Int} (h : NM lo w (some ⟨g, 0, none⟩) l) {i : Nat} (hi : i < l.length) : lo ≤ g ∧ w.cell? ⟨g, i, none⟩ = some (.int .u8 l[i]) ∧ w.frozen? ⟨g, i, none⟩ = false := by
  rcases h with rfl | ⟨g', h1, h2, h3⟩
  · simp at hi
  · cases h1
    have h4 := h3.1 i (.int .u8 l[i]) (by rw [Cl_u8, List.getElem?_eq_getElem hi]; rfl)
    exact ⟨h2, h4.1, h4.2⟩
theorem NM.put {lo : Nat} {w : World} {g : Nat} {l : List Int} (h : NM lo w (some ⟨g, 0, none⟩) l) (i : Nat) (hi : i < l.length) (y : Int) : NM lo (w.setCell ⟨g, i, none⟩ (.int .u8 y)) (some ⟨g, 0, none⟩) (l.set i y) := by
  rcases h with rfl | ⟨g', h1, h2, h3⟩
  · simp at hi
  · cases h1
    refine .inr ⟨g, rfl, h2, fun j v hv => ?_, by simpa using h3.2⟩
    rw [Cl_u8, List.getElem?_set] at hv
    have hf : ∀ j v, (Cl u8V l)[j]? = some v → (w.setCell ⟨g, i, none⟩ (.int .u8 y)).frozen? ⟨g, j, none⟩ = false := fun j v hv => by
      rw [World.frozen?_setCell]
      exact (h3.1 j v hv).2
    by_cases hij : i = j
    · subst hij
      have h4 := h3.1 i (.int .u8 l[i]) (by rw [Cl_u8, List.getElem?_eq_getElem hi]; rfl)
      simp [hi] at hv
      subst hv
      exact ⟨World.cell?_setCell_same _ _ _ h4.1, hf i _ (by rw [Cl_u8, List.getElem?_eq_getElem hi]; rfl)⟩
    · rw [if_neg hij] at hv
      have h4 := h3.1 j v (by rw [Cl_u8]; exact hv)
      exact ⟨(World.cell?_setCell_other _ _ _ _ (by simp [hij])).trans h4.1, hf j v (by rw [Cl_u8]; exact hv)⟩
end Go.Proofs.Ytfbgfnebodabpaa
