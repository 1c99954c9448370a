
/- THE FRAME of the law RationalRounding: its arguments opened, its walk met ('rationalRounding_walk'), its arguments read again. Conditions: none. -/
import Derived.Test.YtcofiekfhnfjpaaRows
import Derived.WalkKit
import Derived.ProofKit
import Derived.OpenShut
import Derived.ShutString
import Derived.ChangeOld
import Derived.Below
import Derived.Deep.Matrix
import Derived.Test.YtcofiekfhnfjpaaGRationalRounding
namespace Go.Proofs.Ytcofiekfhnfjpaa.rationalRounding
open Go.ChangeShapes Go.WideShapes Go.ChangeAt Go.RowKit
open Go.ChangeMaps (open_string shut_string)
set_option linter.unusedVariables false
set_option linter.unusedSimpArgs false

theorem own : ownKnob Try.prog.godebug = none := by kernel_rfl
theorem laidOut : laidOutB Try.prog = true := by kernel_rfl

set_option maxRecDepth 20000 in
theorem open_T4 {H : Type} {enc : TypeId × Value → H} {w : World} {fuel : Nat} {cs : List Value} {x : DataW H × List MemPlace} (h : DataW.trod enc Try.prog w 0 (fun _ => true) true fuel 4 cs = some x) :
    ∃ (x0 : Bool), cs = [.bool x0] := by
  obtain ⟨n, h1, _⟩ := DataW.trod_bool Try.underlying4 h
  exact ⟨n, h1⟩

set_option maxRecDepth 20000 in
theorem open_T22 {H : Type} {enc : TypeId × Value → H} {w : World} {fuel : Nat} {cs : List Value} {x : DataW H × List MemPlace} (h : DataW.trod enc Try.prog w 0 (fun _ => true) true fuel 22 cs = some x) :
    ∃ (x0 : Option Addr) (x0l x0c : Nat) (x0z : List Int), cs = [.slice x0 x0l x0c] ∧ IsRow .u32 w x0 x0l x0c x0z := by
  rcases open_ints Try.underlying22 Try.underlying49 (by kernel_rfl) h with ⟨hcs, _⟩ | ⟨a, l, c, zs, hcs, _, hl, hm, hz, _, hcell, hwz⟩
  · exact ⟨none, 0, 0, [], hcs, .inl ⟨rfl, rfl, rfl, rfl⟩⟩
  · exact ⟨some a, l, c, zs, hcs, .inr ⟨a, rfl, hl, hm, by simpa using hz, hcell, hwz⟩⟩

set_option maxRecDepth 20000 in
theorem open_T24 {H : Type} {enc : TypeId × Value → H} {w : World} {fuel : Nat} {cs : List Value} {x : DataW H × List MemPlace} (h : DataW.trod enc Try.prog w 0 (fun _ => true) true fuel 24 cs = some x) :
    ∃ (x0 : Bool) (x1 : Option Addr) (x1l x1c : Nat) (x1z : List Int), cs = [.bool x0, .slice x1 x1l x1c] ∧ IsRow .u32 w x1 x1l x1c x1z := by
  obtain ⟨ys, m, _, _, hl, hy, hf⟩ := DataW.trod_struct Try.underlying24 h
  have hc : Try.prog.cellsOf 24 = 2 := by kernel_rfl
  have hc4 : Try.prog.cellsOf 4 = 1 := by kernel_rfl
  have hc22 : Try.prog.cellsOf 22 = 1 := by kernel_rfl
  rw [hc] at hl
  match cs, hl, ys, hy with
  | [c0, c1], _, [y0, y1], _ =>
    have g0 := hf 0 _ rfl
    simp only [List.getElem_toArray, List.getElem_cons_zero, List.getElem_cons_succ] at g0
    rw [hc4] at g0
    obtain ⟨x0, e0⟩ := open_T4 g0
    simp at e0
    have g1 := hf 1 _ rfl
    simp only [List.getElem_toArray, List.getElem_cons_zero, List.getElem_cons_succ] at g1
    rw [hc22] at g1
    obtain ⟨x1, x1l, x1c, x1z, e1, f1⟩ := open_T22 g1
    simp at e1
    exact ⟨x0, x1, x1l, x1c, x1z, by simp_all, f1⟩

set_option maxRecDepth 20000 in
theorem open_T26 {H : Type} {enc : TypeId × Value → H} {w : World} {fuel : Nat} {cs : List Value} {x : DataW H × List MemPlace} (h : DataW.trod enc Try.prog w 0 (fun _ => true) true fuel 26 cs = some x) :
    ∃ (x0 : Bool) (x1 : Option Addr) (x1l x1c : Nat) (x1z : List Int) (x2 : Bool) (x3 : Option Addr) (x3l x3c : Nat) (x3z : List Int), cs = [.bool x0, .slice x1 x1l x1c, .bool x2, .slice x3 x3l x3c] ∧ IsRow .u32 w x1 x1l x1c x1z ∧ IsRow .u32 w x3 x3l x3c x3z := by
  obtain ⟨ys, m, _, _, hl, hy, hf⟩ := DataW.trod_struct Try.underlying26 h
  have hc : Try.prog.cellsOf 26 = 4 := by kernel_rfl
  have hc24 : Try.prog.cellsOf 24 = 2 := by kernel_rfl
  rw [hc] at hl
  match cs, hl, ys, hy with
  | [c0, c1, c2, c3], _, [y0, y1], _ =>
    have g0 := hf 0 _ rfl
    simp only [List.getElem_toArray, List.getElem_cons_zero, List.getElem_cons_succ] at g0
    rw [hc24] at g0
    obtain ⟨x0, x1, x1l, x1c, x1z, e0, f1⟩ := open_T24 g0
    simp at e0
    have g1 := hf 1 _ rfl
    simp only [List.getElem_toArray, List.getElem_cons_zero, List.getElem_cons_succ] at g1
    rw [hc24] at g1
    obtain ⟨x2, x3, x3l, x3c, x3z, e1, f3⟩ := open_T24 g1
    simp at e1
    exact ⟨x0, x1, x1l, x1c, x1z, x2, x3, x3l, x3c, x3z, by simp_all, f1, f3⟩


set_option maxRecDepth 100000 in
theorem lifted (os : Os) (started : os.Started) (H : Type) (enc : TypeId × Value → H) :
    ReturnsInHanded {} Try.checked os 5 .any (Rows.rationalRoundingSpec.pre6 enc Try.prog Try.f5 Rows.rationalRoundingRow.domain false) (Rows.rationalRoundingSpec.post enc Try.prog Try.f5 false true false false) := by
  refine returnsInHanded_of_change (C := Try.checked) own started (by kernel_rfl) Try.func5
    (ChangeSpec.witness6 (enc := enc) (C := Try.checked) false ⟨#[], #[.agg #[.bool false, .slice none 0 0, .bool false, .slice none 0 0]], []⟩ 8 (by kernel_rfl) (by kernel_rfl) (by kernel_rfl) (by kernel_rfl)) ?_
  intro W base args ds gs before hval0 hW hcnd _
  have hval : ∀ (j : Nat) t v, Try.f5.params[j]? = some t → args[j]? = some v → Value.okWide Try.prog W .any base t v := hval0
  have hW' := hW
  obtain ⟨p, q, hA0, hV, rfl, hfz, hnd⟩ := hW
  have hA : DataW.TrodAll enc Try.prog W 0 (fun _ => true) true Try.f5.params.toList args.toList ds p := hA0
  rw [Try.params5] at hA hval
  obtain ⟨v0, vs0, d0, ds0, p0, q0, hargs, rfl, rfl, h0, r0⟩ := trodAll_cons hA
  obtain ⟨rfl, rfl, rfl⟩ := trodAll_nil r0
  obtain rfl : args = #[v0] := by cases args; simp_all
  obtain ⟨rfl, rfl⟩ := trodVars_none hV
  have k0 := h0
  have lt0 : ∀ x ∈ p0, x.block < W.heap.size := by obtain ⟨m, hm⟩ := k0; exact DataW.trod_lt m _ _ _ hm
  obtain ⟨cs0, rfl, _⟩ := okWide_struct Try.underlying26 (hval 0 26 v0 rfl rfl)
  obtain ⟨m0, hm0⟩ := h0
  obtain ⟨a0_0, a0_1, a0_1l, a0_1c, a0_1z, a0_2, a0_3, a0_3l, a0_3c, a0_3z, e0, wa0_1, wa0_3⟩ := open_T26 hm0
  obtain rfl : cs0 = #[.bool a0_0, .slice a0_1 a0_1l a0_1c, .bool a0_2, .slice a0_3 a0_3l a0_3c] := by cases cs0; simpa [Value.cells] using e0
  clear hA0 hval0
  refine (rationalRounding_walk a0_0 a0_1 a0_1l a0_1c a0_1z a0_2 a0_3 a0_3l a0_3c a0_3z W wa0_1 wa0_3).mono fun e W' ⟨he, bel⟩ => ?_
  subst he
  exact ⟨_, rfl, _, _, _, [], _, [], hW', trodAll_mk1 (shut_bool Try.underlying4 _), (trodAll_cons_mk (Below.trod laidOut (by kernel_rfl) (of_decide_eq_true (by kernel_rfl)) k0 bel lt0) trodAll_mk0), rfl, bel.frame _, fun h => by cases h⟩

theorem over : Rows.rationalRoundingRow.holds Try.pinned (OpenSpec.ofChange Rows.rationalRoundingSpec) :=
  OpenClaim.holds_of_wide 5 Try.f5 rfl rfl rfl rfl rfl rfl rfl ⟨rfl, rfl, rfl, rfl, rfl⟩ rfl rfl rfl rfl rfl (by kernel_rfl) Try.func5 (by kernel_rfl)
    (of_decide_eq_true (by kernel_rfl)) (by unfold Func.isWrapper; first | (rw [if_pos (by decide +kernel)]; kernel_rfl) | (rw [if_neg (by decide +kernel)]; exact ⟨rfl, rfl⟩))
    (fun os started H enc _ => lifted os started H enc)

/-- THE STATEMENT -/
theorem proved : Rows.RationalRoundingSaid := over
#print axioms proved
end Go.Proofs.Ytcofiekfhnfjpaa.rationalRounding
