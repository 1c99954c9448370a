/- THE FRAME of the law NumtextInjective: its arguments opened, its walk met ('numtextInjective_walk'), its arguments read again. Conditions: none. -/
import Derived.Test.YtdkbmpncohhioaaGreatDoorRows
import Derived.WalkKit
import Derived.ProofKit
import Derived.OpenShut
import Derived.ShutString
import Derived.ChangeOld
import Derived.Below
import Derived.Deep.Matrix
import Derived.Test.YtdkbmpncohhioaaGreatDoorGNumtextInjective
import Derived.Test.YtdkbmpncohhioaaGreatDoorNtO
import Derived.Test.YtdkbmpncohhioaaGreatDoorCards
import Derived.Test.YtdkbmpncohhioaaGreatDoorTie
import Derived.SevenTiedAt
import Derived.LaidMore
import Derived.Stop.Joined
import Derived.Deep.DeepHandedRow
namespace Go.Proofs.YtdkbmpncohhioaaGreatDoor.numtextInjective
open Go.ChangeShapes Go.WideShapes Go.ChangeAt Go.RowKit
open Go.WideMaps Go.WideElems
open Go.ChangeMaps (open_string shut_string)
set_option linter.unusedVariables false
set_option linter.unusedSimpArgs false

theorem own : ownKnob Tryz.prog.godebug = none := by kernel_rfl
theorem laidOut : laidOutB Tryz.prog = true := by kernel_rfl

set_option maxRecDepth 20000 in
theorem open_T3 {H : Type} {enc : TypeId × Value → H} {w : World} {fuel : Nat} {cs : List Value} {x : DataW H × List MemPlace} (h : DataW.trod enc Tryz.prog w 0 (fun _ => true) true fuel 3 cs = some x) :
    ∃ (x0 : Int), cs = [.int .i64 x0] ∧ (Lit.int .i64 x0).wf = true := by
  obtain ⟨n, h1, _, h2⟩ := DataW.trod_int Tryz.underlying3 h
  exact ⟨n, h1, h2⟩

set_option maxRecDepth 20000 in
theorem open_T4 {H : Type} {enc : TypeId × Value → H} {w : World} {fuel : Nat} {cs : List Value} {x : DataW H × List MemPlace} (h : DataW.trod enc Tryz.prog w 0 (fun _ => true) true fuel 4 cs = some x) :
    ∃ (x0 : Bool), cs = [.bool x0] := by
  obtain ⟨n, h1, _⟩ := DataW.trod_bool Tryz.underlying4 h
  exact ⟨n, h1⟩

set_option maxRecDepth 20000 in
theorem open_T29 {H : Type} {enc : TypeId × Value → H} {w : World} {fuel : Nat} {cs : List Value} {x : DataW H × List MemPlace} (h : DataW.trod enc Tryz.prog w 0 (fun _ => true) true fuel 29 cs = some x) :
    ∃ (x0 : Option Addr) (x0l x0c : Nat) (x0z : List Int), cs = [.slice x0 x0l x0c] ∧ IsRow .u32 w x0 x0l x0c x0z := by
  rcases open_ints Tryz.underlying29 Tryz.underlying42 (by kernel_rfl) h with ⟨hcs, _⟩ | ⟨a, l, c, zs, hcs, _, hl, hm, hz, _, hcell, hwz⟩
  · exact ⟨none, 0, 0, [], hcs, .inl ⟨rfl, rfl, rfl, rfl⟩⟩
  · exact ⟨some a, l, c, zs, hcs, .inr ⟨a, rfl, hl, hm, by simpa using hz, hcell, hwz⟩⟩

set_option maxRecDepth 20000 in
theorem open_T31 {H : Type} {enc : TypeId × Value → H} {w : World} {fuel : Nat} {cs : List Value} {x : DataW H × List MemPlace} (h : DataW.trod enc Tryz.prog w 0 (fun _ => true) true fuel 31 cs = some x) :
    ∃ (x0 : Bool) (x1 : Option Addr) (x1l x1c : Nat) (x1z : List Int), cs = [.bool x0, .slice x1 x1l x1c] ∧ IsRow .u32 w x1 x1l x1c x1z := by
  obtain ⟨ys, m, _, _, hl, hy, hf⟩ := DataW.trod_struct Tryz.underlying31 h
  have hc : Tryz.prog.cellsOf 31 = 2 := by kernel_rfl
  have hc4 : Tryz.prog.cellsOf 4 = 1 := by kernel_rfl
  have hc29 : Tryz.prog.cellsOf 29 = 1 := by kernel_rfl
  rw [hc] at hl
  match cs, hl, ys, hy with
  | [c0, c1], _, [y0, y1], _ =>
    have g0 := hf 0 _ rfl
    simp only [List.getElem_toArray, List.getElem_cons_zero, List.getElem_cons_succ] at g0
    rw [hc4] at g0
    obtain ⟨x0, e0⟩ := open_T4 g0
    simp at e0
    have g1 := hf 1 _ rfl
    simp only [List.getElem_toArray, List.getElem_cons_zero, List.getElem_cons_succ] at g1
    rw [hc29] at g1
    obtain ⟨x1, x1l, x1c, x1z, e1, f1⟩ := open_T29 g1
    simp at e1
    exact ⟨x0, x1, x1l, x1c, x1z, by simp_all, f1⟩

set_option maxRecDepth 20000 in
theorem open_T33 {H : Type} {enc : TypeId × Value → H} {w : World} {fuel : Nat} {cs : List Value} {x : DataW H × List MemPlace} (h : DataW.trod enc Tryz.prog w 0 (fun _ => true) true fuel 33 cs = some x) :
    ∃ (x0 : Bool) (x1 : Option Addr) (x1l x1c : Nat) (x1z : List Int) (x2 : Bool) (x3 : Option Addr) (x3l x3c : Nat) (x3z : List Int), cs = [.bool x0, .slice x1 x1l x1c, .bool x2, .slice x3 x3l x3c] ∧ IsRow .u32 w x1 x1l x1c x1z ∧ IsRow .u32 w x3 x3l x3c x3z := by
  obtain ⟨ys, m, _, _, hl, hy, hf⟩ := DataW.trod_struct Tryz.underlying33 h
  have hc : Tryz.prog.cellsOf 33 = 4 := by kernel_rfl
  have hc31 : Tryz.prog.cellsOf 31 = 2 := by kernel_rfl
  rw [hc] at hl
  match cs, hl, ys, hy with
  | [c0, c1, c2, c3], _, [y0, y1], _ =>
    have g0 := hf 0 _ rfl
    simp only [List.getElem_toArray, List.getElem_cons_zero, List.getElem_cons_succ] at g0
    rw [hc31] at g0
    obtain ⟨x0, x1, x1l, x1c, x1z, e0, f1⟩ := open_T31 g0
    simp at e0
    have g1 := hf 1 _ rfl
    simp only [List.getElem_toArray, List.getElem_cons_zero, List.getElem_cons_succ] at g1
    rw [hc31] at g1
    obtain ⟨x2, x3, x3l, x3c, x3z, e1, f3⟩ := open_T31 g1
    simp at e1
    exact ⟨x0, x1, x1l, x1c, x1z, x2, x3, x3l, x3c, x3z, by simp_all, f1, f3⟩


set_option maxRecDepth 100000 in
theorem contract (H : Type) (enc : TypeId × Value → H) (W : World) (base : Nat) (args : Array Value) (ds gs : List (DataW H)) (before : List MemPlace)
    (hval0 : ∀ (j : Nat) t v, Tryz.f5.params[j]? = some t → args[j]? = some v → Value.okWide Tryz.prog W .any base t v)
    (hW : DataW.Whole enc Tryz.prog Tryz.f5.params.toList Rows.numtextInjectiveSpec.vars false W args.toList ds gs before)
    (hL : laidMetH Tryz.prog laidV W) (hsh : W.ShapedOpen Tryz.prog) :
    Calls Tryz.prog 5 args W fun e W' => ∃ v, e = .returned v ∧ Rows.numtextInjectiveSpec.post enc Tryz.prog Tryz.f5 false true false false W args v W' := by
  have hval : ∀ (j : Nat) t v, Tryz.f5.params[j]? = some t → args[j]? = some v → Value.okWide Tryz.prog W .any base t v := hval0
  have hW' := hW
  obtain ⟨p, q, hA0, hV, rfl, hfz, hnd⟩ := hW
  have hA : DataW.TrodAll enc Tryz.prog W 0 (fun _ => true) true Tryz.f5.params.toList args.toList ds p := hA0
  rw [Tryz.params5] at hA hval
  obtain ⟨v0, vs0, d0, ds0, p0, q0, hargs, rfl, rfl, h0, r0⟩ := trodAll_cons hA
  obtain ⟨v1, vs1, d1, ds1, p1, q1, rfl, rfl, rfl, h1, r1⟩ := trodAll_cons r0
  obtain ⟨v2, vs2, d2, ds2, p2, q2, rfl, rfl, rfl, h2, r2⟩ := trodAll_cons r1
  obtain ⟨v3, vs3, d3, ds3, p3, q3, rfl, rfl, rfl, h3, r3⟩ := trodAll_cons r2
  obtain ⟨rfl, rfl, rfl⟩ := trodAll_nil r3
  obtain rfl : args = #[v0, v1, v2, v3] := by cases args; simp_all
  obtain ⟨rfl, rfl⟩ := trodVars_none hV
  have k0 := h0
  have lt0 : ∀ x ∈ p0, x.block < W.heap.size := by obtain ⟨m, hm⟩ := k0; exact DataW.trod_lt m _ _ _ hm
  obtain ⟨b0, rfl⟩ := okWide_int Tryz.underlying3 (hval 0 3 v0 rfl rfl)
  obtain ⟨m0, hm0⟩ := h0
  obtain ⟨a0, e0, wa0⟩ := open_T3 hm0
  simp [Value.cells] at e0
  have e0s := e0.symm
  subst e0s
  have k1 := h1
  have lt1 : ∀ x ∈ p1, x.block < W.heap.size := by obtain ⟨m, hm⟩ := k1; exact DataW.trod_lt m _ _ _ hm
  obtain ⟨b1, rfl⟩ := okWide_int Tryz.underlying3 (hval 1 3 v1 rfl rfl)
  obtain ⟨m1, hm1⟩ := h1
  obtain ⟨a1, e1, wa1⟩ := open_T3 hm1
  simp [Value.cells] at e1
  have e1s := e1.symm
  subst e1s
  have k2 := h2
  have lt2 : ∀ x ∈ p2, x.block < W.heap.size := by obtain ⟨m, hm⟩ := k2; exact DataW.trod_lt m _ _ _ hm
  obtain ⟨cs2, rfl, _⟩ := okWide_struct Tryz.underlying33 (hval 2 33 v2 rfl rfl)
  obtain ⟨m2, hm2⟩ := h2
  obtain ⟨a2_0, a2_1, a2_1l, a2_1c, a2_1z, a2_2, a2_3, a2_3l, a2_3c, a2_3z, e2, wa2_1, wa2_3⟩ := open_T33 hm2
  obtain rfl : cs2 = #[.bool a2_0, .slice a2_1 a2_1l a2_1c, .bool a2_2, .slice a2_3 a2_3l a2_3c] := by cases cs2; simpa [Value.cells] using e2
  have k3 := h3
  have lt3 : ∀ x ∈ p3, x.block < W.heap.size := by obtain ⟨m, hm⟩ := k3; exact DataW.trod_lt m _ _ _ hm
  obtain ⟨cs3, rfl, _⟩ := okWide_struct Tryz.underlying33 (hval 3 33 v3 rfl rfl)
  obtain ⟨m3, hm3⟩ := h3
  obtain ⟨a3_0, a3_1, a3_1l, a3_1c, a3_1z, a3_2, a3_3, a3_3l, a3_3c, a3_3z, e3, wa3_1, wa3_3⟩ := open_T33 hm3
  obtain rfl : cs3 = #[.bool a3_0, .slice a3_1 a3_1l a3_1c, .bool a3_2, .slice a3_3 a3_3l a3_3c] := by cases cs3; simpa [Value.cells] using e3
  clear hA0 hval0
  refine (numtextInjective_walk a0 a1 a2_0 a2_1 a2_1l a2_1c a2_1z a2_2 a2_3 a2_3l a2_3c a2_3z a3_0 a3_1 a3_1l a3_1c a3_1z a3_2 a3_3 a3_3l a3_3c a3_3z W wa0 wa1 wa2_1 wa2_3 wa3_1 wa3_3 (tb_of_laid hL) (mx_shape W hsh)).mono fun e W' ⟨he, bel⟩ => ?_
  subst he
  exact ⟨_, rfl, _, _, _, [], _, [], hW', trodAll_mk1 (shut_bool Tryz.underlying4 _), (trodAll_cons_mk (Below.trod laidOut (by kernel_rfl) (of_decide_eq_true (by kernel_rfl)) k0 bel lt0) (trodAll_cons_mk (Below.trod laidOut (by kernel_rfl) (of_decide_eq_true (by kernel_rfl)) k1 bel lt1) (trodAll_cons_mk (Below.trod laidOut (by kernel_rfl) (of_decide_eq_true (by kernel_rfl)) k2 bel lt2) (trodAll_cons_mk (Below.trod laidOut (by kernel_rfl) (of_decide_eq_true (by kernel_rfl)) k3 bel lt3) trodAll_mk0)))), rfl, bel.frame _, fun h => by cases h⟩

theorem reads (os : Os) {H : Type} (enc : TypeId × Value → H) : ∃ places, DataW.whole enc Tryz.prog ((World.laidAll Tryz.prog os laidV).forCall (fun _ _ => 0) ⟨#[], #[.int .i64 0, .int .i64 0, .agg #[.bool false, .slice none 0 0, .bool false, .slice none 0 0], .agg #[.bool false, .slice none 0 0, .bool false, .slice none 0 0]], []⟩).memory Tryz.f5.params.toList Rows.numtextInjectiveSpec.vars false #[.int .i64 0, .int .i64 0, .agg #[.bool false, .slice none 0 0, .bool false, .slice none 0 0], .agg #[.bool false, .slice none 0 0, .bool false, .slice none 0 0]].toList 8 = some ([.lit (.int .i64 0), .lit (.int .i64 0), .agg [.agg [.lit (.bool false), .nil], .agg [.lit (.bool false), .nil]], .agg [.agg [.lit (.bool false), .nil], .agg [.lit (.bool false), .nil]]], [], places) :=
  ⟨[], by kernel_rfl⟩

set_option maxRecDepth 100000 in
theorem lifted (os : Os) (started : os.Started) (H : Type) (enc : TypeId × Value → H) (F : Stop.Interp) :
    ReturnsInHanded {} Tryz.checked os 5 .any ((OpenSpec.ofChange Rows.numtextInjectiveSpec).preRow enc Tryz.prog Tryz.f5 Rows.numtextInjectiveRow.domain false Rows.numtextInjectiveRow.laid) (((OpenSpec.ofChange Rows.numtextInjectiveSpec).at F).post enc Tryz.prog Tryz.f5 false true false false) := by
  obtain ⟨places, hx⟩ := reads os enc
  refine returnsInHanded_of_row (C := Tryz.checked) (s := (OpenSpec.ofChange Rows.numtextInjectiveSpec)) own started (by kernel_rfl) Tryz.func5
    (witness_laid (enc := enc) false (World.laidAll Tryz.prog os laidV) #[.int .i64 0, .int .i64 0, .agg #[.bool false, .slice none 0 0, .bool false, .slice none 0 0], .agg #[.bool false, .slice none 0 0, .bool false, .slice none 0 0]] (World.laidAll_os _ _ _) (laid_shaped os _) (by kernel_rfl)
      (OpenSpec.preRow_of_cond 8 hx (by kernel_rfl) (fun k hk => by cases hk) (by kernel_rfl) (laid_met os _))) ?_
  intro W base args ds gs before hval hW _ _ _ hL hsh _
  exact contract H enc W base args ds gs before hval hW hL hsh

theorem over : Rows.numtextInjectiveRow.holds Tryz.pinned (OpenSpec.ofChange Rows.numtextInjectiveSpec) :=
  OpenClaim.holds_of_cond 5 Tryz.f5 rfl rfl rfl rfl rfl rfl rfl ⟨rfl, rfl, rfl, rfl, rfl⟩ rfl rfl rfl rfl rfl (by kernel_rfl) Tryz.func5 (by kernel_rfl)
    (of_decide_eq_true (by kernel_rfl)) (by unfold Func.isWrapper; first | (rw [if_pos (by decide +kernel)]; kernel_rfl) | (rw [if_neg (by decide +kernel)]; exact ⟨rfl, rfl⟩))
    (fun os started H enc _ F => by rw [OpenClaim.pre_eq_preRow]; exact lifted os started H enc F)

/-- THE STATEMENT -/
theorem proved : Rows.NumtextInjectiveCardSaid :=
  Claim7.holds_tied_plain_at .later [] [.data, .data, .data] true (true, "c32c992fa66bb8412dab8e3bb613cb86e2902bef6fad5d5cf543cc0c9cdb7097") false
    over (fun _ h => by cases h) (by kernel_rfl) (fun _ h => by cases h) numtextInjective_row_tie rfl ⟨rfl, rfl⟩ (by kernel_rfl) rfl
    (fun f fn hf hfn => by
      obtain rfl : f = 5 := Option.some.inj ((show Tryz.prog.funcNamed "grisaille/grisaillelaw04.NumtextInjective" = some 5 by kernel_rfl).symm.trans hf) |>.symm
      obtain rfl : fn = Tryz.f5 := (Option.some.inj (Tryz.func5.symm.trans hfn)).symm
      exact ⟨by kernel_rfl, fun j t ht => by
        rw [Tryz.params5] at ht
        have hm : t ∈ [3, 3, 33, 33] := by simpa using Array.mem_of_getElem? ht
        have hall : ([3, 3, 33, 33].all fun u => !Tryz.prog.wantsStandIn u) = true := by kernel_rfl
        exact (show Tryz.prog.wantsStandIn t = false by simpa using List.all_eq_true.1 hall t hm)⟩)
    (by kernel_rfl)
#print axioms proved
end Go.Proofs.YtdkbmpncohhioaaGreatDoor.numtextInjective
