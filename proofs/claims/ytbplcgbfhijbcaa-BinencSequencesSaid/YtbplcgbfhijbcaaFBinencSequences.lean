/- THE FRAME of the law BinencSequences: its arguments opened, its walk met ('binencSequences_walk'), its arguments read again. Conditions: none. -/
import Derived.Test.YtbplcgbfhijbcaaRows
import Derived.WalkKit
import Derived.ProofKit
import Derived.OpenShut
import Derived.ShutString
import Derived.ChangeOld
import Derived.Below
import Derived.SizedLaws
import Derived.Deep.Matrix
import Derived.Test.YtbplcgbfhijbcaaGBinencSequences
namespace Go.Proofs.Ytbplcgbfhijbcaa.binencSequences
open Go.ChangeShapes Go.WideShapes Go.ChangeAt Go.RowKit
open Go.ChangeMaps (open_string shut_string)
set_option linter.unusedVariables false
set_option linter.unusedSimpArgs false

theorem own : ownKnob Try.prog.godebug = none := by kernel_rfl
theorem laidOut : laidOutB Try.prog = true := by kernel_rfl
theorem size_T58 {H : Type} {enc : TypeId × Value → H} {w : World} {fuel : Nat} {cs : List Value} {x : DataW H × List MemPlace} (h : DataW.trod enc Try.prog w 0 (fun _ => true) true fuel 58 cs = some x) {a : Option Addr} {l c : Nat} (hc : cs = [.slice a l c]) :
    c = 0 ∨ ∃ es ss, x.1 = .slice es ss ∧ es.length + ss.length = c := by
  rcases open_ints Try.underlying58 Try.underlying3 (by kernel_rfl) h with ⟨hcs, _⟩ | ⟨a', l', c', zs, hcs, _, hl, hm, hz, hx, _, _⟩
  · left; rw [hcs] at hc; injection hc with hc; injection hc with _ _ hc; exact hc.symm
  · right
    rw [hcs] at hc; injection hc with hc; injection hc with _ _ hc
    refine ⟨_, _, by rw [hx], ?_⟩
    have hz2 : zs.length = c' := by simpa using hz
    simp only [lits, List.length_map, List.length_take, List.length_drop]
    omega
theorem bytes_3 : Try.prog.bytesOf 3 = 8 := by kernel_rfl
theorem size_T23 {H : Type} {enc : TypeId × Value → H} {w : World} {fuel : Nat} {cs : List Value} {x : DataW H × List MemPlace} (h : DataW.trod enc Try.prog w 0 (fun _ => true) true fuel 23 cs = some x) {a : Option Addr} {l c : Nat} (hc : cs = [.slice a l c]) :
    c = 0 ∨ ∃ es ss, x.1 = .slice es ss ∧ es.length + ss.length = c := by
  rcases open_ints Try.underlying23 Try.underlying5 (by kernel_rfl) h with ⟨hcs, _⟩ | ⟨a', l', c', zs, hcs, _, hl, hm, hz, hx, _, _⟩
  · left; rw [hcs] at hc; injection hc with hc; injection hc with _ _ hc; exact hc.symm
  · right
    rw [hcs] at hc; injection hc with hc; injection hc with _ _ hc
    refine ⟨_, _, by rw [hx], ?_⟩
    have hz2 : zs.length = c' := by simpa using hz
    simp only [lits, List.length_map, List.length_take, List.length_drop]
    omega
theorem bytes_5 : Try.prog.bytesOf 5 = 1 := by kernel_rfl

set_option maxRecDepth 20000 in
theorem open_T58 {H : Type} {enc : TypeId × Value → H} {w : World} {fuel : Nat} {cs : List Value} {x : DataW H × List MemPlace} (h : DataW.trod enc Try.prog w 0 (fun _ => true) true fuel 58 cs = some x) :
    ∃ (x0 : Option Addr) (x0l x0c : Nat) (x0z : List Int), cs = [.slice x0 x0l x0c] ∧ IsRow .i64 w x0 x0l x0c x0z := by
  rcases open_ints Try.underlying58 Try.underlying3 (by kernel_rfl) h with ⟨hcs, _⟩ | ⟨a, l, c, zs, hcs, _, hl, hm, hz, _, hcell, hwz⟩
  · exact ⟨none, 0, 0, [], hcs, .inl ⟨rfl, rfl, rfl, rfl⟩⟩
  · exact ⟨some a, l, c, zs, hcs, .inr ⟨a, rfl, hl, hm, by simpa using hz, hcell, hwz⟩⟩

set_option maxRecDepth 20000 in
theorem open_T23 {H : Type} {enc : TypeId × Value → H} {w : World} {fuel : Nat} {cs : List Value} {x : DataW H × List MemPlace} (h : DataW.trod enc Try.prog w 0 (fun _ => true) true fuel 23 cs = some x) :
    ∃ (x0 : Option Addr) (x0l x0c : Nat) (x0z : List Int), cs = [.slice x0 x0l x0c] ∧ IsRow .u8 w x0 x0l x0c x0z := by
  rcases open_ints Try.underlying23 Try.underlying5 (by kernel_rfl) h with ⟨hcs, _⟩ | ⟨a, l, c, zs, hcs, _, hl, hm, hz, _, hcell, hwz⟩
  · exact ⟨none, 0, 0, [], hcs, .inl ⟨rfl, rfl, rfl, rfl⟩⟩
  · exact ⟨some a, l, c, zs, hcs, .inr ⟨a, rfl, hl, hm, by simpa using hz, hcell, hwz⟩⟩


set_option maxRecDepth 100000 in
theorem lifted (os : Os) (started : os.Started) (H : Type) (enc : TypeId × Value → H) :
    ReturnsInHanded {} Try.checked os 11 .any (Rows.binencSequencesSpec.pre6 enc Try.prog Try.f11 Rows.binencSequencesRow.domain false) (Rows.binencSequencesSpec.post enc Try.prog Try.f11 false true false false) := by
  refine returnsInHanded_of_change_sized (C := Try.checked) own started (by kernel_rfl) Try.func11
    (ChangeSpec.witness6 (enc := enc) (C := Try.checked) false ⟨#[], #[.slice none 0 0, .slice none 0 0, .slice none 0 0], []⟩ 8 (by kernel_rfl) (by kernel_rfl) (by kernel_rfl) (by kernel_rfl)) ?_
  intro W base args ds gs before hval0 hW hcnd hsz0 _
  have hval : ∀ (j : Nat) t v, Try.f11.params[j]? = some t → args[j]? = some v → Value.okWide Try.prog W .any base t v := hval0
  have hW' := hW
  obtain ⟨p, q, hA0, hV, rfl, hfz, hnd⟩ := hW
  have hA : DataW.TrodAll enc Try.prog W 0 (fun _ => true) true Try.f11.params.toList args.toList ds p := hA0
  rw [Try.params11] at hA hval
  obtain ⟨v0, vs0, d0, ds0, p0, q0, hargs, rfl, rfl, h0, r0⟩ := trodAll_cons hA
  obtain ⟨v1, vs1, d1, ds1, p1, q1, rfl, rfl, rfl, h1, r1⟩ := trodAll_cons r0
  obtain ⟨v2, vs2, d2, ds2, p2, q2, rfl, rfl, rfl, h2, r2⟩ := trodAll_cons r1
  obtain ⟨rfl, rfl, rfl⟩ := trodAll_nil r2
  obtain rfl : args = #[v0, v1, v2] := by cases args; simp_all
  obtain ⟨rfl, rfl⟩ := trodVars_none hV
  have k0 := h0
  have lt0 : ∀ x ∈ p0, x.block < W.heap.size := by obtain ⟨m, hm⟩ := k0; exact DataW.trod_lt m _ _ _ hm
  obtain ⟨b0, b0l, b0c, rfl⟩ := okWide_slice Try.underlying58 (hval 0 58 v0 rfl rfl)
  obtain ⟨m0, hm0⟩ := h0
  obtain ⟨a0, a0l, a0c, a0z, e0, wa0⟩ := open_T58 hm0
  have z0 : a0c * 8 ≤ 140737488351232 := by
    rcases size_T58 hm0 e0 with h | ⟨es, ss, h1, h2⟩
    · rw [h]; omega
    · have h1' : d0 = .slice es ss := h1
      subst h1'
      have this : (es.length + ss.length) * Try.prog.bytesOf 3 ≤ reachBytes := sized_slice hsz0 (j := 0) (t := 58) (e := 3) rfl rfl Try.underlying58
      rw [bytes_3, h2] at this
      simpa [reachBytes] using this
  simp [Value.cells] at e0
  obtain ⟨e0a, e0b, e0c⟩ := e0
  have e0sa := e0a.symm
  have e0sb := e0b.symm
  have e0sc := e0c.symm
  subst e0sa e0sb e0sc
  have k1 := h1
  have lt1 : ∀ x ∈ p1, x.block < W.heap.size := by obtain ⟨m, hm⟩ := k1; exact DataW.trod_lt m _ _ _ hm
  obtain ⟨b1, b1l, b1c, rfl⟩ := okWide_slice Try.underlying23 (hval 1 23 v1 rfl rfl)
  obtain ⟨m1, hm1⟩ := h1
  obtain ⟨a1, a1l, a1c, a1z, e1, wa1⟩ := open_T23 hm1
  have z1 : a1c * 1 ≤ 140737488351232 := by
    rcases size_T23 hm1 e1 with h | ⟨es, ss, h1, h2⟩
    · rw [h]; omega
    · have h1' : d1 = .slice es ss := h1
      subst h1'
      have this : (es.length + ss.length) * Try.prog.bytesOf 5 ≤ reachBytes := sized_slice hsz0 (j := 1) (t := 23) (e := 5) rfl rfl Try.underlying23
      rw [bytes_5, h2] at this
      simpa [reachBytes] using this
  simp [Value.cells] at e1
  obtain ⟨e1a, e1b, e1c⟩ := e1
  have e1sa := e1a.symm
  have e1sb := e1b.symm
  have e1sc := e1c.symm
  subst e1sa e1sb e1sc
  have k2 := h2
  have lt2 : ∀ x ∈ p2, x.block < W.heap.size := by obtain ⟨m, hm⟩ := k2; exact DataW.trod_lt m _ _ _ hm
  obtain ⟨b2, b2l, b2c, rfl⟩ := okWide_slice Try.underlying23 (hval 2 23 v2 rfl rfl)
  obtain ⟨m2, hm2⟩ := h2
  obtain ⟨a2, a2l, a2c, a2z, e2, wa2⟩ := open_T23 hm2
  have z2 : a2c * 1 ≤ 140737488351232 := by
    rcases size_T23 hm2 e2 with h | ⟨es, ss, h1, h2⟩
    · rw [h]; omega
    · have h1' : d2 = .slice es ss := h1
      subst h1'
      have this : (es.length + ss.length) * Try.prog.bytesOf 5 ≤ reachBytes := sized_slice hsz0 (j := 2) (t := 23) (e := 5) rfl rfl Try.underlying23
      rw [bytes_5, h2] at this
      simpa [reachBytes] using this
  simp [Value.cells] at e2
  obtain ⟨e2a, e2b, e2c⟩ := e2
  have e2sa := e2a.symm
  have e2sb := e2b.symm
  have e2sc := e2c.symm
  subst e2sa e2sb e2sc
  clear hA0 hval0
  refine (binencSequences_walk a0 a0l a0c a0z a1 a1l a1c a1z a2 a2l a2c a2z W wa0 wa1 wa2 z0 z1 z2).mono fun e W' ⟨he, bel⟩ => ?_
  subst he
  exact ⟨_, rfl, _, _, _, [], _, [], hW', trodAll_mk1 (shut_bool Try.underlying4 _), (trodAll_cons_mk (Below.trod laidOut (by kernel_rfl) (of_decide_eq_true (by kernel_rfl)) k0 bel lt0) (trodAll_cons_mk (Below.trod laidOut (by kernel_rfl) (of_decide_eq_true (by kernel_rfl)) k1 bel lt1) (trodAll_cons_mk (Below.trod laidOut (by kernel_rfl) (of_decide_eq_true (by kernel_rfl)) k2 bel lt2) trodAll_mk0))), rfl, bel.frame _, fun h => by cases h⟩

theorem over : Rows.binencSequencesRow.holds Try.pinned (OpenSpec.ofChange Rows.binencSequencesSpec) :=
  OpenClaim.holds_of_wide 11 Try.f11 rfl rfl rfl rfl rfl rfl rfl ⟨rfl, rfl, rfl, rfl, rfl⟩ rfl rfl rfl rfl rfl (by kernel_rfl) Try.func11 (by kernel_rfl)
    (of_decide_eq_true (by kernel_rfl)) (by unfold Func.isWrapper; first | (rw [if_pos (by decide +kernel)]; kernel_rfl) | (rw [if_neg (by decide +kernel)]; exact ⟨rfl, rfl⟩))
    (fun os started H enc _ => lifted os started H enc)

/-- THE STATEMENT -/
theorem proved : Rows.BinencSequencesSaid := over
#print axioms proved
end Go.Proofs.Ytbplcgbfhijbcaa.binencSequences
