import Derived.Test.YtolnchfgdkeamaaDoorQJ
import Derived.Test.YtolnchfgdkeamaaDoorRows
import Derived.ProofKit
import Derived.OpenShut
import Derived.SliceStrings
import Derived.SizedLaws
import Derived.Lay
import Derived.LaidOnce
import Derived.Deep.DeepHandedRow
namespace Go.Proofs.YtolnchfgdkeamaaDoor
open Go.ChangeShapes Go.WideShapes Go.ChangeAt Go.RowKit
set_option linter.unusedVariables false
set_option linter.unusedSimpArgs false
/-- internal/bytealg.MaxLen holds an int in every world of the program's shape. -/
theorem mx_shape (W : World) (h : W.ShapedOpen Tryd.prog) : Mx W := Tryd.laysM146.s1_3 W h
def tot (xs : List ByteArray) : Nat := (xs.map (·.size)).sum
theorem open_strs_row {H : Type} {enc : TypeId × Value → H} {W : World} {m : Nat} {v : Value} {d : DataW H} {p : List MemPlace} (h : DataW.trod enc Tryd.prog W 0 (fun _ => true) true m 28 [v] = some (d, p)) :
    ∃ (a : Option Addr) (xs sp : List ByteArray) (c : Nat), v = .slice a xs.length c ∧ RdV W a (strV xs) ∧ xs.length ≤ c ∧ c ≤ maxLen ∧ ((d = .nil ∧ xs = []) ∨ d = .slice (strs xs) (strs sp)) := by
  rcases open_strings Tryd.underlying28 Tryd.underlying9 (by kernel_rfl) h with ⟨e, x⟩ | ⟨a, n, c, ss, e, _, hl, hc, hz, x, hcell, _⟩
  · simp only [List.cons.injEq, and_true] at e
    simp only [Prod.mk.injEq] at x
    exact ⟨none, [], [], 0, e, fun k u hk => by simp [strV] at hk, Nat.le_refl _, Nat.zero_le _, .inl ⟨x.1, rfl⟩⟩
  · simp only [List.cons.injEq, and_true] at e
    simp only [Prod.mk.injEq] at x
    have hz2 : ss.length = c := by simpa using hz
    have hn : (ss.take n).length = n := by rw [List.length_take]; omega
    refine ⟨some a, ss.take n, ss.drop n, c, by rw [hn]; exact e, ?_, by rw [hn]; exact hl, hc, .inr x.1⟩
    intro k u hk
    have hk2 : k < n := by
      have := (List.getElem?_eq_some_iff.1 hk).1
      rwa [strV_len, hn] at this
    refine ⟨a, rfl, ?_⟩
    rw [hcell k (by omega), ← hk]
    have h1 : k < ss.length := by omega
    simp [strV, List.getElem?_take, hk2, List.getD, List.getElem?_eq_getElem h1]
theorem bulk_strs {H : Type} (xs : List ByteArray) : Rows.uptoBulkAll (strs (H := H) xs) = tot xs + xs.length := by
  induction xs with
  | nil => simp [strs, tot, Rows.uptoBulkAll]
  | cons x xs ih =>
    have h1 : x.data.toList.length = x.size := (str_size rfl).symm
    unfold strs tot at ih ⊢
    simp only [List.map_cons, Rows.uptoBulkAll, Rows.uptoBulk, ih, List.sum_cons, List.length_cons, h1]
    omega
/-- What the bound says of a list of texts and a text. -/
theorem bulk_two {H : Type} {d : DataW H} {xs sp : List ByteArray} {S : ByteArray} (hd : (d = .nil ∧ xs = []) ∨ d = .slice (strs xs) (strs sp)) (hk : Rows.uptoSmall H [d, .lit (.string S.data.toList)] = true) : tot xs + xs.length + S.size ≤ 1048576 := by
  have h := of_decide_eq_true hk
  have h1 : S.data.toList.length = S.size := (str_size rfl).symm
  simp only [Rows.uptoBulkAll, Rows.uptoBulk, h1] at h
  rcases hd with ⟨rfl, rfl⟩ | rfl
  · simp only [Rows.uptoBulk] at h
    simp only [tot, List.map_nil, List.sum_nil, List.length_nil]
    omega
  · simp only [Rows.uptoBulk, bulk_strs] at h
    omega
theorem weightsAll_mem {H : Type} {P : Program} {e : TypeId} : ∀ {l : List (DataW H)} {d : DataW H}, d ∈ l → ∀ n ∈ d.weights P e, n ∈ DataW.weightsAll P e l
  | d' :: r, d, hd, n, hn => by
    simp only [DataW.weightsAll, List.mem_append]
    rcases List.mem_cons.1 hd with rfl | h
    · exact Or.inl hn
    · exact Or.inr (weightsAll_mem h n hn)
/-- The form's own reach, of the texts in a slice. -/
theorem reach_strs {H : Type} {ts : List TypeId} {d : DataW H} {ds : List (DataW H)} {xs sp : List ByteArray} (hd : (d = .nil ∧ xs = []) ∨ d = .slice (strs xs) (strs sp)) (h : (DataW.weightsEach Tryd.prog (28 :: ts) (d :: ds)).all (· ≤ reachBytes) = true) : ∀ x ∈ xs, x.size ≤ 140737488351232 := by
  intro x hx
  rcases hd with ⟨rfl, rfl⟩ | rfl
  · cases hx
  · have h1 : x.data.toList.length = x.size := (str_size rfl).symm
    rw [← h1]
    refine of_decide_eq_true (p := x.data.toList.length ≤ reachBytes) (List.all_eq_true.1 h _ (DataW.weights_mem_each (j := 0) (t := 28) rfl rfl _ ?_))
    simp only [DataW.weights, Tryd.underlying28, List.mem_cons, List.mem_append]
    refine Or.inr (Or.inl (weightsAll_mem (d := .lit (.string x.data.toList)) (List.mem_map.2 ⟨x, hx, rfl⟩) _ ?_))
    simp [DataW.weights]
abbrev laidV : List (String × DataW Unit) := [("unicode/utf8.acceptRanges", Rows.laid_unicode_utf8_acceptRanges), ("unicode/utf8.first", Rows.laid_unicode_utf8_first)]
set_option maxRecDepth 100000 in
theorem laid_shaped (os : Os) (args : Array Value) : ((World.laidAll Tryd.prog os laidV).forCall (fun _ _ => 0) ⟨#[], args, []⟩).Shaped Tryd.prog := World.shaped_of_ZipB (by kernel_rfl) (by kernel_rfl)
set_option maxRecDepth 100000 in
theorem laid_met (os : Os) (args : Array Value) : laidMetH Tryd.prog laidV ((World.laidAll Tryd.prog os laidV).forCall (fun _ _ => 0) ⟨#[], args, []⟩).memory := by
  rw [MakeChecks.laidMetH_plain _ _ _ (by kernel_rfl)]
  exact laidMet_laidAll _ (by kernel_rfl) (by kernel_rfl)
theorem witness_laid {H : Type} {enc : TypeId × Value → H} {os : Os} {f : FuncId} {fn : Func} {s : OpenSpec} {conds : List PathCond} {apart : Bool} {laid : List (String × DataW Unit)} (modest : Bool) (w0 : World) (args : Array Value) (hos : w0.os = os)
    (hsh : (w0.forCall (fun _ _ => 0) ⟨#[], args, []⟩).Shaped Tryd.prog)
    (hok : Input.okWideB Tryd.prog (w0.forCall (fun _ _ => 0) ⟨#[], args, []⟩) f ⟨#[], args, []⟩ = true)
    (hrow : s.preRow enc Tryd.prog fn conds apart laid (w0.forCall (fun _ _ => 0) ⟨#[], args, []⟩).memory args) :
    ∃ (w : World) (tape : Tape) (i : Input), w.os = os ∧ (w.forCall tape i).Shaped Tryd.prog ∧ i.vars = [] ∧ Input.okWide Tryd.prog (w.forCall tape i) .any w.heap.size f i ∧
      s.preRow enc Tryd.prog fn conds apart laid (w.forCall tape i).memory i.args ∧ ({ modest := modest } : Assume).holds Tryd.prog (lone (Frame.enter Tryd.prog f i.args .normal) [] (w.forCall tape i)) :=
  ⟨w0, fun _ _ => 0, ⟨#[], args, []⟩, hos, hsh, (Input.okWide_of_okWideB (base := 0) hok).1, (Input.okWide_of_okWideB hok).2, hrow, by
    simp only [Assume.holds]
    exact ⟨by simp, by simp, fun _ => Modest.zero, by simp, by simp⟩⟩
end Go.Proofs.YtolnchfgdkeamaaDoor
