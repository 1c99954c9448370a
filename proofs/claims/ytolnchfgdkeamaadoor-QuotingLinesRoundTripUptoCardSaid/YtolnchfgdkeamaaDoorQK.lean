import Derived.Test.YtolnchfgdkeamaaDoorQJ
import Derived.WalkKit
import Derived.WalkSpells
import Derived.WalkLawsBesides
import Derived.Lib.Hide
import Derived.Below
import Derived.Deep.QuietTactic
import Derived.BigQuiet
import Derived.IntWalk
import Derived.Laws.BitsAllLaws
namespace Go.Proofs.YtolnchfgdkeamaaDoor
open Go.RowKit
set_option linter.unusedVariables false
set_option linter.unusedSimpArgs false
theorem unV_ex (o : Option (List UInt8)) : ∃ (T : ByteArray) (k : Int), unV o = .tuple #[.string T, .int .i64 k] := by
  cases o with
  | none => exact ⟨_, _, rfl⟩
  | some s => exact ⟨_, _, rfl⟩
set_option maxRecDepth 50000 in
set_option maxHeartbeats 4000000 in
theorem quotingWords_walk (S V : ByteArray) (w : World) (hM : Mx w) :
    Calls Tryd.prog 3 #[.string S, .string V] w fun e w' => e = .returned (.bool true) ∧ Below w.heap.size w w' := by
  by_cases hs : S.size ≤ 2000
  case neg =>
    have d1 : decide ((2000 : Int) < (S.size : Int)) = true := by rw [decide_eq_true_iff]; omega
    go_enter Tryd.func3, Tryd.ntmps3
    go_wp2_with (go_at_call 9; (with_reducible refine (example_any _ hM).mono ?_); rintro e w1 ⟨rfl, hb1⟩)
    go_ret
    exact ⟨rfl, hb1⟩
  have d1 : decide ((2000 : Int) < (S.size : Int)) = false := by rw [decide_eq_false_iff_not]; omega
  by_cases hv : V.size ≤ 2000
  case neg =>
    have d2 : decide ((2000 : Int) < (V.size : Int)) = true := by rw [decide_eq_true_iff]; omega
    go_enter Tryd.func3, Tryd.ntmps3
    go_wp2_with (go_at_call 9; (with_reducible refine (example_any _ hM).mono ?_); rintro e w1 ⟨rfl, hb1⟩)
    go_ret
    exact ⟨rfl, hb1⟩
  have d2 : decide ((2000 : Int) < (V.size : Int)) = false := by rw [decide_eq_false_iff_not]; omega
  obtain ⟨ls, hS⟩ : ∃ ls, S.data.toList = ls := ⟨_, rfl⟩
  obtain ⟨lv, hV⟩ : ∃ lv, V.data.toList = lv := ⟨_, rfl⟩
  have hls := str_size hS
  have hlv := str_size hV
  obtain ⟨T, k, hT⟩ := unV_ex (unqL lv)
  obtain ⟨Q, hQ⟩ : ∃ Q : ByteArray, (⟨(quoteL ls).toArray⟩ : ByteArray) = Q := ⟨_, rfl⟩
  have U1 := fun W => unq_any V lv W hV (by omega)
  have U2 := fun W => runq_any V lv W hV (by omega)
  have U3 := fun W => quote_any S ls W hS (by omega)
  have U4 := fun W => rquote_any S ls W hS (by omega)
  rw [hT] at U1 U2
  rw [hQ] at U3 U4
  have hb0 := Below.refl w.heap.size w
  have hz0 := hb0.size
  clear hT hQ hls hlv hS hV hs hv
  go_enter Tryd.func3, Tryd.ntmps3
  go_wp2_with (first
    | (go_at_call 10; (with_reducible refine (U1 _).mono ?_); rintro e w1 ⟨rfl, hb1⟩; have hz1 := hb1.size)
    | (go_at_call 11; (with_reducible refine (U2 _).mono ?_); rintro e w2 ⟨rfl, hb2'⟩; have hb2 := hb1.trans (hb2'.mono hz1); have hz2 := hb2.size)
    | (go_at_call 12; (with_reducible refine (U3 _).mono ?_); rintro e w3 ⟨rfl, hb3'⟩; have hb3 := hb2.trans (hb3'.mono hz2); have hz3 := hb3.size)
    | (go_at_call 13; (with_reducible refine (U4 _).mono ?_); rintro e w4 ⟨rfl, m4, rfl⟩; have hb4 := be_drewN hb3 m4; have hz4 := hb4.size; generalize w3.drewN m4 = w5 at hb4 hz4 ⊢)
    | (go_at_call 9; (with_reducible refine (example_any _ (hM.below hb4)).mono ?_); rintro e w6 ⟨rfl, hb6'⟩; have hb6 := hb4.trans (hb6'.mono hz4)))
  go_ret
  exact ⟨rfl, hb6⟩
end Go.Proofs.YtolnchfgdkeamaaDoor
