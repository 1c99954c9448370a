import Derived.Test.YtolnchfgdkeamaaDoorQB
import Derived.WalkKit
import Derived.WalkSpells
import Derived.WalkLawsBesides
import Derived.Lib.Hide
import Derived.Below
import Derived.Deep.QuietTactic
import Derived.BigQuiet
import Derived.IntWalk
import Derived.Laws.BitsAllLaws
namespace Go.Proofs.YtolnchfgdkeamaaDoor
open Go.RowKit
set_option linter.unusedVariables false
set_option linter.unusedSimpArgs false
theorem join_snoc (ls : List (List UInt8)) (y sep : List UInt8) (h : ls ≠ []) : Lib.join (ls ++ [y]) sep = Lib.join ls sep ++ sep ++ y := by
  cases ls with
  | nil => exact absurd rfl h
  | cons x r =>
    rw [List.cons_append, Lib.join_cons, Lib.join_cons]
    simp [Lib.joinTail]
theorem jf_one {xs : List ByteArray} {x : ByteArray} (h : xs[0]? = some x) : jfL (xs.take (0 + 1)) = quoteL x.data.toList := by
  unfold jfL
  rw [List.take_add_one, h]
  simp [Lib.join_one]
theorem jf_at {xs : List ByteArray} {j : Nat} {x : ByteArray} (h : xs[j]? = some x) (hj : 0 < j) : jfL (xs.take (j + 1)) = jfL (xs.take j) ++ [32] ++ quoteL x.data.toList := by
  unfold jfL
  have hl : j < xs.length := (List.getElem?_eq_some_iff.1 h).1
  rw [List.take_add_one, h]
  simp only [Option.toList_some, List.map_append, List.map_cons, List.map_nil]
  exact join_snoc _ _ _ (by
    intro e
    have := congrArg List.length e
    rw [List.length_map, List.length_take, List.length_nil] at this
    omega)
def RjR (w : World) (xs : List ByteArray) (n : Nat) (sv i : Value) (wr : World) : Prop := ∃ (j : Nat) (W : ByteArray) (m : Nat), j ≤ n ∧ i = .int .i64 j ∧ sv = .string W ∧ W.size ≤ 6000002 * j ∧ Hid (W.data.toList = jfL (xs.take j)) ∧ wr = w.drewN m
theorem RdV.drewN {w : World} {a : Option Addr} {l : List Value} (h : RdV w a l) (n : Nat) : RdV (w.drewN n) a l := h
set_option maxRecDepth 50000 in
set_option maxHeartbeats 4000000 in
theorem rjfields_any (xs : List ByteArray) (a : Option Addr) (c : Nat) (w : World) (hr : RdV w a (strV xs)) (hn : xs.length ≤ 1000000) (hK : ∀ x ∈ xs, x.size ≤ 2000000) :
    Calls Tryd.prog 18 #[.slice a xs.length c] w fun e w' => e = .returned (.string ⟨(jfL xs).toArray⟩) ∧ ∃ m, w' = w.drewN m := by
  obtain ⟨n, hn2⟩ : ∃ n, xs.length = n := ⟨_, rfl⟩
  rw [hn2] at hn ⊢
  have HN := Lib.hid hn2
  have HK := Lib.hid hK
  have HR := Lib.hid hr
  clear hn2 hK hr
  go_enter Tryd.func18, Tryd.ntmps18
  go_wp2
  go_loopw [3, 4] (fun sv i wr => RjR w xs n sv i wr) (fun _ i _ => n - (intOf i).toNat)
  case atStart => exact ⟨0, ⟨#[]⟩, 0, Nat.zero_le _, rfl, rfl, Nat.le_refl _, rfl, rfl⟩
  case round =>
    obtain ⟨j, W, m, hj, rfl, rfl, hwl, hW, rfl⟩ := hrel
    by_cases hlt : j < n
    · have hjw : j < xs.length := by have := HN.out; omega
      obtain ⟨x, hx⟩ : ∃ x, xs[j]? = some x := ⟨_, List.getElem?_eq_getElem hjw⟩
      obtain ⟨ad, rfl, hc⟩ := HR.out.drewN m j (.string x) (strV_get hx)
      have hxm := HK.out x (List.mem_of_getElem? hx)
      have hxs : x.size = x.data.toList.length := str_size rfl
      have HU := Lib.hid (rquote_any x x.data.toList (w.drewN m) rfl (by omega))
      have hq2 := quoteL_le x.data.toList
      obtain ⟨Q, hQ⟩ : ∃ Q : ByteArray, Q = ⟨(quoteL x.data.toList).toArray⟩ := ⟨_, rfl⟩
      rw [← hQ] at HU
      have hQd : Q.data.toList = quoteL x.data.toList := by rw [hQ]
      have hQs : Q.size ≤ 6000001 := by rw [str_size hQd]; omega
      have HQ := Lib.hid hQd
      have HX := Lib.hid hx
      clear hx hxm hxs hjw hq2 hQ hQd
      by_cases h0 : j = 0
      · have hc0 : (w.drewN m).cell? ad = some (.string x) := by
          rw [h0] at hc
          simpa [Addr.add] using hc
        go_wp2_with (go_at_call 13; go_loud ((with_reducible refine HU.out.mono ?_); rintro e w2 ⟨rfl, m2, rfl⟩))
        go_roundw
        case rel =>
          refine ⟨j + 1, W ++ Q, m + m2, by omega, by go_num, rfl, ?_, ?_, by simp⟩
          · rw [str_size (cat_data _ _), List.length_append, ← str_size rfl, ← str_size rfl]
            omega
          · show _ = _
            rw [cat_data, HQ.out, hW.out]
            subst h0
            exact (jf_one HX.out).symm
        case measure => simp [intOf] <;> omega
      · have hj0 : 0 < j := Nat.pos_of_ne_zero h0
        go_wp2_with (go_at_call 13; go_loud ((with_reducible refine HU.out.mono ?_); rintro e w2 ⟨rfl, m2, rfl⟩))
        go_roundw
        case rel =>
          have hd : (W ++ (⟨#[32]⟩ : ByteArray) ++ Q).data.toList = W.data.toList ++ [32] ++ quoteL x.data.toList := by
            rw [cat_data, cat_data, HQ.out]
          refine ⟨j + 1, W ++ ⟨#[32]⟩ ++ Q, m + m2, by omega, by go_num, rfl, ?_, ?_, by simp⟩
          · rw [str_size (cat_data _ _), List.length_append, ← str_size rfl, str_size (cat_data _ _), List.length_append, ← str_size rfl]
            simp
            omega
          · show _ = _
            rw [hd, hW.out, jf_at HX.out hj0]
        case measure => simp [intOf] <;> omega
    · obtain rfl : j = n := by omega
      have hres : Hid (W = ⟨(jfL xs).toArray⟩) := by
        show _ = _
        refine eq_arr ?_
        rw [hW.out, ← HN.out, List.take_length]
      go_wp2
      go_ret
      exact ⟨by rw [← hres.out]; rfl, m, rfl⟩
def RlR (w : World) (xs : List ByteArray) (n T : Nat) (sv i : Value) (wr : World) : Prop := ∃ (j : Nat) (W : ByteArray) (m : Nat), j ≤ n ∧ i = .int .i64 j ∧ sv = .string W ∧ W.size ≤ T ∧ Hid (W.data.toList = jlL (xs.take j)) ∧ wr = w.drewN m
set_option maxRecDepth 50000 in
set_option maxHeartbeats 4000000 in
theorem rjlines_any (xs : List ByteArray) (a : Option Addr) (c T : Nat) (w : World) (hr : RdV w a (strV xs)) (hn : xs.length ≤ 1000000) (hT : (jlL xs).length ≤ T) (hT2 : T ≤ 140737488355327) :
    Calls Tryd.prog 23 #[.slice a xs.length c] w fun e w' => e = .returned (.string ⟨(jlL xs).toArray⟩) ∧ ∃ m, w' = w.drewN m := by
  obtain ⟨n, hn2⟩ : ∃ n, xs.length = n := ⟨_, rfl⟩
  rw [hn2] at hn ⊢
  have HN := Lib.hid hn2
  have HT := Lib.hid hT
  have HR := Lib.hid hr
  clear hn2 hT hr
  go_enter Tryd.func23, Tryd.ntmps23
  go_wp2
  go_loopw [3, 4] (fun sv i wr => RlR w xs n T sv i wr) (fun _ i _ => n - (intOf i).toNat)
  case atStart => exact ⟨0, ⟨#[]⟩, 0, Nat.zero_le _, rfl, rfl, Nat.zero_le _, rfl, rfl⟩
  case round =>
    obtain ⟨j, W, m, hj, rfl, rfl, hwl, hW, rfl⟩ := hrel
    by_cases hlt : j < n
    · have hjw : j < xs.length := by have := HN.out; omega
      obtain ⟨x, hx⟩ : ∃ x, xs[j]? = some x := ⟨_, List.getElem?_eq_getElem hjw⟩
      obtain ⟨ad, rfl, hc⟩ := HR.out.drewN m j (.string x) (strV_get hx)
      have hat := jl_at hx
      have hle := jl_le xs (j + 1)
      rw [hat, ← hW.out, List.length_append, List.length_append, List.length_singleton] at hle
      have hws : W.data.toList.length = W.size := (str_size rfl).symm
      have hxs : x.data.toList.length = x.size := (str_size rfl).symm
      rw [hws, hxs] at hle
      have hT3 := HT.out
      have hwx : W.size + x.size + 1 ≤ T := by omega
      have HX := Lib.hid hx
      clear hx hjw hat hle hws hxs hT3
      go_wp2
      go_roundw
      case rel =>
        refine ⟨j + 1, W ++ (x ++ ⟨#[10]⟩), m, by omega, by go_num, rfl, ?_, ?_, rfl⟩
        · have h1 : (W ++ (x ++ (⟨#[10]⟩ : ByteArray))).data.toList = W.data.toList ++ (x.data.toList ++ [10]) := by rw [cat_data, cat_data]
          rw [str_size h1, List.length_append, List.length_append, ← str_size rfl, ← str_size rfl]
          simp
          omega
        · show _ = _
          rw [cat_data, cat_data, hW.out, jl_at HX.out]
      case measure => simp [intOf] <;> omega
    · obtain rfl : j = n := by omega
      have hres : Hid (W = ⟨(jlL xs).toArray⟩) := by
        show _ = _
        refine eq_arr ?_
        rw [hW.out, ← HN.out, List.take_length]
      go_wp2
      go_ret
      exact ⟨by rw [← hres.out]; rfl, m, rfl⟩
end Go.Proofs.YtolnchfgdkeamaaDoor
