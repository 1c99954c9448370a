import Derived.Test.YtolnchfgdkeamaaDoorQ6
import Derived.Test.YtolnchfgdkeamaaDoorApp
import Derived.WalkKit
import Derived.WalkSpells
import Derived.WalkLawsBesides
import Derived.Lib.Hide
import Derived.Below
import Derived.Deep.QuietTactic
import Derived.BigQuiet
import Derived.IntWalk
import Derived.Laws.BitsAllLaws
namespace Go.Proofs.YtolnchfgdkeamaaDoor
open Go.RowKit
set_option linter.unusedVariables false
set_option linter.unusedSimpArgs false
theorem RdV.below {w w' : World} {a : Option Addr} {l : List Value} (h : RdV w a l) (hb : Below w.heap.size w w') : RdV w' a l := fun k u hk => by
  obtain ⟨ad, e, hc⟩ := h k u hk
  exact ⟨ad, e, (hb.cell (World.block_lt_of_cell? w _ hc)).trans hc⟩
theorem esc_le (c : UInt8) : (esc c).length ≤ 3 := by
  unfold esc
  split <;> simp
theorem flat_le (s : List UInt8) : (s.flatMap esc).length ≤ 3 * s.length := by
  induction s with
  | nil => simp
  | cons c s ih =>
    have := esc_le c
    rw [List.flatMap_cons, List.length_append, List.length_cons]
    omega
theorem quoteL_le (s : List UInt8) : (quoteL s).length ≤ 3 * s.length + 1 := by
  unfold quoteL
  split
  · simp
  · have := flat_le s
    omega
theorem joinTail_le (c : UInt8) (K : Nat) (r : List (List UInt8)) (h : ∀ x ∈ r, x.length ≤ K) : (Lib.joinTail [c] r).length ≤ r.length * (K + 1) := by
  induction r with
  | nil => simp [Lib.joinTail]
  | cons x r ih =>
    have h1 := ih fun y hy => h y (List.mem_cons_of_mem _ hy)
    have h2 := h x (by simp)
    have e : (Lib.joinTail [c] (x :: r)).length = 1 + x.length + (Lib.joinTail [c] r).length := by simp [Lib.joinTail]; omega
    rw [e, List.length_cons, Nat.add_mul]
    omega
theorem join_le (c : UInt8) (K : Nat) (r : List (List UInt8)) (h : ∀ x ∈ r, x.length ≤ K) : (Lib.join r [c]).length ≤ r.length * (K + 1) := by
  cases r with
  | nil => simp [Lib.join_nil]
  | cons x r =>
    have h1 := joinTail_le c K r fun y hy => h y (List.mem_cons_of_mem _ hy)
    have h2 := h x (by simp)
    rw [Lib.join_cons, List.length_append, List.length_cons, Nat.add_mul]
    omega
/-- The line of a list of texts. -/
def jfL (xs : List ByteArray) : List UInt8 := Lib.join (xs.map fun x => quoteL x.data.toList) [32]
/-- The text of a list of lines. -/
def jlL (xs : List ByteArray) : List UInt8 := xs.flatMap fun x => x.data.toList ++ [10]
theorem jl_at {xs : List ByteArray} {j : Nat} {x : ByteArray} (h : xs[j]? = some x) : jlL (xs.take (j + 1)) = jlL (xs.take j) ++ (x.data.toList ++ [10]) := by
  unfold jlL
  rw [List.take_add_one, h]
  simp
theorem jl_le (xs : List ByteArray) (j : Nat) : (jlL (xs.take j)).length ≤ (jlL xs).length := by
  have h : jlL xs = jlL (xs.take j) ++ jlL (xs.drop j) := by
    unfold jlL
    rw [← List.flatMap_append, List.take_append_drop]
  rw [h, List.length_append]
  omega
def JlR (w : World) (xs : List ByteArray) (n T : Nat) (k : Value) (wr : World) : Prop := ∃ (j : Nat) (bs : List UInt8), j ≤ n ∧ k = .int .i64 j ∧ bs.length ≤ T ∧ Hid (bs = jlL (xs.take j)) ∧ Lib.IsBuilderF 40 5 w.heap.size w.heap.size (Lib.byteCells bs) wr ∧ Below w.heap.size w wr
theorem ws_any (B b : Nat) (bs : List UInt8) (x : ByteArray) (w : World) (h : Lib.IsBuilderF 40 5 B b (Lib.byteCells bs) w) (hl : bs.length + x.size ≤ 140737488355328) (hB : B ≤ w.heap.size) :
    Calls Tryd.prog 34 #[.pointer (some ⟨b, 0, none⟩), .string x] w fun e w' => e = .returned (.tuple #[.int .i64 x.size, .nilIface]) ∧ Lib.IsBuilderF 40 5 B b (Lib.byteCells (bs ++ x.data.toList)) w' ∧ Below B w w' := by
  refine (Tryd.Builder_WriteString_k B b (Lib.byteCells bs) x w h (by rw [Lib.byteCells_length]; omega) hB).mono ?_
  rintro e w' ⟨rfl, h1, h2, _⟩
  refine ⟨rfl, .inr ?_, h2⟩
  have e1 : Lib.byteCells bs ++ Lib.strCells x = Lib.byteCells (bs ++ x.data.toList) := by
    simp [Lib.byteCells, Lib.strCells]
  rwa [e1] at h1
set_option maxRecDepth 50000 in
set_option maxHeartbeats 4000000 in
theorem jlines_any (xs : List ByteArray) (a : Option Addr) (c T : Nat) (w : World) (hr : RdV w a (strV xs)) (hn : xs.length ≤ 1000000) (hT : (jlL xs).length ≤ T) (hT2 : T ≤ 140737488355327) :
    Calls Tryd.prog 22 #[.slice a xs.length c] w fun e w' => e = .returned (.string ⟨(jlL xs).toArray⟩) ∧ Below w.heap.size w w' := by
  have hfi := Lib.IsBuilderF.of (Lib.fresh_isBuilder 40 5 w)
  have hfb := Below.alloc (Below.refl w.heap.size w) (Nat.le_refl _) (.cells #[.pointer none, .slice none 0 0] 40)
  obtain ⟨n, hn2⟩ : ∃ n, xs.length = n := ⟨_, rfl⟩
  rw [hn2] at hn ⊢
  have HN := Lib.hid hn2
  have HT := Lib.hid hT
  have HR := Lib.hid hr
  clear hn2 hT hr
  go_enter Tryd.func22, Tryd.ntmps22
  go_wp2
  go_loopw [5, 8] (fun _ k wr => JlR w xs n T k wr) (fun _ k _ => n - (intOf k).toNat)
  case atStart => exact ⟨0, [], Nat.zero_le _, rfl, Nat.zero_le _, rfl, hfi, hfb⟩
  case round =>
    clear hfi hfb
    obtain ⟨j, bs, hj, rfl, hbl, hbs, hi0, hb0⟩ := hrel
    have hz0 := hb0.size
    by_cases hlt : j < n
    · have hjw : j < xs.length := by have := HN.out; omega
      obtain ⟨x, hx⟩ : ∃ x, xs[j]? = some x := ⟨_, List.getElem?_eq_getElem hjw⟩
      obtain ⟨ad, rfl, hc⟩ := HR.out.below hb0 j (.string x) (strV_get hx)
      have hat := jl_at hx
      have hle := jl_le xs (j + 1)
      rw [hat, ← hbs.out, List.length_append, List.length_append, List.length_singleton] at hle
      have hxs : x.size = x.data.toList.length := str_size rfl
      have hT3 := HT.out
      have hb1 : bs.length + x.size + 1 ≤ T := by omega
      have HA := Lib.hid hat
      clear hat hle hxs hT3 hx hjw
      go_wp2_with (first
        | (go_at_call 34; go_loud ((with_reducible refine (ws_any w.heap.size w.heap.size bs x _ hi0 (by omega) hz0).mono ?_); rintro e w2 ⟨rfl, hi2, hb2'⟩; have hb2 := hb0.trans hb2'; have hz2 := hb2.size; have hl2 : (bs ++ x.data.toList).length ≤ 140737488355327 := by have hxs : x.size = x.data.toList.length := str_size rfl; rw [List.length_append, ← hxs]; omega))
        | (go_at_call 25; go_loud ((with_reducible refine (wb_feed w.heap.size w.heap.size (bs ++ x.data.toList) _ hi2 hl2 hz2).mono ?_); rintro e w3 ⟨rfl, hi3, hb3'⟩; have hb3 := hb2.trans hb3')))
      go_roundw
      case rel =>
        refine ⟨j + 1, bs ++ x.data.toList ++ [10], by omega, by go_num, ?_, ?_, hi3, hb3⟩
        · have hxs : x.size = x.data.toList.length := str_size rfl
          rw [List.length_append, List.length_append, ← hxs]
          simp
          omega
        · show _ = _
          rw [HA.out, hbs.out, List.append_assoc]
      case measure => simp [intOf] <;> omega
    · obtain rfl : j = n := by omega
      have hres : Hid (bs = jlL xs) := by
        show _ = _
        rw [hbs.out, ← HN.out, List.take_length]
      go_wp2_with (go_at_call 27; go_loud ((with_reducible refine (bstr_any w.heap.size w.heap.size bs _ hi0 hz0).mono ?_); rintro e w2 ⟨rfl, hb2⟩))
      go_ret
      exact ⟨by rw [← hres.out]; rfl, hb0.trans hb2⟩
end Go.Proofs.YtolnchfgdkeamaaDoor
