import Derived.Test.YtolnchfgdkeamaaDoorQ7
import Derived.WalkKit
import Derived.WalkSpells
import Derived.WalkLawsBesides
import Derived.Lib.Hide
import Derived.Below
import Derived.Deep.QuietTactic
import Derived.BigQuiet
import Derived.IntWalk
import Derived.Laws.BitsAllLaws
namespace Go.Proofs.YtolnchfgdkeamaaDoor
open Go.RowKit
set_option linter.unusedVariables false
set_option linter.unusedSimpArgs false
def qB (x : ByteArray) : ByteArray := ⟨(quoteL x.data.toList).toArray⟩
theorem jfL_eq (xs : List ByteArray) : Lib.join ((xs.map qB).map (·.data.toList)) [32] = jfL xs := by
  unfold jfL
  rw [List.map_map]
  rfl
theorem jfL_le (xs : List ByteArray) (K : Nat) (h : ∀ x ∈ xs, x.size ≤ K) : (jfL xs).length ≤ xs.length * (3 * K + 2) := by
  have h2 := join_le 32 (3 * K + 1) (xs.map fun x => quoteL x.data.toList) (by
    intro y hy
    obtain ⟨x, hx, rfl⟩ := List.mem_map.1 hy
    have h1 := h x hx
    have h3 := quoteL_le x.data.toList
    have h4 : x.size = x.data.toList.length := str_size rfl
    omega)
  rw [List.length_map] at h2
  exact h2
def JfR (w : World) (xs : List ByteArray) (n : Nat) (k : Value) (wr : World) : Prop := ∃ (j : Nat) (ys : List ByteArray), j ≤ n ∧ k = .int .i64 j ∧ ys.length = j ∧ Hid (ys = (xs.take j).map qB) ∧ wr.ownsRow w.heap.size 9 1 (.slice (some ⟨w.heap.size, 0, none⟩) n n) n (strV (ys ++ emp (n - ys.length))) ∧ Below w.heap.size w wr
set_option maxRecDepth 50000 in
set_option maxHeartbeats 4000000 in
theorem jfields_any (xs : List ByteArray) (a : Option Addr) (c : Nat) (w : World) (hr : RdV w a (strV xs)) (hn : xs.length ≤ 1000000) (hK : ∀ x ∈ xs, x.size ≤ 2000000) :
    Calls Tryd.prog 17 #[.slice a xs.length c] w fun e w' => e = .returned (.string ⟨(jfL xs).toArray⟩) ∧ Below w.heap.size w w' := by
  have hjl := jfL_le xs 2000000 hK
  obtain ⟨n, hn2⟩ : ∃ n, xs.length = n := ⟨_, rfl⟩
  rw [hn2] at hn hjl ⊢
  have hmk := run_make_row' (P := Tryd.prog) 28 9 (.string ⟨#[]⟩) 16 Tryd.underlying28 infoS rfl .i64 .i64 n (by omega) (by omega)
  have ho2 := madeS w n (by omega)
  have hb2 := Below.alloc (Below.refl w.heap.size w) (Nat.le_refl _) (.cells (madeCells #[Value.string ⟨#[]⟩] n) 9)
  have hjl2 : (jfL xs).length ≤ 140737488355328 := by
    have : n * (3 * 2000000 + 2) ≤ 1000000 * (3 * 2000000 + 2) := Nat.mul_le_mul_right _ hn
    omega
  have HN := Lib.hid hn2
  have HK := Lib.hid hK
  have HR := Lib.hid hr
  have HJ := Lib.hid hjl2
  clear hn2 hK hr hjl hjl2
  go_enter Tryd.func17, Tryd.ntmps17
  go_wp2
  clear hmk
  go_loopw [4, 5, 11] (fun _ _ k wr => JfR w xs n k wr) (fun _ _ k _ => n - (intOf k).toNat)
  case atStart => exact ⟨0, [], Nat.zero_le _, rfl, rfl, rfl, ho2, hb2⟩
  case round =>
    clear ho2 hb2
    obtain ⟨j, ys, hj, rfl, hyl, hys, ho, hb⟩ := hrel
    have hz := hb.size
    by_cases hlt : j < n
    · have hjw : j < xs.length := by have := HN.out; omega
      obtain ⟨x, hx⟩ : ∃ x, xs[j]? = some x := ⟨_, List.getElem?_eq_getElem hjw⟩
      obtain ⟨ad, rfl, hc⟩ := HR.out.below hb j (.string x) (strV_get hx)
      have hxm := HK.out x (List.mem_of_getElem? hx)
      have hxs : x.size = x.data.toList.length := str_size rfl
      have HU := Lib.hid (quote_any x x.data.toList wr rfl (by omega))
      have HX := Lib.hid hx
      have hg := Lib.hid (strV_get (xs := ys ++ emp (n - ys.length)) (j := j) (x := ⟨#[]⟩) (by rw [List.getElem?_append_right (by omega), hyl, Nat.sub_self, emp, List.getElem?_replicate, if_pos (by omega)]))
      clear hx hxm hxs hjw
      go_wp2_with (go_at_call 12; go_loud ((with_reducible refine HU.out.mono ?_); rintro e w2 ⟨rfl, hb2⟩; have ho3 := own_keep ho hb2; have hc3 := own_cell ho3 j (.string ⟨#[]⟩) hg.out; have hf3 := ho3.frozenAt j))
      go_roundw
      case rel =>
        have hgs := Lib.grownBy_setCell w2 w.heap.size j (.string (qB x))
        refine ⟨j + 1, ys ++ [qB x], by omega, by go_num, by simp [hyl], ?_, ?_, (hb.trans (hb2.mono hz)).grown hgs (Nat.le_trans hz hb2.size) (fun k hk => by cases hk; omega)⟩
        · show _ = _
          have hjw : j < xs.length := by have := HN.out; omega
          have h1 := HX.out
          rw [List.getElem?_eq_getElem hjw] at h1
          rw [List.take_succ_eq_append_getElem hjw, List.map_append, ← hys.out, Option.some.inj h1]
          simp
        · have h2 := own_set ho3 j (.string (qB x))
          have h3 := set_fill ys n (qB x) (by omega)
          rw [hyl] at h2
          rw [hyl] at h3
          rw [h3] at h2
          exact h2
      case measure => simp [intOf] <;> omega
    · obtain rfl : j = n := by omega
      have hall : ys = xs.map qB := by rw [hys.out, ← HN.out, List.take_length]
      rw [hyl, Nat.sub_self] at ho
      have ho2 : wr.ownsRow w.heap.size 9 1 (.slice (some ⟨w.heap.size, 0, none⟩) j j) j (strV ys) := by simpa [emp] using ho
      have hJ := Tryd.strings_Join w.heap.size 0 j ys ⟨#[32]⟩ wr (fun q y hq => by rw [Nat.zero_add]; exact own_cell ho2 q _ (strV_get hq)) (ho2.lt w.heap.size rfl).2 (by omega) (by omega) (by rw [hall]; show (Lib.join _ [32]).length ≤ _; rw [jfL_eq]; exact HJ.out)
      have HJJ : Hid (Calls Tryd.prog 32 #[.slice (some ⟨w.heap.size, 0, none⟩) j j, .string ⟨#[32]⟩] wr fun e w' => e = .returned (.string ⟨(jfL xs).toArray⟩) ∧ Below wr.heap.size wr w') := by
        rw [hall] at hJ
        have h9 : (xs.map qB).length = j := by rw [List.length_map]; exact HN.out
        rw [h9] at hJ
        have h8 : Lib.join ((xs.map qB).map (·.data.toList)) (⟨#[32]⟩ : ByteArray).data.toList = jfL xs := jfL_eq xs
        rw [h8] at hJ
        exact hJ
      clear hJ hall ho ho2
      go_wp2_with (go_at_call 32; go_loud ((with_reducible refine HJJ.out.mono ?_); rintro e w2 ⟨rfl, hb2⟩))
      go_ret
      exact ⟨rfl, hb.trans (hb2.mono hz)⟩
end Go.Proofs.YtolnchfgdkeamaaDoor
