import Derived.Test.YtolnchfgdkeamaaDoorQ4
import Derived.Test.YtolnchfgdkeamaaDoorQc
import Derived.Test.YtolnchfgdkeamaaDoorOwn
import Derived.Lib.BufferOwn
import Derived.Deep.OwnRows
import Derived.WalkKit
import Derived.WalkSpells
import Derived.WalkLawsBesides
import Derived.Lib.Hide
import Derived.Below
import Derived.Deep.QuietTactic
import Derived.BigQuiet
import Derived.IntWalk
import Derived.Laws.BitsAllLaws
namespace Go.Proofs.YtolnchfgdkeamaaDoor
open Go.RowKit
set_option linter.unusedVariables false
set_option linter.unusedSimpArgs false
def strV (xs : List ByteArray) : List Value := xs.map Value.string
theorem strV_len (xs : List ByteArray) : (strV xs).length = xs.length := by simp [strV]
theorem strV_get {xs : List ByteArray} {j : Nat} {x : ByteArray} (h : xs[j]? = some x) : (strV xs)[j]? = some (.string x) := by
  simp [strV, h]
theorem strV_append (xs ys : List ByteArray) : strV (xs ++ ys) = strV xs ++ strV ys := by simp [strV]
theorem own_keep {w w' : World} {B : Nat} {e : TypeId} {v : Value} {n : Nat} {xs : List Value} (h : w.ownsRow B e 1 v n xs) (hb : Below w.heap.size w w') : w'.ownsRow B e 1 v n xs :=
  h.kept (Lib.grownBy_below (World.grownBy.refl w none) hb) (by
    cases v.ownBlock with
    | none => exact .inl rfl
    | some k => exact .inr (by simp))
theorem infoS : (Tryd.prog.info? 9).map (fun i => (i.zero, i.size, i.bytes)) = some (some (.string ⟨#[]⟩), 1, 16) := by kernel_rfl
def emp (n : Nat) : List ByteArray := List.replicate n ⟨#[]⟩
theorem madeS (w : World) (n : Nat) (hn : n ≤ 10000000) : (w.alloc (.cells (madeCells #[Value.string ⟨#[]⟩] n) 9)).ownsRow w.heap.size 9 1 (.slice (some ⟨w.heap.size, 0, none⟩) n n) n (strV (emp n)) := by
  have h := own_made w (madeCells #[Value.string ⟨#[]⟩] n) 9 n (size_madeCells _ _) (by unfold maxLen; omega)
  rw [show (madeCells #[Value.string ⟨#[]⟩] n).toList = strV (emp n) from ?_] at h
  · exact h
  · apply List.ext_getElem
    · simp [madeCells, strV, emp]
    · intro i h1 h2
      simp [madeCells, strV, emp, Nat.mod_one]
theorem litS_own (w : World) (xs : List ByteArray) (hn : xs.length ≤ 10000000) : (w.alloc (.cells (xs.map Value.string).toArray 9)).ownsRow w.heap.size 9 1 (.slice (some ⟨w.heap.size, 0, none⟩) xs.length xs.length) xs.length (strV xs) := by
  have h := own_made w (xs.map Value.string).toArray 9 xs.length (by simp) (by unfold maxLen; omega)
  simpa [strV] using h
theorem set_fill (xs : List ByteArray) (n : Nat) (x : ByteArray) (h : xs.length < n) : (strV (xs ++ emp (n - xs.length))).set xs.length (.string x) = strV ((xs ++ [x]) ++ emp (n - (xs ++ [x]).length)) := by
  obtain ⟨m, hm⟩ : ∃ m, n - xs.length = m + 1 := ⟨n - xs.length - 1, by omega⟩
  rw [hm, show n - (xs ++ [x]).length = m by simp; omega]
  simp only [strV, emp, List.map_append, List.replicate_succ, List.map_cons]
  rw [List.set_append_right _ _ (by simp)]
  simp
/-- The text of a word, if it is one. -/
def uA (x : ByteArray) : Option ByteArray := (unqL x.data.toList).map fun s => ⟨s.toArray⟩
def SfE (B : Nat) (ws : List ByteArray) (e : Ending) (w' : World) : Prop :=
  (∃ i : Nat, i < ws.length ∧ (∀ k x, k < i → ws[k]? = some x → uA x ≠ none) ∧ (∀ x, ws[i]? = some x → uA x = none) ∧ e = .returned (.tuple #[.slice none 0 0, .int .i64 i, .int .i64 3])) ∨
  (∃ (xs : List ByteArray) (g : Nat), ws.map uA = xs.map some ∧ e = .returned (.tuple #[.slice (some ⟨g, 0, none⟩) xs.length xs.length, .int .i64 0, .int .i64 0]) ∧ w'.ownsRow B 9 1 (.slice (some ⟨g, 0, none⟩) xs.length xs.length) xs.length (strV xs))
def SfR (w : World) (ws : List ByteArray) (n g1 g2 : Nat) (k : Value) (wr : World) : Prop := ∃ (j : Nat) (xs : List ByteArray), j ≤ n ∧ k = .int .i64 j ∧ xs.length = j ∧ Hid ((ws.take j).map uA = xs.map some) ∧ wr.ownsRow w.heap.size 9 1 (.slice (some ⟨g1, 0, none⟩) n n) n (strV ws) ∧ wr.ownsRow w.heap.size 9 1 (.slice (some ⟨g2, 0, none⟩) n n) n (strV (xs ++ emp (n - xs.length))) ∧ Below w.heap.size w wr
/-- The pieces of a text at every blank. -/
def wsOf (S : ByteArray) : List ByteArray := Lib.splitB ⟨#[32]⟩ 0 (Lib.countB S ⟨#[32]⟩) S
theorem ws_len (S : ByteArray) : (wsOf S).length = Lib.countB S ⟨#[32]⟩ + 1 := Lib.splitB_all _ (by decide) 0 _ _ rfl
theorem ws_data (S : ByteArray) : (wsOf S).map (·.data.toList) = cutL 32 S.data.toList := cutB S 32
theorem ws_le (S : ByteArray) (j : Nat) (x : ByteArray) (h : (wsOf S)[j]? = some x) : x.data.toList.length ≤ S.size := by
  have hm : x.data.toList ∈ (wsOf S).map (·.data.toList) := List.mem_map.2 ⟨x, List.mem_of_getElem? h, rfl⟩
  rw [ws_data] at hm
  exact cutL_len _ _ _ hm
theorem ws_cnt (S : ByteArray) : (wsOf S).length ≤ S.size + 1 := by
  have h := cutL_count 32 S.data.toList
  rw [← ws_data, List.length_map] at h
  exact h
set_option maxRecDepth 50000 in
set_option maxHeartbeats 4000000 in
theorem split_any (S : ByteArray) (m : Int) (w : World) (hS : S.size ≤ 4000000) (hne : S ≠ ⟨#[]⟩) (hm : w.cell? ⟨0, 0, none⟩ = some (.int .i64 m)) :
    Calls Tryd.prog 15 #[.string S] w fun e w' => SfE w.heap.size (wsOf S) e w' ∧ Below w.heap.size w w' := by
  have hsp := Tryd.strings_Split S ⟨#[32]⟩ m w (by omega) hm (by decide)
  rw [← ws_len] at hsp
  have hcnt := ws_cnt S
  have hle := ws_le S
  change Calls Tryd.prog 30 #[.string S, .string ⟨#[32]⟩] w (fun e w' => e = .returned (.slice (some ⟨w.heap.size, 0, none⟩) _ _) ∧ w' = w.alloc (.cells ((wsOf S).map Value.string).toArray 9)) at hsp
  have hne2 : ¬ S.toList = [] := by
    rw [ByteArray.toList_eq]
    intro e
    exact hne (str_nil e)
  have hne3 : S.toList.isEmpty = false := by
    cases hq : S.toList with
    | nil => exact absurd hq hne2
    | cons _ _ => rfl
  obtain ⟨ws, hws⟩ : ∃ ws, wsOf S = ws := ⟨_, rfl⟩
  rw [hws] at hsp hle hcnt ⊢
  obtain ⟨n, hn⟩ : ∃ n, ws.length = n := ⟨_, rfl⟩
  have ho1 := litS_own w ws (by omega)
  rw [hn] at hsp hcnt ho1
  have hmk := run_make_row' (P := Tryd.prog) 28 9 (.string ⟨#[]⟩) 16 Tryd.underlying28 infoS rfl .i64 .i64 n (by omega) (by omega)
  have HSP := Lib.hid hsp
  have HN := Lib.hid hn
  have HLE := Lib.hid hle
  have hb1 := Below.alloc (Below.refl w.heap.size w) (Nat.le_refl _) (.cells (ws.map Value.string).toArray 9)
  clear hsp hws hne hn hle hm
  go_enter Tryd.func15, Tryd.ntmps15
  go_wp2_with (go_at_call 30; go_loud ((with_reducible refine HSP.out.mono ?_); rintro e w1 ⟨rfl, rfl⟩))
  clear hne2 hne3
  have ho2 := madeS (w.alloc (.cells (ws.map Value.string).toArray 9)) n (by omega)
  have ho1b := ho1.alloc (.cells (madeCells #[Value.string ⟨#[]⟩] n) 9)
  have hb2 := Below.alloc hb1 hb1.size (.cells (madeCells #[Value.string ⟨#[]⟩] n) 9)
  have e1 : (w.alloc (.cells (ws.map Value.string).toArray 9)).heap.size = w.heap.size + 1 := Array.size_push _
  have ho2b : ((w.alloc (.cells (ws.map Value.string).toArray 9)).alloc (.cells (madeCells #[Value.string ⟨#[]⟩] n) 9)).ownsRow w.heap.size 9 1 (.slice (some ⟨w.heap.size + 1, 0, none⟩) n n) n (strV (emp n)) := by
    rw [e1] at ho2
    exact own_mono ho2 (by omega)
  clear ho1 ho2 hb1 hmk e1
  go_loopw [7, 8, 9, 10, 20] (fun _ _ _ _ k wr => SfR w ws n w.heap.size (w.heap.size + 1) k wr) (fun _ _ _ _ k _ => n - (intOf k).toNat)
  case atStart => exact ⟨0, [], Nat.zero_le _, rfl, rfl, rfl, ho1b, ho2b, hb2⟩
  case round =>
    clear ho1b ho2b hb2
    obtain ⟨j, xs, hj, rfl, hxl, hxs, ho1, ho2, hb⟩ := hrel
    have hz := hb.size
    by_cases hlt : j < n
    · have hjw : j < ws.length := by have := HN.out; omega
      obtain ⟨x, hx⟩ : ∃ x, ws[j]? = some x := ⟨_, List.getElem?_eq_getElem hjw⟩
      have hc1 := own_cell ho1 j (.string x) (strV_get hx)
      have hxle := HLE.out j x hx
      have HU := Lib.hid (unq_any x x.data.toList wr rfl (by omega))
      have hux : uA x = (unqL x.data.toList).map fun s => ⟨s.toArray⟩ := rfl
      have HX := Lib.hid hx
      clear hjw hx hxle
      cases huq : unqL x.data.toList with
      | none =>
        rw [huq] at hux
        have HUX := Lib.hid hux
        clear hux
        go_wp2_with (go_at_call 10; go_loud ((with_reducible refine HU.out.mono ?_); rintro e w2 ⟨rfl, hb2⟩; rw [huq]; simp only [unV]))
        go_ret3
        refine ⟨.inl ⟨j, ?_, ?_, ?_, rfl⟩, hb.trans (hb2.mono hz)⟩
        · have := HN.out; omega
        · intro k y hk hy
          have h1 : ((ws.take j).map uA)[k]? = some (uA y) := by simp [hk, hy]
          rw [hxs.out] at h1
          intro e
          rw [e] at h1
          simp at h1
        · intro y hy
          rw [HX.out] at hy
          cases hy
          exact HUX.out
      | some s =>
        rw [huq] at hux
        have HUX := Lib.hid hux
        clear hux
        have hg := Lib.hid (strV_get (xs := xs ++ emp (n - xs.length)) (j := j) (x := ⟨#[]⟩) (by rw [List.getElem?_append_right (by omega), hxl, Nat.sub_self, emp, List.getElem?_replicate, if_pos (by omega)]))
        go_wp2_with (go_at_call 10; go_loud ((with_reducible refine HU.out.mono ?_); rintro e w2 ⟨rfl, hb2⟩; rw [huq]; simp only [unV]; have ho3 := own_keep ho2 hb2; have hc3 := own_cell ho3 j (.string ⟨#[]⟩) hg.out; have hf3 := ho3.frozenAt j))
        go_roundw
        case rel =>
          have hgs := Lib.grownBy_setCell w2 (w.heap.size + 1) j (.string ⟨s.toArray⟩)
          refine ⟨j + 1, xs ++ [⟨s.toArray⟩], by omega, by go_num, by simp [hxl], ?_, (own_keep ho1 hb2).kept hgs (.inr (by simp [Value.ownBlock])), ?_, (hb.trans (hb2.mono hz)).grown hgs (Nat.le_trans hz hb2.size) (fun k hk => by cases hk; omega)⟩
          · show _ = _
            have hjw : j < ws.length := by have := HN.out; omega
            have h1 := HX.out
            rw [List.getElem?_eq_getElem hjw] at h1
            rw [List.take_succ_eq_append_getElem hjw, List.map_append, hxs.out, Option.some.inj h1]
            simp [HUX.out]
          · have h2 := own_set ho3 j (.string ⟨s.toArray⟩)
            have h3 := set_fill xs n ⟨s.toArray⟩ (by omega)
            rw [hxl] at h2
            rw [hxl] at h3
            rw [h3] at h2
            exact h2
        case measure => simp [intOf] <;> omega
    · obtain rfl : j = n := by omega
      go_wp2
      go_ret3
      refine ⟨.inr ⟨xs, w.heap.size + 1, ?_, ?_, ?_⟩, hb⟩
      · rw [← hxs.out, ← HN.out, List.take_length]
      · rw [hxl]; rfl
      · rw [hxl, Nat.sub_self] at ho2
        simpa [emp, hxl] using ho2
end Go.Proofs.YtolnchfgdkeamaaDoor
