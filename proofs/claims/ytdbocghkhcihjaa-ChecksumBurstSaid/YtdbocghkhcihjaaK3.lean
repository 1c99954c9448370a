import Derived.Test.YtdbocghkhcihjaaK2
import Derived.Test.YtdbocghkhcihjaaApp
import Derived.Lib.AppendZerosOnto
import Derived.Lib.Walk
import Derived.Lib.SliceRun
import Derived.Maps.AppendAt
import Derived.OwnWalk
namespace Go.Proofs.Ytdbocghkhcihjaa
open Go.RowKit
set_option linter.unusedVariables false
set_option linter.unusedSimpArgs false
theorem info8 : (Try.prog.info? 5).map (fun i => (i.zero, i.size, i.bytes)) = some (some (.int .u8 0), 1, 1) := by kernel_rfl
theorem grow_nil (n : Nat) (h0 : 0 < n) (hn : n ≤ 140737488355328) (w : World) :
    Calls Try.prog 27 #[.slice none 0 0, .int .i64 n] w fun e w' => ∃ v, e = .returned v ∧ w'.ownsRow w.heap.size 5 1 v 0 [] ∧ Below w.heap.size w w' := by
  obtain ⟨i0, hi, hz0, hz1, hz2⟩ := info_parts info8
  have hold : (Builtin.firstCells i0.size 0 (.slice none 0 0)).run Try.prog w.drew = .ok ([] : List Value).toArray w.drew := run_firstCells_none w.drew i0.size 0 0 0
  have hrz : ∀ ty, (Builtin.append_ #[24, 3] ty #[.slice none 0 0, .int .i64 (n : Int)]).run Try.prog w = .ok (.slice (some ⟨w.heap.size, 0, none⟩) (0 + n) (grownCap w (0 + n) 0 5))
        (w.drew.alloc (.cells (([] : List Value).toArray ++ Builtin.zeroCells (Value.int .u8 0).cells n ++ Builtin.zeroCells (Value.int .u8 0).cells (grownCap w (0 + n) 0 5 - (0 + n))) 5)) := fun ty =>
    Lib.run_append_grow_zeros w 24 3 ty 5 i0 (.int .u8 0) .i64 .i64 Try.underlying24 Try.underlying3 hi hz0 none 0 0 [] hold n h0 (by omega) (by omega) (by omega) (by rw [hz2]; omega) (growslice_fits (by omega) (by rw [hz2]; omega))
  have hown : (w.drew.alloc (.cells (([] : List Value).toArray ++ Builtin.zeroCells (Value.int .u8 0).cells n ++ Builtin.zeroCells (Value.int .u8 0).cells (grownCap w (0 + n) 0 5 - (0 + n))) 5)).ownsRow w.heap.size 5 1 (.slice (some ⟨w.heap.size, 0, none⟩) 0 (grownCap w (0 + n) 0 5)) 0 [] := by
    have hge := grownCap_ge w (0 + n) 0 5
    refine World.ownsRow_made w.drew _ _ (Nat.le_refl _) (grownCap_le_maxLen w (0 + n) 0 _ (by unfold maxLen; omega)) ?_
    rw [Nat.zero_add] at hge ⊢
    generalize grownCap w n 0 5 = G at hge ⊢
    simp [size_zeroCells, Value.cells]
    omega
  have hGn := grownCap_ge w (0 + n) 0 5
  have hG63 := grownCap_le_maxLen w (0 + n) 0 5 (by unfold maxLen; omega)
  unfold maxLen at hG63
  have hbel := Below.alloc (B := w.heap.size) (a := w) (Below.drew (Below.refl _ w)) (Nat.le_refl _) (.cells (([] : List Value).toArray ++ Builtin.zeroCells (Value.int .u8 0).cells n ++ Builtin.zeroCells (Value.int .u8 0).cells (grownCap w (0 + n) 0 5 - (0 + n))) 5)
  generalize grownCap w (0 + n) 0 5 = G at hrz hown hbel hGn hG63
  rw [Nat.zero_add] at hrz hown hbel
  generalize (w.drew.alloc (.cells (([] : List Value).toArray ++ Builtin.zeroCells (Value.int .u8 0).cells n ++ Builtin.zeroCells (Value.int .u8 0).cells (G - n)) 5)) = W at hrz hown hbel
  clear hold
  go_enter Try.func27, Try.ntmps27
  go_wp2_with (at_builtin; refine Lib.wpList_append_run _ rfl _ _ _ _ rfl _ _ rfl rfl _ _ (hrz _) ?_)
  all_goals (go_ret; exact ⟨_, rfl, hown, hbel⟩)
theorem grow_zero (w : World) : Calls Try.prog 27 #[.slice none 0 0, .int .i64 0] w fun e w' => e = .returned (.slice none 0 0) ∧ w = w' := by
  go_enter Try.func27, Try.ntmps27
  go_wp2
  go_ret
  exact ⟨rfl, rfl⟩
theorem grow_any (n : Nat) (hn : n ≤ 140737488355328) (w : World) :
    Calls Try.prog 27 #[.slice none 0 0, .int .i64 n] w fun e w' => ∃ v, e = .returned v ∧ w'.ownsRow w.heap.size 5 1 v 0 [] ∧ Below w.heap.size w w' := by
  rcases Nat.eq_zero_or_pos n with rfl | h
  · refine (grow_zero w).mono ?_
    rintro e w' ⟨rfl, rfl⟩
    exact ⟨_, rfl, World.ownsRow_nil _ _ _ _, Below.refl _ _⟩
  · exact grow_nil n h hn w
theorem flat_take (ls : List (List (BitVec 8))) (k : Nat) (h : k < ls.length) : (ls.take (k + 1)).flatten = (ls.take k).flatten ++ ls[k] := by
  rw [List.take_succ_eq_append_getElem h, List.flatten_append]; simp
def preLen (ls : List (List (BitVec 8))) (k : Nat) : Nat := (ls.take k).flatten.length
theorem preLen_succ (ls : List (List (BitVec 8))) (k : Nat) (h : k < ls.length) : preLen ls (k + 1) = preLen ls k + ls[k].length := by
  unfold preLen; rw [flat_take _ _ h, List.length_append]
theorem flat_take_le (ls : List (List (BitVec 8))) (k : Nat) : preLen ls k ≤ preLen ls ls.length := by
  unfold preLen
  rw [List.take_length]
  conv => rhs; rw [← List.take_append_drop k ls]
  rw [List.flatten_append, List.length_append]; omega
def ConcatRel (w : World) (ls : List (List (BitVec 8))) (v i : Value) (wr : World) : Prop := ∃ k : Nat, k ≤ ls.length ∧ i = .int .i64 k ∧ wr.ownsRow w.heap.size 5 1 v (preLen ls k) (bv8 (ls.take k).flatten) ∧ Below w.heap.size w wr
theorem concat_step {w wr w1 : World} {ls : List (List (BitVec 8))} {v v1 : Value} {k : Nat} (hk : k < ls.length) (hown : w1.ownsRow w.heap.size 5 1 v1 ((preLen ls k) + ls[k].length) (bv8 (ls.take k).flatten ++ bv8 ls[k]))
    (hown0 : wr.ownsRow w.heap.size 5 1 v (preLen ls k) (bv8 (ls.take k).flatten)) (hg : wr.grownBy w1 v.ownBlock) (hb : Below w.heap.size w wr) : ConcatRel w ls v1 (.int .i64 (↑k + 1)) w1 := by
  refine ⟨k + 1, hk, by go_num, ?_, hb.grown hg hb.size (fun q hq => (hown0.lt q hq).1)⟩
  rw [preLen_succ _ _ hk, flat_take _ _ hk, bv8_append]
  exact hown
theorem concat_any (a : Option Addr) (n c : Nat) (ls : List (List (BitVec 8))) (w : World) (hn : ls.length = n) (hl : ls.length ≤ 140737488355328) (hf : preLen ls ls.length ≤ 140737488355328) (hr : RdR w a ls) :
    Calls Try.prog 26 #[.slice a n c] w fun e w' => ∃ v, e = .returned v ∧ w'.ownsRow w.heap.size 5 1 v (preLen ls ls.length) (bv8 ls.flatten) ∧ Below w.heap.size w w' := by
  subst hn
  go_enter Try.func26, Try.ntmps26
  go_wp2
  go_loop [3, 11] (fun h i => ∃ k : Nat, k ≤ ls.length ∧ i = .int .i64 k ∧ h = .int .i64 (preLen ls k : Nat)) (fun _ i => ls.length - (intOf i).toNat)
  case atStart => exact ⟨0, Nat.zero_le _, rfl, by rfl⟩
  case round =>
    obtain ⟨k, hk, rfl, rfl⟩ := hrel
    by_cases hlt : k < ls.length
    · obtain ⟨ad, ak, ck, rfl, hc, hrk, hlk⟩ := hr k hlt
      have hk1 := flat_take_le ls (k + 1)
      rw [preLen_succ _ _ hlt] at hk1
      go_wp2
      go_round
      case rel => exact ⟨k + 1, by omega, by go_num, by rw [preLen_succ _ _ hlt]; go_num⟩
      case measure => simp [intOf]; omega
    · obtain rfl : k = ls.length := by omega
      have hfl := flat_take_le ls ls.length
      go_wp2_with (go_at_call 27; (with_reducible refine (grow_any _ (by omega) _).mono ?_); rintro e w1 ⟨v, rfl, hown, hbel⟩)
      obtain ⟨i0, hi, hz0, hz1, hz2⟩ := info_parts info8
      go_loopw [6, 27] (fun v i wr => ConcatRel w ls v i wr) (fun _ i _ => ls.length - (intOf i).toNat)
      case atStart => exact ⟨0, Nat.zero_le _, rfl, hown, hbel⟩
      case round =>
        obtain ⟨k, hk, rfl, hown2, hbel2⟩ := hrel
        by_cases hlt2 : k < ls.length
        · obtain ⟨ad, ak, ck, rfl, hc, hrk, hlk⟩ := hr k hlt2
          have hk1 := flat_take_le ls (k + 1)
          rw [preLen_succ _ _ hlt2] at hk1
          have hc2 := (hbel2.cell (p := ad.add k) (World.block_lt_of_cell? w _ hc)).trans hc
          go_wp2_with (at_builtin; refine wpList_append_rd _ rfl _ _ _ rfl w.heap.size 5 i0 (.int .u8 0) 1 Try.underlying24 hi hz0 hz1 hz2 rfl _ _ _ rfl hown2 ak ls[k].length ck (bv8 ls[k]) rfl (bv8_len _) ((hrk.below hbel2).vals) (bv8_one _) (by unfold maxLen; omega) (by omega) hbel2.size ?_; intro v' w2 hown3 hg3 _)
          go_roundw
          case rel => exact concat_step hlt2 hown3 hown2 hg3 hbel2
          case measure => simp [intOf]; omega
        · obtain rfl : k = ls.length := by omega
          rw [List.take_length] at hown2
          go_wp2
          go_ret
          exact ⟨_, rfl, hown2, hbel2⟩
end Go.Proofs.Ytdbocghkhcihjaa
