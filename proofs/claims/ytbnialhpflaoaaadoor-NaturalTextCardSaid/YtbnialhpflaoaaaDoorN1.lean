import Derived.Test.YtbnialhpflaoaaaDoorNatNum2
import Derived.Test.YtbnialhpflaoaaaDoorWrd
import Derived.Test.YtbnialhpflaoaaaDoorBv
import Derived.WalkSpells
import Derived.WalkLawsBesides
import Derived.Lib.Hide
import Derived.Deep.QuietTactic
import Derived.BigQuiet
import Derived.Outline
import Derived.Deep.OwnRows
import Derived.Lib.SliceRun
namespace Go.Proofs.YtbnialhpflaoaaaDoor
open Go.RowKit
set_option linter.unusedVariables false
set_option linter.unusedSimpArgs false
set_option maxRecDepth 50000 in
set_option maxHeartbeats 400000 in
theorem norm_any (a : Option Addr) (n c : Nat) (l : List (BitVec 32)) (w : World) (hn : l.length = n) (hl : l.length ≤ 10000000) (hr : Rw w a l) :
    Calls Tryd.prog 20 #[.slice a n c] w (FrW w (trimD l)) := by
  subst hn
  obtain ⟨i0, hi, hz0, hz1, hz2⟩ := info_parts info32
  go_enter Tryd.func20, Tryd.ntmps20
  go_wp2
  go_loop [3] (fun n => ∃ k : Nat, k ≤ l.length ∧ n = .int .i64 k ∧ Hid (trimD (l.take k) = trimD l)) (fun n => (intOf n).toNat)
  case atStart => exact ⟨l.length, Nat.le_refl _, rfl, by rw [List.take_length]; exact rfl⟩
  case round =>
    obtain ⟨k, hk, rfl, ht⟩ := hrel
    by_cases hz : 0 < k ∧ l[k - 1]? = some 0#32
    · obtain ⟨hk0, hz⟩ := hz
      obtain ⟨hk1, hz⟩ := List.getElem?_eq_some_iff.1 hz
      obtain ⟨ad, rfl, hc⟩ := hr (k - 1) hk1
      rw [hz] at hc
      have HZ := Lib.hid hz
      clear hz
      go_wp2
      go_round
      case rel => exact ⟨k - 1, by omega, by go_num, by refine trim_step l (k - 1) hk1 ?_ HZ.out; rw [show k - 1 + 1 = k by omega]; exact ht.out⟩
      case measure => simp [intOf]; omega
    · have hx : Hid (trimD l = l.take k) := by
        refine trim_take l k hk ht.out ?_
        rcases Nat.eq_zero_or_pos k with h | h
        · exact .inl h
        · exact .inr ⟨by omega, fun e => hz ⟨h, by rw [List.getElem?_eq_getElem (by omega), e]⟩⟩
      have hcase : k = 0 ∨ (0 < k ∧ ∃ ad d, a = some ad ∧ w.cell? (ad.add (k - 1)) = some (.int .u32 d) ∧ (d == 0) = false) := by
        rcases Nat.eq_zero_or_pos k with h | hp
        · exact .inl h
        · obtain ⟨ad, e, hc⟩ := hr (k - 1) (by omega)
          refine .inr ⟨hp, ad, _, e, hc, ?_⟩
          rw [beq_eq_false_iff_ne]
          intro h
          refine hz ⟨hp, ?_⟩
          rw [List.getElem?_eq_getElem (by omega)]
          exact congrArg some (BitVec.eq_of_toNat_eq (by simpa using h))
      clear hz ht
      rcases hcase with rfl | ⟨hp, ad, d, rfl, hc, hd⟩
      · go_wp2
        go_loopw [4, 5] (fun v i wr => ∃ j : Nat, j ≤ 0 ∧ i = .int .i64 j ∧ wr.ownsRow w.heap.size 39 1 v (l.take j).length (bv32 (l.take j)) ∧ Below w.heap.size w wr) (fun _ i _ => 0 - (intOf i).toNat)
        case atStart => exact ⟨0, by omega, rfl, fresh_row32 w, Below.alloc (Below.refl _ _) (Nat.le_refl _) _⟩
        case round =>
          obtain ⟨j, hj, rfl, hown, hb⟩ := hrel
          have ej : Hid (j = 0) := show j = 0 by omega
          go_wp2
          rw [ej.out, ← hx.out] at hown
          obtain ⟨a', c', rfl⟩ := own_slice hown
          go_ret
          exact ⟨a', c', rfl, hown, hb⟩
      · go_wp2
        go_loopw [4, 5] (fun v i wr => ∃ j : Nat, j ≤ k ∧ i = .int .i64 j ∧ wr.ownsRow w.heap.size 39 1 v (l.take j).length (bv32 (l.take j)) ∧ Below w.heap.size w wr) (fun _ i _ => k - (intOf i).toNat)
        case atStart => exact ⟨0, by omega, rfl, fresh_row32 w, Below.alloc (Below.refl _ _) (Nat.le_refl _) _⟩
        case round =>
          obtain ⟨j, hj, rfl, hown, hb⟩ := hrel
          have hlj := Lib.hid (show (l.take j).length + 1 ≤ 20000000 by rw [List.length_take]; omega)
          by_cases hlt : j < k
          · have hjl : j < l.length := by omega
            obtain ⟨ad2, e2, hc2⟩ := hr j hjl
            have hc3 := (hb.cell (p := ad2.add j) (World.block_lt_of_cell? w _ hc2)).trans hc2
            clear hc2
            first
              | (cases e2)
              | (subst e2)
            go_wp2_with (at_builtin; refine wpList_snoc32 rfl _ _ rfl hown hb hlj.out l[j] rfl rfl rfl ?_; intro v' w2 hown2 hb2)
            go_roundw
            case rel => exact ⟨j + 1, by omega, by go_num, by rw [List.take_succ_eq_append_getElem hjl, List.length_append]; exact hown2, hb2⟩
            case measure => simp [intOf]; omega
          · have ej : Hid (j = k) := show j = k by omega
            go_wp2
            rw [ej.out, ← hx.out] at hown
            obtain ⟨a', c', rfl⟩ := own_slice hown
            go_ret
            exact ⟨a', c', rfl, hown, hb⟩
end Go.Proofs.YtbnialhpflaoaaaDoor
