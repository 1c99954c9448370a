import Derived.Test.YtdbocghkhcihjaaK7
import Derived.Test.YtdbocghkhcihjaaBurst
import Derived.Laws.OwnMore
namespace Go.Proofs.Ytdbocghkhcihjaa
open Go.RowKit
set_option linter.unusedVariables false
set_option linter.unusedSimpArgs false
theorem shift_bit (T : BitVec 32) (k : Nat) : ((T.toNat : Int) / 2 ^ k).tmod 2 = if T.getLsbD k = true then 1 else 0 := by
  have h0 : ((T.toNat : Int) / 2 ^ k) = ((T.toNat / 2 ^ k : Nat) : Int) := by rw [Int.natCast_ediv, Int.natCast_pow]; rfl
  rw [h0, Int.tmod_eq_emod_of_nonneg (Int.natCast_nonneg _)]
  have h1 : T.getLsbD k = decide (T.toNat / 2 ^ k % 2 = 1) := by
    show T.toNat.testBit k = _
    rw [Nat.testBit_eq_decide_div_mod_eq]
  rw [h1]
  by_cases h : T.toNat / 2 ^ k % 2 = 1
  · simp [h]; omega
  · simp [h]; omega
theorem own_set {w : World} {base : Nat} {e : TypeId} {g n c : Nat} {xs : List Value} (h : w.ownsRow base e 1 (.slice (some ⟨g, 0, none⟩) n c) n xs) (j : Nat) (u : Value) :
    (w.setCell ⟨g, j, none⟩ u).ownsRow base e 1 (.slice (some ⟨g, 0, none⟩) n c) n (xs.set j u) := by
  refine ⟨by rw [List.length_set]; exact h.1, .inr ?_⟩
  rcases h.2 with ⟨h1, _⟩ | ⟨g', cap, cur, h1, h2, h3, h4, h5, h6, h7⟩
  · injection h1 with h1; cases h1
  · injection h1 with e1 e2 e3
    injection e1 with e1
    injection e1 with e1
    subst e1
    refine ⟨g, cap, cur.setIfInBounds j u, by rw [e3], h2, ?_, h4, h5, by simpa using h6, ?_⟩
    · simp [World.setCell, Array.getElem?_modify, h3]
    · rw [Array.toList_setIfInBounds, ← h7, List.take_set]
theorem own_form {w : World} {base : Nat} {e : TypeId} {a : Option Addr} {n c : Nat} {xs : List Value} (h : w.ownsRow base e 1 (.slice a n c) n xs) (hn : 0 < n) : ∃ g, a = some ⟨g, 0, none⟩ ∧ base ≤ g := by
  rcases h.2 with ⟨_, h1⟩ | ⟨g', cap, cur, h1, h2, _⟩
  · omega
  · injection h1 with e1 _ _
    exact ⟨g', e1, h2⟩
theorem own_cell {w : World} {base : Nat} {e : TypeId} {g n c : Nat} {l : List (BitVec 8)} (h : w.ownsRow base e 1 (.slice (some ⟨g, 0, none⟩) n c) n (bv8 l)) (j : Nat) (hj : j < l.length) : w.cell? ⟨g, j, none⟩ = some (.int .u8 (l[j].toNat : Int)) := by
  have := h.cells (g := g) rfl j (.int .u8 (l[j].toNat : Int)) (by simp [bv8, hj])
  rwa [show ((⟨g, 0, none⟩ : Addr).add j) = ⟨g, j, none⟩ by unfold Addr.add; split <;> simp_all] at this
/-- The bits of the burst that lie in the message, among the first k. -/
def mkB (T : BitVec 32) (f lim : Nat) : Nat → BitVec 32
  | 0 => 0#32
  | k + 1 => if T.getLsbD k = true ∧ f + k < lim then mkB T f lim k ^^^ (1#32 <<< k) else mkB T f lim k
def curB (c : List (BitVec 8)) (f : Nat) (T : BitVec 32) (n : Nat) : List (BitVec 8) := List.zipWith (· ^^^ ·) c (patL (f / 8) (f % 8) T n)
theorem curB_zero (c : List (BitVec 8)) (f n : Nat) (hc : c.length = n) : curB c f 0#32 n = c := by
  apply List.ext_getElem
  · simp [curB, patL, hc]
  · intro i h1 h2
    simp [curB, patL, patB]
theorem patB_xor (q t : Nat) (T U : BitVec 32) (j : Nat) : patB q t (T ^^^ U) j = patB q t T j ^^^ patB q t U j := by
  unfold patB
  by_cases h : j < q
  · simp [h]
  · rw [if_neg h, if_neg h, if_neg h, BitVec.setWidth_xor, BitVec.shiftLeft_xor_distrib, BitVec.ushiftRight_xor_distrib, BitVec.setWidth_xor]
theorem patB_bit (q t k j : Nat) (ht : t < 8) (hk : k < 32) : patB q t (1#32 <<< k) j = if j = (8 * q + t + k) / 8 then 1#8 <<< ((8 * q + t + k) % 8) else 0#8 := by
  apply BitVec.eq_of_getLsbD_eq
  intro m hm
  have h1 : ∀ i, (1#32 <<< k).getLsbD i = decide (i = k) := by
    intro i
    rw [BitVec.getLsbD_shiftLeft]
    by_cases h : i = k
    · subst h; simp [hk]
    · by_cases h2 : i < k
      · simp [h, h2]
      · simp [h, h2, show i - k ≠ 0 by omega]
  have h2 : ∀ n i, i < 8 → (1#8 <<< n).getLsbD i = decide (i = n) := by
    intro n i hi
    rw [BitVec.getLsbD_shiftLeft]
    by_cases h : i = n
    · subst h; simp [hi]
    · by_cases h2 : i < n
      · simp [h, h2]
      · simp [h, h2, show i - n ≠ 0 by omega]
  unfold patB
  by_cases h : j < q
  · rw [if_pos h, if_neg (by omega)]
  · rw [if_neg h]
    simp only [BitVec.getLsbD_setWidth, BitVec.getLsbD_ushiftRight, BitVec.getLsbD_shiftLeft, h1]
    by_cases hj : j = (8 * q + t + k) / 8
    · rw [if_pos hj, h2 _ _ hm]
      by_cases h3 : m = (8 * q + t + k) % 8
      · have e : 8 * (j - q) + m = t + k := by omega
        simp [h3, hm, show (8 * q + t + k) % 8 < 8 by omega, show 8 * (j - q) + (8 * q + t + k) % 8 = t + k by omega, show t + k < 64 by omega, hk, show k < 64 by omega]
      · have e : ¬ 8 * (j - q) + m - t = k ∨ 8 * (j - q) + m < t := by omega
        rcases e with e | e
        · simp [h3, e]
        · simp [h3, e]
    · rw [if_neg hj]
      have e : ¬ 8 * (j - q) + m - t = k ∨ 8 * (j - q) + m < t := by omega
      rcases e with e | e
      · simp [e]
      · simp [e]
theorem curB_len (c : List (BitVec 8)) (f : Nat) (T : BitVec 32) (n : Nat) (hc : c.length = n) : (curB c f T n).length = n := by simp [curB, patL, hc]
theorem curB_get (c : List (BitVec 8)) (f : Nat) (T : BitVec 32) (n : Nat) (j : Nat) (hj : j < (curB c f T n).length) (hj2 : j < c.length) : (curB c f T n)[j] = c[j] ^^^ patB (f / 8) (f % 8) T j := by
  simp [curB, patL]
theorem curB_step (c : List (BitVec 8)) (f n k : Nat) (M : BitVec 32) (ch : BitVec 8) (hc : c.length = n) (hk : k < 32) (hch : (curB c f M n)[(f + k) / 8]? = some ch) :
    curB c f (M ^^^ (1#32 <<< k)) n = (curB c f M n).set ((f + k) / 8) (ch ^^^ (1#8 <<< ((f + k) % 8))) := by
  have e : 8 * (f / 8) + f % 8 + k = f + k := by omega
  apply List.ext_getElem
  · rw [List.length_set, curB_len _ _ _ _ hc, curB_len _ _ _ _ hc]
  · intro j h1 h2
    have hj : j < c.length := by rw [curB_len _ _ _ _ hc] at h1; omega
    rw [curB_get _ _ _ _ _ h1 hj, patB_xor, patB_bit _ _ _ _ (by omega) hk, e, List.getElem_set, ← BitVec.xor_assoc]
    by_cases h3 : (f + k) / 8 = j
    · subst h3
      rw [if_pos rfl, if_pos rfl]
      obtain ⟨h4, h5⟩ := List.getElem?_eq_some_iff.1 hch
      rw [curB_get _ _ _ _ _ h4 hj] at h5
      rw [h5]
    · rw [if_neg (fun h => h3 h.symm), if_neg h3, BitVec.xor_zero, curB_get _ _ _ _ _ (by rw [curB_len _ _ _ _ hc]; omega) hj]
theorem mkB_bit (T : BitVec 32) (f lim k : Nat) (hk : k ≤ 32) (b : Nat) : (mkB T f lim k).getLsbD b = (decide (b < k) && T.getLsbD b && decide (f + b < lim)) := by
  induction k with
  | zero => simp [mkB]
  | succ k ih =>
    have h1 : (1#32 <<< k).getLsbD b = decide (b = k) := by
      rw [BitVec.getLsbD_shiftLeft]
      by_cases h : b = k
      · subst h; simp; omega
      · by_cases h2 : b < k
        · simp [h, h2]
        · simp [h, h2, show b - k ≠ 0 by omega]
    unfold mkB
    by_cases hc : T.getLsbD k = true ∧ f + k < lim
    · rw [if_pos hc, BitVec.getLsbD_xor, ih (by omega), h1]
      by_cases hb : b = k
      · subst hb; simp [hc.1, hc.2]
      · rw [show decide (b = k) = false by simp [hb], Bool.xor_false, show decide (b < k + 1) = decide (b < k) by simp; omega]
    · rw [if_neg hc, ih (by omega)]
      by_cases hb : b = k
      · subst hb
        by_cases h2 : T.getLsbD b = true
        · simp [h2, show ¬ f + b < lim from fun h => hc ⟨h2, h⟩]
        · simp [h2]
      · rw [show decide (b < k + 1) = decide (b < k) by simp; omega]
theorem bit_num (ch : BitVec 8) (m : Nat) : bits .xor .u8 (ch.toNat : Int) ((2 : Int) ^ m % 256) = ((ch ^^^ (1#8 <<< m)).toNat : Int) := by
  rw [← u8_xorB]
  congr 1
  rw [BitVec.toNat_shiftLeft, Nat.shiftLeft_eq]
  simp
theorem mkB_yes (T : BitVec 32) (f lim k : Nat) (h1 : T.getLsbD k = true) (h2 : f + k < lim) : mkB T f lim (k + 1) = mkB T f lim k ^^^ (1#32 <<< k) := if_pos ⟨h1, h2⟩
theorem mkB_no (T : BitVec 32) (f lim k : Nat) (h : ¬ (T.getLsbD k = true ∧ f + k < lim)) : mkB T f lim (k + 1) = mkB T f lim k := if_neg h
theorem mkB_nz (T : BitVec 32) (f lim k : Nat) (hk : k < 32) (h1 : T.getLsbD k = true) (h2 : f + k < lim) : decide (mkB T f lim (k + 1) = 0#32) = false := by
  rw [decide_eq_false_iff_not]
  intro h
  have := mkB_bit T f lim (k + 1) (by omega) k
  rw [h] at this
  simp [h1, h2] at this
def BuRel (w : World) (g n cp : Nat) (c : List (BitVec 8)) (f : Nat) (T : BitVec 32) (s i : Value) (wr : World) : Prop :=
  ∃ k : Nat, k ≤ 32 ∧ i = .int .i64 k ∧ s = .bool (!decide (mkB T f (8 * n) k = 0#32)) ∧ wr.ownsRow w.heap.size 5 1 (.slice (some ⟨g, 0, none⟩) n cp) n (bv8 (curB c f (mkB T f (8 * n) k) n)) ∧ Below w.heap.size w wr
set_option maxHeartbeats 1000000 in
theorem burst_loop (a : Option Addr) (n c : Nat) (l : List (BitVec 8)) (x : Nat) (T : BitVec 32) (w : World) (hx : x < 65536) (hn : l.length = n) (h : n ≤ 4000) (hr : Rd w a l) :
    Calls Try.prog 7 #[.slice a n c, .int .u16 x, .int .u32 (T.toNat : Int)] w (Yes w) := by
  subst hn
  have hx8 : 0 < 8 * (l.length + 4) := by omega
  obtain ⟨f, hf, hmod⟩ : ∃ f : Nat, f < 8 * (l.length + 4) ∧ ((x : Int) % (8 * ((l.length : Int) + 4))) = (f : Int) := ⟨x % (8 * (l.length + 4)), Nat.mod_lt _ hx8, by rw [Int.natCast_emod]; rfl⟩
  go_enter Try.func7, Try.ntmps7
  go_wp2_with (go_at_call 20; (with_reducible refine (app_any _ _ _ l _ rfl (by omega) hr).mono ?_); rintro e w1 ⟨a1, c1, rfl, hown1, hb1⟩; obtain ⟨g, rfl, hg⟩ := own_form hown1 (by omega))
  go_loopw [9, 10] (fun s i wr => BuRel w g (l.length + 4) c1 (l ++ tailB (updB 0#32 l)) f T s i wr) (fun _ i _ => 32 - (intOf i).toNat)
  case atStart => exact ⟨0, by omega, rfl, rfl, by rw [show mkB T f (8 * (l.length + 4)) 0 = 0#32 from rfl, curB_zero _ _ _ (by simp [tailB])]; exact hown1, hb1⟩
  case round =>
    obtain ⟨k, hk, rfl, rfl, hown, hb⟩ := hrel
    generalize hM : mkB T f (8 * (l.length + 4)) k = M at hown
    by_cases hlt : k < 32
    · have HM := Lib.hid hM
      clear hM
      generalize hcur : curB (l ++ tailB (updB 0#32 l)) f M (l.length + 4) = cur at hown
      have HC := Lib.hid hcur
      clear hcur
      have hcl : cur.length = l.length + 4 := by have := hown.1; rw [bv8_len] at this; omega
      by_cases h1 : T.getLsbD k = true
      · have ht := shift_bit T k
        rw [if_pos h1] at ht
        by_cases h2 : f + k < 8 * (l.length + 4)
        · have hj : (f + k) / 8 < cur.length := by omega
          have HJ := Lib.hid hcl
          clear hcl
          obtain ⟨ch, hch, hc⟩ : ∃ ch : BitVec 8, Hid (cur[(f + k) / 8]? = some ch) ∧ wr.cell? ⟨g, (f + k) / 8, none⟩ = some (.int .u8 (ch.toNat : Int)) := ⟨_, List.getElem?_eq_getElem hj, own_cell hown _ hj⟩
          clear hj
          have hfz := hown.frozenAt ((f + k) / 8)
          have hb2 := Below.setCell hb (p := ⟨g, (f + k) / 8, none⟩) (show w.heap.size ≤ g from hg) (.int .u8 ((ch ^^^ (1#8 <<< ((f + k) % 8))).toNat : Int))
          have hown2 := own_set hown ((f + k) / 8) (.int .u8 ((ch ^^^ (1#8 <<< ((f + k) % 8))).toNat : Int))
          go_wp2
          rw [bit_num]
          go_roundw
          case rel =>
            refine ⟨k + 1, by omega, by go_num, by rw [mkB_nz _ _ _ _ hlt h1 h2]; rfl, ?_, hb2⟩
            have hch' := hch.out
            rw [← HC.out] at hch'
            rw [mkB_yes _ _ _ _ h1 h2, HM.out, curB_step _ _ _ _ _ ch (by simp [tailB]) hlt hch', HC.out]
            rw [show bv8 (cur.set ((f + k) / 8) (ch ^^^ 1#8 <<< ((f + k) % 8))) = (bv8 cur).set ((f + k) / 8) (.int .u8 ((ch ^^^ (1#8 <<< ((f + k) % 8))).toNat : Int)) from by simp [bv8, List.map_set]]
            exact hown2
          case measure => simp [intOf]; omega
        · go_wp2
          go_roundw
          case rel =>
            refine ⟨k + 1, by omega, by go_num, ?_, ?_, hb⟩
            · rw [mkB_no _ _ _ _ (fun h => h2 h.2), HM.out]
            · rw [mkB_no _ _ _ _ (fun h => h2 h.2), HM.out, HC.out]; exact hown
          case measure => simp [intOf]; omega
      · have ht := shift_bit T k
        rw [if_neg h1] at ht
        go_wp2
        go_roundw
        case rel =>
          refine ⟨k + 1, by omega, by go_num, ?_, ?_, hb⟩
          · rw [mkB_no _ _ _ _ (fun h => h1 h.1), HM.out]
          · rw [mkB_no _ _ _ _ (fun h => h1 h.1), HM.out, HC.out]; exact hown
        case measure => simp [intOf]; omega
    · obtain rfl : k = 32 := by omega
      have hcap := own_cap hown
      have hrw := Rd.of_own hown
      have hrr := hr.below hb
      by_cases hz : M = 0#32
      · subst hz
        rw [curB_zero _ _ _ (by simp [tailB])] at hrw
        clear hM
        go_wp2_with (first
          | (go_at_call 17; (with_reducible refine (ver_app _ _ _ l _ rfl hcap (by omega) hrw).mono ?_); rintro e w2 ⟨a2, c2, rfl, hown2, hb2⟩; have hr2 := Rd.of_own hown2; have hr3 := hrr.below hb2; have hb3 := hb.trans (hb2.mono hb.size))
          | (go_at_call 19; (with_reducible refine (same_yes a2 a _ _ _ _ l l _ rfl rfl hr2 hr3 rfl).mono ?_); rintro e w3 ⟨rfl, rfl⟩)
          | (go_at_call 10; (with_reducible refine (ex_any _).mono ?_); rintro e w9 ⟨rfl, hb9⟩))
        go_ret
        exact ⟨rfl, hb3.trans (hb9.mono hb3.size)⟩
      · have hlen : (curB (l ++ tailB (updB 0#32 l)) f M (l.length + 4)).length = l.length + 4 := curB_len _ _ _ _ (by simp [tailB])
        have hbu : ¬ (curB (l ++ tailB (updB 0#32 l)) f M (l.length + 4)).drop (l.length + 4 - 4) = tailB (updB 0#32 ((curB (l ++ tailB (updB 0#32 l)) f M (l.length + 4)).take (l.length + 4 - 4))) := by
          refine burst l (f / 8) (f % 8) (by omega) M hz ?_ _ rfl
          intro b hb hM2
          rw [← hM, mkB_bit _ _ _ _ (by omega)] at hM2
          simp at hM2
          omega
        have HB := Lib.hid hbu
        have HL := Lib.hid hlen
        have hzz : decide (M = 0#32) = false := by simpa using hz
        clear hbu hlen hM
        generalize hcur : curB (l ++ tailB (updB 0#32 l)) f M (l.length + 4) = cur at hrw HB HL
        clear hcur hown
        have hlq : cur.length ≤ 140737488355328 := by have := HL.out; omega
        have h44 : 4 ≤ l.length + 4 := by omega
        go_wp2_with (first
          | (go_at_call 17; (with_reducible refine (ver_no _ _ _ cur _ HL.out hcap hlq h44 hrw HB.out).mono ?_); rintro e w2 ⟨rfl, hb2⟩; have hb3 := hb.trans (hb2.mono hb.size))
          | (go_at_call 10; (with_reducible refine (ex_any _).mono ?_); rintro e w9 ⟨rfl, hb9⟩))
        go_ret
        exact ⟨rfl, hb3.trans (hb9.mono hb3.size)⟩
theorem burst_w (a : Option Addr) (n c : Nat) (l : List (BitVec 8)) (x : Nat) (T : BitVec 32) (w : World) (hx : x < 65536) (hn : l.length = n) (hr : Rd w a l) :
    Calls Try.prog 7 #[.slice a n c, .int .u16 x, .int .u32 (T.toNat : Int)] w (Yes w) := by
  by_cases h : 4000 < n
  · go_enter Try.func7, Try.ntmps7
    go_wp2_with (go_at_call 10; (with_reducible refine (ex_any _).mono ?_); rintro e w9 ⟨rfl, hb9⟩)
    go_ret
    exact ⟨rfl, hb9⟩
  · exact burst_loop a n c l x T w hx hn (by omega) hr
end Go.Proofs.Ytdbocghkhcihjaa
