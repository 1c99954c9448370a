import Derived.Test.YtdbocghkhcihjaaK6
namespace Go.Proofs.Ytdbocghkhcihjaa
open Go.RowKit
set_option linter.unusedVariables false
set_option linter.unusedSimpArgs false
theorem few1 {ls : List (List (BitVec 8))} (h : few? ls) : ls.length ≤ 50 := h.1
theorem few2 {ls : List (List (BitVec 8))} (h : few? ls) : ∀ l ∈ ls, l.length ≤ 2000 := h.2
theorem values_no (a : Option Addr) (n c : Nat) (ls : List (List (BitVec 8))) (s : BitVec 32) (b : Option Addr) (m d : Nat) (l : List (BitVec 8)) (w : World) (hn : ls.length = n) (hm : l.length = m) (hr : RdS w a ls) (hs : Rd w b l) (h : ¬ few? ls) : Calls Try.prog 3 #[.slice a n c, .int .u32 (s.toNat : Int), .slice b m d] w (Yes w) := by
  subst hn hm
  go_enter Try.func3, Try.ntmps3
  go_wp2_with (first | (go_at_call 9; (with_reducible refine (few_no _ _ _ ls _ rfl h hr).mono ?_); rintro e w1 ⟨rfl, rfl⟩) | (go_at_call 10; (with_reducible refine (ex_any _).mono ?_); rintro e w9 ⟨rfl, hb9⟩))
  go_ret
  exact ⟨rfl, hb9⟩
theorem values_big (a : Option Addr) (n c : Nat) (ls : List (List (BitVec 8))) (s : BitVec 32) (b : Option Addr) (m d : Nat) (l : List (BitVec 8)) (w : World) (hn : ls.length = n) (hm : l.length = m) (hr : RdS w a ls) (hs : Rd w b l) (h : few? ls) (h5 : 5000 < m) : Calls Try.prog 3 #[.slice a n c, .int .u32 (s.toNat : Int), .slice b m d] w (Yes w) := by
  subst hn hm
  go_enter Try.func3, Try.ntmps3
  go_wp2_with (first | (go_at_call 9; (with_reducible refine (few_yes _ _ _ ls _ rfl (few1 h) (few2 h) hr).mono ?_); rintro e w1 ⟨rfl, rfl⟩) | (go_at_call 10; (with_reducible refine (ex_any _).mono ?_); rintro e w9 ⟨rfl, hb9⟩))
  go_ret
  exact ⟨rfl, hb9⟩
set_option maxHeartbeats 1000000 in
theorem values_yes (a : Option Addr) (n c : Nat) (ls : List (List (BitVec 8))) (s : BitVec 32) (b : Option Addr) (m d : Nat) (l : List (BitVec 8)) (w : World) (hn : ls.length = n) (hm : l.length = m) (hr : RdS w a ls) (hs : Rd w b l) (h : few? ls) (h5 : m ≤ 5000) : Calls Try.prog 3 #[.slice a n c, .int .u32 (s.toNat : Int), .slice b m d] w (Yes w) := by
  subst hn hm
  have h1 := h.1
  have hrr := hr.bound h.2
  go_enter Try.func3, Try.ntmps3
  go_wp2_with (first
    | (go_at_call 9; (with_reducible refine (few_yes _ _ _ ls _ rfl (few1 h) (few2 h) hr).mono ?_); rintro e w1 ⟨rfl, rfl⟩)
    | (go_at_call 11; (with_reducible refine (crc_any _ _ _ ls _ rfl (by omega) hrr).mono ?_); rintro e w1 ⟨rfl, rfl⟩)
    | (go_at_call 12; (with_reducible refine (crcr_any _ _ _ ls _ rfl (by omega) hrr).mono ?_); rintro e w1 ⟨rfl, rfl⟩)
    | (go_at_call 13; (with_reducible refine (upd_any _ _ _ _ l _ rfl (by omega) hs).mono ?_); rintro e w1 ⟨rfl, rfl⟩)
    | (go_at_call 14; (with_reducible refine (updr_any _ _ _ _ l _ rfl (by omega) hs).mono ?_); rintro e w1 ⟨rfl, rfl⟩)
    | (go_at_call 15; (with_reducible refine (fnv_any _ _ _ l _ rfl (by omega) hs).mono ?_); rintro e w1 ⟨rfl, rfl⟩)
    | (go_at_call 16; (with_reducible refine (fnvr_any _ _ _ l _ rfl (by omega) hs).mono ?_); rintro e w1 ⟨rfl, rfl⟩)
    | (go_at_call 10; (with_reducible refine (ex_any _).mono ?_); rintro e w9 ⟨rfl, hb9⟩))
  go_ret
  exact ⟨rfl, hb9⟩
theorem values_w (a : Option Addr) (n c : Nat) (ls : List (List (BitVec 8))) (s : BitVec 32) (b : Option Addr) (m d : Nat) (l : List (BitVec 8)) (w : World) (hn : ls.length = n) (hm : l.length = m) (hr : RdS w a ls) (hs : Rd w b l) : Calls Try.prog 3 #[.slice a n c, .int .u32 (s.toNat : Int), .slice b m d] w (Yes w) := by
  by_cases h : few? ls
  · by_cases h5 : 5000 < m
    · exact values_big a n c ls s b m d l w hn hm hr hs h h5
    · exact values_yes a n c ls s b m d l w hn hm hr hs h (by omega)
  · exact values_no a n c ls s b m d l w hn hm hr hs h
theorem preLen_le (ls : List (List (BitVec 8))) (hb : ∀ l ∈ ls, l.length ≤ 2000) : ∀ k, k ≤ ls.length → preLen ls k ≤ 2000 * k := by
  intro k
  induction k with
  | zero => intro _; simp [preLen]
  | succ k ih =>
    intro hk
    rw [preLen_succ _ _ (by omega)]
    have h1 := hb _ (List.getElem_mem (show k < ls.length by omega))
    have h2 := ih (by omega)
    omega
theorem crc_flat (b : Option Addr) (d : Nat) (ls : List (List (BitVec 8))) (w : World) (hr : RdR w b [ls.flatten]) :
    Calls Try.prog 11 #[.slice b 1 d] w fun e w' => e = .returned (.int .u32 ((crcB ls).toNat : Int)) ∧ w = w' := by
  refine (crc_any b 1 d [ls.flatten] w rfl (by simp) hr).mono ?_
  rintro e w' ⟨rfl, rfl⟩
  exact ⟨by rw [crcB_flat ls]; rfl, rfl⟩
theorem crc_none (w : World) : Calls Try.prog 11 #[.slice none 0 0] w fun e w' => e = .returned (.int .u32 0) ∧ w = w' := by
  refine (crc_any none 0 0 [] w rfl (by simp) (fun k h => absurd h (by simp))).mono ?_
  rintro e w' ⟨rfl, rfl⟩
  exact ⟨rfl, rfl⟩
theorem concat_no (a : Option Addr) (n c : Nat) (ls : List (List (BitVec 8))) (w : World) (hn : ls.length = n) (hr : RdS w a ls) (h : ¬ few? ls) : Calls Try.prog 4 #[.slice a n c] w (Yes w) := by
  subst hn
  go_enter Try.func4, Try.ntmps4
  go_wp2_with (first | (go_at_call 9; (with_reducible refine (few_no _ _ _ ls _ rfl h hr).mono ?_); rintro e w1 ⟨rfl, rfl⟩) | (go_at_call 10; (with_reducible refine (ex_any _).mono ?_); rintro e w9 ⟨rfl, hb9⟩))
  go_ret
  exact ⟨rfl, hb9⟩
def CatRel (w : World) (ls : List (List (BitVec 8))) (v x i : Value) (wr : World) : Prop := ∃ k : Nat, k ≤ ls.length ∧ i = .int .i64 k ∧ wr.ownsRow w.heap.size 5 1 v (preLen ls k) (bv8 (ls.take k).flatten) ∧ x = .int .u32 ((crcB (ls.take k)).toNat : Int) ∧ Below w.heap.size w wr
theorem cat_step {w wr w1 : World} {ls : List (List (BitVec 8))} {v v1 : Value} {k : Nat} (hk : k < ls.length) (hown : w1.ownsRow w.heap.size 5 1 v1 (preLen ls k + ls[k].length) (bv8 (ls.take k).flatten ++ bv8 ls[k]))
    (hown0 : wr.ownsRow w.heap.size 5 1 v (preLen ls k) (bv8 (ls.take k).flatten)) (hg : wr.grownBy w1 v.ownBlock) (hb : Below w.heap.size w wr) : CatRel w ls v1 (.int .u32 ((updB (crcB (ls.take k)) ls[k]).toNat : Int)) (.int .i64 (↑k + 1)) w1 := by
  refine ⟨k + 1, hk, by go_num, ?_, by rw [crc_take _ _ hk], hb.grown hg hb.size (fun q hq => (hown0.lt q hq).1)⟩
  rw [preLen_succ _ _ hk, flat_take _ _ hk, bv8_append]
  exact hown
set_option maxHeartbeats 1000000 in
theorem concat_yes (a : Option Addr) (n c : Nat) (ls : List (List (BitVec 8))) (w : World) (hn : ls.length = n) (hr : RdS w a ls) (h : few? ls) : Calls Try.prog 4 #[.slice a n c] w (Yes w) := by
  subst hn
  have h1 := h.1
  have hrr := hr.bound h.2
  have hpl := preLen_le ls h.2 ls.length (Nat.le_refl _)
  obtain ⟨i0, hi, hz0, hz1, hz2⟩ := info_parts info8
  have hrow := fresh_row w
  have hb0 := Below.alloc (Below.refl w.heap.size w) (Nat.le_refl _) (.cells #[] 5)
  go_enter Try.func4, Try.ntmps4
  go_wp2_with (first | (go_at_call 9; (with_reducible refine (few_yes _ _ _ ls _ rfl (few1 h) (few2 h) hr).mono ?_); rintro e w1 ⟨rfl, rfl⟩))
  go_loopw [3, 4, 5] (fun v x i wr => CatRel w ls v x i wr) (fun _ _ i _ => ls.length - (intOf i).toNat)
  case atStart => exact ⟨0, Nat.zero_le _, rfl, hrow, rfl, hb0⟩
  case round =>
    obtain ⟨k, hk, rfl, hown, rfl, hb⟩ := hrel
    by_cases hlt : k < ls.length
    · obtain ⟨ad, ak, ck, rfl, hc, hrk, hlk⟩ := hrr k hlt
      have hkl := flat_take_le ls (k + 1)
      rw [preLen_succ _ _ hlt] at hkl
      have hc2 := (hb.cell (p := ad.add k) (World.block_lt_of_cell? w _ hc)).trans hc
      go_wp2_with (first
        | (at_builtin; refine wpList_append_rd _ rfl _ _ _ rfl w.heap.size 5 i0 (.int .u8 0) 1 Try.underlying24 hi hz0 hz1 hz2 rfl _ _ _ rfl hown ak ls[k].length ck (bv8 ls[k]) rfl (bv8_len _) ((hrk.below hb).vals) (bv8_one _) (by unfold maxLen; omega) (by omega) hb.size ?_; intro v' w2 hown3 hg3 _; have hst := cat_step hlt hown3 hown hg3 hb; have hb2 : Below w.heap.size w w2 := hb.grown hg3 hb.size (fun q hq => (hown.lt q hq).1); have hc3 := (hb2.cell (p := ad.add k) (World.block_lt_of_cell? w _ hc)).trans hc)
        | (go_at_call 13; (with_reducible refine (upd_any _ _ _ _ _ _ rfl hlk (hrk.below hb2)).mono ?_); rintro e w3 ⟨rfl, rfl⟩))
      go_roundw
      case rel => exact hst
      case measure => simp [intOf]; omega
    · obtain rfl : k = ls.length := by omega
      rw [List.take_length] at hown
      obtain ⟨a', c', rfl⟩ := own_slice hown
      have hfl : ls.flatten.length = preLen ls ls.length := by unfold preLen; rw [List.take_length]
      have hro := Rd.of_own hown
      have hfb : ls.flatten.length ≤ 140737488355328 := by omega
      have HF := Lib.hid hfl
      clear hfl
      have HT : Hid (ls.take ls.length = ls) := List.take_length
      go_wp2_with (first
        | (go_at_call 11; (with_reducible refine (crc_any a _ _ ls _ rfl (by omega) (hrr.below hb)).mono ?_); rintro e w3 ⟨rfl, rfl⟩)
        | (go_at_call 11; (with_reducible refine (crc_flat _ _ ls _ (RdR.one (by simp) HF.out hfb hro _)).mono ?_); rintro e w3 ⟨rfl, rfl⟩)
        | (go_at_call 11; (with_reducible refine (crc_flat _ _ ls _ (RdR.one (by simp) HF.out hfb (hro.below (Below.alloc (Below.refl _ _) (Nat.le_refl _) _)) _)).mono ?_); rintro e w3 ⟨rfl, rfl⟩)
        | (go_at_call 11; (with_reducible refine (crc_none _).mono ?_); rintro e w3 ⟨rfl, rfl⟩)
        | (go_at_call 10; (with_reducible refine (ex_any _).mono ?_); rintro e w9 ⟨rfl, hb9⟩))
      go_ret
      have hz := hb.size
      exact ⟨rfl, (Below.alloc (Below.alloc hb hz _) (by simp; omega) _).trans (hb9.mono (by simp; omega))⟩
theorem concat_w (a : Option Addr) (n c : Nat) (ls : List (List (BitVec 8))) (w : World) (hn : ls.length = n) (hr : RdS w a ls) : Calls Try.prog 4 #[.slice a n c] w (Yes w) := by
  by_cases h : few? ls
  · exact concat_yes a n c ls w hn hr h
  · exact concat_no a n c ls w hn hr h
theorem tail_iff (l : List (BitVec 8)) (n : Nat) : l.drop n = tailB (updB 0#32 (l.take n)) ↔ l.take n ++ tailB (updB 0#32 (l.take n)) = l := by
  constructor
  · intro h
    rw [← h]
    exact List.take_append_drop n l
  · intro h
    have h2 := List.take_append_drop n l
    exact List.append_cancel_left (h2.trans h.symm)
theorem av_big (a : Option Addr) (n c : Nat) (l : List (BitVec 8)) (b : Option Addr) (m d : Nat) (k : List (BitVec 8)) (w : World) (hn : l.length = n) (hm : k.length = m) (hmd : m ≤ d) (hr : Rd w a l) (hs : Rd w b k) (h : 5000 < n) : Calls Try.prog 5 #[.slice a n c, .slice b m d] w (Yes w) := by
  go_enter Try.func5, Try.ntmps5
  go_wp2_with ((go_at_call 10; (with_reducible refine (ex_any _).mono ?_); rintro e w9 ⟨rfl, hb9⟩))
  go_ret
  exact ⟨rfl, hb9⟩
theorem av_big2 (a : Option Addr) (n c : Nat) (l : List (BitVec 8)) (b : Option Addr) (m d : Nat) (k : List (BitVec 8)) (w : World) (hn : l.length = n) (hm : k.length = m) (hmd : m ≤ d) (hr : Rd w a l) (hs : Rd w b k) (h : n ≤ 5000) (h2 : 5000 < m) : Calls Try.prog 5 #[.slice a n c, .slice b m d] w (Yes w) := by
  go_enter Try.func5, Try.ntmps5
  go_wp2_with ((go_at_call 10; (with_reducible refine (ex_any _).mono ?_); rintro e w9 ⟨rfl, hb9⟩))
  go_ret
  exact ⟨rfl, hb9⟩
theorem rt_big (a : Option Addr) (n c : Nat) (l : List (BitVec 8)) (b : Option Addr) (m d : Nat) (k : List (BitVec 8)) (w : World) (hn : l.length = n) (hm : k.length = m) (hmd : m ≤ d) (hr : Rd w a l) (hs : Rd w b k) (h : 5000 < n) : Calls Try.prog 6 #[.slice a n c, .slice b m d] w (Yes w) := by
  go_enter Try.func6, Try.ntmps6
  go_wp2_with ((go_at_call 10; (with_reducible refine (ex_any _).mono ?_); rintro e w9 ⟨rfl, hb9⟩))
  go_ret
  exact ⟨rfl, hb9⟩
theorem rt_big2 (a : Option Addr) (n c : Nat) (l : List (BitVec 8)) (b : Option Addr) (m d : Nat) (k : List (BitVec 8)) (w : World) (hn : l.length = n) (hm : k.length = m) (hmd : m ≤ d) (hr : Rd w a l) (hs : Rd w b k) (h : n ≤ 5000) (h2 : 5000 < m) : Calls Try.prog 6 #[.slice a n c, .slice b m d] w (Yes w) := by
  go_enter Try.func6, Try.ntmps6
  go_wp2_with ((go_at_call 10; (with_reducible refine (ex_any _).mono ?_); rintro e w9 ⟨rfl, hb9⟩))
  go_ret
  exact ⟨rfl, hb9⟩
set_option maxHeartbeats 1000000 in
theorem av_short (a : Option Addr) (n c : Nat) (l : List (BitVec 8)) (b : Option Addr) (m d : Nat) (k : List (BitVec 8)) (w : World) (hn : l.length = n) (hm : k.length = m) (hmd : m ≤ d) (hr : Rd w a l) (hs : Rd w b k) (h : n ≤ 5000) (h2 : m < 4) : Calls Try.prog 5 #[.slice a n c, .slice b m d] w (Yes w) := by
  subst hn hm
  have hl4 : (l ++ tailB (updB 0#32 l)).length = l.length + 4 := by simp [tailB]
  go_enter Try.func5, Try.ntmps5
  go_wp2_with (first
    | (go_at_call 17; (with_reducible refine (ver_short _ _ _ _ h2).mono ?_); rintro e w1 ⟨rfl, rfl⟩)
    | (go_at_call 18; (with_reducible refine (verr_short _ _ _ _ h2).mono ?_); rintro e w1 ⟨rfl, rfl⟩)
    | (go_at_call 20; (with_reducible refine (app_any _ _ _ l _ rfl (by omega) hr).mono ?_); rintro e w1 ⟨a1, c1, rfl, hown1, hb1⟩)
    | (go_at_call 21; (with_reducible refine (appr_any _ _ _ l _ rfl (by omega) (hr.below hb1)).mono ?_); rintro e w2 ⟨a2, c2, rfl, hown2, hb2⟩; have hr1 := (Rd.of_own hown1).below hb2; have hr2 := Rd.of_own hown2; have hb := hb1.trans (hb2.mono hb1.size))
    | (go_at_call 19; (with_reducible refine (same_yes a1 a2 _ _ _ _ _ _ _ hl4 hl4 hr1 hr2 rfl).mono ?_); rintro e w3 ⟨rfl, rfl⟩)
    | (go_at_call 19; (with_reducible refine (same_yes none none _ _ _ _ [] [] _ List.length_nil List.length_nil (Rd.nil _ _) (Rd.nil _ _) rfl).mono ?_); rintro e w3 ⟨rfl, rfl⟩)
    | (go_at_call 10; (with_reducible refine (ex_any _).mono ?_); rintro e w9 ⟨rfl, hb9⟩))
  go_ret
  exact ⟨rfl, hb.trans (hb9.mono hb.size)⟩
set_option maxHeartbeats 1000000 in
theorem av_no (a : Option Addr) (n c : Nat) (l : List (BitVec 8)) (b : Addr) (m d : Nat) (k : List (BitVec 8)) (w : World) (hn : l.length = n) (hm : k.length = m) (hmd : m ≤ d) (hr : Rd w a l) (hs : Rd w (some b) k) (h : n ≤ 5000) (h2 : 4 ≤ m) (h3 : m ≤ 5000) (hv : ¬ k.drop (m - 4) = tailB (updB 0#32 (k.take (m - 4)))) :
    Calls Try.prog 5 #[.slice a n c, .slice (some b) m d] w (Yes w) := by
  subst hn hm
  have hl4 : (l ++ tailB (updB 0#32 l)).length = l.length + 4 := by simp [tailB]
  have HV := Lib.hid hv
  have HW := Lib.hid (fun h => hv ((tail_iff k (k.length - 4)).2 h))
  clear hv
  go_enter Try.func5, Try.ntmps5
  go_wp2_with (first
    | (go_at_call 17; (with_reducible refine (ver_no _ _ _ k _ rfl hmd (by omega) h2 hs HV.out).mono ?_); rintro e v1 ⟨rfl, hc1⟩)
    | (go_at_call 18; (with_reducible refine (verr_no _ _ _ k _ rfl hmd (by omega) h2 (hs.below hc1) HW.out).mono ?_); rintro e v2 ⟨rfl, hc2⟩; have hc := hc1.trans (hc2.mono hc1.size); have hra := hr.below hc)
    | (go_at_call 20; (with_reducible refine (app_any _ _ _ l _ rfl (by omega) hra).mono ?_); rintro e w1 ⟨a1, c1, rfl, hown1, hb1⟩)
    | (go_at_call 21; (with_reducible refine (appr_any _ _ _ l _ rfl (by omega) (hra.below hb1)).mono ?_); rintro e w2 ⟨a2, c2, rfl, hown2, hb2⟩; have hr1 := (Rd.of_own hown1).below hb2; have hr2 := Rd.of_own hown2; have hb := hc.trans ((hb1.trans (hb2.mono hb1.size)).mono hc.size))
    | (go_at_call 19; (with_reducible refine (same_yes a1 a2 _ _ _ _ _ _ _ hl4 hl4 hr1 hr2 rfl).mono ?_); rintro e w3 ⟨rfl, rfl⟩)
    | (go_at_call 19; (with_reducible refine (same_yes none none _ _ _ _ [] [] _ List.length_nil List.length_nil (Rd.nil _ _) (Rd.nil _ _) rfl).mono ?_); rintro e w3 ⟨rfl, rfl⟩)
    | (go_at_call 10; (with_reducible refine (ex_any _).mono ?_); rintro e w9 ⟨rfl, hb9⟩))
  go_ret
  exact ⟨rfl, hb.trans (hb9.mono hb.size)⟩
set_option maxHeartbeats 1000000 in
theorem av_ok (a : Option Addr) (n c : Nat) (l : List (BitVec 8)) (b : Addr) (m d : Nat) (k : List (BitVec 8)) (w : World) (hn : l.length = n) (hm : k.length = m) (hmd : m ≤ d) (hr : Rd w a l) (hs : Rd w (some b) k) (h : n ≤ 5000) (h2 : 4 ≤ m) (h3 : m ≤ 5000) (hv : k.drop (m - 4) = tailB (updB 0#32 (k.take (m - 4)))) :
    Calls Try.prog 5 #[.slice a n c, .slice (some b) m d] w (Yes w) := by
  subst hn hm
  have hl4 : (l ++ tailB (updB 0#32 l)).length = l.length + 4 := by simp [tailB]
  have hk4 : (k.take (k.length - 4)).length = k.length - 4 := by rw [List.length_take]; omega
  have HV := Lib.hid hv
  have HW := Lib.hid ((tail_iff k (k.length - 4)).1 hv)
  have HK := Lib.hid hk4
  clear hv hk4
  go_enter Try.func5, Try.ntmps5
  go_wp2_with (first
    | (go_at_call 17; (with_reducible refine (ver_ok _ _ _ k _ rfl hmd (by omega) h2 hs HV.out).mono ?_); rintro e v1 ⟨x1, y1, rfl, hx1, hc1⟩)
    | (go_at_call 18; (with_reducible refine (verr_ok _ _ _ k _ rfl hmd (by omega) h2 (hs.below hc1) HW.out).mono ?_); rintro e v2 ⟨x2, y2, rfl, hx2, hc2⟩; have hc := hc1.trans (hc2.mono hc1.size); have hra := hr.below hc; have hx1' := (Rd.of_own hx1).below hc2)
    | (go_at_call 20; (with_reducible refine (app_any _ _ _ l _ rfl (by omega) hra).mono ?_); rintro e w1 ⟨a1, c1, rfl, hown1, hb1⟩)
    | (go_at_call 21; (with_reducible refine (appr_any _ _ _ l _ rfl (by omega) (hra.below hb1)).mono ?_); rintro e w2 ⟨a2, c2, rfl, hown2, hb2⟩; have hr1 := (Rd.of_own hown1).below hb2; have hr2 := Rd.of_own hown2; have hx3 := (hx1'.below hb1).below hb2; have hx4 := (hx2.below hb1).below hb2; have hb := hc.trans ((hb1.trans (hb2.mono hb1.size)).mono hc.size))
    | (go_at_call 19; (with_reducible refine (same_yes a1 a2 _ _ _ _ _ _ _ hl4 hl4 hr1 hr2 rfl).mono ?_); rintro e w3 ⟨rfl, rfl⟩)
    | (go_at_call 19; (with_reducible refine (same_yes x1 x2 _ _ _ _ _ _ _ HK.out HK.out hx3 hx4 rfl).mono ?_); rintro e w3 ⟨rfl, rfl⟩)
    | (go_at_call 10; (with_reducible refine (ex_any _).mono ?_); rintro e w9 ⟨rfl, hb9⟩))
  go_ret
  exact ⟨rfl, hb.trans (hb9.mono hb.size)⟩
theorem av_w (a : Option Addr) (n c : Nat) (l : List (BitVec 8)) (b : Option Addr) (m d : Nat) (k : List (BitVec 8)) (w : World) (hn : l.length = n) (hm : k.length = m) (hmd : m ≤ d) (hr : Rd w a l) (hs : Rd w b k) : Calls Try.prog 5 #[.slice a n c, .slice b m d] w (Yes w) := by
  by_cases h : 5000 < n
  · exact av_big a n c l b m d k w hn hm hmd hr hs h
  · by_cases h2 : 5000 < m
    · exact av_big2 a n c l b m d k w hn hm hmd hr hs (by omega) h2
    · by_cases h3 : m < 4
      · exact av_short a n c l b m d k w hn hm hmd hr hs (by omega) h3
      · obtain ⟨ad, rfl, _⟩ := hs 0 (by omega)
        by_cases hv : k.drop (m - 4) = tailB (updB 0#32 (k.take (m - 4)))
        · exact av_ok a n c l ad m d k w hn hm hmd hr hs (by omega) (by omega) (by omega) hv
        · exact av_no a n c l ad m d k w hn hm hmd hr hs (by omega) (by omega) (by omega) hv
set_option maxHeartbeats 1000000 in
theorem rt_short (a : Option Addr) (n c : Nat) (l : List (BitVec 8)) (b : Option Addr) (m d : Nat) (k : List (BitVec 8)) (w : World) (hn : l.length = n) (hm : k.length = m) (hmd : m ≤ d) (hr : Rd w a l) (hs : Rd w b k) (h : n ≤ 5000) (h2 : m < 4) : Calls Try.prog 6 #[.slice a n c, .slice b m d] w (Yes w) := by
  subst hn hm
  have hl4 : (l ++ tailB (updB 0#32 l)).length = l.length + 4 := by simp [tailB]
  go_enter Try.func6, Try.ntmps6
  go_wp2_with (first
    | (go_at_call 20; (with_reducible refine (app_any a _ _ l _ rfl (by omega) hr).mono ?_); rintro e w1 ⟨a1, c1, rfl, hown1, hb1⟩; have hcap1 := own_cap hown1; have hr1 := Rd.of_own hown1)
    | (go_at_call 17; (with_reducible refine (ver_app a1 _ _ l _ rfl hcap1 (by omega) hr1).mono ?_); rintro e w2 ⟨a2, c2, rfl, hown2, hb2⟩; have hr2 := Rd.of_own hown2; have hb := hb1.trans (hb2.mono hb1.size); have hsb := hs.below hb; have hrb := hr.below hb)
    | (go_at_call 17; (with_reducible refine (ver_short b _ _ _ h2).mono ?_); rintro e w3 ⟨rfl, rfl⟩)
    | (go_at_call 19; (with_reducible refine (same_yes a2 a _ _ _ _ l l _ rfl rfl hr2 hrb rfl).mono ?_); rintro e w3 ⟨rfl, rfl⟩)
    | (go_at_call 10; (with_reducible refine (ex_any _).mono ?_); rintro e w9 ⟨rfl, hb9⟩))
  go_ret
  exact ⟨rfl, hb.trans (hb9.mono hb.size)⟩
set_option maxHeartbeats 1000000 in
theorem rt_no (a : Option Addr) (n c : Nat) (l : List (BitVec 8)) (b : Addr) (m d : Nat) (k : List (BitVec 8)) (w : World) (hn : l.length = n) (hm : k.length = m) (hmd : m ≤ d) (hr : Rd w a l) (hs : Rd w (some b) k) (h : n ≤ 5000) (h2 : 4 ≤ m) (h3 : m ≤ 5000) (hv : ¬ k.drop (m - 4) = tailB (updB 0#32 (k.take (m - 4)))) : Calls Try.prog 6 #[.slice a n c, .slice (some b) m d] w (Yes w) := by
  subst hn hm
  have hl4 : (l ++ tailB (updB 0#32 l)).length = l.length + 4 := by simp [tailB]
  have HV := Lib.hid hv
  clear hv
  go_enter Try.func6, Try.ntmps6
  go_wp2_with (first
    | (go_at_call 20; (with_reducible refine (app_any a _ _ l _ rfl (by omega) hr).mono ?_); rintro e w1 ⟨a1, c1, rfl, hown1, hb1⟩; have hcap1 := own_cap hown1; have hr1 := Rd.of_own hown1)
    | (go_at_call 17; (with_reducible refine (ver_app a1 _ _ l _ rfl hcap1 (by omega) hr1).mono ?_); rintro e w2 ⟨a2, c2, rfl, hown2, hb2⟩; have hr2 := Rd.of_own hown2; have hb := hb1.trans (hb2.mono hb1.size); have hsb := hs.below hb; have hrb := hr.below hb)
    | (go_at_call 17; (with_reducible refine (ver_no b _ _ k _ rfl hmd (by omega) h2 hsb HV.out).mono ?_); rintro e w3 ⟨rfl, hb3⟩; have hr3 := hr2.below hb3; have hrb3 := hrb.below hb3; have hbb := hb.trans (hb3.mono hb.size))
    | (go_at_call 19; (with_reducible refine (same_yes a2 a _ _ _ _ l l _ rfl rfl hr3 hrb3 rfl).mono ?_); rintro e w4 ⟨rfl, rfl⟩)
    | (go_at_call 10; (with_reducible refine (ex_any _).mono ?_); rintro e w9 ⟨rfl, hb9⟩))
  go_ret
  exact ⟨rfl, hbb.trans (hb9.mono hbb.size)⟩
set_option maxHeartbeats 1000000 in
theorem rt_ok (a : Option Addr) (n c : Nat) (l : List (BitVec 8)) (b : Addr) (m d : Nat) (k : List (BitVec 8)) (w : World) (hn : l.length = n) (hm : k.length = m) (hmd : m ≤ d) (hr : Rd w a l) (hs : Rd w (some b) k) (h : n ≤ 5000) (h2 : 4 ≤ m) (h3 : m ≤ 5000) (hv : k.drop (m - 4) = tailB (updB 0#32 (k.take (m - 4)))) : Calls Try.prog 6 #[.slice a n c, .slice (some b) m d] w (Yes w) := by
  subst hn hm
  have hl4 : (l ++ tailB (updB 0#32 l)).length = l.length + 4 := by simp [tailB]
  have hk4 : (k.take (k.length - 4)).length = k.length - 4 := by rw [List.length_take]; omega
  have HV := Lib.hid hv
  have HW := Lib.hid ((tail_iff k (k.length - 4)).1 hv)
  have hk5 : (k.take (k.length - 4) ++ tailB (updB 0#32 (k.take (k.length - 4)))).length = k.length := by rw [List.length_append, tailB_len, hk4]; omega
  have HK := Lib.hid hk4
  have HL := Lib.hid hk5
  clear hv hk4 hk5
  have hkl : (k.take (k.length - 4)).length ≤ 140737488355000 := by rw [List.length_take]; omega
  go_enter Try.func6, Try.ntmps6
  go_wp2_with (first
    | (go_at_call 20; (with_reducible refine (app_any a _ _ l _ rfl (by omega) hr).mono ?_); rintro e w1 ⟨a1, c1, rfl, hown1, hb1⟩; have hcap1 := own_cap hown1; have hr1 := Rd.of_own hown1)
    | (go_at_call 17; (with_reducible refine (ver_app a1 _ _ l _ rfl hcap1 (by omega) hr1).mono ?_); rintro e w2 ⟨a2, c2, rfl, hown2, hb2⟩; have hr2 := Rd.of_own hown2; have hb := hb1.trans (hb2.mono hb1.size); have hsb := hs.below hb; have hrb := hr.below hb)
    | (go_at_call 17; (with_reducible refine (ver_ok b _ _ k _ rfl hmd (by omega) h2 hsb HV.out).mono ?_); rintro e w3 ⟨x1, y1, rfl, hx1, hb3⟩; have hr3 := hr2.below hb3; have hrb3 := hrb.below hb3; have hs3 := hsb.below hb3; have hbb := hb.trans (hb3.mono hb.size); have hrx := Rd.of_own hx1)
    | (go_at_call 19; (with_reducible refine (same_yes a2 a _ _ _ _ l l _ rfl rfl hr3 hrb3 rfl).mono ?_); rintro e w4 ⟨rfl, rfl⟩)
    | (go_at_call 20; (with_reducible refine (app_any x1 _ _ (k.take (k.length - 4)) _ HK.out hkl hrx).mono ?_); rintro e w5 ⟨a5, c5, rfl, hown5, hb5⟩; have hr5 := Rd.of_own hown5; have hs5 := hs3.below hb5; have hb6 := hbb.trans (hb5.mono hbb.size))
    | (go_at_call 19; (with_reducible refine (same_yes a5 (some b) _ _ _ _ _ k _ HL.out rfl hr5 hs5 HW.out).mono ?_); rintro e w4 ⟨rfl, rfl⟩)
    | (go_at_call 10; (with_reducible refine (ex_any _).mono ?_); rintro e w9 ⟨rfl, hb9⟩))
  go_ret
  exact ⟨rfl, hb6.trans (hb9.mono hb6.size)⟩
theorem rt_w (a : Option Addr) (n c : Nat) (l : List (BitVec 8)) (b : Option Addr) (m d : Nat) (k : List (BitVec 8)) (w : World) (hn : l.length = n) (hm : k.length = m) (hmd : m ≤ d) (hr : Rd w a l) (hs : Rd w b k) : Calls Try.prog 6 #[.slice a n c, .slice b m d] w (Yes w) := by
  by_cases h : 5000 < n
  · exact rt_big a n c l b m d k w hn hm hmd hr hs h
  · by_cases h2 : 5000 < m
    · exact rt_big2 a n c l b m d k w hn hm hmd hr hs (by omega) h2
    · by_cases h3 : m < 4
      · exact rt_short a n c l b m d k w hn hm hmd hr hs (by omega) h3
      · obtain ⟨ad, rfl, _⟩ := hs 0 (by omega)
        by_cases hv : k.drop (m - 4) = tailB (updB 0#32 (k.take (m - 4)))
        · exact rt_ok a n c l ad m d k w hn hm hmd hr hs (by omega) (by omega) (by omega) hv
        · exact rt_no a n c l ad m d k w hn hm hmd hr hs (by omega) (by omega) (by omega) hv
end Go.Proofs.Ytdbocghkhcihjaa
