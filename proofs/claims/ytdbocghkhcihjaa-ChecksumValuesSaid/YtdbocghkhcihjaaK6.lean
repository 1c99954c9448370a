import Derived.Test.YtdbocghkhcihjaaK5
import Derived.Test.YtdbocghkhcihjaaOpn
namespace Go.Proofs.Ytdbocghkhcihjaa
open Go.RowKit
set_option linter.unusedVariables false
set_option linter.unusedSimpArgs false
theorem fresh_row (W : World) : (W.alloc (.cells #[] 5)).ownsRow W.heap.size 5 1 (.slice (some ⟨W.heap.size, 0, none⟩) 0 0) 0 [] := World.ownsRow_made W #[] 0 (Nat.le_refl _) (by unfold maxLen; omega) (by simp)
theorem one_vals (W : World) (c : BitVec 8) : RdV (W.alloc (.cells #[.int .u8 (c.toNat : Int)] 5)) (some ⟨W.heap.size, 0, none⟩) (bv8 [c]) := fun j u hu => ⟨_, rfl, cell_one_new _ _ _ j u hu⟩
theorem snoc_below {w w1 w2 : World} {v1 : Value} {b : Nat} (o0 o1 : Obj) (hg1 : (w.alloc o0).grownBy w1 (some w.heap.size)) (hl : ∀ q, v1.ownBlock = some q → w.heap.size ≤ q) (hg2 : (w1.alloc o1).grownBy w2 v1.ownBlock) : Below w.heap.size w w2 := by
  have b1 := (Below.alloc (Below.refl w.heap.size w) (Nat.le_refl _) o0).grown hg1 (by simp) (fun q hq => by cases hq; exact Nat.le_refl _)
  exact (Below.alloc b1 b1.size o1).grown hg2 (by have := b1.size; simp; omega) hl
theorem fnv_inj (h : BitVec 64) (m k : BitVec 8) : (h ^^^ m.setWidth 64) * 1099511628211#64 = (h ^^^ k.setWidth 64) * 1099511628211#64 ↔ m = k := by
  constructor
  · intro e
    have e2 := congrArg (· * 0xce965057aff6957b#64) e
    simp only [BitVec.mul_assoc, show (1099511628211#64 * 0xce965057aff6957b#64 : BitVec 64) = 1#64 by decide, BitVec.mul_one] at e2
    have e3 := congrArg (h ^^^ ·) e2
    simp only [← BitVec.xor_assoc, BitVec.xor_self, BitVec.zero_xor] at e3
    have e4 := congrArg (BitVec.setWidth 8) e3
    simpa using e4
  · rintro rfl; rfl
theorem fnvB_snoc (s : BitVec 64) (l : List (BitVec 8)) (m : BitVec 8) : fnvB s (l ++ [m]) = (fnvB s l ^^^ m.setWidth 64) * 1099511628211#64 := by rw [fnvB_append]; rfl
def Yes (w : World) (e : Ending) (w' : World) : Prop := e = .returned (.bool true) ∧ Below w.heap.size w w'
set_option maxHeartbeats 1000000 in
theorem fnvstep_no (a : Option Addr) (n c : Nat) (l : List (BitVec 8)) (m k : BitVec 8) (w : World) (hn : l.length = n) (h : n ≤ 5000) (hmk : ¬ m = k) (hr : Rd w a l) :
    Calls Try.prog 8 #[.slice a n c, .int .u8 (m.toNat : Int), .int .u8 (k.toNat : Int)] w (Yes w) := by
  subst hn
  obtain ⟨i0, hi, hz0, hz1, hz2⟩ := info_parts info8
  have hlm : (l ++ [m]).length = l.length + 1 := by simp
  have hlk : (l ++ [k]).length = l.length + 1 := by simp
  have hq : IntKind.u64.wrap (bits .xor .u64 ((fnvB 14695981039346656037#64 l).toNat : Int) (m.toNat : Int) * 1099511628211) = ((fnvB 14695981039346656037#64 (l ++ [m])).toNat : Int) := by rw [fnv_step, fnvB_snoc]
  have e1 : ((m.toNat : Int) == (k.toNat : Int)) = false := by rw [beq_eq_false_iff_ne]; exact fun h => hmk (bv_inj.1 h)
  have e2 : (((fnvB 14695981039346656037#64 (l ++ [m])).toNat : Int) == ((fnvB 14695981039346656037#64 (l ++ [k])).toNat : Int)) = false := by
    rw [beq_eq_false_iff_ne, fnvB_snoc, fnvB_snoc]; exact fun h => hmk ((fnv_inj _ _ _).1 (bv_inj.1 h))
  clear hmk
  go_enter Try.func8, Try.ntmps8
  go_wp2_with (first
      | (at_builtin; refine wpList_append_rd _ rfl (.tmp 13) (.tmp 14) _ rfl w.heap.size 5 i0 (.int .u8 0) 1 Try.underlying24 hi hz0 hz1 hz2 rfl (.slice (some ⟨w.heap.size, 0, none⟩) 0 0) 0 [] rfl (fresh_row w) a l.length c (bv8 l) rfl (bv8_len _) ((hr.below (Below.alloc (Below.refl _ _) (Nat.le_refl _) _)).vals) (bv8_one _) (by unfold maxLen; omega) (by omega) (by simp) ?_; intro v1 w1 hown1 hg1 _; rw [Nat.zero_add, List.nil_append] at hown1; have hs1 : w.heap.size ≤ w1.heap.size := Nat.le_trans (by simp) hg1.size)
      | (at_builtin; refine wpList_append_rd _ rfl (.tmp 15) (.tmp 17) _ rfl w.heap.size 5 i0 (.int .u8 0) 1 Try.underlying24 hi hz0 hz1 hz2 rfl v1 l.length (bv8 l) rfl (hown1.alloc _) (some ⟨w1.heap.size, 0, none⟩) 1 1 (bv8 [m]) rfl rfl (one_vals _ _) (bv8_one _) (by unfold maxLen; omega) (by omega) (by simp; omega) ?_; intro v2 w2 hown2 hg2 _; rw [← bv8_append] at hown2; have hb2 : Below w.heap.size w w2 := snoc_below (b := 0) _ _ hg1 (fun q hq => (hown1.lt q hq).1) hg2; obtain ⟨a2, c2, rfl⟩ := own_slice hown2; have hr2 := Rd.of_own hown2; have hrw := hr.below hb2; clear hown1 hg1 hown2 hg2)
      | (at_builtin; refine wpList_append_rd _ rfl (.tmp 19) (.tmp 20) _ rfl w2.heap.size 5 i0 (.int .u8 0) 1 Try.underlying24 hi hz0 hz1 hz2 rfl (.slice (some ⟨w2.heap.size, 0, none⟩) 0 0) 0 [] rfl (fresh_row w2) a l.length c (bv8 l) rfl (bv8_len _) ((hrw.below (Below.alloc (Below.refl _ _) (Nat.le_refl _) _)).vals) (bv8_one _) (by unfold maxLen; omega) (by omega) (by simp) ?_; intro v3 w3 hown3 hg3 _; rw [Nat.zero_add, List.nil_append] at hown3; have hs3 : w2.heap.size ≤ w3.heap.size := Nat.le_trans (by simp) hg3.size)
      | (at_builtin; refine wpList_append_rd _ rfl (.tmp 21) (.tmp 23) _ rfl w2.heap.size 5 i0 (.int .u8 0) 1 Try.underlying24 hi hz0 hz1 hz2 rfl v3 l.length (bv8 l) rfl (hown3.alloc _) (some ⟨w3.heap.size, 0, none⟩) 1 1 (bv8 [k]) rfl rfl (one_vals _ _) (bv8_one _) (by unfold maxLen; omega) (by omega) (by simp; omega) ?_; intro v4 w4 hown4 hg4 _; rw [← bv8_append] at hown4; have hb4 : Below w2.heap.size w2 w4 := snoc_below (b := 0) _ _ hg3 (fun q hq => (hown3.lt q hq).1) hg4; obtain ⟨a4, c4, rfl⟩ := own_slice hown4; have hr4 := Rd.of_own hown4; have hrl := hrw.below hb4; have hrm := hr2.below hb4; have hb := hb2.trans (hb4.mono hb2.size); clear hown3 hg3 hown4 hg4)
      | (go_at_call 15; (with_reducible refine (fnv_any a4 _ _ (l ++ [k]) _ hlk (by omega) hr4).mono ?_); rintro e w5 ⟨rfl, rfl⟩)
      | (go_at_call 15; (with_reducible refine (fnv_any a2 _ _ (l ++ [m]) _ hlm (by omega) hrm).mono ?_); rintro e w5 ⟨rfl, rfl⟩)
      | (go_at_call 15; (with_reducible refine (fnv_any a _ _ l _ rfl (by omega) hrl).mono ?_); rintro e w5 ⟨rfl, rfl⟩)
      | (go_at_call 10; (with_reducible refine (ex_any _).mono ?_); rintro e w6 ⟨rfl, hb6⟩))
  go_ret
  exact ⟨rfl, hb.trans (hb6.mono hb.size)⟩
set_option maxHeartbeats 1000000 in
theorem fnvstep_yes (a : Option Addr) (n c : Nat) (l : List (BitVec 8)) (m k : BitVec 8) (w : World) (hn : l.length = n) (h : n ≤ 5000) (hmk : m = k) (hr : Rd w a l) :
    Calls Try.prog 8 #[.slice a n c, .int .u8 (m.toNat : Int), .int .u8 (k.toNat : Int)] w (Yes w) := by
  subst hn
  obtain ⟨i0, hi, hz0, hz1, hz2⟩ := info_parts info8
  have hlm : (l ++ [m]).length = l.length + 1 := by simp
  have hlk : (l ++ [k]).length = l.length + 1 := by simp
  have hq : IntKind.u64.wrap (bits .xor .u64 ((fnvB 14695981039346656037#64 l).toNat : Int) (m.toNat : Int) * 1099511628211) = ((fnvB 14695981039346656037#64 (l ++ [m])).toNat : Int) := by rw [fnv_step, fnvB_snoc]
  subst hmk
  clear hlk
  have hlk : (l ++ [m]).length = l.length + 1 := hlm
  go_enter Try.func8, Try.ntmps8
  go_wp2_with (first
      | (at_builtin; refine wpList_append_rd _ rfl (.tmp 13) (.tmp 14) _ rfl w.heap.size 5 i0 (.int .u8 0) 1 Try.underlying24 hi hz0 hz1 hz2 rfl (.slice (some ⟨w.heap.size, 0, none⟩) 0 0) 0 [] rfl (fresh_row w) a l.length c (bv8 l) rfl (bv8_len _) ((hr.below (Below.alloc (Below.refl _ _) (Nat.le_refl _) _)).vals) (bv8_one _) (by unfold maxLen; omega) (by omega) (by simp) ?_; intro v1 w1 hown1 hg1 _; rw [Nat.zero_add, List.nil_append] at hown1; have hs1 : w.heap.size ≤ w1.heap.size := Nat.le_trans (by simp) hg1.size)
      | (at_builtin; refine wpList_append_rd _ rfl (.tmp 15) (.tmp 17) _ rfl w.heap.size 5 i0 (.int .u8 0) 1 Try.underlying24 hi hz0 hz1 hz2 rfl v1 l.length (bv8 l) rfl (hown1.alloc _) (some ⟨w1.heap.size, 0, none⟩) 1 1 (bv8 [m]) rfl rfl (one_vals _ _) (bv8_one _) (by unfold maxLen; omega) (by omega) (by simp; omega) ?_; intro v2 w2 hown2 hg2 _; rw [← bv8_append] at hown2; have hb2 : Below w.heap.size w w2 := snoc_below (b := 0) _ _ hg1 (fun q hq => (hown1.lt q hq).1) hg2; obtain ⟨a2, c2, rfl⟩ := own_slice hown2; have hr2 := Rd.of_own hown2; have hrw := hr.below hb2; clear hown1 hg1 hown2 hg2)
      | (at_builtin; refine wpList_append_rd _ rfl (.tmp 19) (.tmp 20) _ rfl w2.heap.size 5 i0 (.int .u8 0) 1 Try.underlying24 hi hz0 hz1 hz2 rfl (.slice (some ⟨w2.heap.size, 0, none⟩) 0 0) 0 [] rfl (fresh_row w2) a l.length c (bv8 l) rfl (bv8_len _) ((hrw.below (Below.alloc (Below.refl _ _) (Nat.le_refl _) _)).vals) (bv8_one _) (by unfold maxLen; omega) (by omega) (by simp) ?_; intro v3 w3 hown3 hg3 _; rw [Nat.zero_add, List.nil_append] at hown3; have hs3 : w2.heap.size ≤ w3.heap.size := Nat.le_trans (by simp) hg3.size)
      | (at_builtin; refine wpList_append_rd _ rfl (.tmp 21) (.tmp 23) _ rfl w2.heap.size 5 i0 (.int .u8 0) 1 Try.underlying24 hi hz0 hz1 hz2 rfl v3 l.length (bv8 l) rfl (hown3.alloc _) (some ⟨w3.heap.size, 0, none⟩) 1 1 (bv8 [m]) rfl rfl (one_vals _ _) (bv8_one _) (by unfold maxLen; omega) (by omega) (by simp; omega) ?_; intro v4 w4 hown4 hg4 _; rw [← bv8_append] at hown4; have hb4 : Below w2.heap.size w2 w4 := snoc_below (b := 0) _ _ hg3 (fun q hq => (hown3.lt q hq).1) hg4; obtain ⟨a4, c4, rfl⟩ := own_slice hown4; have hr4 := Rd.of_own hown4; have hrl := hrw.below hb4; have hrm := hr2.below hb4; have hb := hb2.trans (hb4.mono hb2.size); clear hown3 hg3 hown4 hg4)
      | (go_at_call 15; (with_reducible refine (fnv_any a4 _ _ (l ++ [m]) _ hlk (by omega) hr4).mono ?_); rintro e w5 ⟨rfl, rfl⟩)
      | (go_at_call 15; (with_reducible refine (fnv_any a2 _ _ (l ++ [m]) _ hlm (by omega) hrm).mono ?_); rintro e w5 ⟨rfl, rfl⟩)
      | (go_at_call 15; (with_reducible refine (fnv_any a _ _ l _ rfl (by omega) hrl).mono ?_); rintro e w5 ⟨rfl, rfl⟩)
      | (go_at_call 10; (with_reducible refine (ex_any _).mono ?_); rintro e w6 ⟨rfl, hb6⟩))
  go_ret
  exact ⟨rfl, hb.trans (hb6.mono hb.size)⟩
theorem fnvstep_w (a : Option Addr) (n c : Nat) (l : List (BitVec 8)) (m k : BitVec 8) (w : World) (hn : l.length = n) (hr : Rd w a l) :
    Calls Try.prog 8 #[.slice a n c, .int .u8 (m.toNat : Int), .int .u8 (k.toNat : Int)] w (Yes w) := by
  by_cases h : 5000 < n
  · go_enter Try.func8, Try.ntmps8
    go_wp2_with (go_at_call 10; (with_reducible refine (ex_any _).mono ?_); rintro e w1 ⟨rfl, hb⟩)
    go_ret
    exact ⟨rfl, hb⟩
  · by_cases hmk : m = k
    · exact fnvstep_yes a n c l m k w hn (by omega) hmk hr
    · exact fnvstep_no a n c l m k w hn (by omega) hmk hr
end Go.Proofs.Ytdbocghkhcihjaa
