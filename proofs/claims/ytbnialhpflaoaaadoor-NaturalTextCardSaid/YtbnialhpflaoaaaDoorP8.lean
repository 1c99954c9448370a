import Derived.Test.YtbnialhpflaoaaaDoorP7
import Derived.Test.YtbnialhpflaoaaaDoorSame
namespace Go.Proofs.YtbnialhpflaoaaaDoor
open Go.RowKit
set_option linter.unusedVariables false
set_option linter.unusedSimpArgs false
/-- The table of the powers of ten reads as it was laid. -/
def Tb (w : World) : Prop := Lib.TabIs Tryd.prog w "internal/strconv.uint64pow10" .u64 Lib.pow10Tab
theorem Tb.below {w w' : World} (h : Tb w) (hb : Below w.heap.size w w') : Tb w' := by
  have hg : Tryd.prog.globalNamed "internal/strconv.uint64pow10" = some 0 := by kernel_rfl
  unfold Tb Lib.TabIs World.var? at h ⊢
  rw [hg] at h ⊢
  simp only [Option.bind_some] at h ⊢
  have hlt : 0 < w.heap.size := by
    rcases Nat.lt_or_ge 0 w.heap.size with h' | h'
    · exact h'
    · rw [Array.getElem?_eq_none h'] at h; cases h
  rw [hb.block _ hlt]
  exact h
theorem canon_one {n : Nat} (h : 0 < n) (h2 : n < 4294967296) : canon n = [BitVec.ofNat 32 n] := by
  rw [canon_pos (by omega), show n / 4294967296 = 0 by omega, canon_zero]
theorem dm_ex (a b : Option Addr) (w : World) (hr : Rw w a [7#32, 1#32]) (hs : Rw w b [2#32]) :
    Calls Tryd.prog 31 #[.slice a 2 2, .slice b 1 1] w fun e w' => ∃ a1 c1 a2 c2, e = .returned (.tuple #[.slice a1 1 c1, .slice a2 1 c2, .int .i64 0]) ∧ Rw w' a1 [2147483651#32] ∧ Rw w' a2 [1#32] ∧ Below w.heap.size w w' := by
  refine (ndm_small a b 2 2 1 1 [7#32, 1#32] [2#32] w rfl rfl (by omega) (by omega) (by omega) (by omega) hr hs (by decide) (by decide) (Nat.le_trans (trim_len_le _) (by decide))).mono ?_
  rintro e w' ⟨a1, c1, a2, c2, rfl, _, _, h1, h2, hb⟩
  have e1 : canon (valD [7#32, 1#32] / valD [2#32]) = [2147483651#32] := by
    rw [show valD [7#32, 1#32] / valD [2#32] = 2147483651 by decide, canon_one (by decide) (by decide)]
  have e2 : canon (valD [7#32, 1#32] % valD [2#32]) = [1#32] := by
    rw [show valD [7#32, 1#32] % valD [2#32] = 1 by decide, canon_one (by decide) (by decide)]
  rw [e1] at h1 ⊢
  rw [e2] at h2 ⊢
  exact ⟨a1, c1, a2, c2, rfl, h1.1, h2.1, hb⟩
theorem mul_ex (a : Option Addr) (w : World) (hr : Rw w a [4294967295#32]) :
    Calls Tryd.prog 29 #[.slice a 1 1, .slice a 1 1] w fun e w' => ∃ a1 c1, e = .returned (.slice a1 2 c1) ∧ Rw w' a1 [1#32, 4294967294#32] ∧ Below w.heap.size w w' := by
  refine (nmul_any a a 1 1 1 1 [4294967295#32] [4294967295#32] w rfl rfl (by omega) (by omega) (by omega) (by omega) hr hr).mono ?_
  rintro e w' ⟨a1, c1, rfl, _, h1, hb⟩
  have e1 : canon (valD [4294967295#32] * valD [4294967295#32]) = [1#32, 4294967294#32] := by
    rw [show valD [4294967295#32] * valD [4294967295#32] = 18446744065119617025 by decide, canon_pos (by decide), show 18446744065119617025 / 4294967296 = 4294967294 by decide, canon_one (by decide) (by decide)]
    decide
  rw [e1] at h1 ⊢
  exact ⟨a1, c1, rfl, h1.1, hb⟩
set_option maxRecDepth 50000 in
set_option maxHeartbeats 2000000 in
theorem example_any (w : World) (hN : Tb w) :
    Calls Tryd.prog 13 #[] w fun e w' => e = .returned (.bool true) ∧ Below w.heap.size w w' := by
  have hT : ∀ W, Below w.heap.size w W → Lib.TabIs Tryd.prog W "internal/strconv.uint64pow10" .u64 Lib.pow10Tab := fun W hW => hN.below hW
  clear hN
  have b1 := Below.alloc (Below.refl w.heap.size w) (Nat.le_refl _) (.cells #[Value.int IntKind.u32 4294967295] 39)
  have b2 := Below.alloc b1 (by simp) (.cells #[Value.int IntKind.u32 7, Value.int IntKind.u32 1] 39)
  have b3 := Below.alloc b2 (by simp; omega) (.cells #[Value.int IntKind.u32 2] 39)
  have r1 : Rw (w.alloc (.cells #[Value.int IntKind.u32 4294967295] 39)) (some ⟨w.heap.size, 0, none⟩) [4294967295#32] := Rw.of_alloc rfl rfl
  have r2 : Rw ((w.alloc (.cells #[Value.int IntKind.u32 4294967295] 39)).alloc (.cells #[Value.int IntKind.u32 7, Value.int IntKind.u32 1] 39)) (some ⟨w.heap.size + 1, 0, none⟩) [7#32, 1#32] := Rw.of_alloc (by simp) rfl
  have r3 : Rw (((w.alloc (.cells #[Value.int IntKind.u32 4294967295] 39)).alloc (.cells #[Value.int IntKind.u32 7, Value.int IntKind.u32 1] 39)).alloc (.cells #[Value.int IntKind.u32 2] 39)) (some ⟨w.heap.size + 1 + 1, 0, none⟩) [2#32] := Rw.of_alloc (by simp) rfl
  have al : ∀ (W : World) (o : Obj), Below W.heap.size W (W.alloc o) := fun W o => Below.alloc (Below.refl _ _) (Nat.le_refl _) o
  have r12 := (r1.below (al _ (.cells #[Value.int IntKind.u32 7, Value.int IntKind.u32 1] 39))).below (al _ (.cells #[Value.int IntKind.u32 2] 39))
  have r22 := r2.below (al _ (.cells #[Value.int IntKind.u32 2] 39))
  clear r1 r2 b1 b2
  go_enter Tryd.func13, Tryd.ntmps13
  go_wp2_with (first
    | (go_at_call 38; (with_reducible refine (parse007 _).mono ?_); rintro e w9 ⟨rfl, rfl⟩)
    | (go_at_call 31; (with_reducible refine (dm_ex _ _ _ r22 r3).mono ?_); rintro e w1 ⟨a1, c1, a2, c2, rfl, hq, hr, hb1⟩; have hm1 := r12.below hb1; have hbw1 := b3.trans (hb1.mono b3.size); have hz1 := hbw1.size; clear hb1 r12 r22 r3 b3)
    | (go_at_call 29; (with_reducible refine (mul_ex _ _ hm1).mono ?_); rintro e w2 ⟨a3, c3, rfl, hm2, hb2⟩; have hq2 := hq.below hb2; have hr2 := hr.below hb2; have hbw2 := hbw1.trans (hb2.mono hz1); have hz2 := hbw2.size; have hm3 := hm2.below (al _ (.cells #[Value.int IntKind.u32 1, Value.int IntKind.u32 4294967294] 39)); have hq3 := hq2.below (al _ (.cells #[Value.int IntKind.u32 1, Value.int IntKind.u32 4294967294] 39)); have hr3 := hr2.below (al _ (.cells #[Value.int IntKind.u32 1, Value.int IntKind.u32 4294967294] 39)); have hbw3 := hbw2.alloc hz2 (.cells #[Value.int IntKind.u32 1, Value.int IntKind.u32 4294967294] 39); have hz3 := hbw3.size; have hx3 : Rw (w2.alloc (.cells #[Value.int IntKind.u32 1, Value.int IntKind.u32 4294967294] 39)) (some ⟨w2.heap.size, 0, none⟩) [1#32, 4294967294#32] := Rw.of_alloc rfl rfl; clear hb2)
    | (go_at_call 14; (with_reducible refine (same_yes _ _ 2 _ 2 _ [1#32, 4294967294#32] [1#32, 4294967294#32] _ rfl rfl (by decide) hm3 hx3 rfl).mono ?_); rintro e w4 ⟨rfl, hb4⟩; have hq4 := (hq3.below hb4).below (al _ (.cells #[Value.int IntKind.u32 2147483651] 39)); have hr4 := (hr3.below hb4).below (al _ (.cells #[Value.int IntKind.u32 2147483651] 39)); have hbw4 := (hbw3.trans (hb4.mono hz3)); have hbw5 := hbw4.alloc hbw4.size (.cells #[Value.int IntKind.u32 2147483651] 39); have hz5 := hbw5.size; have hx4 : Rw (w4.alloc (.cells #[Value.int IntKind.u32 2147483651] 39)) (some ⟨w4.heap.size, 0, none⟩) [2147483651#32] := Rw.of_alloc rfl rfl; clear hb4 hm3 hx3)
    | (go_at_call 14; (with_reducible refine (same_yes _ _ 1 _ 1 _ [2147483651#32] [2147483651#32] _ rfl rfl (by decide) hq4 hx4 rfl).mono ?_); rintro e w6 ⟨rfl, hb6⟩; have hr6 := (hr4.below hb6).below (al _ (.cells #[Value.int IntKind.u32 1] 39)); have hbw6 := (hbw5.trans (hb6.mono hz5)); have hbw7 := hbw6.alloc hbw6.size (.cells #[Value.int IntKind.u32 1] 39); have hz7 := hbw7.size; have hx6 : Rw (w6.alloc (.cells #[Value.int IntKind.u32 1] 39)) (some ⟨w6.heap.size, 0, none⟩) [1#32] := Rw.of_alloc rfl rfl; clear hb6 hq4 hx4)
    | (go_at_call 14; (with_reducible refine (same_yes _ _ 1 _ 1 _ [1#32] [1#32] _ rfl rfl (by decide) hr6 hx6 rfl).mono ?_); rintro e w8 ⟨rfl, hb8⟩; have hbw8 := (hbw7.trans (hb8.mono hz7)); have hbw9 := hbw8.alloc hbw8.size (.cells #[Value.int IntKind.u32 0, Value.int IntKind.u32 1] 39); have hz9 := hbw9.size; have hx8 : Rw (w8.alloc (.cells #[Value.int IntKind.u32 0, Value.int IntKind.u32 1] 39)) (some ⟨w8.heap.size, 0, none⟩) [0#32, 1#32] := Rw.of_alloc rfl rfl)
    | (go_at_call 40; (with_reducible refine (format01 _ 2 _ (Nat.le_refl _) hx8 (fun W hW => hT W (hbw9.trans (hW.mono hz9)))).mono ?_); rintro e w10 ⟨rfl, hb10⟩; have hbw10 := hbw9.trans (hb10.mono hz9)))
  go_ret
  exact ⟨rfl, hbw10⟩
end Go.Proofs.YtbnialhpflaoaaaDoor
