import Derived.Test.YtdhajiaepaamgaaDoorO1
import Derived.WalkKit
import Derived.Deep.CutRange
import Derived.WalkSpells
import Derived.WalkLawsBesides
import Derived.Lib.Hide
import Derived.Below
import Derived.Deep.QuietTactic
import Derived.BigQuiet
import Derived.Deep.RegionHeld3
import Derived.Deep.DrawnRows
import Derived.Deep.DeepFit
import Derived.IntWalk
namespace Go.Proofs.YtdhajiaepaamgaaDoor
open Go.RowKit
set_option linter.unusedVariables false
set_option linter.unusedSimpArgs false
attribute [local go_sem ↓] Go.wp_at_zero Go.wp_at_succ
attribute [local go_sem] rhoF_tmp rhoF_const rhoF_global rhoF_func

/- a gray source, or a gray destination under Luminosity: one component thrice -/
theorem mixQ_l {n d l : Int} (hd : 0 < d) (hn : 100 * n = l * d) : mixQ 0 n d = (2 * l + 25500) / 51000 := by
  unfold mixQ
  rw [Int.zero_mul, Int.add_zero]
  have h1 : (100 * (2 * n + d * 255)) / (100 * (2 * (d * 255))) = (2 * n + d * 255) / (2 * (d * 255)) := Int.mul_ediv_mul_of_pos _ _ (by omega)
  have e1 : d * (2 * l + 25500) = 2 * (l * d) + d * 25500 := by rw [Int.mul_add, ← Int.mul_assoc d 2 l, Int.mul_comm d 2, Int.mul_assoc, Int.mul_comm d l]
  have e2 : 100 * (2 * n + d * 255) = d * (2 * l + 25500) := by omega
  rw [← h1, e2, show 100 * (2 * (d * 255)) = d * 51000 by omega]
  exact Int.mul_ediv_mul_of_pos _ _ hd
theorem nsQ_gray {x0 x1 x2 t l aa v u c : Int} (h0 : 0 ≤ x0 ∧ x0 ≤ aa) (h1 : 0 ≤ x1 ∧ x1 ≤ aa) (h2 : 0 ≤ x2 ∧ x2 ≤ aa) (hc : lo3 x0 x1 x2 ≤ c ∧ c ≤ hi3 x0 x1 x2) (ht : 0 ≤ t ∧ t ≤ aa) (hl : 0 ≤ l ∧ l ≤ 100 * aa) (hg : t = 0 ∨ hi3 x0 x1 x2 = lo3 x0 x1 x2) :
    nsQ x0 x1 x2 t l aa v 255 u 255 c = (2 * l + 25500) / 51000 := by
  obtain ⟨b0, b1⟩ := lm3_bd x0 x1 x2
  have sb := st3_bd h0 h1 h2
  have f := (fr_bd (c := c) (lo := lo3 x0 x1 x2) (hi := hi3 x0 x1 x2) (m := hi3 x0 x1 x2 - lo3 x0 x1 x2) (k := lm3 x0 x1 x2 - 100 * lo3 x0 x1 x2) (t := t) (l := l) (a := aa) rfl hc.1 hc.2 (by omega) (by omega) ht.1 ht.2 hl.1 hl.2 (by omega)).1
  unfold nsQ
  rw [unc_op]
  refine mixQ_l f ?_
  obtain ⟨m, hm⟩ : ∃ y, hi3 x0 x1 x2 - lo3 x0 x1 x2 = y := ⟨_, rfl⟩
  rw [hm]
  obtain ⟨k, hk⟩ : ∃ y, lm3 x0 x1 x2 - 100 * lo3 x0 x1 x2 = y := ⟨_, rfl⟩
  rw [hk]
  unfold frN frD
  by_cases e1 : m = 0
  · simp only [if_pos e1]; omega
  simp only [if_neg e1]
  have ht0 : t = 0 := by omega
  subst ht0
  have q1 : 0 ≤ l * m := Int.mul_nonneg hl.1 (by omega)
  have q2 : l * m ≤ 100 * aa * m := Int.mul_le_mul_of_nonneg_right hl.2 (by omega)
  have n1 : ¬ l * m < 0 * k := by rw [Int.zero_mul]; omega
  have n2 : ¬ 100 * aa * m < 100 * m * 0 + l * m - 0 * k := by rw [Int.zero_mul, Int.mul_zero]; omega
  simp only [if_neg n1, if_neg n2]
  rw [Int.mul_zero, Int.zero_mul, Int.mul_left_comm l 100 m]
  omega
theorem gq_near (L : Int) : -50 ≤ 100 * ((2 * (255 * L) + 25500) / 51000) - L ∧ 100 * ((2 * (255 * L) + 25500) / 51000) - L ≤ 50 := by omega

theorem gray10_any (k r g b : Int) (k0 : 0 ≤ k) (k1 : k ≤ 255) (r0 : 0 ≤ r) (r1 : r ≤ 255) (g0 : 0 ≤ g) (g1 : g ≤ 255) (b0 : 0 ≤ b) (b1 : b ≤ 255) (w : World) :
    Calls Tryd.prog 23 #[.int .i64 10, .agg #[.int .u8 k, .int .u8 k, .int .u8 k, .int .u8 255], .agg #[.int .u8 r, .int .u8 g, .int .u8 b, .int .u8 255]] w fun e w' => e = .returned (.agg #[.int .u8 ((2 * (255 * (30 * r + 59 * g + 11 * b)) + 25500) / 51000), .int .u8 ((2 * (255 * (30 * r + 59 * g + 11 * b)) + 25500) / 51000), .int .u8 ((2 * (255 * (30 * r + 59 * g + 11 * b)) + 25500) / 51000), .int .u8 255]) ∧ Below w.heap.size w w' := by
  have hk : 0 ≤ 255 * min k 255 ∧ 255 * min k 255 ≤ 255 * 255 := by omega
  have hy0 : 0 ≤ 255 * min r 255 ∧ 255 * min r 255 ≤ 255 * 255 := by omega
  have hy1 : 0 ≤ 255 * min g 255 ∧ 255 * min g 255 ≤ 255 * 255 := by omega
  have hy2 : 0 ≤ 255 * min b 255 ∧ 255 * min b 255 ≤ 255 * 255 := by omega
  have sX := st3_bd hk hk hk
  have sT := st3_bd hy0 hy1 hy2
  have sL := st3_bd hy0 hy1 hy2
  have el : lm3 (255 * min r 255) (255 * min g 255) (255 * min b 255) = 255 * (30 * r + 59 * g + 11 * b) := by unfold lm3; omega
  have eg : st3 (255 * min r 255) (255 * min g 255) (255 * min b 255) = 0 ∨ hi3 (255 * min k 255) (255 * min k 255) (255 * min k 255) = lo3 (255 * min k 255) (255 * min k 255) (255 * min k 255) := by right; unfold hi3 lo3; omega
  have e0 := fun v u => nsQ_gray (v := v) (u := u) (t := st3 (255 * min r 255) (255 * min g 255) (255 * min b 255)) (l := lm3 (255 * min r 255) (255 * min g 255) (255 * min b 255)) hk hk hk (c := 255 * min k 255) ⟨sX.2.2.2.2.2.2.1, sX.2.2.2.2.2.2.2.2.2.1⟩ ⟨sT.1, sT.2.1⟩ ⟨sL.2.2.1, sL.2.2.2.1⟩ eg
  have e1 := fun v u => nsQ_gray (v := v) (u := u) (t := st3 (255 * min r 255) (255 * min g 255) (255 * min b 255)) (l := lm3 (255 * min r 255) (255 * min g 255) (255 * min b 255)) hk hk hk (c := 255 * min k 255) ⟨sX.2.2.2.2.2.2.2.1, sX.2.2.2.2.2.2.2.2.2.2.1⟩ ⟨sT.1, sT.2.1⟩ ⟨sL.2.2.1, sL.2.2.2.1⟩ eg
  have e2 := fun v u => nsQ_gray (v := v) (u := u) (t := st3 (255 * min r 255) (255 * min g 255) (255 * min b 255)) (l := lm3 (255 * min r 255) (255 * min g 255) (255 * min b 255)) hk hk hk (c := 255 * min k 255) ⟨sX.2.2.2.2.2.2.2.2.1, sX.2.2.2.2.2.2.2.2.2.2.2⟩ ⟨sT.1, sT.2.1⟩ ⟨sL.2.2.1, sL.2.2.2.1⟩ eg
  have c := blendC_any 10 k k k 255 r g b 255 _ _ _ (by omega) (by omega) k0 k1 k0 k1 k0 k1 (by omega) (by omega) r0 r1 g0 g1 b0 b1 (by omega) (by omega) (fun w => bcol10_any (min k 255) (min k 255) (min k 255) 255 (min r 255) (min g 255) (min b 255) 255 (by omega) (by omega) (by omega) (by omega) (by omega) (by omega) (by omega) (by omega) (by omega) (by omega) (by omega) (by omega) (by omega) (by omega) (by omega) (by omega) (by omega) (by omega) (by omega) (by omega) (by omega) (by omega) w) w
  rw [al_op, e0, e0, e0, el] at c
  exact c

theorem gray11_any (k r g b : Int) (k0 : 0 ≤ k) (k1 : k ≤ 255) (r0 : 0 ≤ r) (r1 : r ≤ 255) (g0 : 0 ≤ g) (g1 : g ≤ 255) (b0 : 0 ≤ b) (b1 : b ≤ 255) (w : World) :
    Calls Tryd.prog 23 #[.int .i64 11, .agg #[.int .u8 k, .int .u8 k, .int .u8 k, .int .u8 255], .agg #[.int .u8 r, .int .u8 g, .int .u8 b, .int .u8 255]] w fun e w' => e = .returned (.agg #[.int .u8 ((2 * (255 * (30 * r + 59 * g + 11 * b)) + 25500) / 51000), .int .u8 ((2 * (255 * (30 * r + 59 * g + 11 * b)) + 25500) / 51000), .int .u8 ((2 * (255 * (30 * r + 59 * g + 11 * b)) + 25500) / 51000), .int .u8 255]) ∧ Below w.heap.size w w' := by
  have hk : 0 ≤ 255 * min k 255 ∧ 255 * min k 255 ≤ 255 * 255 := by omega
  have hy0 : 0 ≤ 255 * min r 255 ∧ 255 * min r 255 ≤ 255 * 255 := by omega
  have hy1 : 0 ≤ 255 * min g 255 ∧ 255 * min g 255 ≤ 255 * 255 := by omega
  have hy2 : 0 ≤ 255 * min b 255 ∧ 255 * min b 255 ≤ 255 * 255 := by omega
  have sX := st3_bd hy0 hy1 hy2
  have sT := st3_bd hk hk hk
  have sL := st3_bd hy0 hy1 hy2
  have el : lm3 (255 * min r 255) (255 * min g 255) (255 * min b 255) = 255 * (30 * r + 59 * g + 11 * b) := by unfold lm3; omega
  have eg : st3 (255 * min k 255) (255 * min k 255) (255 * min k 255) = 0 ∨ hi3 (255 * min r 255) (255 * min g 255) (255 * min b 255) = lo3 (255 * min r 255) (255 * min g 255) (255 * min b 255) := by left; unfold st3 hi3 lo3; omega
  have e0 := fun v u => nsQ_gray (v := v) (u := u) (t := st3 (255 * min k 255) (255 * min k 255) (255 * min k 255)) (l := lm3 (255 * min r 255) (255 * min g 255) (255 * min b 255)) hy0 hy1 hy2 (c := 255 * min r 255) ⟨sX.2.2.2.2.2.2.1, sX.2.2.2.2.2.2.2.2.2.1⟩ ⟨sT.1, sT.2.1⟩ ⟨sL.2.2.1, sL.2.2.2.1⟩ eg
  have e1 := fun v u => nsQ_gray (v := v) (u := u) (t := st3 (255 * min k 255) (255 * min k 255) (255 * min k 255)) (l := lm3 (255 * min r 255) (255 * min g 255) (255 * min b 255)) hy0 hy1 hy2 (c := 255 * min g 255) ⟨sX.2.2.2.2.2.2.2.1, sX.2.2.2.2.2.2.2.2.2.2.1⟩ ⟨sT.1, sT.2.1⟩ ⟨sL.2.2.1, sL.2.2.2.1⟩ eg
  have e2 := fun v u => nsQ_gray (v := v) (u := u) (t := st3 (255 * min k 255) (255 * min k 255) (255 * min k 255)) (l := lm3 (255 * min r 255) (255 * min g 255) (255 * min b 255)) hy0 hy1 hy2 (c := 255 * min b 255) ⟨sX.2.2.2.2.2.2.2.2.1, sX.2.2.2.2.2.2.2.2.2.2.2⟩ ⟨sT.1, sT.2.1⟩ ⟨sL.2.2.1, sL.2.2.2.1⟩ eg
  have c := blendC_any 11 k k k 255 r g b 255 _ _ _ (by omega) (by omega) k0 k1 k0 k1 k0 k1 (by omega) (by omega) r0 r1 g0 g1 b0 b1 (by omega) (by omega) (fun w => bcol11_any (min k 255) (min k 255) (min k 255) 255 (min r 255) (min g 255) (min b 255) 255 (by omega) (by omega) (by omega) (by omega) (by omega) (by omega) (by omega) (by omega) (by omega) (by omega) (by omega) (by omega) (by omega) (by omega) (by omega) (by omega) (by omega) (by omega) (by omega) (by omega) (by omega) (by omega) w) w
  rw [al_op, e0, e1, e2, el] at c
  exact c

theorem gray12_any (k r g b : Int) (k0 : 0 ≤ k) (k1 : k ≤ 255) (r0 : 0 ≤ r) (r1 : r ≤ 255) (g0 : 0 ≤ g) (g1 : g ≤ 255) (b0 : 0 ≤ b) (b1 : b ≤ 255) (w : World) :
    Calls Tryd.prog 23 #[.int .i64 12, .agg #[.int .u8 k, .int .u8 k, .int .u8 k, .int .u8 255], .agg #[.int .u8 r, .int .u8 g, .int .u8 b, .int .u8 255]] w fun e w' => e = .returned (.agg #[.int .u8 ((2 * (255 * (30 * r + 59 * g + 11 * b)) + 25500) / 51000), .int .u8 ((2 * (255 * (30 * r + 59 * g + 11 * b)) + 25500) / 51000), .int .u8 ((2 * (255 * (30 * r + 59 * g + 11 * b)) + 25500) / 51000), .int .u8 255]) ∧ Below w.heap.size w w' := by
  have hk : 0 ≤ 255 * min k 255 ∧ 255 * min k 255 ≤ 255 * 255 := by omega
  have hy0 : 0 ≤ 255 * min r 255 ∧ 255 * min r 255 ≤ 255 * 255 := by omega
  have hy1 : 0 ≤ 255 * min g 255 ∧ 255 * min g 255 ≤ 255 * 255 := by omega
  have hy2 : 0 ≤ 255 * min b 255 ∧ 255 * min b 255 ≤ 255 * 255 := by omega
  have sX := st3_bd hk hk hk
  have sT := st3_bd hk hk hk
  have sL := st3_bd hy0 hy1 hy2
  have el : lm3 (255 * min r 255) (255 * min g 255) (255 * min b 255) = 255 * (30 * r + 59 * g + 11 * b) := by unfold lm3; omega
  have eg : st3 (255 * min k 255) (255 * min k 255) (255 * min k 255) = 0 ∨ hi3 (255 * min k 255) (255 * min k 255) (255 * min k 255) = lo3 (255 * min k 255) (255 * min k 255) (255 * min k 255) := by right; unfold hi3 lo3; omega
  have e0 := fun v u => nsQ_gray (v := v) (u := u) (t := st3 (255 * min k 255) (255 * min k 255) (255 * min k 255)) (l := lm3 (255 * min r 255) (255 * min g 255) (255 * min b 255)) hk hk hk (c := 255 * min k 255) ⟨sX.2.2.2.2.2.2.1, sX.2.2.2.2.2.2.2.2.2.1⟩ ⟨sT.1, sT.2.1⟩ ⟨sL.2.2.1, sL.2.2.2.1⟩ eg
  have e1 := fun v u => nsQ_gray (v := v) (u := u) (t := st3 (255 * min k 255) (255 * min k 255) (255 * min k 255)) (l := lm3 (255 * min r 255) (255 * min g 255) (255 * min b 255)) hk hk hk (c := 255 * min k 255) ⟨sX.2.2.2.2.2.2.2.1, sX.2.2.2.2.2.2.2.2.2.2.1⟩ ⟨sT.1, sT.2.1⟩ ⟨sL.2.2.1, sL.2.2.2.1⟩ eg
  have e2 := fun v u => nsQ_gray (v := v) (u := u) (t := st3 (255 * min k 255) (255 * min k 255) (255 * min k 255)) (l := lm3 (255 * min r 255) (255 * min g 255) (255 * min b 255)) hk hk hk (c := 255 * min k 255) ⟨sX.2.2.2.2.2.2.2.2.1, sX.2.2.2.2.2.2.2.2.2.2.2⟩ ⟨sT.1, sT.2.1⟩ ⟨sL.2.2.1, sL.2.2.2.1⟩ eg
  have c := blendC_any 12 k k k 255 r g b 255 _ _ _ (by omega) (by omega) k0 k1 k0 k1 k0 k1 (by omega) (by omega) r0 r1 g0 g1 b0 b1 (by omega) (by omega) (fun w => bcol12_any (min k 255) (min k 255) (min k 255) 255 (min r 255) (min g 255) (min b 255) 255 (by omega) (by omega) (by omega) (by omega) (by omega) (by omega) (by omega) (by omega) (by omega) (by omega) (by omega) (by omega) (by omega) (by omega) (by omega) (by omega) (by omega) (by omega) (by omega) (by omega) (by omega) (by omega) w) w
  rw [al_op, e0, e0, e0, el] at c
  exact c

theorem gray13_any (k r g b : Int) (k0 : 0 ≤ k) (k1 : k ≤ 255) (r0 : 0 ≤ r) (r1 : r ≤ 255) (g0 : 0 ≤ g) (g1 : g ≤ 255) (b0 : 0 ≤ b) (b1 : b ≤ 255) (w : World) :
    Calls Tryd.prog 23 #[.int .i64 13, .agg #[.int .u8 r, .int .u8 g, .int .u8 b, .int .u8 255], .agg #[.int .u8 k, .int .u8 k, .int .u8 k, .int .u8 255]] w fun e w' => e = .returned (.agg #[.int .u8 ((2 * (255 * (30 * r + 59 * g + 11 * b)) + 25500) / 51000), .int .u8 ((2 * (255 * (30 * r + 59 * g + 11 * b)) + 25500) / 51000), .int .u8 ((2 * (255 * (30 * r + 59 * g + 11 * b)) + 25500) / 51000), .int .u8 255]) ∧ Below w.heap.size w w' := by
  have hk : 0 ≤ 255 * min k 255 ∧ 255 * min k 255 ≤ 255 * 255 := by omega
  have hy0 : 0 ≤ 255 * min r 255 ∧ 255 * min r 255 ≤ 255 * 255 := by omega
  have hy1 : 0 ≤ 255 * min g 255 ∧ 255 * min g 255 ≤ 255 * 255 := by omega
  have hy2 : 0 ≤ 255 * min b 255 ∧ 255 * min b 255 ≤ 255 * 255 := by omega
  have sX := st3_bd hk hk hk
  have sT := st3_bd hk hk hk
  have sL := st3_bd hy0 hy1 hy2
  have el : lm3 (255 * min r 255) (255 * min g 255) (255 * min b 255) = 255 * (30 * r + 59 * g + 11 * b) := by unfold lm3; omega
  have eg : st3 (255 * min k 255) (255 * min k 255) (255 * min k 255) = 0 ∨ hi3 (255 * min k 255) (255 * min k 255) (255 * min k 255) = lo3 (255 * min k 255) (255 * min k 255) (255 * min k 255) := by right; unfold hi3 lo3; omega
  have e0 := fun v u => nsQ_gray (v := v) (u := u) (t := st3 (255 * min k 255) (255 * min k 255) (255 * min k 255)) (l := lm3 (255 * min r 255) (255 * min g 255) (255 * min b 255)) hk hk hk (c := 255 * min k 255) ⟨sX.2.2.2.2.2.2.1, sX.2.2.2.2.2.2.2.2.2.1⟩ ⟨sT.1, sT.2.1⟩ ⟨sL.2.2.1, sL.2.2.2.1⟩ eg
  have e1 := fun v u => nsQ_gray (v := v) (u := u) (t := st3 (255 * min k 255) (255 * min k 255) (255 * min k 255)) (l := lm3 (255 * min r 255) (255 * min g 255) (255 * min b 255)) hk hk hk (c := 255 * min k 255) ⟨sX.2.2.2.2.2.2.2.1, sX.2.2.2.2.2.2.2.2.2.2.1⟩ ⟨sT.1, sT.2.1⟩ ⟨sL.2.2.1, sL.2.2.2.1⟩ eg
  have e2 := fun v u => nsQ_gray (v := v) (u := u) (t := st3 (255 * min k 255) (255 * min k 255) (255 * min k 255)) (l := lm3 (255 * min r 255) (255 * min g 255) (255 * min b 255)) hk hk hk (c := 255 * min k 255) ⟨sX.2.2.2.2.2.2.2.2.1, sX.2.2.2.2.2.2.2.2.2.2.2⟩ ⟨sT.1, sT.2.1⟩ ⟨sL.2.2.1, sL.2.2.2.1⟩ eg
  have c := blendC_any 13 r g b 255 k k k 255 _ _ _ (by omega) (by omega) r0 r1 g0 g1 b0 b1 (by omega) (by omega) k0 k1 k0 k1 k0 k1 (by omega) (by omega) (fun w => bcol13_any (min r 255) (min g 255) (min b 255) 255 (min k 255) (min k 255) (min k 255) 255 (by omega) (by omega) (by omega) (by omega) (by omega) (by omega) (by omega) (by omega) (by omega) (by omega) (by omega) (by omega) (by omega) (by omega) (by omega) (by omega) (by omega) (by omega) (by omega) (by omega) (by omega) (by omega) w) w
  rw [al_op, e0, e0, e0, el] at c
  exact c
end Go.Proofs.YtdhajiaepaamgaaDoor
