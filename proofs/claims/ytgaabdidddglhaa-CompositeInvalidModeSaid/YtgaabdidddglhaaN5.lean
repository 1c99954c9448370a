import Derived.Test.YtgaabdidddglhaaN4
import Derived.WalkKit
import Derived.WalkSpells
import Derived.WalkLawsBesides
import Derived.Lib.Hide
import Derived.Below
import Derived.Deep.QuietTactic
import Derived.BigQuiet
import Derived.Deep.RegionHeld3
import Derived.Deep.DrawnRows
import Derived.Deep.DeepFit
import Derived.IntWalk
namespace Go.Proofs.Ytgaabdidddglhaa
open Go.RowKit
set_option linter.unusedVariables false
set_option linter.unusedSimpArgs false
attribute [local go_sem ↓] Go.wp_at_zero Go.wp_at_succ
attribute [local go_sem] rhoF_tmp rhoF_const rhoF_global rhoF_func

def nsQ (x0 x1 x2 t l aa v sa u da c : Int) : Int :=
  mixQ (unc v sa u da) (frN c (lo3 x0 x1 x2) (hi3 x0 x1 x2) (hi3 x0 x1 x2 - lo3 x0 x1 x2) (lm3 x0 x1 x2 - 100 * lo3 x0 x1 x2) t l aa) (frD (hi3 x0 x1 x2 - lo3 x0 x1 x2) (lm3 x0 x1 x2 - 100 * lo3 x0 x1 x2) t l aa)
def st3 (x0 x1 x2 : Int) : Int := hi3 x0 x1 x2 - lo3 x0 x1 x2
theorem sc_bd {r a d : Int} (r0 : 0 ≤ r) (ra : r ≤ a) (d0 : 0 ≤ d) : 0 ≤ d * r ∧ d * r ≤ a * d := ⟨Int.mul_nonneg d0 r0, by rw [Int.mul_comm a d]; exact Int.mul_le_mul_of_nonneg_left ra d0⟩
theorem sc_bd2 {s a d : Int} (s0 : 0 ≤ s) (sd : s ≤ d) (a0 : 0 ≤ a) : 0 ≤ a * s ∧ a * s ≤ a * d := ⟨Int.mul_nonneg a0 s0, Int.mul_le_mul_of_nonneg_left sd a0⟩
theorem st3_bd {x0 x1 x2 a : Int} (h0 : 0 ≤ x0 ∧ x0 ≤ a) (h1 : 0 ≤ x1 ∧ x1 ≤ a) (h2 : 0 ≤ x2 ∧ x2 ≤ a) : 0 ≤ st3 x0 x1 x2 ∧ st3 x0 x1 x2 ≤ a ∧ 0 ≤ lm3 x0 x1 x2 ∧ lm3 x0 x1 x2 ≤ 100 * a ∧ 0 ≤ lo3 x0 x1 x2 ∧ hi3 x0 x1 x2 ≤ a ∧ lo3 x0 x1 x2 ≤ x0 ∧ lo3 x0 x1 x2 ≤ x1 ∧ lo3 x0 x1 x2 ≤ x2 ∧ x0 ≤ hi3 x0 x1 x2 ∧ x1 ≤ hi3 x0 x1 x2 ∧ x2 ≤ hi3 x0 x1 x2 := by unfold st3 lm3 lo3 hi3; omega
theorem nsQ_bd {x0 x1 x2 t l aa v sa u da c : Int} (h0 : 0 ≤ x0 ∧ x0 ≤ aa) (h1 : 0 ≤ x1 ∧ x1 ≤ aa) (h2 : 0 ≤ x2 ∧ x2 ≤ aa) (hc : lo3 x0 x1 x2 ≤ c ∧ c ≤ hi3 x0 x1 x2) (ht : 0 ≤ t ∧ t ≤ aa) (hl : 0 ≤ l ∧ l ≤ 100 * aa) (hu : 0 ≤ unc v sa u da) :
    0 ≤ nsQ x0 x1 x2 t l aa v sa u da c ∧ nsQ x0 x1 x2 t l aa v sa u da c ≤ (unc v sa u da + aa + 127) / 255 := by
  obtain ⟨b0, b1⟩ := lm3_bd x0 x1 x2
  obtain ⟨f0, f1, f2⟩ := fr_bd (c := c) (lo := lo3 x0 x1 x2) (hi := hi3 x0 x1 x2) (m := hi3 x0 x1 x2 - lo3 x0 x1 x2) (k := lm3 x0 x1 x2 - 100 * lo3 x0 x1 x2) (t := t) (l := l) (a := aa) rfl hc.1 hc.2 (by omega) (by omega) ht.1 ht.2 hl.1 hl.2 (by omega)
  exact mixQ_bd hu f0 f1 f2

theorem bcol10_any (r g b a s t u d : Int) (r0 : 0 ≤ r) (r1 : r ≤ 255) (g0 : 0 ≤ g) (g1 : g ≤ 255) (b0 : 0 ≤ b) (b1 : b ≤ 255) (a0 : 0 ≤ a) (a1 : a ≤ 255) (s0 : 0 ≤ s) (s1 : s ≤ 255) (t0 : 0 ≤ t) (t1 : t ≤ 255) (u0 : 0 ≤ u) (u1 : u ≤ 255) (d0 : 0 ≤ d) (d1 : d ≤ 255) (ra : r ≤ a) (ga : g ≤ a) (ba : b ≤ a) (sd : s ≤ d) (td : t ≤ d) (ud : u ≤ d) (w : World) :
    Calls Try.prog 37 #[.int .i64 10, .agg #[.int .u8 r, .int .u8 g, .int .u8 b, .int .u8 a], .agg #[.int .u8 s, .int .u8 t, .int .u8 u, .int .u8 d]] w fun e w' => e = .returned (.agg #[.int .u8 (nsQ (d * r) (d * g) (d * b) (st3 (a * s) (a * t) (a * u)) (lm3 (a * s) (a * t) (a * u)) (a * d) r a s d (d * r)), .int .u8 (nsQ (d * r) (d * g) (d * b) (st3 (a * s) (a * t) (a * u)) (lm3 (a * s) (a * t) (a * u)) (a * d) g a t d (d * g)), .int .u8 (nsQ (d * r) (d * g) (d * b) (st3 (a * s) (a * t) (a * u)) (lm3 (a * s) (a * t) (a * u)) (a * d) b a u d (d * b))]) ∧ Below w.heap.size w w' := by
  have hA0 := sc_bd r0 ra d0
  have hA1 := sc_bd g0 ga d0
  have hA2 := sc_bd b0 ba d0
  have hB0 := sc_bd2 s0 sd a0
  have hB1 := sc_bd2 t0 td a0
  have hB2 := sc_bd2 u0 ud a0
  have aa0 : 0 ≤ a * d := Int.mul_nonneg a0 d0
  have aa1 : a * d ≤ 255 * 255 := Int.mul_le_mul a1 d1 d0 (by omega)
  have sA := st3_bd hA0 hA1 hA2
  have sB := st3_bd hB0 hB1 hB2
  refine bcols_any 10 r g b a s t u d (d * r) (d * g) (d * b) (st3 (a * s) (a * t) (a * u)) (lm3 (a * s) (a * t) (a * u)) (a * d) _ _ _ _ _ r0 r1 g0 g1 b0 b1 a0 a1 s0 s1 t0 t1 u0 u1 d0 d1 ra ga ba sd td ud rfl aa0 (by omega) hA0.1 hA0.2 hA1.1 hA1.2 hA2.1 hA2.2 sB.1 sB.2.1 sB.2.2.1 sB.2.2.2.1 rfl rfl rfl rfl rfl (fun w => ?_) w
  exact hue10_any (d * r) (d * g) (d * b) (a * s) (a * t) (a * u) (a * d) aa0 (by omega) hA0.1 hA0.2 hA1.1 hA1.2 hA2.1 hA2.2 hB0.1 hB0.2 hB1.1 hB1.2 hB2.1 hB2.2 w

theorem bcol11_any (r g b a s t u d : Int) (r0 : 0 ≤ r) (r1 : r ≤ 255) (g0 : 0 ≤ g) (g1 : g ≤ 255) (b0 : 0 ≤ b) (b1 : b ≤ 255) (a0 : 0 ≤ a) (a1 : a ≤ 255) (s0 : 0 ≤ s) (s1 : s ≤ 255) (t0 : 0 ≤ t) (t1 : t ≤ 255) (u0 : 0 ≤ u) (u1 : u ≤ 255) (d0 : 0 ≤ d) (d1 : d ≤ 255) (ra : r ≤ a) (ga : g ≤ a) (ba : b ≤ a) (sd : s ≤ d) (td : t ≤ d) (ud : u ≤ d) (w : World) :
    Calls Try.prog 37 #[.int .i64 11, .agg #[.int .u8 r, .int .u8 g, .int .u8 b, .int .u8 a], .agg #[.int .u8 s, .int .u8 t, .int .u8 u, .int .u8 d]] w fun e w' => e = .returned (.agg #[.int .u8 (nsQ (a * s) (a * t) (a * u) (st3 (d * r) (d * g) (d * b)) (lm3 (a * s) (a * t) (a * u)) (a * d) r a s d (a * s)), .int .u8 (nsQ (a * s) (a * t) (a * u) (st3 (d * r) (d * g) (d * b)) (lm3 (a * s) (a * t) (a * u)) (a * d) g a t d (a * t)), .int .u8 (nsQ (a * s) (a * t) (a * u) (st3 (d * r) (d * g) (d * b)) (lm3 (a * s) (a * t) (a * u)) (a * d) b a u d (a * u))]) ∧ Below w.heap.size w w' := by
  have hA0 := sc_bd r0 ra d0
  have hA1 := sc_bd g0 ga d0
  have hA2 := sc_bd b0 ba d0
  have hB0 := sc_bd2 s0 sd a0
  have hB1 := sc_bd2 t0 td a0
  have hB2 := sc_bd2 u0 ud a0
  have aa0 : 0 ≤ a * d := Int.mul_nonneg a0 d0
  have aa1 : a * d ≤ 255 * 255 := Int.mul_le_mul a1 d1 d0 (by omega)
  have sA := st3_bd hA0 hA1 hA2
  have sB := st3_bd hB0 hB1 hB2
  refine bcols_any 11 r g b a s t u d (a * s) (a * t) (a * u) (st3 (d * r) (d * g) (d * b)) (lm3 (a * s) (a * t) (a * u)) (a * d) _ _ _ _ _ r0 r1 g0 g1 b0 b1 a0 a1 s0 s1 t0 t1 u0 u1 d0 d1 ra ga ba sd td ud rfl aa0 (by omega) hB0.1 hB0.2 hB1.1 hB1.2 hB2.1 hB2.2 sA.1 sA.2.1 sB.2.2.1 sB.2.2.2.1 rfl rfl rfl rfl rfl (fun w => ?_) w
  exact hue11_any (d * r) (d * g) (d * b) (a * s) (a * t) (a * u) (a * d) aa0 (by omega) hA0.1 hA0.2 hA1.1 hA1.2 hA2.1 hA2.2 hB0.1 hB0.2 hB1.1 hB1.2 hB2.1 hB2.2 w

theorem bcol12_any (r g b a s t u d : Int) (r0 : 0 ≤ r) (r1 : r ≤ 255) (g0 : 0 ≤ g) (g1 : g ≤ 255) (b0 : 0 ≤ b) (b1 : b ≤ 255) (a0 : 0 ≤ a) (a1 : a ≤ 255) (s0 : 0 ≤ s) (s1 : s ≤ 255) (t0 : 0 ≤ t) (t1 : t ≤ 255) (u0 : 0 ≤ u) (u1 : u ≤ 255) (d0 : 0 ≤ d) (d1 : d ≤ 255) (ra : r ≤ a) (ga : g ≤ a) (ba : b ≤ a) (sd : s ≤ d) (td : t ≤ d) (ud : u ≤ d) (w : World) :
    Calls Try.prog 37 #[.int .i64 12, .agg #[.int .u8 r, .int .u8 g, .int .u8 b, .int .u8 a], .agg #[.int .u8 s, .int .u8 t, .int .u8 u, .int .u8 d]] w fun e w' => e = .returned (.agg #[.int .u8 (nsQ (d * r) (d * g) (d * b) (st3 (d * r) (d * g) (d * b)) (lm3 (a * s) (a * t) (a * u)) (a * d) r a s d (d * r)), .int .u8 (nsQ (d * r) (d * g) (d * b) (st3 (d * r) (d * g) (d * b)) (lm3 (a * s) (a * t) (a * u)) (a * d) g a t d (d * g)), .int .u8 (nsQ (d * r) (d * g) (d * b) (st3 (d * r) (d * g) (d * b)) (lm3 (a * s) (a * t) (a * u)) (a * d) b a u d (d * b))]) ∧ Below w.heap.size w w' := by
  have hA0 := sc_bd r0 ra d0
  have hA1 := sc_bd g0 ga d0
  have hA2 := sc_bd b0 ba d0
  have hB0 := sc_bd2 s0 sd a0
  have hB1 := sc_bd2 t0 td a0
  have hB2 := sc_bd2 u0 ud a0
  have aa0 : 0 ≤ a * d := Int.mul_nonneg a0 d0
  have aa1 : a * d ≤ 255 * 255 := Int.mul_le_mul a1 d1 d0 (by omega)
  have sA := st3_bd hA0 hA1 hA2
  have sB := st3_bd hB0 hB1 hB2
  refine bcols_any 12 r g b a s t u d (d * r) (d * g) (d * b) (st3 (d * r) (d * g) (d * b)) (lm3 (a * s) (a * t) (a * u)) (a * d) _ _ _ _ _ r0 r1 g0 g1 b0 b1 a0 a1 s0 s1 t0 t1 u0 u1 d0 d1 ra ga ba sd td ud rfl aa0 (by omega) hA0.1 hA0.2 hA1.1 hA1.2 hA2.1 hA2.2 sA.1 sA.2.1 sB.2.2.1 sB.2.2.2.1 rfl rfl rfl rfl rfl (fun w => ?_) w
  exact hue12_any (d * r) (d * g) (d * b) (a * s) (a * t) (a * u) (a * d) aa0 (by omega) hA0.1 hA0.2 hA1.1 hA1.2 hA2.1 hA2.2 hB0.1 hB0.2 hB1.1 hB1.2 hB2.1 hB2.2 w

theorem bcol13_any (r g b a s t u d : Int) (r0 : 0 ≤ r) (r1 : r ≤ 255) (g0 : 0 ≤ g) (g1 : g ≤ 255) (b0 : 0 ≤ b) (b1 : b ≤ 255) (a0 : 0 ≤ a) (a1 : a ≤ 255) (s0 : 0 ≤ s) (s1 : s ≤ 255) (t0 : 0 ≤ t) (t1 : t ≤ 255) (u0 : 0 ≤ u) (u1 : u ≤ 255) (d0 : 0 ≤ d) (d1 : d ≤ 255) (ra : r ≤ a) (ga : g ≤ a) (ba : b ≤ a) (sd : s ≤ d) (td : t ≤ d) (ud : u ≤ d) (w : World) :
    Calls Try.prog 37 #[.int .i64 13, .agg #[.int .u8 r, .int .u8 g, .int .u8 b, .int .u8 a], .agg #[.int .u8 s, .int .u8 t, .int .u8 u, .int .u8 d]] w fun e w' => e = .returned (.agg #[.int .u8 (nsQ (a * s) (a * t) (a * u) (st3 (a * s) (a * t) (a * u)) (lm3 (d * r) (d * g) (d * b)) (a * d) r a s d (a * s)), .int .u8 (nsQ (a * s) (a * t) (a * u) (st3 (a * s) (a * t) (a * u)) (lm3 (d * r) (d * g) (d * b)) (a * d) g a t d (a * t)), .int .u8 (nsQ (a * s) (a * t) (a * u) (st3 (a * s) (a * t) (a * u)) (lm3 (d * r) (d * g) (d * b)) (a * d) b a u d (a * u))]) ∧ Below w.heap.size w w' := by
  have hA0 := sc_bd r0 ra d0
  have hA1 := sc_bd g0 ga d0
  have hA2 := sc_bd b0 ba d0
  have hB0 := sc_bd2 s0 sd a0
  have hB1 := sc_bd2 t0 td a0
  have hB2 := sc_bd2 u0 ud a0
  have aa0 : 0 ≤ a * d := Int.mul_nonneg a0 d0
  have aa1 : a * d ≤ 255 * 255 := Int.mul_le_mul a1 d1 d0 (by omega)
  have sA := st3_bd hA0 hA1 hA2
  have sB := st3_bd hB0 hB1 hB2
  refine bcols_any 13 r g b a s t u d (a * s) (a * t) (a * u) (st3 (a * s) (a * t) (a * u)) (lm3 (d * r) (d * g) (d * b)) (a * d) _ _ _ _ _ r0 r1 g0 g1 b0 b1 a0 a1 s0 s1 t0 t1 u0 u1 d0 d1 ra ga ba sd td ud rfl aa0 (by omega) hB0.1 hB0.2 hB1.1 hB1.2 hB2.1 hB2.2 sB.1 sB.2.1 sA.2.2.1 sA.2.2.2.1 rfl rfl rfl rfl rfl (fun w => ?_) w
  exact hue13_any (d * r) (d * g) (d * b) (a * s) (a * t) (a * u) (a * d) aa0 (by omega) hA0.1 hA0.2 hA1.1 hA1.2 hA2.1 hA2.2 hB0.1 hB0.2 hB1.1 hB1.2 hB2.1 hB2.2 w
end Go.Proofs.Ytgaabdidddglhaa
