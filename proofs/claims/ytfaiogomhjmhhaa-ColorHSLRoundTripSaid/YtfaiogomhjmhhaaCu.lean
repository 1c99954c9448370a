import Derived.Test.YtfaiogomhjmhhaaCt
import Derived.Test.YtfaiogomhjmhhaaCf0
import Derived.Test.YtfaiogomhjmhhaaCf1
import Derived.Test.YtfaiogomhjmhhaaCf2
import Derived.Test.YtfaiogomhjmhhaaCf3
import Derived.Test.YtfaiogomhjmhhaaCf4
import Derived.Test.YtfaiogomhjmhhaaCf5
import Derived.WalkKit
import Derived.WalkSpells
import Derived.WalkLawsBesides
import Derived.Lib.Hide
import Derived.Below
import Derived.Deep.QuietTactic
import Derived.BigQuiet
import Derived.Deep.RegionHeld3
import Derived.Deep.DrawnRows
import Derived.Deep.DeepFit
import Derived.IntWalk
namespace Go.Proofs.Ytfaiogomhjmhhaa
open Go.RowKit
set_option linter.unusedVariables false
set_option linter.unusedSimpArgs false
attribute [local go_sem ↓] Go.wp_at_zero Go.wp_at_succ
attribute [local go_sem] rhoF_tmp rhoF_const rhoF_global rhoF_func

theorem part_bd (d x : Int) (d0 : 0 ≤ d) (d1 : d ≤ 255) (x0 : 0 ≤ x) (x1 : x ≤ 256) : 0 ≤ mdrV (d * x) 1 256 ∧ mdrV (d * x) 1 256 ≤ d := by
  have p0 : 0 ≤ d * x := Int.mul_nonneg d0 x0
  have p1 : d * x ≤ d * 256 := Int.mul_le_mul_of_nonneg_left x1 d0
  obtain ⟨a0, a1, a2⟩ := rnd_bd (d * x) 256 p0 (by omega) (by omega)
  omega

/-- A color's hue, saturation and lightness give it back. -/
def HSLB (r g b a : Int) : Prop := ∃ H s l : Int, (∀ w, Calls Try.prog 23 #[.agg #[.int .u8 r, .int .u8 g, .int .u8 b, .int .u8 a]] w fun e w' => e = .returned (.tuple #[.int .i64 H, .int .i64 s, .int .i64 l]) ∧ Below w.heap.size w w') ∧
  (∀ w, Calls Try.prog 24 #[.int .i64 H, .int .i64 s, .int .i64 l, .int .u8 a] w fun e w' => e = .returned (.tuple #[.agg #[.int .u8 r, .int .u8 g, .int .u8 b, .int .u8 a], .bool true]) ∧ Below w.heap.size w w') ∧ 0 ≤ H ∧ H < 1536 ∧ 1 ≤ s

set_option maxHeartbeats 4000000 in
theorem back_ru (r g b a : Int) (r0 : 0 ≤ r) (r1 : r ≤ 255) (g0 : 0 ≤ g) (g1 : g ≤ 255) (b0 : 0 ≤ b) (b1 : b ≤ 255) (a0 : 0 ≤ a) (a1 : a ≤ 255) (c1 : b ≤ g) (c2 : g ≤ r) (c3 : b < r) : HSLB r g b a := by
  obtain ⟨d, hd⟩ : ∃ x, r - b = x := ⟨_, rfl⟩
  obtain ⟨l, hl⟩ : ∃ x, r + b = x := ⟨_, rfl⟩
  obtain ⟨m, hm⟩ : ∃ x, min l (510 - l) = x := ⟨_, rfl⟩
  obtain ⟨n, hn⟩ : ∃ x, g - b = x := ⟨_, rfl⟩
  obtain ⟨hs0, hs2, hsb, hs1⟩ := sat_bd d m (by omega) (by omega) (by omega) (by omega)
  obtain ⟨s, hs⟩ : ∃ x, mdrV (255 * d) 1 m = x := ⟨_, rfl⟩
  rw [hs] at hs0 hs2 hsb hs1
  have hs3 := hs1 (by omega)
  obtain ⟨q0, q1, hback, q2, q3⟩ := hue_bd n d (by omega) (by omega) (by omega) (by omega)
  have hQn := hue_neg n d (by omega) (by omega) (by omega) (by omega)
  obtain ⟨Q, hQ⟩ : ∃ x, mdrV (256 * n) 1 d = x := ⟨_, rfl⟩
  rw [hQ] at q0 q1 hback q2 q3 hQn
  have hQ2 : mdrV (256 * (g - b)) 1 d = Q := by
    rw [show g - b = n by omega]
    exact hQ
  have t := fun H (hH : modV (Q) 1536 = H) w => toHSL_1 r g b a b d l m Q s H r0 r1 g0 g1 b0 b1 a0 a1  (by omega) (by omega) hd (by omega) hl hm hQ2 (by omega) (by omega) hs hH w
  by_cases hq : Q = 256
  · have q4 := q2 hq
    have z1 : mdrV (d * 0) 1 256 = 0 := by
      rw [Int.mul_zero]
      exact rnd_zero 256 (by omega)
    have z2 : mdrV (d * (256 - 0)) 1 256 = d := rnd_mul d 256 (by omega) (by omega) (by omega)
    have hH : modV (Q) 1536 = 256 := by
      unfold modV
      omega
    exact ⟨256, s, l, t _ hH, fun w => fromHSL_1 (256) s l a d b g (0) 0 d b r m (by omega) (by omega) hs2 (by omega) (by omega) a0 a1 hm hsb (by omega) (by omega) (by omega) (by omega) (by omega) (by omega) (by omega) (by omega) z1 z2 (by omega) (by omega) (by omega) (by omega) (by omega) (by omega) (by omega) w, by omega, by omega, hs3⟩
  · have p := part_bd d (256 - Q) (by omega) (by omega) (by omega) (by omega)
    obtain ⟨V, hV⟩ : ∃ x, mdrV (d * (256 - Q)) 1 256 = x := ⟨_, rfl⟩
    rw [hV] at p
    have hH : modV (Q) 1536 = Q := by
      unfold modV
      omega
    exact ⟨Q, s, l, t _ hH, fun w => fromHSL_0 (Q) s l a d b r (Q) n V g (b + V) m (by omega) (by omega) hs2 (by omega) (by omega) a0 a1 hm hsb (by omega) (by omega) (by omega) (by omega) (by omega) (by omega) (by omega) (by omega) hback hV (by omega) (by omega) (by omega) (by omega) (by omega) (by omega) (by omega) w, by omega, by omega, hs3⟩

set_option maxHeartbeats 4000000 in
theorem back_rd (r g b a : Int) (r0 : 0 ≤ r) (r1 : r ≤ 255) (g0 : 0 ≤ g) (g1 : g ≤ 255) (b0 : 0 ≤ b) (b1 : b ≤ 255) (a0 : 0 ≤ a) (a1 : a ≤ 255) (c1 : g < b) (c2 : b ≤ r) : HSLB r g b a := by
  obtain ⟨d, hd⟩ : ∃ x, r - g = x := ⟨_, rfl⟩
  obtain ⟨l, hl⟩ : ∃ x, r + g = x := ⟨_, rfl⟩
  obtain ⟨m, hm⟩ : ∃ x, min l (510 - l) = x := ⟨_, rfl⟩
  obtain ⟨n, hn⟩ : ∃ x, b - g = x := ⟨_, rfl⟩
  obtain ⟨hs0, hs2, hsb, hs1⟩ := sat_bd d m (by omega) (by omega) (by omega) (by omega)
  obtain ⟨s, hs⟩ : ∃ x, mdrV (255 * d) 1 m = x := ⟨_, rfl⟩
  rw [hs] at hs0 hs2 hsb hs1
  have hs3 := hs1 (by omega)
  obtain ⟨q0, q1, hback, q2, q3⟩ := hue_bd n d (by omega) (by omega) (by omega) (by omega)
  have hQn := hue_neg n d (by omega) (by omega) (by omega) (by omega)
  obtain ⟨Q, hQ⟩ : ∃ x, mdrV (256 * n) 1 d = x := ⟨_, rfl⟩
  rw [hQ] at q0 q1 hback q2 q3 hQn
  have hQ2 : mdrV (256 * (g - b)) 1 d = (-Q) := by
    rw [show g - b = -n by omega]
    exact hQn
  have t := fun H (hH : modV ((-Q)) 1536 = H) w => toHSL_1 r g b a g d l m (-Q) s H r0 r1 g0 g1 b0 b1 a0 a1  (by omega) (by omega) hd (by omega) hl hm hQ2 (by omega) (by omega) hs hH w
  have q4 := q3 (by omega)
  have p := part_bd d (256 - Q) (by omega) (by omega) (by omega) (by omega)
  obtain ⟨U, hU⟩ : ∃ x, mdrV (d * (256 - Q)) 1 256 = x := ⟨_, rfl⟩
  rw [hU] at p
  have hV : mdrV (d * (256 - (256 - Q))) 1 256 = n := by
    rw [show 256 - (256 - Q) = Q by omega]
    exact hback
  have hH : modV ((-Q)) 1536 = 1536 - Q := by
    unfold modV
    omega
  exact ⟨1536 - Q, s, l, t _ hH, fun w => fromHSL_5 (1536 - Q) s l a d g r (256 - Q) U n (g + U) b m (by omega) (by omega) hs2 (by omega) (by omega) a0 a1 hm hsb (by omega) (by omega) (by omega) (by omega) (by omega) (by omega) (by omega) (by omega) hU hV (by omega) (by omega) (by omega) (by omega) (by omega) (by omega) (by omega) w, by omega, by omega, hs3⟩

set_option maxHeartbeats 4000000 in
theorem back_gu (r g b a : Int) (r0 : 0 ≤ r) (r1 : r ≤ 255) (g0 : 0 ≤ g) (g1 : g ≤ 255) (b0 : 0 ≤ b) (b1 : b ≤ 255) (a0 : 0 ≤ a) (a1 : a ≤ 255) (c1 : r ≤ b) (c2 : b ≤ g) (c3 : r < g) : HSLB r g b a := by
  obtain ⟨d, hd⟩ : ∃ x, g - r = x := ⟨_, rfl⟩
  obtain ⟨l, hl⟩ : ∃ x, g + r = x := ⟨_, rfl⟩
  obtain ⟨m, hm⟩ : ∃ x, min l (510 - l) = x := ⟨_, rfl⟩
  obtain ⟨n, hn⟩ : ∃ x, b - r = x := ⟨_, rfl⟩
  obtain ⟨hs0, hs2, hsb, hs1⟩ := sat_bd d m (by omega) (by omega) (by omega) (by omega)
  obtain ⟨s, hs⟩ : ∃ x, mdrV (255 * d) 1 m = x := ⟨_, rfl⟩
  rw [hs] at hs0 hs2 hsb hs1
  have hs3 := hs1 (by omega)
  obtain ⟨q0, q1, hback, q2, q3⟩ := hue_bd n d (by omega) (by omega) (by omega) (by omega)
  have hQn := hue_neg n d (by omega) (by omega) (by omega) (by omega)
  obtain ⟨Q, hQ⟩ : ∃ x, mdrV (256 * n) 1 d = x := ⟨_, rfl⟩
  rw [hQ] at q0 q1 hback q2 q3 hQn
  have hQ2 : mdrV (256 * (b - r)) 1 d = Q := by
    rw [show b - r = n by omega]
    exact hQ
  have t := fun H (hH : modV (512 + Q) 1536 = H) w => toHSL_2 r g b a r d l m Q s H r0 r1 g0 g1 b0 b1 a0 a1 (by omega) (by omega) (by omega) hd (by omega) hl hm hQ2 (by omega) (by omega) hs hH w
  by_cases hq : Q = 256
  · have q4 := q2 hq
    have z1 : mdrV (d * 0) 1 256 = 0 := by
      rw [Int.mul_zero]
      exact rnd_zero 256 (by omega)
    have z2 : mdrV (d * (256 - 0)) 1 256 = d := rnd_mul d 256 (by omega) (by omega) (by omega)
    have hH : modV (512 + Q) 1536 = 768 := by
      unfold modV
      omega
    exact ⟨768, s, l, t _ hH, fun w => fromHSL_3 (768) s l a d r b (0) 0 d r g m (by omega) (by omega) hs2 (by omega) (by omega) a0 a1 hm hsb (by omega) (by omega) (by omega) (by omega) (by omega) (by omega) (by omega) (by omega) z1 z2 (by omega) (by omega) (by omega) (by omega) (by omega) (by omega) (by omega) w, by omega, by omega, hs3⟩
  · have p := part_bd d (256 - Q) (by omega) (by omega) (by omega) (by omega)
    obtain ⟨V, hV⟩ : ∃ x, mdrV (d * (256 - Q)) 1 256 = x := ⟨_, rfl⟩
    rw [hV] at p
    have hH : modV (512 + Q) 1536 = 512 + Q := by
      unfold modV
      omega
    exact ⟨512 + Q, s, l, t _ hH, fun w => fromHSL_2 (512 + Q) s l a d r g (Q) n V b (r + V) m (by omega) (by omega) hs2 (by omega) (by omega) a0 a1 hm hsb (by omega) (by omega) (by omega) (by omega) (by omega) (by omega) (by omega) (by omega) hback hV (by omega) (by omega) (by omega) (by omega) (by omega) (by omega) (by omega) w, by omega, by omega, hs3⟩

set_option maxHeartbeats 4000000 in
theorem back_gd (r g b a : Int) (r0 : 0 ≤ r) (r1 : r ≤ 255) (g0 : 0 ≤ g) (g1 : g ≤ 255) (b0 : 0 ≤ b) (b1 : b ≤ 255) (a0 : 0 ≤ a) (a1 : a ≤ 255) (c1 : b < r) (c2 : r < g) : HSLB r g b a := by
  obtain ⟨d, hd⟩ : ∃ x, g - b = x := ⟨_, rfl⟩
  obtain ⟨l, hl⟩ : ∃ x, g + b = x := ⟨_, rfl⟩
  obtain ⟨m, hm⟩ : ∃ x, min l (510 - l) = x := ⟨_, rfl⟩
  obtain ⟨n, hn⟩ : ∃ x, r - b = x := ⟨_, rfl⟩
  obtain ⟨hs0, hs2, hsb, hs1⟩ := sat_bd d m (by omega) (by omega) (by omega) (by omega)
  obtain ⟨s, hs⟩ : ∃ x, mdrV (255 * d) 1 m = x := ⟨_, rfl⟩
  rw [hs] at hs0 hs2 hsb hs1
  have hs3 := hs1 (by omega)
  obtain ⟨q0, q1, hback, q2, q3⟩ := hue_bd n d (by omega) (by omega) (by omega) (by omega)
  have hQn := hue_neg n d (by omega) (by omega) (by omega) (by omega)
  obtain ⟨Q, hQ⟩ : ∃ x, mdrV (256 * n) 1 d = x := ⟨_, rfl⟩
  rw [hQ] at q0 q1 hback q2 q3 hQn
  have hQ2 : mdrV (256 * (b - r)) 1 d = (-Q) := by
    rw [show b - r = -n by omega]
    exact hQn
  have t := fun H (hH : modV (512 + (-Q)) 1536 = H) w => toHSL_2 r g b a b d l m (-Q) s H r0 r1 g0 g1 b0 b1 a0 a1 (by omega) (by omega) (by omega) hd (by omega) hl hm hQ2 (by omega) (by omega) hs hH w
  have q4 := q3 (by omega)
  have p := part_bd d (256 - Q) (by omega) (by omega) (by omega) (by omega)
  obtain ⟨U, hU⟩ : ∃ x, mdrV (d * (256 - Q)) 1 256 = x := ⟨_, rfl⟩
  rw [hU] at p
  have hV : mdrV (d * (256 - (256 - Q))) 1 256 = n := by
    rw [show 256 - (256 - Q) = Q by omega]
    exact hback
  have hH : modV (512 + (-Q)) 1536 = 512 - Q := by
    unfold modV
    omega
  exact ⟨512 - Q, s, l, t _ hH, fun w => fromHSL_1 (512 - Q) s l a d b g (256 - Q) U n (b + U) r m (by omega) (by omega) hs2 (by omega) (by omega) a0 a1 hm hsb (by omega) (by omega) (by omega) (by omega) (by omega) (by omega) (by omega) (by omega) hU hV (by omega) (by omega) (by omega) (by omega) (by omega) (by omega) (by omega) w, by omega, by omega, hs3⟩

set_option maxHeartbeats 4000000 in
theorem back_bu (r g b a : Int) (r0 : 0 ≤ r) (r1 : r ≤ 255) (g0 : 0 ≤ g) (g1 : g ≤ 255) (b0 : 0 ≤ b) (b1 : b ≤ 255) (a0 : 0 ≤ a) (a1 : a ≤ 255) (c1 : g ≤ r) (c2 : r < b) : HSLB r g b a := by
  obtain ⟨d, hd⟩ : ∃ x, b - g = x := ⟨_, rfl⟩
  obtain ⟨l, hl⟩ : ∃ x, b + g = x := ⟨_, rfl⟩
  obtain ⟨m, hm⟩ : ∃ x, min l (510 - l) = x := ⟨_, rfl⟩
  obtain ⟨n, hn⟩ : ∃ x, r - g = x := ⟨_, rfl⟩
  obtain ⟨hs0, hs2, hsb, hs1⟩ := sat_bd d m (by omega) (by omega) (by omega) (by omega)
  obtain ⟨s, hs⟩ : ∃ x, mdrV (255 * d) 1 m = x := ⟨_, rfl⟩
  rw [hs] at hs0 hs2 hsb hs1
  have hs3 := hs1 (by omega)
  obtain ⟨q0, q1, hback, q2, q3⟩ := hue_bd n d (by omega) (by omega) (by omega) (by omega)
  have hQn := hue_neg n d (by omega) (by omega) (by omega) (by omega)
  obtain ⟨Q, hQ⟩ : ∃ x, mdrV (256 * n) 1 d = x := ⟨_, rfl⟩
  rw [hQ] at q0 q1 hback q2 q3 hQn
  have hQ2 : mdrV (256 * (r - g)) 1 d = Q := by
    rw [show r - g = n by omega]
    exact hQ
  have t := fun H (hH : modV (1024 + Q) 1536 = H) w => toHSL_3 r g b a g d l m Q s H r0 r1 g0 g1 b0 b1 a0 a1 (by omega) (by omega) (by omega) (by omega) hd (by omega) hl hm hQ2 (by omega) (by omega) hs hH w
  have q4 : Q ≠ 256 := fun h => by have := q2 h; omega
  have p := part_bd d (256 - Q) (by omega) (by omega) (by omega) (by omega)
  obtain ⟨V, hV⟩ : ∃ x, mdrV (d * (256 - Q)) 1 256 = x := ⟨_, rfl⟩
  rw [hV] at p
  have hH : modV (1024 + Q) 1536 = 1024 + Q := by
    unfold modV
    omega
  exact ⟨1024 + Q, s, l, t _ hH, fun w => fromHSL_4 (1024 + Q) s l a d g b (Q) n V r (g + V) m (by omega) (by omega) hs2 (by omega) (by omega) a0 a1 hm hsb (by omega) (by omega) (by omega) (by omega) (by omega) (by omega) (by omega) (by omega) hback hV (by omega) (by omega) (by omega) (by omega) (by omega) (by omega) (by omega) w, by omega, by omega, hs3⟩

set_option maxHeartbeats 4000000 in
theorem back_bd (r g b a : Int) (r0 : 0 ≤ r) (r1 : r ≤ 255) (g0 : 0 ≤ g) (g1 : g ≤ 255) (b0 : 0 ≤ b) (b1 : b ≤ 255) (a0 : 0 ≤ a) (a1 : a ≤ 255) (c1 : r < g) (c2 : g < b) : HSLB r g b a := by
  obtain ⟨d, hd⟩ : ∃ x, b - r = x := ⟨_, rfl⟩
  obtain ⟨l, hl⟩ : ∃ x, b + r = x := ⟨_, rfl⟩
  obtain ⟨m, hm⟩ : ∃ x, min l (510 - l) = x := ⟨_, rfl⟩
  obtain ⟨n, hn⟩ : ∃ x, g - r = x := ⟨_, rfl⟩
  obtain ⟨hs0, hs2, hsb, hs1⟩ := sat_bd d m (by omega) (by omega) (by omega) (by omega)
  obtain ⟨s, hs⟩ : ∃ x, mdrV (255 * d) 1 m = x := ⟨_, rfl⟩
  rw [hs] at hs0 hs2 hsb hs1
  have hs3 := hs1 (by omega)
  obtain ⟨q0, q1, hback, q2, q3⟩ := hue_bd n d (by omega) (by omega) (by omega) (by omega)
  have hQn := hue_neg n d (by omega) (by omega) (by omega) (by omega)
  obtain ⟨Q, hQ⟩ : ∃ x, mdrV (256 * n) 1 d = x := ⟨_, rfl⟩
  rw [hQ] at q0 q1 hback q2 q3 hQn
  have hQ2 : mdrV (256 * (r - g)) 1 d = (-Q) := by
    rw [show r - g = -n by omega]
    exact hQn
  have t := fun H (hH : modV (1024 + (-Q)) 1536 = H) w => toHSL_3 r g b a r d l m (-Q) s H r0 r1 g0 g1 b0 b1 a0 a1 (by omega) (by omega) (by omega) (by omega) hd (by omega) hl hm hQ2 (by omega) (by omega) hs hH w
  have q4 := q3 (by omega)
  have p := part_bd d (256 - Q) (by omega) (by omega) (by omega) (by omega)
  obtain ⟨U, hU⟩ : ∃ x, mdrV (d * (256 - Q)) 1 256 = x := ⟨_, rfl⟩
  rw [hU] at p
  have hV : mdrV (d * (256 - (256 - Q))) 1 256 = n := by
    rw [show 256 - (256 - Q) = Q by omega]
    exact hback
  have hH : modV (1024 + (-Q)) 1536 = 1024 - Q := by
    unfold modV
    omega
  exact ⟨1024 - Q, s, l, t _ hH, fun w => fromHSL_3 (1024 - Q) s l a d r b (256 - Q) U n (r + U) g m (by omega) (by omega) hs2 (by omega) (by omega) a0 a1 hm hsb (by omega) (by omega) (by omega) (by omega) (by omega) (by omega) (by omega) (by omega) hU hV (by omega) (by omega) (by omega) (by omega) (by omega) (by omega) (by omega) w, by omega, by omega, hs3⟩

theorem hsl_back (r g b a : Int) (r0 : 0 ≤ r) (r1 : r ≤ 255) (g0 : 0 ≤ g) (g1 : g ≤ 255) (b0 : 0 ≤ b) (b1 : b ≤ 255) (a0 : 0 ≤ a) (a1 : a ≤ 255) (ng : ¬ (r = g ∧ g = b)) : HSLB r g b a := by
  by_cases hr : g ≤ r ∧ b ≤ r
  · by_cases h : b ≤ g
    · exact back_ru r g b a r0 r1 g0 g1 b0 b1 a0 a1 h hr.1 (by omega)
    · exact back_rd r g b a r0 r1 g0 g1 b0 b1 a0 a1 (by omega) hr.2
  · by_cases hg : b ≤ g
    · by_cases h : r ≤ b
      · exact back_gu r g b a r0 r1 g0 g1 b0 b1 a0 a1 h hg (by omega)
      · exact back_gd r g b a r0 r1 g0 g1 b0 b1 a0 a1 (by omega) (by omega)
    · by_cases h : g ≤ r
      · exact back_bu r g b a r0 r1 g0 g1 b0 b1 a0 a1 h (by omega)
      · exact back_bd r g b a r0 r1 g0 g1 b0 b1 a0 a1 (by omega) (by omega)

theorem from_gray (r a : Int) (r0 : 0 ≤ r) (r1 : r ≤ 255) (a0 : 0 ≤ a) (a1 : a ≤ 255) (w : World) : Calls Try.prog 24 #[.int .i64 0, .int .i64 0, .int .i64 (r + r), .int .u8 a] w fun e w' => e = .returned (.tuple #[.agg #[.int .u8 r, .int .u8 r, .int .u8 r, .int .u8 a], .bool true]) ∧ Below w.heap.size w w' := by
  obtain ⟨m, hm⟩ : ∃ x, min (r + r) (510 - (r + r)) = x := ⟨_, rfl⟩
  have z0 : mdrV (0 * m) 1 255 = 0 := by
    rw [Int.zero_mul]
    exact rnd_zero 255 (by omega)
  have z1 : mdrV (0 * 0) 1 256 = 0 := rnd_zero 256 (by omega)
  have z2 : mdrV (0 * (256 - 0)) 1 256 = 0 := rnd_zero 256 (by omega)
  exact fromHSL_0 0 0 (r + r) a 0 r r 0 0 0 r r m (by omega) (by omega) (by omega) (by omega) (by omega) a0 a1 hm z0 (by omega) (by omega) (by omega) (by omega) (by omega) (by omega) (by omega) (by omega) z1 z2 (by omega) (by omega) (by omega) (by omega) (by omega) (by omega) (by omega) w
end Go.Proofs.Ytfaiogomhjmhhaa
