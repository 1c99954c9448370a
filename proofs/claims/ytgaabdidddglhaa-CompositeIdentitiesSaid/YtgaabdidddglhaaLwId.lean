import Derived.Test.YtgaabdidddglhaaId1
import Derived.Test.YtgaabdidddglhaaId2
import Derived.Test.YtgaabdidddglhaaId3
import Derived.Test.YtgaabdidddglhaaId4
import Derived.WalkKit
import Derived.WalkSpells
import Derived.WalkLawsBesides
import Derived.Lib.Hide
import Derived.Below
import Derived.Deep.QuietTactic
import Derived.BigQuiet
import Derived.Deep.RegionHeld3
import Derived.Deep.DrawnRows
import Derived.Deep.DeepFit
import Derived.IntWalk
namespace Go.Proofs.Ytgaabdidddglhaa
open Go.RowKit
set_option linter.unusedVariables false
set_option linter.unusedSimpArgs false
attribute [local go_sem ↓] Go.wp_at_zero Go.wp_at_succ
attribute [local go_sem] rhoF_tmp rhoF_const rhoF_global rhoF_func

theorem cident_w (r g b a s t u d : Int) (r0 : 0 ≤ r) (r1 : r ≤ 255) (g0 : 0 ≤ g) (g1 : g ≤ 255) (b0 : 0 ≤ b) (b1 : b ≤ 255) (a0 : 0 ≤ a) (a1 : a ≤ 255) (s0 : 0 ≤ s) (s1 : s ≤ 255) (t0 : 0 ≤ t) (t1 : t ≤ 255) (u0 : 0 ≤ u) (u1 : u ≤ 255) (d0 : 0 ≤ d) (d1 : d ≤ 255) (w : World) :
    Calls Try.prog 8 #[.agg #[.int .u8 r, .int .u8 g, .int .u8 b, .int .u8 a], .agg #[.int .u8 s, .int .u8 t, .int .u8 u, .int .u8 d]] w fun e w' => e = .returned (.bool true) ∧ Below w.heap.size w w' := by
  by_cases ha : a = 255
  · subst ha
    by_cases hd : d = 255
    · subst hd
      exact cid_tt r g b s t u r0 r1 g0 g1 b0 b1 s0 s1 t0 t1 u0 u1 w
    · exact cid_tf r g b s t u d r0 r1 g0 g1 b0 b1 s0 s1 t0 t1 u0 u1 d0 d1 (by simpa using hd) w
  · by_cases hd : d = 255
    · subst hd
      exact cid_ft r g b s t u a r0 r1 g0 g1 b0 b1 s0 s1 t0 t1 u0 u1 a0 a1 (by simpa using ha) w
    · exact cid_ff r g b s t u a d r0 r1 g0 g1 b0 b1 s0 s1 t0 t1 u0 u1 a0 a1 d0 d1 (by simpa using ha) (by simpa using hd) w
end Go.Proofs.Ytgaabdidddglhaa
