
import Derived.Test.YtcofiekfhnfjpaaS8
import Derived.Test.YtcofiekfhnfjpaaS5
import Derived.Deep.CutRange
namespace Go.Proofs.Ytcofiekfhnfjpaa
open Go.RowKit
set_option linter.unusedVariables false
set_option linter.unusedSimpArgs false
attribute [local go_sem ↓] Go.wp_at_zero Go.wp_at_succ
attribute [local go_sem] rhoF_tmp rhoF_const rhoF_global rhoF_func
attribute [local go_sem] qV iV
attribute [local go_sem] qE
def AnsQ (q : Rat) (W : World) : Ending → World → Prop := AnsR (qV (qS q) (qX q) false (qY q)) (OwP [qX q, qY q]) W
def AnsN (q : Rat) (W : World) : Ending → World → Prop := AnsR (qV (qS q) (qX q) false (qY q)) (RwnP [qX q, qY q]) W
def AnsI (z : Int) (W : World) : Ending → World → Prop := AnsR (iV (decide (z < 0)) (canon z.natAbs)) (OwP [canon z.natAbs]) W
theorem FrF.q {w w' : World} {x y : Int} {e : Ending} {q : Rat} (h : FrF w x y e w') (hx : x = q.num) (hy : y = (q.den : Int)) : AnsQ q w e w' := by
  subst hx hy
  have := h.ans
  rw [den_nn q] at this
  exact this
theorem FrG.q {w w' : World} {x y : Int} {e : Ending} {q : Rat} (h : FrG w x y e w') (hx : x = q.num) (hy : y = (q.den : Int)) : AnsN q w e w' := by
  subst hx hy
  have := h.ans
  rw [den_nn q] at this
  exact this
theorem red_q (s t : Bool) (a b : Option Addr) (c d : Nat) (l k : List (BitVec 32)) (w : World) (h1 : l.length ≤ 900000) (h2 : k.length ≤ 900000) (g1 : l.length ≤ c) (g2 : k.length ≤ d) (ha : Rw w a l) (hb : Rw w b k) :
    Calls Try.prog 42 #[.agg #[.bool s, .slice a l.length c], .agg #[.bool t, .slice b k.length d]] w (AnsQ (Qv s l t k) w) := by
  exact (red_any s t a b _ c _ d l k w rfl rfl g1 g2 h1 h2 ha hb).mono fun e w' h => h.q (rn_q s t l k).1 (rn_q s t l k).2
theorem norm_q (s t : Bool) (a b : Option Addr) (c d : Nat) (l k : List (BitVec 32)) (w : World) (h1 : l.length ≤ 900000) (h2 : k.length ≤ 900000) (g1 : l.length ≤ c) (g2 : k.length ≤ d) (ha : Rw w a l) (hb : Rw w b k) :
    Calls Try.prog 13 #[.agg #[.bool s, .slice a l.length c, .bool t, .slice b k.length d]] w (AnsQ (Qv s l t k) w) := by
  exact (ratn_any s t a b _ c _ d l k w rfl rfl g1 g2 h1 h2 ha hb).mono fun e w' h => h.q (rn_q s t l k).1 (rn_q s t l k).2
end Go.Proofs.Ytcofiekfhnfjpaa
