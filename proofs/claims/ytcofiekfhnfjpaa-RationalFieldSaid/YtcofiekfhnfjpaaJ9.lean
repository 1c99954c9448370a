
import Derived.Test.YtcofiekfhnfjpaaJ8
namespace Go.Proofs.Ytcofiekfhnfjpaa
open Go.RowKit
set_option linter.unusedVariables false
set_option linter.unusedSimpArgs false
attribute [local go_sem ↓] Go.wp_at_zero Go.wp_at_succ
/-- reduce, whatever its arguments. -/
theorem red_any (s t : Bool) (a b : Option Addr) (n c m d : Nat) (l k : List (BitVec 32)) (w : World) (hn : l.length = n) (hm : k.length = m) (hc : n ≤ c) (hd : m ≤ d) (hl : n ≤ 900000) (hl2 : m ≤ 900000) (hr : Rw w a l) (hs : Rw w b k) :
    Calls Try.prog 42 #[.agg #[.bool s, .slice a n c], .agg #[.bool t, .slice b m d]] w (FrF w (rnN (zv s (valD l)) (zv t (valD k))) (rnD (zv s (valD l)) (zv t (valD k)))) := by
  by_cases hy : zv t (valD k) = 0
  · exact red_zero s t a b n c m d l k w hn hm hc hd hl hl2 hr hs hy
  · by_cases h : smB l = true ∧ smB k = true
    · rcases Int.lt_or_gt_of_ne hy with h0 | h0
      · exact red_small_neg s t a b n c m d l k w hn hm hc hd (by omega) (by omega) hr hs h.1 h.2 h0
      · exact red_small_pos s t a b n c m d l k w hn hm hc hd (by omega) (by omega) hr hs h.1 h.2 h0
    · exact red_big s t a b n c m d l k w hn hm hc hd hl hl2 hr hs hy (by cases h1 : smB l <;> cases h2 : smB k <;> simp_all)
theorem ratn_any (s t : Bool) (a b : Option Addr) (n c m d : Nat) (l k : List (BitVec 32)) (w : World) (hn : l.length = n) (hm : k.length = m) (hc : n ≤ c) (hd : m ≤ d) (hl : n ≤ 900000) (hl2 : m ≤ 900000) (hr : Rw w a l) (hs : Rw w b k) :
    Calls Try.prog 13 #[.agg #[.bool s, .slice a n c, .bool t, .slice b m d]] w (FrF w (rnN (zv s (valD l)) (zv t (valD k))) (rnD (zv s (valD l)) (zv t (valD k)))) :=
  norm_of s t a b n c m d l k _ _ w hr hs (fun W h1 h2 => red_any s t a b n c m d l k W hn hm hc hd hl hl2 h1 h2)
/-- The reference's answer: a rational that holds x/y. -/
def FrG (w : World) (x y : Int) (e : Ending) (w' : World) : Prop := ∃ a c b d, e = .returned (.agg #[.bool (decide (x < 0)), .slice a (canon x.natAbs).length c, .bool (decide (y < 0)), .slice b (canon y.natAbs).length d]) ∧
  RwF w.heap.size w' a (canon x.natAbs) ∧ RwF w.heap.size w' b (canon y.natAbs) ∧ Below w.heap.size w w'
theorem FrG.put {w w1 w3 : World} {x y : Int} {a b : Option Addr} {c d blk : Nat} (hbk : blk < w1.heap.size) (hwb : w.heap.size ≤ blk) (hw1 : w.heap.size ≤ w1.heap.size)
    (ho3 : RwF w1.heap.size w3 a (canon x.natAbs)) (ho4 : RwF w1.heap.size w3 b (canon y.natAbs)) (hb : Below w.heap.size w w3) (v0 v1 v2 v3 : Value) :
    FrG w x y (.returned (.agg #[.bool (decide (x < 0)), .slice a (canon x.natAbs).length c, .bool (decide (y < 0)), .slice b (canon y.natAbs).length d])) ((((w3.setCell ⟨blk, 0, none⟩ v0).setCell ⟨blk, 1, none⟩ v1).setCell ⟨blk, 2, none⟩ v2).setCell ⟨blk, 3, none⟩ v3) :=
  ⟨a, c, b, d, rfl, ((((ho3.set hbk 0 v0).set hbk 1 v1).set hbk 2 v2).set hbk 3 v3).mono hw1, ((((ho4.set hbk 0 v0).set hbk 1 v1).set hbk 2 v2).set hbk 3 v3).mono hw1, (((hb.setCell hwb _).setCell hwb _).setCell hwb _).setCell hwb _⟩
end Go.Proofs.Ytcofiekfhnfjpaa
