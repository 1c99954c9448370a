
import Derived.Test.YtcofiekfhnfjpaaDoorS1b
import Derived.Test.YtcofiekfhnfjpaaDoorUE
namespace Go.Proofs.YtcofiekfhnfjpaaDoor
open Go.RowKit
set_option linter.unusedVariables false
set_option linter.unusedSimpArgs false
attribute [local go_sem ↓] Go.wp_at_zero Go.wp_at_succ
attribute [local go_sem] rhoF_tmp rhoF_const rhoF_global rhoF_func
attribute [local go_sem] iV
/-- What DivMod answers, as rows that were made. -/
def AnsD2 (q r : Int) (W : World) : Ending → World → Prop := AnsR (fun γ => .tuple #[.agg #[.bool (decide (q < 0)), .slice (γ 0).1 (canon q.natAbs).length (γ 0).2], .agg #[.bool (decide (r < 0)), .slice (γ 1).1 (canon r.natAbs).length (γ 1).2], .int .i64 0]) (RwsP [canon q.natAbs, canon r.natAbs]) W
def AnsD1 (q : Int) (W : World) : Ending → World → Prop := AnsR (fun γ => .tuple #[.agg #[.bool (decide (q < 0)), .slice (γ 0).1 (canon q.natAbs).length (γ 0).2], .int .i64 0]) (RwsP [canon q.natAbs]) W
def AnsZ (z : Int) (W : World) : Ending → World → Prop := AnsR (iV (decide (z < 0)) (canon z.natAbs)) (RwsP [canon z.natAbs]) W
theorem FrZ.rws {w w' : World} {z : Int} {e : Ending} (h : FrZ w z e w') : AnsZ z w e w' := h.ans.mono fun _ _ _ _ h => h.rws
def pkk (a : Option Addr) (c : Nat) (b : Option Addr) (d : Nat) : Pick := fun i => if i = 0 then (a, c) else (b, d)
theorem DmZ.rws {w w' : World} {q r : Int} {e : Ending} (h : DmZ w q r e w') : AnsD2 q r w e w' := by
  obtain ⟨a1, c1, a2, c2, rfl, h1, h2, hb⟩ := h
  refine ⟨pkk a1 c1 a2 c2, rfl, fun i X hX => ?_, hb⟩
  match i, hX with
  | 0, hX => cases hX; exact ⟨own_cap h1, Rw.of_own h1⟩
  | 1, hX => cases hX; exact ⟨own_cap h2, Rw.of_own h2⟩
theorem DrZ.rws {w w' : World} {q : Int} {e : Ending} (h : DrZ w q e w') : AnsD1 q w e w' := by
  obtain ⟨a1, c1, rfl, h1, hb⟩ := h
  refine ⟨pkk a1 c1 a1 c1, rfl, fun i X hX => ?_, hb⟩
  match i, hX with
  | 0, hX => cases hX; exact ⟨own_cap h1, Rw.of_own h1⟩
theorem zcmp_h {s t : Bool} {l k : List (BitVec 32)} {x y z : Int} (e1 : zv s (valD l) = x) (e2 : zv t (valD k) = y) (e3 : (x - y).sign = z) (l1 : l.length ≤ 400000) (l2 : k.length ≤ 400000) : ∀ W W0 (v0 v1 : Option Addr) (n0 n1 : Nat), Below W0.heap.size W0 W → l.length ≤ n0 → k.length ≤ n1 → Rw W0 v0 l → Rw W0 v1 k → Calls Tryd.prog 8 #[.agg #[.bool s, .slice v0 l.length n0], .agg #[.bool t, .slice v1 k.length n1]] W fun e w' => e = .returned (.int .i64 z) ∧ Below W.heap.size W w' := fun W W0 v0 v1 n0 n1 E c0 c1 r0 r1 => by
  have h := zcmp_any s t v0 v1 _ n0 _ n1 l k W rfl rfl c0 c1 l1 l2 (r0.below E) (r1.below E)
  rw [e1, e2, e3] at h
  exact h
theorem zsame_h (s : Bool) (l : List (BitVec 32)) (l1 : l.length ≤ 400000) : ∀ W W0 (v0 v1 : Option Addr) (n0 n1 : Nat), Below W0.heap.size W0 W → Rw W0 v0 l → Rw W0 v1 l → Calls Tryd.prog 18 #[.agg #[.bool s, .slice v0 l.length n0], .agg #[.bool s, .slice v1 l.length n1]] W fun e w' => e = .returned (.bool true) ∧ Below W.heap.size W w' := fun W W0 v0 v1 n0 n1 E r0 r1 =>
  same_yes s s v0 v1 _ n0 _ n1 l l W rfl rfl (Nat.le_trans l1 (by decide)) (r0.below E) (r1.below E) rfl rfl
theorem zholds_two {W : World} {g n m : Nat} (s : Bool) (a : Option Addr) (c : Nat) (t : Bool) (b : Option Addr) (d : Nat) (h0 : W.cell? ⟨g, 0, none⟩ = some (.bool s)) (h1 : W.cell? ⟨g, 1, none⟩ = some (.slice a n c)) (h2 : W.cell? ⟨g, 2, none⟩ = some (.bool t)) (h3 : W.cell? ⟨g, 3, none⟩ = some (.slice b m d)) : HoldsN W g [n, m] := fun i hi => by
  have hi0 : i = 0 ∨ i = 1 := by simp at hi; omega
  rcases hi0 with rfl | rfl
  · exact ⟨s, a, c, h0, h1⟩
  · exact ⟨t, b, d, h2, h3⟩
end Go.Proofs.YtcofiekfhnfjpaaDoor
