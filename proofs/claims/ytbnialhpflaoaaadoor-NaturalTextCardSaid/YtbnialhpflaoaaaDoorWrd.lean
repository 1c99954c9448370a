import Derived.Test.YtbnialhpflaoaaaDoorOpn
import Derived.Test.YtbnialhpflaoaaaDoorRw
import Derived.Test.YtbnialhpflaoaaaDoorOwn
namespace Go.Proofs.YtbnialhpflaoaaaDoor
open Go.RowKit
set_option linter.unusedVariables false
def toB32 (z : List Int) : List (BitVec 32) := z.map fun n => BitVec.ofNat 32 n.toNat
theorem toB32_get {z : List Int} (h : ∀ n ∈ z, (Lit.int .u32 n).wf = true) (i : Nat) (hi : i < (toB32 z).length) : z.getD i 0 = (((toB32 z)[i]).toNat : Int) := by
  have hi' : i < z.length := by simpa [toB32] using hi
  obtain ⟨c, hc⟩ := u32_of_wf (h z[i] (List.getElem_mem hi'))
  have h1 : z.getD i 0 = z[i] := by simp [List.getD, hi']
  rw [h1]
  simp only [toB32, List.getElem_map, BitVec.toNat_ofNat]
  rw [hc]
  have := c.isLt
  omega
theorem IsRow.words {w : World} {a : Option Addr} {l c : Nat} {z : List Int} (h : IsRow .u32 w a l c z) : ∃ bs : List (BitVec 32), bs.length = l ∧ l ≤ c ∧ Rw w a bs ∧ (a = none → c = 0) := by
  rcases h with ⟨rfl, rfl, rfl, rfl⟩ | ⟨ad, rfl, hl, hm, hz, hc, hw⟩
  · exact ⟨[], rfl, Nat.le_refl _, Rw.nil _ _, fun _ => rfl⟩
  · refine ⟨(toB32 z).take l, by simp [toB32]; omega, hl, Rw.take ?_ l, fun h => by cases h⟩
    intro k hk
    exact ⟨ad, rfl, by rw [hc k (by simpa [toB32] using hk), toB32_get hw k hk]⟩
theorem Rw.vals {w : World} {a : Option Addr} {l : List (BitVec 32)} (h : Rw w a l) : RdV w a (bv32 l) := by
  intro j u hu
  simp only [bv32, List.getElem?_map, Option.map_eq_some_iff] at hu
  obtain ⟨c, hc, rfl⟩ := hu
  obtain ⟨hlt, rfl⟩ := List.getElem?_eq_some_iff.1 hc
  exact h j hlt
theorem fresh_row32 (W : World) : (W.alloc (.cells #[] 39)).ownsRow W.heap.size 39 1 (.slice (some ⟨W.heap.size, 0, none⟩) 0 0) 0 [] := World.ownsRow_made W #[] 0 (Nat.le_refl _) (by unfold maxLen; omega) (by simp)
theorem info32 : (Tryd.prog.info? 39).map (fun i => (i.zero, i.size, i.bytes)) = some (some (.int .u32 0), 1, 4) := by kernel_rfl
theorem bv32_snoc (l : List (BitVec 32)) (d : BitVec 32) : bv32 (l ++ [d]) = bv32 l ++ [.int .u32 (d.toNat : Int)] := by simp [bv32]
/-- One more digit behind a row of the call's own. -/
theorem wpList_snoc32 {w wr : World} {ops : Array Oper} {rest : List Oper} {o : Oper} {a : Act} {Q : Exit → Act → World → Prop} (hgd : o.guard = none) (s x : Operand)
    (ho : o.op = .call { callee := .builtin .append, args := #[s, x], argTypes := #[22, 22] })
    {v : Value} {n : Nat} {l : List (BitVec 32)} (hown : wr.ownsRow w.heap.size 39 1 v n (bv32 l)) (hb : Below w.heap.size w wr) (hn : n + 1 ≤ 20000000)
    {y : Int} (d : BitVec 32) (hy : y = (d.toNat : Int)) (hs : a.eval s = v) (hx : a.eval x = .slice (some ⟨wr.heap.size, 0, none⟩) 1 1)
    (h : ∀ v' w', w'.ownsRow w.heap.size 39 1 v' (n + 1) (bv32 (l ++ [d])) → Below w.heap.size w w' → wpList Tryd.prog ops Q rest (a.put o.dst v') w') :
    wpList Tryd.prog ops Q (o :: rest) a (wr.alloc (.cells #[.int .u32 y] 39)) := by
  subst hy
  obtain ⟨i0, hi, hz0, hz1, hz2⟩ := info_parts info32
  have hb1 := Below.alloc hb hb.size (.cells #[.int .u32 (d.toNat : Int)] 39)
  refine wpList_append_rd _ hgd s x _ ho w.heap.size 39 i0 (.int .u32 0) 4 Tryd.underlying22 hi hz0 hz1 hz2 rfl v n (bv32 l) hs (hown.alloc _) (some ⟨wr.heap.size, 0, none⟩) 1 1 [.int .u32 (d.toNat : Int)] hx rfl (fun j u hu => ⟨_, rfl, cell_one_new _ _ _ j u hu⟩) ?_ (by unfold maxLen; omega) (by omega) hb1.size ?_
  · intro u hu
    simp at hu
    subst hu
    rfl
  · intro v' w' hown2 hg _
    exact h v' w' (by rw [bv32_snoc]; exact hown2) (hb1.grown hg hb1.size (fun q hq => (hown.lt q hq).1))
/-- A new row of digits is returned. -/
def FrW (w : World) (l : List (BitVec 32)) (e : Ending) (w' : World) : Prop := ∃ a c, e = .returned (.slice a l.length c) ∧ w'.ownsRow w.heap.size 39 1 (.slice a l.length c) l.length (bv32 l) ∧ Below w.heap.size w w'
theorem one_cell32 (x : Int) : ∀ u ∈ [Value.int .u32 x], u.oneCell' = true := by
  intro u hu
  simp at hu
  subst hu
  rfl
theorem len_ok {n m : Nat} (h : n + m ≤ 20000000) : n + m ≤ maxLen := by unfold maxLen; omega
theorem bytes_ok {n m : Nat} (h : n + m ≤ 20000000) : (n + m) * 4 ≤ 140737488355328 := by omega
theorem FrW.up {w w1 w' : World} {l : List (BitVec 32)} {e : Ending} (h : FrW w1 l e w') (hb : Below w.heap.size w w1) : FrW w l e w' := by
  obtain ⟨a, c, h1, h2, h3⟩ := h
  exact ⟨a, c, h1, own_mono h2 hb.size, hb.trans (h3.mono hb.size)⟩
theorem FrW.eq {w w' : World} {l m : List (BitVec 32)} {e : Ending} (h : FrW w l e w') (hm : l = m) : FrW w m e w' := hm ▸ h
theorem Rw.of_alloc {W : World} {b : Nat} {cs : Array Value} {t : TypeId} {fr : Nat × Nat} {l : List (BitVec 32)} (hb : W.heap.size = b) (e : cs.toList = bv32 l) : Rw (W.alloc (.cells cs t fr)) (some ⟨b, 0, none⟩) l := by
  subst hb
  exact Rw.of_cells (heap_alloc_new W _) e
end Go.Proofs.YtbnialhpflaoaaaDoor
