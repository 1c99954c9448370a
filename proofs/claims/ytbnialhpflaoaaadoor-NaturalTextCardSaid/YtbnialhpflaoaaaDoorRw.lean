import Derived.Test.YtbnialhpflaoaaaDoorRd
import Derived.WalkKit
import Derived.Below
import Derived.Deep.Draws
import Derived.Laws.AppendOwn
import Derived.Deep.AppendLies
namespace Go.Proofs.YtbnialhpflaoaaaDoor
open Go.RowKit
set_option linter.unusedVariables false
/-- A slice of bytes reads as a list (nil and empty let in). -/
def Rw (w : World) (a : Option Addr) (l : List (BitVec 32)) : Prop := ∀ k (h : k < l.length), ∃ ad, a = some ad ∧ w.cell? (ad.add k) = some (.int .u32 (l[k].toNat : Int))
theorem Rw.nil (w : World) (a : Option Addr) : Rw w a [] := fun k h => absurd h (by simp)
theorem Rw.below {w w' : World} {a : Option Addr} {l : List (BitVec 32)} (h : Rw w a l) (hb : Below w.heap.size w w') : Rw w' a l := fun k hk => by
  obtain ⟨ad, e, hc⟩ := h k hk
  exact ⟨ad, e, (hb.cell (World.block_lt_of_cell? w _ hc)).trans hc⟩
theorem Rw.belowB {w w' : World} {B : Nat} {a : Option Addr} {l : List (BitVec 32)} (h : Rw w a l) (hl : ∀ ad, a = some ad → ad.block < B) (hb : Below B w w') : Rw w' a l := fun k hk => by
  obtain ⟨ad, e, hc⟩ := h k hk
  exact ⟨ad, e, (hb.cell (by rw [block_add]; exact hl ad e)).trans hc⟩
theorem Rw.drewN {w : World} {a : Option Addr} {l : List (BitVec 32)} (h : Rw w a l) (n : Nat) : Rw (w.drewN n) a l := h
theorem Rw.grown {w w' : World} {a : Option Addr} {l : List (BitVec 32)} {row : Option Nat} (h : Rw w a l) (hg : w.grownBy w' row) (hne : ∀ ad, a = some ad → some ad.block ≠ row) : Rw w' a l := fun k hk => by
  obtain ⟨ad, e, hc⟩ := h k hk
  exact ⟨ad, e, hg.cell hc (by rw [block_add]; exact hne ad e)⟩
theorem Rw.take {w : World} {a : Option Addr} {l : List (BitVec 32)} (h : Rw w a l) (n : Nat) : Rw w a (l.take n) := fun k hk => by
  obtain ⟨ad, e, hc⟩ := h k (by simp at hk; omega)
  exact ⟨ad, e, by rw [hc, List.getElem_take]⟩
theorem Rw.drop {w : World} {a : Option Addr} {l : List (BitVec 32)} (h : Rw w a l) (n : Nat) : Rw w (a.map (·.add n)) (l.drop n) := fun k hk => by
  obtain ⟨ad, e, hc⟩ := h (n + k) (by simp at hk; omega)
  exact ⟨ad.add n, by rw [e]; rfl, by rw [add_addr, hc, List.getElem_drop]⟩
/-- The values of a list of bytes. -/
def bv32 (l : List (BitVec 32)) : List Value := l.map fun c => .int .u32 (c.toNat : Int)
theorem bv32_len (l : List (BitVec 32)) : (bv32 l).length = l.length := by simp [bv32]
theorem bv32_append (l m : List (BitVec 32)) : bv32 (l ++ m) = bv32 l ++ bv32 m := by simp [bv32]
theorem bv32_one (l : List (BitVec 32)) : ∀ u ∈ bv32 l, u.oneCell' = true := by
  intro u hu
  simp only [bv32, List.mem_map] at hu
  obtain ⟨c, _, rfl⟩ := hu
  rfl
theorem Rw.news {w : World} {ad : Addr} {l : List (BitVec 32)} (h : Rw w (some ad) l) : ∀ j u, (bv32 l)[j]? = some u → w.cell? (ad.add j) = some u := by
  intro j u hu
  simp only [bv32, List.getElem?_map, Option.map_eq_some_iff] at hu
  obtain ⟨c, hc, rfl⟩ := hu
  obtain ⟨hlt, rfl⟩ := List.getElem?_eq_some_iff.1 hc
  obtain ⟨ad', e, h'⟩ := h j hlt
  cases e
  exact h'
theorem Rw.of_own {w : World} {base : Nat} {e : TypeId} {a : Option Addr} {n c : Nat} {l : List (BitVec 32)} (h : w.ownsRow base e 1 (.slice a n c) n (bv32 l)) : Rw w a l := fun k hk => by
  have hl := h.1
  rw [bv32_len] at hl
  rcases h.2 with ⟨e1, e2⟩ | ⟨g, cap, cur, e1, _⟩
  · omega
  · injection e1 with e1 e2 e3
    subst e1
    exact ⟨_, rfl, h.cells (g := g) rfl k _ (by simp [bv32, hk])⟩
theorem Rw.of_cells {w : World} {b : Nat} {l : List (BitVec 32)} {cs : Array Value} {t : TypeId} {fr : Nat × Nat} (h : w.heap[b]? = some (.cells cs t fr)) (e : cs.toList = bv32 l) : Rw w (some ⟨b, 0, none⟩) l := fun k hk => by
  refine ⟨_, rfl, ?_⟩
  have := World.news_of_block h k (.int .u32 (l[k].toNat : Int)) (by rw [e]; simp [bv32, hk])
  exact this
end Go.Proofs.YtbnialhpflaoaaaDoor
