
import Derived.Test.YtfbgfnebodabpaaRows
import Derived.WalkKit
import Derived.Below
import Derived.Deep.Draws
import Derived.Laws.AppendOwn
import Derived.Deep.AppendLies
namespace Go.Proofs.Ytfbgfnebodabpaa
open Go.RowKit
set_option linter.unusedVariables false
/-- A slice of bytes reads as a list (nil and empty let in). -/
def Rd (w : World) (a : Option Addr) (l : List (BitVec 8)) : Prop := ∀ k (h : k < l.length), ∃ ad, a = some ad ∧ w.cell? (ad.add k) = some (.int .u8 (l[k].toNat : Int))
theorem block_add (a : Addr) (n : Nat) : (a.add n).block = a.block := by unfold Addr.add; split <;> rfl
theorem add_addr (a : Addr) (i j : Nat) : (a.add i).add j = a.add (i + j) := by
  unfold Addr.add
  by_cases hi : i = 0 <;> by_cases hj : j = 0 <;> simp [hi, hj, Nat.add_assoc]
theorem Rd.nil (w : World) (a : Option Addr) : Rd w a [] := fun k h => absurd h (by simp)
theorem Rd.below {w w' : World} {a : Option Addr} {l : List (BitVec 8)} (h : Rd w a l) (hb : Below w.heap.size w w') : Rd w' a l := fun k hk => by
  obtain ⟨ad, e, hc⟩ := h k hk
  exact ⟨ad, e, (hb.cell (World.block_lt_of_cell? w _ hc)).trans hc⟩
theorem Rd.belowB {w w' : World} {B : Nat} {a : Option Addr} {l : List (BitVec 8)} (h : Rd w a l) (hl : ∀ ad, a = some ad → ad.block < B) (hb : Below B w w') : Rd w' a l := fun k hk => by
  obtain ⟨ad, e, hc⟩ := h k hk
  exact ⟨ad, e, (hb.cell (by rw [block_add]; exact hl ad e)).trans hc⟩
theorem Rd.drewN {w : World} {a : Option Addr} {l : List (BitVec 8)} (h : Rd w a l) (n : Nat) : Rd (w.drewN n) a l := h
theorem Rd.grown {w w' : World} {a : Option Addr} {l : List (BitVec 8)} {row : Option Nat} (h : Rd w a l) (hg : w.grownBy w' row) (hne : ∀ ad, a = some ad → some ad.block ≠ row) : Rd w' a l := fun k hk => by
  obtain ⟨ad, e, hc⟩ := h k hk
  exact ⟨ad, e, hg.cell hc (by rw [block_add]; exact hne ad e)⟩
theorem Rd.take {w : World} {a : Option Addr} {l : List (BitVec 8)} (h : Rd w a l) (n : Nat) : Rd w a (l.take n) := fun k hk => by
  obtain ⟨ad, e, hc⟩ := h k (by simp at hk; omega)
  exact ⟨ad, e, by rw [hc, List.getElem_take]⟩
theorem Rd.drop {w : World} {a : Option Addr} {l : List (BitVec 8)} (h : Rd w a l) (n : Nat) : Rd w (a.map (·.add n)) (l.drop n) := fun k hk => by
  obtain ⟨ad, e, hc⟩ := h (n + k) (by simp at hk; omega)
  exact ⟨ad.add n, by rw [e]; rfl, by rw [add_addr, hc, List.getElem_drop]⟩
/-- The values of a list of bytes. -/
def bv8 (l : List (BitVec 8)) : List Value := l.map fun c => .int .u8 (c.toNat : Int)
theorem bv8_len (l : List (BitVec 8)) : (bv8 l).length = l.length := by simp [bv8]
theorem bv8_append (l m : List (BitVec 8)) : bv8 (l ++ m) = bv8 l ++ bv8 m := by simp [bv8]
theorem bv8_one (l : List (BitVec 8)) : ∀ u ∈ bv8 l, u.oneCell' = true := by
  intro u hu
  simp only [bv8, List.mem_map] at hu
  obtain ⟨c, _, rfl⟩ := hu
  rfl
theorem Rd.news {w : World} {ad : Addr} {l : List (BitVec 8)} (h : Rd w (some ad) l) : ∀ j u, (bv8 l)[j]? = some u → w.cell? (ad.add j) = some u := by
  intro j u hu
  simp only [bv8, List.getElem?_map, Option.map_eq_some_iff] at hu
  obtain ⟨c, hc, rfl⟩ := hu
  obtain ⟨hlt, rfl⟩ := List.getElem?_eq_some_iff.1 hc
  obtain ⟨ad', e, h'⟩ := h j hlt
  cases e
  exact h'
theorem Rd.of_own {w : World} {base : Nat} {e : TypeId} {a : Option Addr} {n c : Nat} {l : List (BitVec 8)} (h : w.ownsRow base e 1 (.slice a n c) n (bv8 l)) : Rd w a l := fun k hk => by
  have hl := h.1
  rw [bv8_len] at hl
  rcases h.2 with ⟨e1, e2⟩ | ⟨g, cap, cur, e1, _⟩
  · omega
  · injection e1 with e1 e2 e3
    subst e1
    exact ⟨_, rfl, h.cells (g := g) rfl k _ (by simp [bv8, hk])⟩
theorem Rd.of_cells {w : World} {b : Nat} {l : List (BitVec 8)} {cs : Array Value} {t : TypeId} {fr : Nat × Nat} (h : w.heap[b]? = some (.cells cs t fr)) (e : cs.toList = bv8 l) : Rd w (some ⟨b, 0, none⟩) l := fun k hk => by
  refine ⟨_, rfl, ?_⟩
  have := World.news_of_block h k (.int .u8 (l[k].toNat : Int)) (by rw [e]; simp [bv8, hk])
  exact this
end Go.Proofs.Ytfbgfnebodabpaa
