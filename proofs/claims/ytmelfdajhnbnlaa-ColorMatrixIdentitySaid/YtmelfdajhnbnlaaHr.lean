
import Derived.Test.YtmelfdajhnbnlaaHd
import Derived.WalkKit
import Derived.WalkSpells
import Derived.WalkLawsBesides
import Derived.Lib.Hide
import Derived.Below
import Derived.Deep.QuietTactic
import Derived.BigQuiet
import Derived.IntWalk
import Derived.Laws.BitsAllLaws
namespace Go.Proofs.Ytmelfdajhnbnlaa
open Go.RowKit
set_option linter.unusedVariables false
set_option linter.unusedSimpArgs false
def hexL : List UInt8 := [48, 49, 50, 51, 52, 53, 54, 55, 56, 57, 97, 98, 99, 100, 101, 102]
def hexi (c : UInt8) : Int := match hexv c with | some a => (a : Int) | none => -1
theorem hexL_at (k : Nat) (h : k < (⟨#[48, 49, 50, 51, 52, 53, 54, 55, 56, 57, 97, 98, 99, 100, 101, 102]⟩ : ByteArray).size) : ∃ (h2 : k < hexL.length), ((⟨#[48, 49, 50, 51, 52, 53, 54, 55, 56, 57, 97, 98, 99, 100, 101, 102]⟩ : ByteArray)[k]'h).toNat = (hexL[k]).toNat := ⟨h, rfl⟩
theorem hexL_take (c : UInt8) (j : Nat) (h : j < hexL.length) : (hexL.take (j + 1)).contains c = ((hexL.take j).contains c || hexL[j] == c) := by
  rw [List.take_succ_eq_append_getElem h, List.contains_eq_any_beq, List.contains_eq_any_beq, List.any_append]
  simp [Bool.beq_comm, eq_comm]
theorem hexi_at (j : Nat) (h : j < hexL.length) (c : UInt8) (e : hexL[j] = c) : hexi c = (j : Int) := by
  have key : ∀ i : Fin 16, hexi (hexL[i.val]'i.isLt) = (i.val : Int) := by decide +kernel
  rw [← e]
  exact key ⟨j, h⟩
theorem hexi_no (c : UInt8) (h : (hexL.take 16).contains c = false) : hexi c = -1 := by
  revert h
  revert c
  exact all256 (by decide +kernel)
def DgR (c : UInt8) (i : Value) (w wr : World) : Prop := ∃ j : Nat, j ≤ 16 ∧ i = .int .i64 j ∧ Hid ((hexL.take j).contains c = false) ∧ w = wr
def RdR (w : World) (l : List UInt8) (n : Nat) (bv iv : Value) (wr : World) : Prop := ∃ (j : Nat) (bs : List UInt8), 2 * j ≤ n ∧ iv = .int .i64 ((2 * j : Nat) : Int) ∧ Hid (bs.length = j) ∧ Hid (decL l = (decL (l.drop (2 * j))).map (bs ++ ·)) ∧ wr.ownsRow w.heap.size 5 1 bv j (Lib.byteCells bs) ∧ Below w.heap.size w wr
theorem map_snoc (o : Option (List UInt8)) (bs : List UInt8) (c : UInt8) : (o.map (c :: ·)).map (bs ++ ·) = o.map ((bs ++ [c]) ++ ·) := by
  cases o <;> simp
end Go.Proofs.Ytmelfdajhnbnlaa
