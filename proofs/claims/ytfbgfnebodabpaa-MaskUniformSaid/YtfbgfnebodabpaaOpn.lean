import Derived.Test.YtfbgfnebodabpaaRd
namespace Go.Proofs.Ytfbgfnebodabpaa
open Go.RowKit
set_option linter.unusedVariables false
/-- A slice of integers, as an argument is opened. -/
def IsRow (k : IntKind) (w : World) (a : Option Addr) (l c : Nat) (z : List Int) : Prop :=
  (a = none ∧ l = 0 ∧ c = 0 ∧ z = []) ∨ ∃ ad, a = some ad ∧ l ≤ c ∧ c ≤ maxLen ∧ z.length = c ∧ (∀ i, i < z.length → w.cell? (ad.add i) = some (.int k (z.getD i 0))) ∧ ∀ n ∈ z, (Lit.int k n).wf = true
/-- A slice of slices of integers, as an argument is opened. -/
def IsRows (k : IntKind) (w : World) (a : Option Addr) (l c : Nat) (A : Nat → Option Addr) (L C : Nat → Nat) (Z : Nat → List Int) : Prop :=
  (a = none ∧ l = 0 ∧ c = 0) ∨ ∃ ad, a = some ad ∧ l ≤ c ∧ c ≤ maxLen ∧ ∀ r, r < c → w.cell? (ad.add r) = some (.slice (A r) (L r) (C r)) ∧ L r ≤ C r ∧ C r ≤ maxLen ∧ (Z r).length = C r ∧ (∀ n ∈ Z r, (Lit.int k n).wf = true) ∧ (A r = none → C r = 0) ∧ ∀ a', A r = some a' → ∀ i, i < C r → w.cell? (a'.add i) = some (.int k ((Z r).getD i 0))
theorem u8_of_wf {n : Int} (h : (Lit.int .u8 n).wf = true) : ∃ c : BitVec 8, n = (c.toNat : Int) := by
  simp [Lit.wf, IntKind.min, IntKind.max, IntKind.signed, IntKind.bits] at h
  exact ⟨BitVec.ofNat 8 n.toNat, by rw [BitVec.toNat_ofNat]; omega⟩
theorem u32_of_wf {n : Int} (h : (Lit.int .u32 n).wf = true) : ∃ c : BitVec 32, n = (c.toNat : Int) := by
  simp [Lit.wf, IntKind.min, IntKind.max, IntKind.signed, IntKind.bits] at h
  exact ⟨BitVec.ofNat 32 n.toNat, by rw [BitVec.toNat_ofNat]; omega⟩
def toB8 (z : List Int) : List (BitVec 8) := z.map fun n => BitVec.ofNat 8 n.toNat
theorem toB8_get {z : List Int} (h : ∀ n ∈ z, (Lit.int .u8 n).wf = true) (i : Nat) (hi : i < (toB8 z).length) : z.getD i 0 = (((toB8 z)[i]).toNat : Int) := by
  have hi' : i < z.length := by simpa [toB8] using hi
  obtain ⟨c, hc⟩ := u8_of_wf (h z[i] (List.getElem_mem hi'))
  have h1 : z.getD i 0 = z[i] := by simp [List.getD, hi']
  rw [h1]
  simp only [toB8, List.getElem_map, BitVec.toNat_ofNat]
  rw [hc]
  have := c.isLt
  omega
theorem IsRow.bytes {w : World} {a : Option Addr} {l c : Nat} {z : List Int} (h : IsRow .u8 w a l c z) : ∃ bs : List (BitVec 8), bs.length = l ∧ l ≤ c ∧ Rd w a bs ∧ (a = none → c = 0) := by
  rcases h with ⟨rfl, rfl, rfl, rfl⟩ | ⟨ad, rfl, hl, hm, hz, hc, hw⟩
  · exact ⟨[], rfl, Nat.le_refl _, Rd.nil _ _, fun _ => rfl⟩
  · refine ⟨(toB8 z).take l, by simp [toB8]; omega, hl, Rd.take ?_ l, fun h => by cases h⟩
    intro k hk
    exact ⟨ad, rfl, by rw [hc k (by simpa [toB8] using hk), toB8_get hw k hk]⟩
theorem IsRows.bytes {w : World} {a : Option Addr} {l c : Nat} {A : Nat → Option Addr} {L C : Nat → Nat} {Z : Nat → List Int} (h : IsRows .u8 w a l c A L C Z) :
    ∃ ls : List (List (BitVec 8)), ls.length = l ∧ l ≤ c ∧ ∀ k (h : k < ls.length), ∃ ad ak ck, a = some ad ∧ w.cell? (ad.add k) = some (.slice ak ls[k].length ck) ∧ Rd w ak ls[k] := by
  rcases h with ⟨rfl, rfl, rfl⟩ | ⟨ad, rfl, hl, hm, hc⟩
  · exact ⟨[], rfl, Nat.le_refl _, fun k h => absurd h (by simp)⟩
  · refine ⟨(List.range l).map fun r => (toB8 (Z r)).take (L r), by simp, hl, fun k hk => ?_⟩
    have hk' : k < l := by simpa using hk
    obtain ⟨h1, h2, h3, h4, h5, h6, h7⟩ := hc k (by omega)
    have hlen : (((List.range l).map fun r => (toB8 (Z r)).take (L r))[k]) = (toB8 (Z k)).take (L k) := by simp
    rw [hlen]
    have h8 : ((toB8 (Z k)).take (L k)).length = L k := by simp [toB8]; omega
    refine ⟨ad, A k, C k, rfl, by rw [h1, h8], Rd.take ?_ _⟩
    intro j hj
    have hj' : j < (Z k).length := by simpa [toB8] using hj
    cases hA : A k with
    | none => have := h6 hA; omega
    | some a' => exact ⟨a', rfl, by rw [h7 a' hA j (by omega), toB8_get h5 j hj]⟩
end Go.Proofs.Ytfbgfnebodabpaa
