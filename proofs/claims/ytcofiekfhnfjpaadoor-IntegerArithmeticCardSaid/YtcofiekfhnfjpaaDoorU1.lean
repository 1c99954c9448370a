
import Derived.Test.YtcofiekfhnfjpaaDoorRows
import Derived.WalkKit
import Derived.Below
import Derived.Deep.Draws
import Derived.Laws.AppendOwn
import Derived.Deep.AppendLies
import Derived.Maps.AppendAt
import Derived.RegionTactic
import Derived.OwnWalk
import Derived.Laws.OwnMore
import Derived.Laws.BitsAllLaws
/- NatNum -/
namespace Go.Proofs.YtcofiekfhnfjpaaDoor
/-- The value of digits in base 2^32, the least first. -/
def valD : List (BitVec 32) → Nat
  | [] => 0
  | d :: l => d.toNat + 4294967296 * valD l
/-- Without the zero digits at the end. -/
def trimD : List (BitVec 32) → List (BitVec 32)
  | [] => []
  | d :: l => match trimD l with
    | [] => if d = 0#32 then [] else [d]
    | x :: t => d :: x :: t
/-- The digits of a number, without zero digits at the end. -/
def canonB (b n : Nat) : List (BitVec 32) := if _h : n = 0 ∨ b < 2 then [] else BitVec.ofNat 32 n :: canonB b (n / b)
termination_by n
decreasing_by exact Nat.div_lt_self (by omega) (by omega)
def canon (n : Nat) : List (BitVec 32) := canonB 4294967296 n
def pw (k : Nat) : Nat := 4294967296 ^ k
theorem pw_zero : pw 0 = 1 := rfl
theorem pw_succ (k : Nat) : pw (k + 1) = pw k * 4294967296 := by unfold pw; rw [Nat.pow_succ]
theorem pw_add (j k : Nat) : pw (j + k) = pw j * pw k := Nat.pow_add _ _ _
theorem pw_pos (k : Nat) : 0 < pw k := Nat.pow_pos (by decide)
theorem pw_mono {j k : Nat} (h : j ≤ k) : pw j ≤ pw k := Nat.pow_le_pow_right (by decide) h
theorem canon_zero : canon 0 = [] := by unfold canon canonB; simp
theorem canon_pos {n : Nat} (h : n ≠ 0) : canon n = BitVec.ofNat 32 n :: canon (n / 4294967296) := by unfold canon; rw [canonB, dif_neg (by omega)]
theorem valD_nil : valD [] = 0 := rfl
theorem valD_cons (d : BitVec 32) (l : List (BitVec 32)) : valD (d :: l) = d.toNat + 4294967296 * valD l := rfl
theorem valD_canon (n : Nat) : valD (canon n) = n := by
  induction n using Nat.strongRecOn with
  | _ n ih =>
    by_cases h : n = 0
    · subst h; rw [canon_zero]; rfl
    · rw [canon_pos h, valD_cons, ih _ (by omega), BitVec.toNat_ofNat]; omega
theorem valD_trim (l : List (BitVec 32)) : valD (trimD l) = valD l := by
  induction l with
  | nil => rfl
  | cons d l ih =>
    unfold trimD
    split
    · rename_i h
      rw [h] at ih
      rw [valD_cons, ← ih]
      split
      · rename_i h; subst h; rfl
      · rfl
    · rename_i x t h
      rw [valD_cons, ← h, ih, valD_cons]
theorem canon_val (l : List (BitVec 32)) : canon (valD l) = trimD l := by
  induction l with
  | nil => exact canon_zero
  | cons d l ih =>
    have hd := d.isLt
    have hv := valD_trim l
    unfold trimD
    rw [valD_cons]
    split
    · rename_i h
      rw [h] at hv
      rw [← hv, valD_nil, Nat.mul_zero, Nat.add_zero]
      split
      · rename_i h; subst h; exact canon_zero
      · rename_i h
        have h0 : d.toNat ≠ 0 := fun e => h (BitVec.eq_of_toNat_eq (by simpa using e))
        rw [canon_pos h0, show d.toNat / 4294967296 = 0 by omega, canon_zero, BitVec.ofNat_toNat]
        simp
    · rename_i x t h
      by_cases h0 : d.toNat + 4294967296 * valD l = 0
      · have : valD l = 0 := by omega
        rw [this, canon_zero] at ih
        rw [← ih] at h
        cases h
      · rw [canon_pos h0, show (d.toNat + 4294967296 * valD l) / 4294967296 = valD l by omega, ih, h]
        congr 1
        apply BitVec.eq_of_toNat_eq
        rw [BitVec.toNat_ofNat]; omega
theorem valD_lt (l : List (BitVec 32)) : valD l < pw l.length := by
  induction l with
  | nil => exact Nat.one_pos
  | cons d l ih =>
    have := d.isLt
    rw [valD_cons, List.length_cons, pw_succ]; omega
theorem valD_append (l m : List (BitVec 32)) : valD (l ++ m) = valD l + pw l.length * valD m := by
  induction l with
  | nil => simp [pw_zero, valD_nil]
  | cons d l ih =>
    rw [List.cons_append, valD_cons, valD_cons, ih, List.length_cons, pw_succ, Nat.mul_add]
    grind
theorem valD_snoc (l : List (BitVec 32)) (d : BitVec 32) : valD (l ++ [d]) = valD l + pw l.length * d.toNat := by
  rw [valD_append]; simp [valD_cons, valD_nil]
theorem valD_take (l : List (BitVec 32)) (k : Nat) (h : k < l.length) : valD (l.take (k + 1)) = valD (l.take k) + pw k * l[k].toNat := by
  rw [List.take_succ_eq_append_getElem h, valD_snoc, List.length_take, Nat.min_eq_left (by omega)]
theorem trim_canon (n : Nat) : trimD (canon n) = canon n := by rw [← canon_val, valD_canon]
/-- The trimmed digits are a prefix. -/
theorem trim_snoc0 (l : List (BitVec 32)) : trimD (l ++ [0#32]) = trimD l := by
  rw [← canon_val, ← canon_val, valD_snoc]; simp
theorem trim_snoc (l : List (BitVec 32)) (d : BitVec 32) (h : d ≠ 0#32) : trimD (l ++ [d]) = l ++ [d] := by
  induction l with
  | nil => simp [trimD, h]
  | cons x l ih =>
    rw [List.cons_append]
    unfold trimD
    rw [ih]
    cases l <;> rfl
theorem canon_len_le (n k : Nat) : (canon n).length ≤ k ↔ n < pw k := by
  constructor
  · intro h
    have h1 := valD_lt (canon n)
    rw [valD_canon] at h1
    exact Nat.lt_of_lt_of_le h1 (pw_mono h)
  · induction k generalizing n with
    | zero => intro h; rw [pw_zero] at h; rw [show n = 0 by omega, canon_zero]; simp
    | succ k ih =>
      intro h
      by_cases h0 : n = 0
      · subst h0; rw [canon_zero]; simp
      · rw [canon_pos h0, List.length_cons]
        have := ih (n / 4294967296) (by rw [pw_succ] at h; exact Nat.div_lt_of_lt_mul (by rw [Nat.mul_comm]; exact h))
        omega
theorem trim_len_le (l : List (BitVec 32)) : (trimD l).length ≤ l.length := by
  rw [← canon_val, canon_len_le]; exact valD_lt l
end Go.Proofs.YtcofiekfhnfjpaaDoor

/- NatNum2 -/
namespace Go.Proofs.YtcofiekfhnfjpaaDoor
theorem add_num (x y o c p a b : Nat) (h : x + y = o + c * p) : (x + p * a) + (y + p * b) = (o + p * ((a + b + c) % 4294967296)) + ((a + b + c) / 4294967296) * (p * 4294967296) := by
  have h1 := congrArg (p * ·) (Nat.mod_add_div (a + b + c) 4294967296)
  simp only [Nat.mul_add] at h1
  grind
theorem sub_num (x y o c p a b d c' : Nat) (h : x + c * p = y + o) (h2 : a + c' * 4294967296 = b + c + d) : (x + p * a) + c' * (p * 4294967296) = (y + p * b) + (o + p * d) := by
  have h1 := congrArg (p * ·) h2
  simp only [Nat.mul_add] at h1
  grind
theorem valD_set (l : List (BitVec 32)) (k : Nat) (d : BitVec 32) (h : k < l.length) : valD (l.set k d) + pw k * l[k].toNat = valD l + pw k * d.toNat := by
  induction l generalizing k with
  | nil => simp at h
  | cons x l ih =>
    rcases k with _ | k
    · simp only [List.set_cons_zero, valD_cons, List.getElem_cons_zero, pw_zero]; omega
    · have := ih k (by simpa using h)
      simp only [List.set_cons_succ, valD_cons, List.getElem_cons_succ, pw_succ]
      grind
theorem valD_split (l : List (BitVec 32)) (k : Nat) (h : k ≤ l.length) : valD l = valD (l.take k) + pw k * valD (l.drop k) := by
  conv => lhs; rw [← List.take_append_drop k l]
  rw [valD_append, List.length_take, Nat.min_eq_left h]
theorem valD_zeros (n : Nat) : valD (List.replicate n 0#32) = 0 := by
  induction n with
  | zero => rfl
  | succ n ih => rw [List.replicate_succ, valD_cons, ih]; rfl
theorem trim_take (l : List (BitVec 32)) (k : Nat) (hk : k ≤ l.length) (h : trimD (l.take k) = trimD l) (h0 : k = 0 ∨ ∃ h : k - 1 < l.length, l[k - 1] ≠ 0#32) : trimD l = l.take k := by
  rw [← h]
  rcases Nat.eq_zero_or_pos k with rfl | hp
  · simp [trimD]
  · obtain ⟨h1, h2⟩ := h0.resolve_left (by omega)
    rw [show l.take k = l.take (k - 1) ++ [l[k - 1]] by rw [← List.take_succ_eq_append_getElem h1, show k - 1 + 1 = k by omega], trim_snoc _ _ h2]
theorem trim_step (l : List (BitVec 32)) (k : Nat) (hk : k < l.length) (h : trimD (l.take (k + 1)) = trimD l) (h0 : l[k] = 0#32) : trimD (l.take k) = trimD l := by
  rw [← h, List.take_succ_eq_append_getElem hk, h0, trim_snoc0]
theorem trim_prefix (l : List (BitVec 32)) : trimD l = l.take (trimD l).length := by
  generalize hn : l.length = n
  induction n generalizing l with
  | zero => have := List.length_eq_zero_iff.1 hn; subst this; rfl
  | succ n ih =>
    have hl : n < l.length := by omega
    have e : l = l.take n ++ [l[n]] := by rw [← List.take_succ_eq_append_getElem hl, List.take_of_length_le (by omega)]
    by_cases h : l[n] = 0#32
    · have h2 : trimD l = trimD (l.take n) := by
        have := trim_snoc0 (l.take n)
        rw [← h, ← e] at this
        exact this
      have h3 := ih (l.take n) (by simp; omega)
      rw [h2]
      have h4 := trim_len_le (l.take n)
      rw [List.length_take] at h4
      rw [List.take_take, Nat.min_eq_left (by omega)] at h3
      exact h3
    · have h2 : trimD l = l := by
        have := trim_snoc (l.take n) l[n] h
        rwa [← e] at this
      rw [h2, List.take_length]
theorem valD_len (l : List (BitVec 32)) (h : trimD l = l) (h0 : 0 < l.length) : pw (l.length - 1) ≤ valD l := by
  rcases Nat.lt_or_ge (valD l) (pw (l.length - 1)) with h1 | h1
  · have := (canon_len_le _ _).2 h1
    rw [canon_val, h] at this
    omega
  · exact h1
theorem valD_len_lt (l m : List (BitVec 32)) (hm : trimD m = m) (h : l.length < m.length) : valD l < valD m := by
  have h1 := valD_lt l
  have h2 := valD_len m hm (by omega)
  have h3 := pw_mono (show l.length ≤ m.length - 1 by omega)
  omega
end Go.Proofs.YtcofiekfhnfjpaaDoor

/- Rd -/
namespace Go.Proofs.YtcofiekfhnfjpaaDoor
open Go.RowKit
set_option linter.unusedVariables false
/-- A slice of bytes reads as a list (nil and empty let in). -/
def Rd (w : World) (a : Option Addr) (l : List (BitVec 8)) : Prop := ∀ k (h : k < l.length), ∃ ad, a = some ad ∧ w.cell? (ad.add k) = some (.int .u8 (l[k].toNat : Int))
theorem block_add (a : Addr) (n : Nat) : (a.add n).block = a.block := by unfold Addr.add; split <;> rfl
theorem add_addr (a : Addr) (i j : Nat) : (a.add i).add j = a.add (i + j) := by
  unfold Addr.add
  by_cases hi : i = 0 <;> by_cases hj : j = 0 <;> simp [hi, hj, Nat.add_assoc]
theorem Rd.nil (w : World) (a : Option Addr) : Rd w a [] := fun k h => absurd h (by simp)
theorem Rd.below {w w' : World} {a : Option Addr} {l : List (BitVec 8)} (h : Rd w a l) (hb : Below w.heap.size w w') : Rd w' a l := fun k hk => by
  obtain ⟨ad, e, hc⟩ := h k hk
  exact ⟨ad, e, (hb.cell (World.block_lt_of_cell? w _ hc)).trans hc⟩
theorem Rd.drewN {w : World} {a : Option Addr} {l : List (BitVec 8)} (h : Rd w a l) (n : Nat) : Rd (w.drewN n) a l := h
theorem Rd.grown {w w' : World} {a : Option Addr} {l : List (BitVec 8)} {row : Option Nat} (h : Rd w a l) (hg : w.grownBy w' row) (hne : ∀ ad, a = some ad → some ad.block ≠ row) : Rd w' a l := fun k hk => by
  obtain ⟨ad, e, hc⟩ := h k hk
  exact ⟨ad, e, hg.cell hc (by rw [block_add]; exact hne ad e)⟩
theorem Rd.take {w : World} {a : Option Addr} {l : List (BitVec 8)} (h : Rd w a l) (n : Nat) : Rd w a (l.take n) := fun k hk => by
  obtain ⟨ad, e, hc⟩ := h k (by simp at hk; omega)
  exact ⟨ad, e, by rw [hc, List.getElem_take]⟩
theorem Rd.drop {w : World} {a : Option Addr} {l : List (BitVec 8)} (h : Rd w a l) (n : Nat) : Rd w (a.map (·.add n)) (l.drop n) := fun k hk => by
  obtain ⟨ad, e, hc⟩ := h (n + k) (by simp at hk; omega)
  exact ⟨ad.add n, by rw [e]; rfl, by rw [add_addr, hc, List.getElem_drop]⟩
/-- The values of a list of bytes. -/
def bv8 (l : List (BitVec 8)) : List Value := l.map fun c => .int .u8 (c.toNat : Int)
theorem bv8_len (l : List (BitVec 8)) : (bv8 l).length = l.length := by simp [bv8]
theorem Rd.news {w : World} {ad : Addr} {l : List (BitVec 8)} (h : Rd w (some ad) l) : ∀ j u, (bv8 l)[j]? = some u → w.cell? (ad.add j) = some u := by
  intro j u hu
  simp only [bv8, List.getElem?_map, Option.map_eq_some_iff] at hu
  obtain ⟨c, hc, rfl⟩ := hu
  obtain ⟨hlt, rfl⟩ := List.getElem?_eq_some_iff.1 hc
  obtain ⟨ad', e, h'⟩ := h j hlt
  cases e
  exact h'
theorem Rd.of_own {w : World} {base : Nat} {e : TypeId} {a : Option Addr} {n c : Nat} {l : List (BitVec 8)} (h : w.ownsRow base e 1 (.slice a n c) n (bv8 l)) : Rd w a l := fun k hk => by
  have hl := h.1
  rw [bv8_len] at hl
  rcases h.2 with ⟨e1, e2⟩ | ⟨g, cap, cur, e1, _⟩
  · omega
  · injection e1 with e1 e2 e3
    subst e1
    exact ⟨_, rfl, h.cells (g := g) rfl k _ (by simp [bv8, hk])⟩
theorem Rd.of_cells {w : World} {b : Nat} {l : List (BitVec 8)} {cs : Array Value} {t : TypeId} {fr : Nat × Nat} (h : w.heap[b]? = some (.cells cs t fr)) (e : cs.toList = bv8 l) : Rd w (some ⟨b, 0, none⟩) l := fun k hk => by
  refine ⟨_, rfl, ?_⟩
  have := World.news_of_block h k (.int .u8 (l[k].toNat : Int)) (by rw [e]; simp [bv8, hk])
  exact this
end Go.Proofs.YtcofiekfhnfjpaaDoor

/- Opn -/
namespace Go.Proofs.YtcofiekfhnfjpaaDoor
open Go.RowKit
set_option linter.unusedVariables false
/-- A slice of integers, as an argument is opened. -/
def IsRow (k : IntKind) (w : World) (a : Option Addr) (l c : Nat) (z : List Int) : Prop :=
  (a = none ∧ l = 0 ∧ c = 0 ∧ z = []) ∨ ∃ ad, a = some ad ∧ l ≤ c ∧ c ≤ maxLen ∧ z.length = c ∧ (∀ i, i < z.length → w.cell? (ad.add i) = some (.int k (z.getD i 0))) ∧ ∀ n ∈ z, (Lit.int k n).wf = true
/-- A slice of slices of integers, as an argument is opened. -/
def IsRows (k : IntKind) (w : World) (a : Option Addr) (l c : Nat) (A : Nat → Option Addr) (L C : Nat → Nat) (Z : Nat → List Int) : Prop :=
  (a = none ∧ l = 0 ∧ c = 0) ∨ ∃ ad, a = some ad ∧ l ≤ c ∧ c ≤ maxLen ∧ ∀ r, r < c → w.cell? (ad.add r) = some (.slice (A r) (L r) (C r)) ∧ L r ≤ C r ∧ C r ≤ maxLen ∧ (Z r).length = C r ∧ (∀ n ∈ Z r, (Lit.int k n).wf = true) ∧ (A r = none → C r = 0) ∧ ∀ a', A r = some a' → ∀ i, i < C r → w.cell? (a'.add i) = some (.int k ((Z r).getD i 0))
theorem u8_of_wf {n : Int} (h : (Lit.int .u8 n).wf = true) : ∃ c : BitVec 8, n = (c.toNat : Int) := by
  simp [Lit.wf, IntKind.min, IntKind.max, IntKind.signed, IntKind.bits] at h
  exact ⟨BitVec.ofNat 8 n.toNat, by rw [BitVec.toNat_ofNat]; omega⟩
theorem u32_of_wf {n : Int} (h : (Lit.int .u32 n).wf = true) : ∃ c : BitVec 32, n = (c.toNat : Int) := by
  simp [Lit.wf, IntKind.min, IntKind.max, IntKind.signed, IntKind.bits] at h
  exact ⟨BitVec.ofNat 32 n.toNat, by rw [BitVec.toNat_ofNat]; omega⟩
def toB8 (z : List Int) : List (BitVec 8) := z.map fun n => BitVec.ofNat 8 n.toNat
theorem toB8_get {z : List Int} (h : ∀ n ∈ z, (Lit.int .u8 n).wf = true) (i : Nat) (hi : i < (toB8 z).length) : z.getD i 0 = (((toB8 z)[i]).toNat : Int) := by
  have hi' : i < z.length := by simpa [toB8] using hi
  obtain ⟨c, hc⟩ := u8_of_wf (h z[i] (List.getElem_mem hi'))
  have h1 : z.getD i 0 = z[i] := by simp [List.getD, hi']
  rw [h1]
  simp only [toB8, List.getElem_map, BitVec.toNat_ofNat]
  rw [hc]
  have := c.isLt
  omega
theorem IsRow.bytes {w : World} {a : Option Addr} {l c : Nat} {z : List Int} (h : IsRow .u8 w a l c z) : ∃ bs : List (BitVec 8), bs.length = l ∧ l ≤ c ∧ Rd w a bs ∧ (a = none → c = 0) := by
  rcases h with ⟨rfl, rfl, rfl, rfl⟩ | ⟨ad, rfl, hl, hm, hz, hc, hw⟩
  · exact ⟨[], rfl, Nat.le_refl _, Rd.nil _ _, fun _ => rfl⟩
  · refine ⟨(toB8 z).take l, by simp [toB8]; omega, hl, Rd.take ?_ l, fun h => by cases h⟩
    intro k hk
    exact ⟨ad, rfl, by rw [hc k (by simpa [toB8] using hk), toB8_get hw k hk]⟩
theorem IsRows.bytes {w : World} {a : Option Addr} {l c : Nat} {A : Nat → Option Addr} {L C : Nat → Nat} {Z : Nat → List Int} (h : IsRows .u8 w a l c A L C Z) :
    ∃ ls : List (List (BitVec 8)), ls.length = l ∧ l ≤ c ∧ ∀ k (h : k < ls.length), ∃ ad ak ck, a = some ad ∧ w.cell? (ad.add k) = some (.slice ak ls[k].length ck) ∧ Rd w ak ls[k] := by
  rcases h with ⟨rfl, rfl, rfl⟩ | ⟨ad, rfl, hl, hm, hc⟩
  · exact ⟨[], rfl, Nat.le_refl _, fun k h => absurd h (by simp)⟩
  · refine ⟨(List.range l).map fun r => (toB8 (Z r)).take (L r), by simp, hl, fun k hk => ?_⟩
    have hk' : k < l := by simpa using hk
    obtain ⟨h1, h2, h3, h4, h5, h6, h7⟩ := hc k (by omega)
    have hlen : (((List.range l).map fun r => (toB8 (Z r)).take (L r))[k]) = (toB8 (Z k)).take (L k) := by simp
    rw [hlen]
    have h8 : ((toB8 (Z k)).take (L k)).length = L k := by simp [toB8]; omega
    refine ⟨ad, A k, C k, rfl, by rw [h1, h8], Rd.take ?_ _⟩
    intro j hj
    have hj' : j < (Z k).length := by simpa [toB8] using hj
    cases hA : A k with
    | none => have := h6 hA; omega
    | some a' => exact ⟨a', rfl, by rw [h7 a' hA j (by omega), toB8_get h5 j hj]⟩
end Go.Proofs.YtcofiekfhnfjpaaDoor

/- Rw -/
namespace Go.Proofs.YtcofiekfhnfjpaaDoor
open Go.RowKit
set_option linter.unusedVariables false
/-- A slice of bytes reads as a list (nil and empty let in). -/
def Rw (w : World) (a : Option Addr) (l : List (BitVec 32)) : Prop := ∀ k (h : k < l.length), ∃ ad, a = some ad ∧ w.cell? (ad.add k) = some (.int .u32 (l[k].toNat : Int))
theorem Rw.nil (w : World) (a : Option Addr) : Rw w a [] := fun k h => absurd h (by simp)
theorem Rw.below {w w' : World} {a : Option Addr} {l : List (BitVec 32)} (h : Rw w a l) (hb : Below w.heap.size w w') : Rw w' a l := fun k hk => by
  obtain ⟨ad, e, hc⟩ := h k hk
  exact ⟨ad, e, (hb.cell (World.block_lt_of_cell? w _ hc)).trans hc⟩
theorem Rw.drewN {w : World} {a : Option Addr} {l : List (BitVec 32)} (h : Rw w a l) (n : Nat) : Rw (w.drewN n) a l := h
theorem Rw.grown {w w' : World} {a : Option Addr} {l : List (BitVec 32)} {row : Option Nat} (h : Rw w a l) (hg : w.grownBy w' row) (hne : ∀ ad, a = some ad → some ad.block ≠ row) : Rw w' a l := fun k hk => by
  obtain ⟨ad, e, hc⟩ := h k hk
  exact ⟨ad, e, hg.cell hc (by rw [block_add]; exact hne ad e)⟩
theorem Rw.take {w : World} {a : Option Addr} {l : List (BitVec 32)} (h : Rw w a l) (n : Nat) : Rw w a (l.take n) := fun k hk => by
  obtain ⟨ad, e, hc⟩ := h k (by simp at hk; omega)
  exact ⟨ad, e, by rw [hc, List.getElem_take]⟩
theorem Rw.drop {w : World} {a : Option Addr} {l : List (BitVec 32)} (h : Rw w a l) (n : Nat) : Rw w (a.map (·.add n)) (l.drop n) := fun k hk => by
  obtain ⟨ad, e, hc⟩ := h (n + k) (by simp at hk; omega)
  exact ⟨ad.add n, by rw [e]; rfl, by rw [add_addr, hc, List.getElem_drop]⟩
/-- The values of a list of bytes. -/
def bv32 (l : List (BitVec 32)) : List Value := l.map fun c => .int .u32 (c.toNat : Int)
theorem bv32_len (l : List (BitVec 32)) : (bv32 l).length = l.length := by simp [bv32]
theorem bv32_append (l m : List (BitVec 32)) : bv32 (l ++ m) = bv32 l ++ bv32 m := by simp [bv32]
theorem bv32_one (l : List (BitVec 32)) : ∀ u ∈ bv32 l, u.oneCell' = true := by
  intro u hu
  simp only [bv32, List.mem_map] at hu
  obtain ⟨c, _, rfl⟩ := hu
  rfl
theorem Rw.news {w : World} {ad : Addr} {l : List (BitVec 32)} (h : Rw w (some ad) l) : ∀ j u, (bv32 l)[j]? = some u → w.cell? (ad.add j) = some u := by
  intro j u hu
  simp only [bv32, List.getElem?_map, Option.map_eq_some_iff] at hu
  obtain ⟨c, hc, rfl⟩ := hu
  obtain ⟨hlt, rfl⟩ := List.getElem?_eq_some_iff.1 hc
  obtain ⟨ad', e, h'⟩ := h j hlt
  cases e
  exact h'
theorem Rw.of_own {w : World} {base : Nat} {e : TypeId} {a : Option Addr} {n c : Nat} {l : List (BitVec 32)} (h : w.ownsRow base e 1 (.slice a n c) n (bv32 l)) : Rw w a l := fun k hk => by
  have hl := h.1
  rw [bv32_len] at hl
  rcases h.2 with ⟨e1, e2⟩ | ⟨g, cap, cur, e1, _⟩
  · omega
  · injection e1 with e1 e2 e3
    subst e1
    exact ⟨_, rfl, h.cells (g := g) rfl k _ (by simp [bv32, hk])⟩
theorem Rw.of_cells {w : World} {b : Nat} {l : List (BitVec 32)} {cs : Array Value} {t : TypeId} {fr : Nat × Nat} (h : w.heap[b]? = some (.cells cs t fr)) (e : cs.toList = bv32 l) : Rw w (some ⟨b, 0, none⟩) l := fun k hk => by
  refine ⟨_, rfl, ?_⟩
  have := World.news_of_block h k (.int .u32 (l[k].toNat : Int)) (by rw [e]; simp [bv32, hk])
  exact this
end Go.Proofs.YtcofiekfhnfjpaaDoor

/- App -/
namespace Go.Proofs.YtcofiekfhnfjpaaDoor
open Go.RowKit
set_option linter.unusedVariables false
/-- A slice reads as a list of values, one cell each (nil and empty let in). -/
def RdV (w : World) (a : Option Addr) (vs : List Value) : Prop := ∀ j u, vs[j]? = some u → ∃ ad, a = some ad ∧ w.cell? (ad.add j) = some u
theorem Rd.vals {w : World} {a : Option Addr} {l : List (BitVec 8)} (h : Rd w a l) : RdV w a (bv8 l) := by
  intro j u hu
  simp only [bv8, List.getElem?_map, Option.map_eq_some_iff] at hu
  obtain ⟨c, hc, rfl⟩ := hu
  obtain ⟨hlt, rfl⟩ := List.getElem?_eq_some_iff.1 hc
  exact h j hlt
section
variable {P : Program} (w : World)
theorem run_append_rd (base : Nat) (t ty e : TypeId) (i : TypeInfo) (z : Value) (bytes : Nat) (ht : P.underlying t = some (.slice e)) (hi : P.info? e = some i) (hz : i.zero = some z)
    (hsize : i.size = 1) (hby : i.bytes = bytes) (hzs : z.cells.size = 1)
    (v : Value) (n : Nat) (xs : List Value) (hown : w.ownsRow base e 1 v n xs)
    (A : Option Addr) (m c : Nat) (news : List Value) (hl : news.length = m) (hr : RdV w A news) (h1 : ∀ u ∈ news, u.oneCell' = true)
    (h63 : n + m ≤ maxLen) (hbytes : (n + m) * bytes ≤ 140737488355328) (hbase : base ≤ w.heap.size) :
    ∃ v' w', (Builtin.append_ #[t, t] ty #[v, .slice A m c]).run P w = .ok v' w' ∧ w'.ownsRow base e 1 v' (n + m) (xs ++ news) ∧ w.grownBy w' v.ownBlock ∧
      (v'.ownBlock = v.ownBlock ∨ v'.ownBlock = some w.heap.size) := by
  rcases A with _ | ad
  · have hn : news = [] := by
      rcases news with _ | ⟨x, news⟩
      · rfl
      · obtain ⟨_, e, _⟩ := hr 0 x rfl
        cases e
    subst hn
    obtain rfl : m = 0 := by simpa using hl.symm
    refine ⟨v, w, ?_, by simpa using hown, ⟨rfl, rfl, rfl, Nat.le_refl _, fun _ _ _ => rfl⟩, .inl rfl⟩
    rcases hown.2 with ⟨rfl, rfl⟩ | ⟨g, cap, cur, rfl, _, _, hnc, _⟩
    · simp [Builtin.append_, run_underlying ht, sizeOf, typeInfo, hi, Builtin.lenOf, Builtin.firstCells]
    · simp [Builtin.append_, run_underlying ht, sizeOf, typeInfo, hi, Builtin.lenOf, Builtin.firstCells, hnc, storeCells]
  · obtain ⟨v', w', hrun, h2, h3, _, h5⟩ := run_append_own_at (P := P) w base t ty e i z 1 bytes ht hi hz hsize hby hzs (by omega) v n xs hown ad m c news (by omega) (fun j u hu => by
      obtain ⟨ad', e, hc⟩ := hr j u hu
      cases e
      exact hc) h1 h63 hbytes hbase
    exact ⟨v', w', hrun, h2, h3, h5⟩
theorem wp_append_rd {o : Oper} {a : Act} {K : Act → World → Prop} {Q : Exit → Act → World → Prop} (s x : Operand) (t : TypeId)
    (ho : o.op = .call { callee := .builtin .append, args := #[s, x], argTypes := #[t, t] })
    (base : Nat) (e : TypeId) (i : TypeInfo) (z : Value) (bytes : Nat) (ht : P.underlying t = some (.slice e)) (hi : P.info? e = some i) (hz : i.zero = some z)
    (hsize : i.size = 1) (hby : i.bytes = bytes) (hzs : z.cells.size = 1)
    (v : Value) (n : Nat) (xs : List Value) (hs : a.eval s = v) (hown : w.ownsRow base e 1 v n xs)
    (A : Option Addr) (m c : Nat) (news : List Value) (hx : a.eval x = .slice A m c) (hl : news.length = m) (hr : RdV w A news) (h1 : ∀ u ∈ news, u.oneCell' = true)
    (h63 : n + m ≤ maxLen) (hbytes : (n + m) * bytes ≤ 140737488355328) (hbase : base ≤ w.heap.size)
    (h : ∀ v' w', w'.ownsRow base e 1 v' (n + m) (xs ++ news) → w.grownBy w' v.ownBlock → (v'.ownBlock = v.ownBlock ∨ v'.ownBlock = some w.heap.size) → K (a.put o.dst v') w') : o.wp P a w K Q := by
  obtain ⟨v', w', hrun, h2, h3, h4⟩ := run_append_rd (P := P) w base t o.type e i z bytes ht hi hz hsize hby hzs v n xs hown A m c news hl hr h1 h63 hbytes hbase
  unfold Oper.wp execOp
  simp only [ho, resolve, invoke, builtin, Sem.run_bind, Sem.run_pure, Result.andThen_ok, List.map_toArray, List.map_cons, List.map_nil, hs, hx, hrun]
  exact h v' w' h2 h3 h4
theorem wpList_append_rd {ops : Array Oper} {rest : List Oper} {o : Oper} {a : Act} {Q : Exit → Act → World → Prop} (hgd : o.guard = none) (s x : Operand) (t : TypeId)
    (ho : o.op = .call { callee := .builtin .append, args := #[s, x], argTypes := #[t, t] })
    (base : Nat) (e : TypeId) (i : TypeInfo) (z : Value) (bytes : Nat) (ht : P.underlying t = some (.slice e)) (hi : P.info? e = some i) (hz : i.zero = some z)
    (hsize : i.size = 1) (hby : i.bytes = bytes) (hzs : z.cells.size = 1)
    (v : Value) (n : Nat) (xs : List Value) (hs : a.eval s = v) (hown : w.ownsRow base e 1 v n xs)
    (A : Option Addr) (m c : Nat) (news : List Value) (hx : a.eval x = .slice A m c) (hl : news.length = m) (hr : RdV w A news) (h1 : ∀ u ∈ news, u.oneCell' = true)
    (h63 : n + m ≤ maxLen) (hbytes : (n + m) * bytes ≤ 140737488355328) (hbase : base ≤ w.heap.size)
    (h : ∀ v' w', w'.ownsRow base e 1 v' (n + m) (xs ++ news) → w.grownBy w' v.ownBlock → (v'.ownBlock = v.ownBlock ∨ v'.ownBlock = some w.heap.size) → wpList P ops Q rest (a.put o.dst v') w') : wpList P ops Q (o :: rest) a w :=
  wpList_plain hgd fun _ hK => wp_append_rd w s x t ho base e i z bytes ht hi hz hsize hby hzs v n xs hs hown A m c news hx hl hr h1 h63 hbytes hbase fun v' w' h2 h3 h4 => hK _ _ (h v' w' h2 h3 h4)
end
end Go.Proofs.YtcofiekfhnfjpaaDoor

/- Own -/
namespace Go.Proofs.YtcofiekfhnfjpaaDoor
open Go.RowKit
set_option linter.unusedVariables false
theorem below_drewN {B : Nat} {a w : World} (h : Below B a w) (n : Nat) : Below B a (w.drewN n) := ⟨h.os, h.tape, h.output, h.size, h.block⟩
section
variable {w : World} {base base' : Nat} {e : TypeId} {size : Nat} {v : Value} {a : Option Addr} {g n c : Nat} {xs : List Value}
theorem own_slice (h : w.ownsRow base e size v n xs) : ∃ a c, v = .slice a n c := by
  rcases h.2 with ⟨rfl, rfl⟩ | ⟨g, cap, cur, rfl, _⟩
  · exact ⟨_, _, rfl⟩
  · exact ⟨_, _, rfl⟩
theorem own_mono (h : w.ownsRow base e size v n xs) (hb : base' ≤ base) : w.ownsRow base' e size v n xs := by
  refine ⟨h.1, ?_⟩
  rcases h.2 with h' | ⟨g, cap, cur, h1, h2, h3⟩
  · exact .inl h'
  · exact .inr ⟨g, cap, cur, h1, Nat.le_trans hb h2, h3⟩
theorem own_cap (h : w.ownsRow base e size (.slice a n c) n xs) : n ≤ c := by
  rcases h.2 with ⟨h1, h2⟩ | ⟨g, cap, cur, h1, _, _, h2, _⟩
  · injection h1; omega
  · injection h1; omega
theorem own_set (h : w.ownsRow base e 1 (.slice (some ⟨g, 0, none⟩) n c) n xs) (j : Nat) (u : Value) :
    (w.setCell ⟨g, j, none⟩ u).ownsRow base e 1 (.slice (some ⟨g, 0, none⟩) n c) n (xs.set j u) := by
  refine ⟨by rw [List.length_set]; exact h.1, .inr ?_⟩
  rcases h.2 with ⟨h1, _⟩ | ⟨g', cap, cur, h1, h2, h3, h4, h5, h6, h7⟩
  · injection h1 with h1; cases h1
  · injection h1 with e1 e2 e3
    injection e1 with e1
    injection e1 with e1
    subst e1
    refine ⟨g, cap, cur.setIfInBounds j u, by rw [e3], h2, ?_, h4, h5, by simpa using h6, ?_⟩
    · simp [World.setCell, Array.getElem?_modify, h3]
    · rw [Array.toList_setIfInBounds, ← h7, List.take_set]
theorem own_form (h : w.ownsRow base e 1 (.slice a n c) n xs) (hn : 0 < n) : ∃ g, a = some ⟨g, 0, none⟩ ∧ base ≤ g := by
  rcases h.2 with ⟨_, h1⟩ | ⟨g', cap, cur, h1, h2, _⟩
  · omega
  · injection h1 with e1 _ _
    exact ⟨g', e1, h2⟩
theorem own_cell (h : w.ownsRow base e 1 (.slice (some ⟨g, 0, none⟩) n c) n xs) (j : Nat) (u : Value) (hj : xs[j]? = some u) : w.cell? ⟨g, j, none⟩ = some u := by
  have := h.cells (g := g) rfl j u hj
  rwa [show ((⟨g, 0, none⟩ : Addr).add j) = ⟨g, j, none⟩ by unfold Addr.add; split <;> simp_all] at this
/-- A row just made holds its cells. -/
theorem own_made (w : World) (cs : Array Value) (e : TypeId) (n : Nat) (hn : cs.size = n) (hm : n ≤ maxLen) : (w.alloc (.cells cs e)).ownsRow w.heap.size e 1 (.slice (some ⟨w.heap.size, 0, none⟩) n n) n cs.toList := by
  subst hn
  exact ⟨by simp, .inr ⟨w.heap.size, cs.size, cs, rfl, Nat.le_refl _, heap_alloc_new w _, Nat.le_refl _, hm, by simp, by rw [Nat.mul_one]; exact List.take_of_length_le (by simp)⟩⟩
end
end Go.Proofs.YtcofiekfhnfjpaaDoor

/- Wrd -/
namespace Go.Proofs.YtcofiekfhnfjpaaDoor
open Go.RowKit
set_option linter.unusedVariables false
def toB32 (z : List Int) : List (BitVec 32) := z.map fun n => BitVec.ofNat 32 n.toNat
theorem toB32_get {z : List Int} (h : ∀ n ∈ z, (Lit.int .u32 n).wf = true) (i : Nat) (hi : i < (toB32 z).length) : z.getD i 0 = (((toB32 z)[i]).toNat : Int) := by
  have hi' : i < z.length := by simpa [toB32] using hi
  obtain ⟨c, hc⟩ := u32_of_wf (h z[i] (List.getElem_mem hi'))
  have h1 : z.getD i 0 = z[i] := by simp [List.getD, hi']
  rw [h1]
  simp only [toB32, List.getElem_map, BitVec.toNat_ofNat]
  rw [hc]
  have := c.isLt
  omega
theorem IsRow.words {w : World} {a : Option Addr} {l c : Nat} {z : List Int} (h : IsRow .u32 w a l c z) : ∃ bs : List (BitVec 32), bs.length = l ∧ l ≤ c ∧ Rw w a bs ∧ (a = none → c = 0) := by
  rcases h with ⟨rfl, rfl, rfl, rfl⟩ | ⟨ad, rfl, hl, hm, hz, hc, hw⟩
  · exact ⟨[], rfl, Nat.le_refl _, Rw.nil _ _, fun _ => rfl⟩
  · refine ⟨(toB32 z).take l, by simp [toB32]; omega, hl, Rw.take ?_ l, fun h => by cases h⟩
    intro k hk
    exact ⟨ad, rfl, by rw [hc k (by simpa [toB32] using hk), toB32_get hw k hk]⟩
theorem Rw.vals {w : World} {a : Option Addr} {l : List (BitVec 32)} (h : Rw w a l) : RdV w a (bv32 l) := by
  intro j u hu
  simp only [bv32, List.getElem?_map, Option.map_eq_some_iff] at hu
  obtain ⟨c, hc, rfl⟩ := hu
  obtain ⟨hlt, rfl⟩ := List.getElem?_eq_some_iff.1 hc
  exact h j hlt
theorem fresh_row32 (W : World) : (W.alloc (.cells #[] 32)).ownsRow W.heap.size 32 1 (.slice (some ⟨W.heap.size, 0, none⟩) 0 0) 0 [] := World.ownsRow_made W #[] 0 (Nat.le_refl _) (by unfold maxLen; omega) (by simp)
theorem info32 : (Tryd.prog.info? 32).map (fun i => (i.zero, i.size, i.bytes)) = some (some (.int .u32 0), 1, 4) := by kernel_rfl
theorem bv32_snoc (l : List (BitVec 32)) (d : BitVec 32) : bv32 (l ++ [d]) = bv32 l ++ [.int .u32 (d.toNat : Int)] := by simp [bv32]
/-- One more digit behind a row of the call's own. -/
theorem wpList_snoc32 {w wr : World} {ops : Array Oper} {rest : List Oper} {o : Oper} {a : Act} {Q : Exit → Act → World → Prop} (hgd : o.guard = none) (s x : Operand)
    (ho : o.op = .call { callee := .builtin .append, args := #[s, x], argTypes := #[22, 22] })
    {v : Value} {n : Nat} {l : List (BitVec 32)} (hown : wr.ownsRow w.heap.size 32 1 v n (bv32 l)) (hb : Below w.heap.size w wr) (hn : n + 1 ≤ 20000000)
    {y : Int} (d : BitVec 32) (hy : y = (d.toNat : Int)) (hs : a.eval s = v) (hx : a.eval x = .slice (some ⟨wr.heap.size, 0, none⟩) 1 1)
    (h : ∀ v' w', w'.ownsRow w.heap.size 32 1 v' (n + 1) (bv32 (l ++ [d])) → Below w.heap.size w w' → wpList Tryd.prog ops Q rest (a.put o.dst v') w') :
    wpList Tryd.prog ops Q (o :: rest) a (wr.alloc (.cells #[.int .u32 y] 32)) := by
  subst hy
  obtain ⟨i0, hi, hz0, hz1, hz2⟩ := info_parts info32
  have hb1 := Below.alloc hb hb.size (.cells #[.int .u32 (d.toNat : Int)] 32)
  refine wpList_append_rd _ hgd s x _ ho w.heap.size 32 i0 (.int .u32 0) 4 Tryd.underlying22 hi hz0 hz1 hz2 rfl v n (bv32 l) hs (hown.alloc _) (some ⟨wr.heap.size, 0, none⟩) 1 1 [.int .u32 (d.toNat : Int)] hx rfl (fun j u hu => ⟨_, rfl, cell_one_new _ _ _ j u hu⟩) ?_ (by unfold maxLen; omega) (by omega) hb1.size ?_
  · intro u hu
    simp at hu
    subst hu
    rfl
  · intro v' w' hown2 hg _
    exact h v' w' (by rw [bv32_snoc]; exact hown2) (hb1.grown hg hb1.size (fun q hq => (hown.lt q hq).1))
/-- A new row of digits is returned. -/
def FrW (w : World) (l : List (BitVec 32)) (e : Ending) (w' : World) : Prop := ∃ a c, e = .returned (.slice a l.length c) ∧ w'.ownsRow w.heap.size 32 1 (.slice a l.length c) l.length (bv32 l) ∧ Below w.heap.size w w'
theorem FrW.up {w w1 w' : World} {l : List (BitVec 32)} {e : Ending} (h : FrW w1 l e w') (hb : Below w.heap.size w w1) : FrW w l e w' := by
  obtain ⟨a, c, h1, h2, h3⟩ := h
  exact ⟨a, c, h1, own_mono h2 hb.size, hb.trans (h3.mono hb.size)⟩
theorem FrW.eq {w w' : World} {l m : List (BitVec 32)} {e : Ending} (h : FrW w l e w') (hm : l = m) : FrW w m e w' := hm ▸ h
theorem Rw.of_alloc {W : World} {b : Nat} {cs : Array Value} {t : TypeId} {fr : Nat × Nat} {l : List (BitVec 32)} (hb : W.heap.size = b) (e : cs.toList = bv32 l) : Rw (W.alloc (.cells cs t fr)) (some ⟨b, 0, none⟩) l := by
  subst hb
  exact Rw.of_cells (heap_alloc_new W _) e
end Go.Proofs.YtcofiekfhnfjpaaDoor

/- Bv -/
namespace Go.Proofs.YtcofiekfhnfjpaaDoor
end Go.Proofs.YtcofiekfhnfjpaaDoor

