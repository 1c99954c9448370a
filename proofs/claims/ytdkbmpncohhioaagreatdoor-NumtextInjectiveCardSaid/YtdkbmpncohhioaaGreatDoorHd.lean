
import Derived.Test.YtdkbmpncohhioaaGreatDoorHe
import Derived.WalkKit
import Derived.WalkSpells
import Derived.WalkLawsBesides
import Derived.Lib.Hide
import Derived.Below
import Derived.Deep.QuietTactic
import Derived.BigQuiet
import Derived.IntWalk
import Derived.Laws.BitsAllLaws
namespace Go.Proofs.YtdkbmpncohhioaaGreatDoor
open Go.RowKit
set_option linter.unusedVariables false
set_option linter.unusedSimpArgs false
def hvN (c : UInt8) : Nat := (hexv c).getD 0
theorem hvN_some {c : UInt8} {a : Nat} (h : hexv c = some a) : hvN c = a := by unfold hvN; rw [h]; rfl
theorem hvN_lt (c : UInt8) : hvN c < 16 := by
  unfold hvN
  cases h : hexv c with
  | none => simp
  | some a => exact hexv_lt c a h
def hvA (l : List UInt8) (k : Nat) : Nat := match l[k]? with | some c => hvN c | none => 0
theorem hvA_at {l : List UInt8} {k : Nat} {c : UInt8} (h : l[k]? = some c) : hvA l k = hvN c := by unfold hvA; rw [h]
def pcN (l : List UInt8) (i j : Nat) : Nat := if 2 * j + 1 < i then 16 * hvA l (2 * j) + hvA l (2 * j + 1) else if 2 * j < i then hvA l (2 * j) else 0
def pcL (l : List UInt8) (m i : Nat) : List Value := (List.range m).map fun j => .int .u8 (pcN l i j : Nat)
theorem pcL_len (l : List UInt8) (m i : Nat) : (pcL l m i).length = m := by simp [pcL]
theorem pcL_get (l : List UInt8) (m i j : Nat) (h : j < m) : (pcL l m i)[j]? = some (.int .u8 (pcN l i j : Nat)) := by
  unfold pcL
  rw [List.getElem?_map, List.getElem?_range h]
  rfl
theorem pcL_zero (l : List UInt8) (m : Nat) : pcL l m 0 = List.replicate m (.int .u8 0) := by
  apply List.ext_getElem?
  intro j
  by_cases h : j < m
  · rw [pcL_get _ _ _ _ h, List.getElem?_replicate, if_pos h]
    simp [pcN]
  · rw [List.getElem?_eq_none (by rw [pcL_len]; omega), List.getElem?_replicate, if_neg h]
theorem pcL_step (l : List UInt8) (m i : Nat) (h : i / 2 < m) : (pcL l m i).set (i / 2) (.int .u8 (pcN l (i + 1) (i / 2) : Nat)) = pcL l m (i + 1) := by
  apply List.ext_getElem?
  intro j
  by_cases hj : j < m
  · rw [pcL_get _ _ _ _ hj]
    by_cases e : i / 2 = j
    · subst e
      rw [List.getElem?_set_self (by rw [pcL_len]; exact h)]
    · rw [List.getElem?_set_ne e, pcL_get _ _ _ _ hj]
      have : pcN l i j = pcN l (i + 1) j := by
        unfold pcN
        have h1 : (2 * j + 1 < i) = (2 * j + 1 < i + 1) := propext ⟨fun _ => by omega, fun _ => by omega⟩
        have h2 : (2 * j < i) = (2 * j < i + 1) := propext ⟨fun _ => by omega, fun _ => by omega⟩
        simp only [h1, h2]
      rw [this]
  · rw [List.getElem?_eq_none (by rw [List.length_set, pcL_len]; omega), List.getElem?_eq_none (by rw [pcL_len]; omega)]
theorem pcN_even (l : List UInt8) (j : Nat) : pcN l (2 * j) j = 0 ∧ pcN l (2 * j + 1) j = hvA l (2 * j) := by
  unfold pcN
  constructor
  · rw [if_neg (by omega), if_neg (by omega)]
  · rw [if_neg (by omega), if_pos (by omega)]
theorem pcN_odd (l : List UInt8) (j : Nat) : pcN l (2 * j + 1) j = hvA l (2 * j) ∧ pcN l (2 * j + 1 + 1) j = 16 * hvA l (2 * j) + hvA l (2 * j + 1) := by
  unfold pcN
  constructor
  · rw [if_neg (by omega), if_pos (by omega)]
  · rw [if_pos (by omega)]
theorem hvA_lt (l : List UInt8) (k : Nat) : hvA l k < 16 := by
  unfold hvA
  split
  · exact hvN_lt _
  · omega
theorem dec_digits : ∀ (n : Nat) (s l : List UInt8), s.length ≤ n → decL s = some l → ∀ c ∈ s, hexv c ≠ none := by
  intro n
  induction n with
  | zero =>
    intro s l hn h c hc
    rw [List.length_eq_zero_iff.1 (Nat.le_zero.1 hn)] at hc
    cases hc
  | succ n ih =>
    intro s l hn h c hc
    rcases s with _ | ⟨x, _ | ⟨y, r⟩⟩
    · cases hc
    · rw [dec_one] at h; cases h
    · rw [dec_two] at h
      cases h1 : hexv x with
      | none => rw [h1] at h; cases h
      | some a =>
        cases h2 : hexv y with
        | none => rw [h1, h2] at h; cases h
        | some b =>
          rw [h1, h2] at h
          simp only at h
          cases h3 : decL r with
          | none => rw [h3] at h; cases h
          | some q =>
            rw [List.length_cons, List.length_cons] at hn
            rcases List.mem_cons.1 hc with rfl | hc
            · rw [h1]; simp
            · rcases List.mem_cons.1 hc with rfl | hc
              · rw [h2]; simp
              · exact ih r q (by omega) h3 c hc
theorem dec_bad {s : List UInt8} {i : Nat} {c : UInt8} (h : s[i]? = some c) (hc : hexv c = none) : decL s = none := by
  cases hd : decL s with
  | none => rfl
  | some l => exact absurd hc (dec_digits _ s l (Nat.le_refl _) hd c (List.mem_of_getElem? h))
theorem dec_odd {s : List UInt8} (h : s.length % 2 ≠ 0) : decL s = none := by
  cases hd : decL s with
  | none => rfl
  | some l =>
    have := dec_len _ s l (Nat.le_refl _) hd
    omega
theorem dec_all : ∀ (m : Nat) (s : List UInt8), s.length = 2 * m → (∀ c ∈ s, hexv c ≠ none) → decL s = some ((List.range m).map fun j => UInt8.ofNat (16 * hvA s (2 * j) + hvA s (2 * j + 1))) := by
  intro m
  induction m with
  | zero =>
    intro s h _
    rw [List.length_eq_zero_iff.1 h]
    rfl
  | succ m ih =>
    intro s h hd
    rcases s with _ | ⟨x, _ | ⟨y, r⟩⟩
    · simp at h
    · simp at h; omega
    · rw [dec_two]
      rw [List.length_cons, List.length_cons] at h
      cases h1 : hexv x with
      | none => exact absurd h1 (hd x (by simp))
      | some a =>
        cases h2 : hexv y with
        | none => exact absurd h2 (hd y (by simp))
        | some b =>
          simp only
          rw [ih r (by omega) fun c hc => hd c (List.mem_cons_of_mem _ (List.mem_cons_of_mem _ hc)), List.range_succ_eq_map]
          simp only [Option.map_some, List.map_cons, List.map_map, Option.some.injEq, List.cons.injEq]
          refine ⟨?_, ?_⟩
          · rw [show hvA (x :: y :: r) (2 * 0) = a from hvN_some h1, show hvA (x :: y :: r) (2 * 0 + 1) = b from hvN_some h2]
          · apply List.map_congr_left
            intro j _
            rfl
theorem pc_end (l : List UInt8) (m : Nat) : pcL l m (2 * m) = Lib.byteCells ((List.range m).map fun j => UInt8.ofNat (16 * hvA l (2 * j) + hvA l (2 * j + 1))) := by
  apply List.ext_getElem?
  intro j
  by_cases hj : j < m
  · rw [pcL_get _ _ _ _ hj]
    have h1 := hvA_lt l (2 * j)
    have h2 := hvA_lt l (2 * j + 1)
    have e : (UInt8.ofNat (16 * hvA l (2 * j) + hvA l (2 * j + 1))).toNat = 16 * hvA l (2 * j) + hvA l (2 * j + 1) := by
      show (BitVec.ofNat 8 _).toNat = _
      rw [BitVec.toNat_ofNat]
      omega
    have e2 : pcN l (2 * m) j = 16 * hvA l (2 * j) + hvA l (2 * j + 1) := by
      unfold pcN
      rw [if_pos (by omega)]
    rw [bc_get (c := UInt8.ofNat (16 * hvA l (2 * j) + hvA l (2 * j + 1))) (by rw [List.getElem?_map, List.getElem?_range hj]; rfl), e, e2]
  · rw [List.getElem?_eq_none (by rw [pcL_len]; omega), List.getElem?_eq_none (by simp [Lib.byteCells]; omega)]
/-- What DecodeHex answers. -/
def HdE (B : Nat) (l : List UInt8) (e : Ending) (w' : World) : Prop :=
  (decL l = none ∧ e = .returned (.tuple #[.slice none 0 0, .int .i64 3])) ∨
  (∃ (xs : List UInt8) (a : Option Addr) (c : Nat), decL l = some xs ∧ e = .returned (.tuple #[.slice a xs.length c, .int .i64 0]) ∧ w'.ownsRow B 5 1 (.slice a xs.length c) xs.length (Lib.byteCells xs))
theorem shl_or (a b : Nat) (ha : a < 16) (hb : b < 16) : bits .or .u8 ((a : Int) * 16) (b : Int) = ((16 * a + b : Nat) : Int) := by
  have key : ∀ x y : Fin 16, bits .or .u8 ((x.val : Int) * 16) (y.val : Int) = ((16 * x.val + y.val : Nat) : Int) := by decide +kernel
  exact key ⟨a, ha⟩ ⟨b, hb⟩
def HdR (w : World) (l : List UInt8) (n m : Nat) (k : Value) (wr : World) : Prop := ∃ i : Nat, i ≤ n ∧ k = .int .i64 i ∧ Hid (∀ c ∈ l.take i, hexv c ≠ none) ∧ wr.ownsRow w.heap.size 5 1 (.slice (some ⟨w.heap.size, 0, none⟩) m m) m (pcL l m i) ∧ Below w.heap.size w wr
end Go.Proofs.YtdkbmpncohhioaaGreatDoor
