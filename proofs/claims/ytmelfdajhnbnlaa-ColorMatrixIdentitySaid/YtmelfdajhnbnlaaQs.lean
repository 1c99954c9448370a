
import Derived.Lib.Bytealg
namespace Go.Proofs.Ytmelfdajhnbnlaa
/-- The bytes that stand for themselves, but for letters and digits. -/
def litS : List UInt8 := [46, 95, 58, 47, 43, 45, 44, 61, 35]
/-- Literal bytes. -/
def lit (c : UInt8) : Bool := (decide (97 ≤ c.toNat) && decide (c.toNat ≤ 122)) || (decide (65 ≤ c.toNat) && decide (c.toNat ≤ 90)) || (decide (48 ≤ c.toNat) && decide (c.toNat ≤ 57)) || litS.contains c
/-- The hexadecimal digit of a number below 16. -/
def hexd (n : Nat) : UInt8 := if n < 10 then UInt8.ofNat (48 + n) else UInt8.ofNat (87 + n)
/-- The value of a hexadecimal digit. -/
def hexv (c : UInt8) : Option Nat := if 48 ≤ c.toNat ∧ c.toNat ≤ 57 then some (c.toNat - 48) else if 97 ≤ c.toNat ∧ c.toNat ≤ 102 then some (c.toNat - 87) else none
def esc (c : UInt8) : List UInt8 := if lit c then [c] else [42, hexd (c.toNat / 16), hexd (c.toNat % 16)]
/-- The word of a text. -/
def quoteL (s : List UInt8) : List UInt8 := if s = [] then [42] else s.flatMap esc
/-- The byte with two given digits, if it needs them. -/
def es2 (h l : UInt8) : Option UInt8 := match hexv h, hexv l with
  | some a, some b => if lit (UInt8.ofNat (16 * a + b)) then none else some (UInt8.ofNat (16 * a + b))
  | _, _ => none
def uqL : List UInt8 → Option (List UInt8)
  | [] => some []
  | c :: t => if lit c then (uqL t).map (c :: ·) else if c = 42 then match t with
    | h :: l :: r => match es2 h l with
      | some x => (uqL r).map (x :: ·)
      | none => none
    | _ => none
    else none
/-- The text of a word. -/
def unqL (w : List UInt8) : Option (List UInt8) := if w = [42] then some [] else if w = [] then none else uqL w
theorem uq_lit {c : UInt8} {t : List UInt8} (h : lit c = true) : uqL (c :: t) = (uqL t).map (c :: ·) := by
  rw [uqL.eq_def]
  simp only [h, if_true]
theorem uq_bad {c : UInt8} {t : List UInt8} (h : lit c = false) (hc : c ≠ 42) : uqL (c :: t) = none := by
  rw [uqL.eq_def]
  simp only [h, Bool.false_eq_true, if_false, hc]
theorem uq_esc {x y : UInt8} {r : List UInt8} : uqL (42 :: x :: y :: r) = match es2 x y with
      | some z => (uqL r).map (z :: ·)
      | none => none := by
  rw [uqL.eq_def]
  rfl
theorem uq_short1 : uqL [42] = none := by rw [uqL.eq_def]; rfl
theorem uq_short2 (x : UInt8) : uqL [42, x] = none := by rw [uqL.eq_def]; rfl
theorem lit_star : lit 42 = false := by decide
theorem all256 {p : UInt8 → Prop} (h : ∀ n : Fin 256, p (UInt8.ofNat n.val)) (c : UInt8) : p c := by
  have := h ⟨c.toNat, c.toNat_lt⟩
  rwa [UInt8.ofNat_toNat] at this
theorem es2_esc (c : UInt8) (h : lit c = false) : es2 (hexd (c.toNat / 16)) (hexd (c.toNat % 16)) = some c := by
  revert h
  revert c
  exact all256 (by decide +kernel)
theorem hexd_hexv (h : UInt8) (a : Nat) (e : hexv h = some a) : a < 16 ∧ hexd a = h := by
  revert e
  revert h
  intro h
  have key : ∀ h : UInt8, ∀ a : Fin 16, hexv h = some a.val → hexd a.val = h := all256 (by decide +kernel)
  have key2 : ∀ h : UInt8, (hexv h).all (fun a => decide (a < 16)) = true := all256 (by decide +kernel)
  intro e
  have h2 := key2 h
  rw [e] at h2
  have h3 : a < 16 := by simpa using h2
  exact ⟨h3, key h ⟨a, h3⟩ e⟩
theorem es2_back {h l x : UInt8} (e : es2 h l = some x) : lit x = false ∧ hexd (x.toNat / 16) = h ∧ hexd (x.toNat % 16) = l := by
  unfold es2 at e
  cases h1 : hexv h with
  | none => rw [h1] at e; cases e
  | some a =>
    cases h2 : hexv l with
    | none => rw [h1, h2] at e; cases e
    | some b =>
      rw [h1, h2] at e
      obtain ⟨a1, a2⟩ := hexd_hexv h a h1
      obtain ⟨b1, b2⟩ := hexd_hexv l b h2
      simp only at e
      cases hl : lit (UInt8.ofNat (16 * a + b)) with
      | true => rw [hl] at e; cases e
      | false =>
        rw [hl] at e
        simp only [Bool.false_eq_true, if_false, Option.some.injEq] at e
        subst e
        have e3 : (UInt8.ofNat (16 * a + b)).toNat = 16 * a + b := by
          show (BitVec.ofNat 8 (16 * a + b)).toNat = _
          rw [BitVec.toNat_ofNat]
          omega
        rw [e3, show (16 * a + b) / 16 = a by omega, show (16 * a + b) % 16 = b by omega]
        exact ⟨hl, a2, b2⟩
theorem uqL_esc (c : UInt8) (r : List UInt8) : uqL (esc c ++ r) = (uqL r).map (c :: ·) := by
  unfold esc
  cases h : lit c with
  | true => rw [if_pos rfl, List.singleton_append, uq_lit h]
  | false =>
    rw [if_neg (by decide)]
    show uqL (42 :: hexd (c.toNat / 16) :: hexd (c.toNat % 16) :: r) = _
    rw [uq_esc, es2_esc c h]
theorem uqL_flat (s : List UInt8) : uqL (s.flatMap esc) = some s := by
  induction s with
  | nil => rfl
  | cons c s ih => rw [List.flatMap_cons, uqL_esc, ih]; rfl
theorem flat_uqL : ∀ (n : Nat) (w s : List UInt8), w.length ≤ n → uqL w = some s → s.flatMap esc = w := by
  intro n
  induction n with
  | zero =>
    intro w s hn h
    rw [List.length_eq_zero_iff.1 (Nat.le_zero.1 hn)] at h ⊢
    cases h
    rfl
  | succ n ih =>
    intro w s hn h
    rcases w with _ | ⟨c, t⟩
    · cases h; rfl
    · rw [List.length_cons] at hn
      cases hl : lit c with
      | true =>
        rw [uq_lit hl] at h
        cases h2 : uqL t with
        | none => rw [h2] at h; cases h
        | some r =>
          rw [h2] at h
          cases h
          rw [List.flatMap_cons, ih t r (by omega) h2]
          unfold esc
          rw [hl]
          rfl
      | false =>
        by_cases hc : c = 42
        · subst hc
          rcases t with _ | ⟨x, _ | ⟨y, r⟩⟩
          · rw [uq_short1] at h; cases h
          · rw [uq_short2] at h; cases h
          · rw [uq_esc] at h
            cases h3 : es2 x y with
            | none => rw [h3] at h; cases h
            | some z =>
              rw [h3] at h
              simp only at h
              cases h2 : uqL r with
              | none => rw [h2] at h; cases h
              | some q =>
                rw [h2] at h
                cases h
                obtain ⟨k1, k2, k3⟩ := es2_back h3
                rw [List.length_cons, List.length_cons] at hn
                rw [List.flatMap_cons, ih r q (by omega) h2]
                unfold esc
                rw [k1, if_neg (by decide), k2, k3]
                rfl
        · rw [uq_bad hl hc] at h
          cases h
theorem esc_pos (c : UInt8) : 0 < (esc c).length := by
  unfold esc
  split <;> simp
theorem flat_ne {s : List UInt8} (h : s ≠ []) : s.flatMap esc ≠ [] ∧ s.flatMap esc ≠ [42] := by
  cases s with
  | nil => exact absurd rfl h
  | cons c s =>
    rw [List.flatMap_cons]
    unfold esc
    split
    · rename_i hl
      refine ⟨by simp, ?_⟩
      intro e
      simp at e
      rw [e.1] at hl
      exact absurd hl (by decide)
    · exact ⟨by simp, by simp⟩
theorem unq_quote (s : List UInt8) : unqL (quoteL s) = some s := by
  unfold unqL quoteL
  by_cases h : s = []
  · subst h; rfl
  · obtain ⟨h1, h2⟩ := flat_ne h
    rw [if_neg h, if_neg h2, if_neg h1, uqL_flat]
theorem quote_unq {w s : List UInt8} (h : unqL w = some s) : quoteL s = w := by
  unfold unqL at h
  unfold quoteL
  by_cases h1 : w = [42]
  · rw [if_pos h1] at h; cases h; rw [if_pos rfl, h1]
  · rw [if_neg h1] at h
    by_cases h2 : w = []
    · rw [if_pos h2] at h; cases h
    · rw [if_neg h2] at h
      have h3 := flat_uqL _ w s (Nat.le_refl _) h
      by_cases h4 : s = []
      · subst h4; exact absurd h3.symm h2
      · rw [if_neg h4, h3]
end Go.Proofs.Ytmelfdajhnbnlaa
