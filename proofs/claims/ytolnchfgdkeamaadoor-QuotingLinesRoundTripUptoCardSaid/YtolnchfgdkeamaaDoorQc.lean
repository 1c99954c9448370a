import Derived.Lib.SplitLaws
import Derived.Lib.IndexBytes
import Derived.Test.YtolnchfgdkeamaaDoorQs
namespace Go.Proofs.YtolnchfgdkeamaaDoor
/-- A text, cut at every byte c. -/
def cutL (c : UInt8) : List UInt8 → List (List UInt8)
  | [] => [[]]
  | b :: t => if b = c then [] :: cutL c t else match cutL c t with
    | p :: ps => (b :: p) :: ps
    | [] => [[b]]
theorem cutL_ne (c : UInt8) (s : List UInt8) : cutL c s ≠ [] := by
  cases s with
  | nil => simp [cutL]
  | cons b t =>
    unfold cutL
    split
    · simp
    · split <;> simp
theorem cutL_at (c : UInt8) (s : List UInt8) : (Lib.indexByte s c = -1 ∧ cutL c s = [s]) ∨ (∃ i : Nat, Lib.indexByte s c = i ∧ i < s.length ∧ cutL c s = s.take i :: cutL c (s.drop (i + 1))) := by
  induction s with
  | nil => exact .inl ⟨rfl, rfl⟩
  | cons b t ih =>
    by_cases h : b = c
    · subst h
      refine .inr ⟨0, by simp [Lib.indexByte], by simp, ?_⟩
      rw [cutL, if_pos rfl]
      rfl
    · rcases ih with ⟨h1, h2⟩ | ⟨i, h1, h2, h3⟩
      · refine .inl ⟨by simp [Lib.indexByte, h, h1], ?_⟩
        rw [cutL, if_neg h, h2]
      · refine .inr ⟨i + 1, ?_, by simp; omega, ?_⟩
        · have : ¬ ((i : Int) = -1) := by omega
          simp [Lib.indexByte, h, h1, this]
        · rw [cutL, if_neg h, h3]
          rfl
theorem cutL_split (c : UInt8) : ∀ (n : Nat) (s : List UInt8), s.length ≤ n → Lib.splitK [c] 0 (Lib.count s [c]) s = cutL c s := by
  intro n
  induction n with
  | zero =>
    intro s hs
    rw [List.length_eq_zero_iff.1 (Nat.le_zero.1 hs)]
    rfl
  | succ n ih =>
    intro s hs
    rcases cutL_at c s with ⟨h1, h2⟩ | ⟨i, h1, h2, h3⟩
    · rw [← Lib.index_one] at h1
      rw [Lib.count_miss h1, h2]
      rfl
    · rw [← Lib.index_one] at h1
      rw [Lib.count_hit (by simp) h1, h3, Nat.add_comm, Lib.splitK]
      have hm : ¬ ((i : Int) == -1) = true := fun e => by have := beq_iff_eq.1 e; omega
      rw [h1, if_neg hm]
      show List.take (i + 0) s :: Lib.splitK [c] 0 (Lib.count (s.drop (i + 1)) [c]) (s.drop (i + 1)) = _
      rw [ih _ (by rw [List.length_drop]; omega), Nat.add_zero]
theorem cutB (S : ByteArray) (c : UInt8) : (Lib.splitB ⟨#[c]⟩ 0 (Lib.countB S ⟨#[c]⟩) S).map (·.data.toList) = cutL c S.data.toList := by
  rw [Lib.splitB_data]
  exact cutL_split c _ _ (Nat.le_refl _)
theorem cutL_len (c : UInt8) (s : List UInt8) : ∀ p ∈ cutL c s, p.length ≤ s.length := by
  induction s with
  | nil => intro p hp; simp [cutL] at hp; simp [hp]
  | cons b t ih =>
    intro p hp
    rw [cutL] at hp
    split at hp
    · rcases List.mem_cons.1 hp with rfl | hp
      · simp
      · have := ih p hp
        simp
        omega
    · split at hp
      · rename_i q qs he
        rw [he] at ih
        rcases List.mem_cons.1 hp with rfl | hp
        · have := ih q (by simp)
          simp
          exact this
        · have := ih p (List.mem_cons_of_mem _ hp)
          simp
          omega
      · simp at hp
        subst hp
        simp
theorem cutL_count (c : UInt8) (s : List UInt8) : (cutL c s).length ≤ s.length + 1 := by
  induction s with
  | nil => simp [cutL]
  | cons b t ih =>
    rw [cutL]
    split
    · simp
      omega
    · split
      · rename_i q qs he
        rw [he] at ih
        simp at ih ⊢
        omega
      · simp
end Go.Proofs.YtolnchfgdkeamaaDoor
