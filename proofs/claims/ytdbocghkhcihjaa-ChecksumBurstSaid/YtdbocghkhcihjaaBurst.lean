import Derived.Test.YtdbocghkhcihjaaCrcNum
namespace Go.Proofs.Ytdbocghkhcihjaa
theorem itB_add (m n : Nat) (r : BitVec 32) : itB (m + n) r = itB n (itB m r) := by
  induction m generalizing r with
  | zero => rw [Nat.zero_add]; rfl
  | succ m ih => rw [show m + 1 + n = (m + n) + 1 by omega]; exact ih (stepB r)
theorem stepB_zero : stepB 0#32 = 0#32 := by decide
theorem itB_zero (n : Nat) : itB n 0#32 = 0#32 := by
  induction n with
  | zero => rfl
  | succ n ih => rw [itB_succ, ih, stepB_zero]
theorem itB_shift (n : Nat) (x : BitVec 32) (hx : ∀ i, i < n → x.getLsbD i = false) : itB n x = x >>> n := by
  induction n generalizing x with
  | zero => simp [itB]
  | succ n ih =>
    have h0 := hx 0 (by omega)
    have h1 : ¬ x.toNat % 2 = 1 := by
      have : x.getLsbD 0 = x.toNat.testBit 0 := rfl
      rw [this, Nat.testBit_zero] at h0
      simpa using h0
    show itB n (stepB x) = _
    rw [stepB_even _ h1, ih _ (by intro i hi; rw [BitVec.getLsbD_ushiftRight]; exact hx _ (by omega)), ← BitVec.shiftRight_add]
    congr 1; omega
theorem stepB_ker (x : BitVec 32) (h : stepB x = 0#32) : x = 0#32 := by
  by_cases h1 : x.toNat % 2 = 1
  · rw [stepB_odd _ h1] at h
    exfalso
    have h2 := congrArg (fun v : BitVec 32 => v.getLsbD 31) h
    simp at h2
  · rw [stepB_even _ h1] at h
    have h2 := congrArg BitVec.toNat h
    rw [BitVec.toNat_ushiftRight, Nat.shiftRight_eq_div_pow] at h2
    apply BitVec.eq_of_toNat_eq
    simp at h2 ⊢
    omega
theorem itB_ker (n : Nat) (x : BitVec 32) (h : itB n x = 0#32) : x = 0#32 := by
  induction n generalizing x with
  | zero => exact h
  | succ n ih => exact stepB_ker x (ih _ h)
theorem low_high (s : BitVec 32) (n : Nat) (hn : n ≤ 32) : s = ((s <<< (32 - n)) >>> (32 - n)) ^^^ ((s >>> n) <<< n) := by
  apply BitVec.eq_of_getLsbD_eq
  intro i hi
  simp only [BitVec.getLsbD_xor, BitVec.getLsbD_shiftLeft, BitVec.getLsbD_ushiftRight]
  by_cases h : i < n
  · simp [h, show 32 - n + i < 32 by omega, show ¬ (32 - n + i < 32 - n) by omega, show 32 - n + i - (32 - n) = i by omega]
  · simp [h, hi, show ¬ (32 - n + i < 32) by omega, show n + (i - n) = i by omega]
theorem itB_high (y : BitVec 32) (n : Nat) : itB n (y <<< n) = (y <<< n) >>> n := itB_shift n _ fun i hi => by
  rw [BitVec.getLsbD_shiftLeft]; simp [hi]
theorem itB_split (s : BitVec 32) (n : Nat) (hn : n ≤ 32) : itB n s = itB n ((s <<< (32 - n)) >>> (32 - n)) ^^^ (s >>> n) := by
  conv => lhs; rw [low_high s n hn]
  rw [itB_lin, itB_high]
  congr 1
  apply BitVec.eq_of_getLsbD_eq
  intro i hi
  simp only [BitVec.getLsbD_shiftLeft, BitVec.getLsbD_ushiftRight]
  by_cases h : n + i < 32
  · simp [h]
  · simp [h, BitVec.getLsbD_of_ge s (n + i) (by omega)]
theorem low8 (s : BitVec 32) : ((s <<< 24) >>> 24) = (s.setWidth 8).setWidth 32 := by
  apply BitVec.eq_of_getLsbD_eq
  intro i hi
  simp only [BitVec.getLsbD_shiftLeft, BitVec.getLsbD_ushiftRight, BitVec.getLsbD_setWidth]
  by_cases h : i < 8
  · simp [h, hi, show 24 + i < 32 by omega]
  · simp [h, show ¬ 24 + i < 32 by omega]
theorem one_byte (r s : BitVec 32) : itB 8 (r ^^^ s) = byteB r (s.setWidth 8) ^^^ (s >>> 8) := by
  rw [itB_lin, itB_split s 8 (by omega), ← BitVec.xor_assoc, ← itB_lin]
  unfold byteB
  rw [low8]
theorem word4 (r s : BitVec 32) : regB r (tailB s) = itB 32 (r ^^^ s) := by
  rw [show itB 32 (r ^^^ s) = itB 8 (itB 8 (itB 8 (itB 8 (r ^^^ s)))) from rfl, one_byte, one_byte, one_byte, one_byte]
  have h : ∀ a b : Nat, s >>> a >>> b = s >>> (a + b) := fun a b => (BitVec.shiftRight_add s a b).symm
  simp only [h]
  rw [show s >>> (8 + 8 + 8 + 8) = 0#32 by apply BitVec.eq_of_toNat_eq; rw [BitVec.toNat_ushiftRight, Nat.shiftRight_eq_div_pow]; have := s.isLt; simp; omega, BitVec.xor_zero]
  rfl
theorem regB_valid (l : List (BitVec 8)) : regB (BitVec.allOnes 32) (l ++ tailB (updB 0#32 l)) = itB 32 (BitVec.allOnes 32) := by
  rw [regB_append, word4]
  unfold updB
  rw [show (~~~ (0#32 : BitVec 32)) = BitVec.allOnes 32 by decide]
  generalize regB (BitVec.allOnes 32) l = r
  congr 1
  rw [← BitVec.xor_allOnes (x := r), ← BitVec.xor_assoc, BitVec.xor_self, BitVec.zero_xor]
theorem regB_lin (r d : BitVec 32) (l e : List (BitVec 8)) (h : l.length = e.length) : regB (r ^^^ d) (List.zipWith (· ^^^ ·) l e) = regB r l ^^^ regB d e := by
  induction l generalizing r d e with
  | nil =>
    rcases e with _ | ⟨y, e⟩
    · rfl
    · simp at h
  | cons x l ih =>
    rcases e with _ | ⟨y, e⟩
    · simp at h
    · show regB (byteB (r ^^^ d) (x ^^^ y)) (List.zipWith (· ^^^ ·) l e) = regB (byteB r x) l ^^^ regB (byteB d y) e
      rw [← ih _ _ _ (by simpa using h)]
      congr 1
      unfold byteB
      rw [← itB_lin]
      congr 1
      rw [BitVec.setWidth_xor]
      ac_rfl
theorem regB_zeros (l : List (BitVec 8)) (r : BitVec 32) (h : ∀ x ∈ l, x = 0#8) : regB r l = itB (8 * l.length) r := by
  induction l generalizing r with
  | nil => rfl
  | cons x l ih =>
    rw [h x (by simp)]
    show regB (byteB r 0#8) l = _
    rw [ih _ (fun y hy => h y (by simp [hy])), show 8 * (0#8 :: l).length = 8 + 8 * l.length by simp; omega, itB_add]
    congr 1
    unfold byteB
    simp
/-- The burst T, from bit 8 q + t on, as bytes. -/
def patB (q t : Nat) (T : BitVec 32) (j : Nat) : BitVec 8 := if j < q then 0#8 else ((T.setWidth 64 <<< t) >>> (8 * (j - q))).setWidth 8
def patL (q t : Nat) (T : BitVec 32) (n : Nat) : List (BitVec 8) := (List.range n).map (patB q t T)
theorem patL_add (q t : Nat) (T : BitVec 32) (m n : Nat) : patL q t T (m + n) = patL q t T m ++ (List.range n).map (fun j => patB q t T (m + j)) := by
  unfold patL
  rw [List.range_add, List.map_append, List.map_map]
  rfl
theorem five (t : Nat) (ht : t < 8) (T : BitVec 32) : regB 0#32 ((List.range 5).map (fun j => ((T.setWidth 64 <<< t) >>> (8 * j)).setWidth 8)) = itB 8 (itB (32 - t) T) := by
  have h5 : (List.range 5).map (fun j => ((T.setWidth 64 <<< t) >>> (8 * j)).setWidth 8) = tailB (T <<< t) ++ [(T >>> (32 - t)).setWidth 8] := by
    have hb : ∀ i, i < 5 → ∀ m, m < 8 → (((T.setWidth 64 <<< t) >>> (8 * i)).setWidth 8).getLsbD m = (decide (t ≤ 8 * i + m) && T.getLsbD (8 * i + m - t)) := by
      intro i hi m hm
      simp only [BitVec.getLsbD_setWidth, BitVec.getLsbD_ushiftRight, BitVec.getLsbD_shiftLeft]
      by_cases h1 : 8 * i + m < t
      · simp [h1, hm, show ¬ t ≤ 8 * i + m by omega]
      · simp [h1, hm, show 8 * i + m < 64 by omega, show t ≤ 8 * i + m by omega]
        intro; omega
    have ha : ∀ i, i < 4 → ∀ m, m < 8 → (((T <<< t) >>> (8 * i)).setWidth 8).getLsbD m = (decide (t ≤ 8 * i + m) && T.getLsbD (8 * i + m - t)) := by
      intro i hi m hm
      simp only [BitVec.getLsbD_setWidth, BitVec.getLsbD_ushiftRight, BitVec.getLsbD_shiftLeft]
      by_cases h1 : 8 * i + m < t
      · simp [h1, hm, show ¬ t ≤ 8 * i + m by omega]
      · simp [h1, hm, show 8 * i + m < 32 by omega, show t ≤ 8 * i + m by omega]
    have e : ∀ i, i < 4 → ((T.setWidth 64 <<< t) >>> (8 * i)).setWidth 8 = ((T <<< t) >>> (8 * i)).setWidth 8 := fun i hi => BitVec.eq_of_getLsbD_eq fun m hm => by rw [hb i (by omega) m hm, ha i hi m hm]
    have e0 := e 0 (by omega)
    have e1 := e 1 (by omega)
    have e2 := e 2 (by omega)
    have e3 := e 3 (by omega)
    have e4 : ((T.setWidth 64 <<< t) >>> (8 * 4)).setWidth 8 = (T >>> (32 - t)).setWidth 8 := BitVec.eq_of_getLsbD_eq fun m hm => by
      rw [hb 4 (by omega) m hm]
      simp only [BitVec.getLsbD_setWidth, BitVec.getLsbD_ushiftRight]
      simp [hm, show t ≤ 8 * 4 + m by omega, show 8 * 4 + m - t = 32 - t + m by omega]
    simp only [show List.range 5 = [0, 1, 2, 3, 4] from rfl, List.map_cons, List.map_nil, e0, e1, e2, e3, e4]
    simp [tailB]
  rw [h5, regB_append, word4, BitVec.zero_xor]
  show itB 8 (itB 32 (T <<< t) ^^^ ((T >>> (32 - t)).setWidth 8).setWidth 32) = _
  congr 1
  have e1 : itB 32 (T <<< t) = itB (32 - t) ((T <<< t) >>> t) := by
    have := itB_add t (32 - t) (T <<< t)
    rw [show t + (32 - t) = 32 by omega, itB_high] at this
    exact this
  rw [e1, itB_split T (32 - t) (by omega), show 32 - (32 - t) = t by omega]
  congr 1
  apply BitVec.eq_of_getLsbD_eq
  intro i hi
  simp only [BitVec.getLsbD_setWidth, BitVec.getLsbD_ushiftRight]
  by_cases h : i < 8
  · simp [h, hi]
  · simp [h, BitVec.getLsbD_of_ge T (32 - t + i) (by omega)]
theorem patL_nz (q t n : Nat) (ht : t < 8) (T : BitVec 32) (hT : T ≠ 0#32) (hm : ∀ b, b < 32 → T.getLsbD b = true → 8 * q + t + b < 8 * n) : regB 0#32 (patL q t T n) ≠ 0#32 := by
  have big : ∀ z, regB 0#32 (patL q t T (q + 5 + z)) ≠ 0#32 := by
    intro z h
    rw [patL_add, patL_add, regB_append, regB_append] at h
    rw [regB_zeros (patL q t T q) _ (by
      intro x hx
      simp only [patL, List.mem_map, List.mem_range] at hx
      obtain ⟨j, hj, rfl⟩ := hx
      simp [patB, hj]), itB_zero] at h
    rw [show (fun j => patB q t T (q + j)) = (fun j => ((T.setWidth 64 <<< t) >>> (8 * j)).setWidth 8) from by
      funext j
      unfold patB
      rw [if_neg (by omega), show q + j - q = j by omega], five t ht T] at h
    rw [regB_zeros _ _ (by
      intro x hx
      simp only [List.mem_map, List.mem_range] at hx
      obtain ⟨j, hj, rfl⟩ := hx
      unfold patB
      rw [if_neg (by omega)]
      apply BitVec.eq_of_getLsbD_eq
      intro i hi
      simp only [BitVec.getLsbD_setWidth, BitVec.getLsbD_ushiftRight, BitVec.getLsbD_shiftLeft]
      rw [BitVec.getLsbD_of_ge T _ (by omega)]
      simp)] at h
    exact hT (itB_ker _ _ (itB_ker _ _ (itB_ker _ _ h)))
  rcases Nat.lt_or_ge n (q + 5) with hn | hn
  · intro h
    refine big 0 ?_
    rw [show q + 5 + 0 = n + (q + 5 - n) by omega, patL_add, regB_append, h]
    rw [regB_zeros _ _ (by
      intro x hx
      simp only [List.mem_map, List.mem_range] at hx
      obtain ⟨j, hj, rfl⟩ := hx
      unfold patB
      by_cases hq : n + j < q
      · rw [if_pos hq]
      · rw [if_neg hq]
        apply BitVec.eq_of_getLsbD_eq
        intro i hi
        simp only [BitVec.getLsbD_setWidth, BitVec.getLsbD_ushiftRight, BitVec.getLsbD_shiftLeft]
        by_cases hc : T.getLsbD (8 * (n + j - q) + i - t) = true
        · have hb : 8 * (n + j - q) + i - t < 32 := by
            rcases Nat.lt_or_ge (8 * (n + j - q) + i - t) 32 with h | h
            · exact h
            · rw [BitVec.getLsbD_of_ge T _ h] at hc; cases hc
          have := hm _ hb hc
          simp [show 8 * (n + j - q) + i < t by omega]
        · simp [hc]), itB_zero]
  · have := big (n - (q + 5))
    rwa [show q + 5 + (n - (q + 5)) = n by omega] at this
theorem burst (l : List (BitVec 8)) (q t : Nat) (ht : t < 8) (T : BitVec 32) (hT : T ≠ 0#32) (hm : ∀ b, b < 32 → T.getLsbD b = true → 8 * q + t + b < 8 * (l.length + 4)) (c : List (BitVec 8))
    (hc : c = List.zipWith (· ^^^ ·) (l ++ tailB (updB 0#32 l)) (patL q t T (l.length + 4))) : ¬ c.drop (l.length + 4 - 4) = tailB (updB 0#32 (c.take (l.length + 4 - 4))) := by
  intro h
  have hv : regB (BitVec.allOnes 32) c = itB 32 (BitVec.allOnes 32) := by
    rw [← List.take_append_drop (l.length + 4 - 4) c, h, regB_valid]
  have hl : (l ++ tailB (updB 0#32 l)).length = (patL q t T (l.length + 4)).length := by simp [tailB, patL]
  have h2 := regB_lin (BitVec.allOnes 32) 0#32 _ _ hl
  rw [← hc, BitVec.xor_zero, hv, regB_valid] at h2
  have h3 : regB 0#32 (patL q t T (l.length + 4)) = 0#32 := by
    have := congrArg (itB 32 (BitVec.allOnes 32) ^^^ ·) h2
    simp only [← BitVec.xor_assoc, BitVec.xor_self, BitVec.zero_xor] at this
    exact this.symm
  exact patL_nz q t _ ht T hT hm h3
end Go.Proofs.Ytdbocghkhcihjaa
