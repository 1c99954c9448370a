namespace Go.Proofs.Ytdbocghkhcihjaa
/-- One bit of the register. -/
def stepB (r : BitVec 32) : BitVec 32 := (r >>> 1) ^^^ (0xedb88320#32 &&& -(r &&& 1#32))
def itB : Nat → BitVec 32 → BitVec 32
  | 0, r => r
  | n + 1, r => itB n (stepB r)
def byteB (r : BitVec 32) (c : BitVec 8) : BitVec 32 := itB 8 (r ^^^ c.setWidth 32)
def regB (r : BitVec 32) (l : List (BitVec 8)) : BitVec 32 := l.foldl byteB r
def updB (s : BitVec 32) (l : List (BitVec 8)) : BitVec 32 := ~~~ regB (~~~ s) l
def fnvB (h : BitVec 64) (l : List (BitVec 8)) : BitVec 64 := l.foldl (fun h c => (h ^^^ c.setWidth 64) * 1099511628211#64) h
def tailB (s : BitVec 32) : List (BitVec 8) := [s.setWidth 8, (s >>> 8).setWidth 8, (s >>> 16).setWidth 8, (s >>> 24).setWidth 8]
theorem and1 (x : BitVec 32) : x &&& 1#32 = if x.toNat % 2 = 1 then 1#32 else 0#32 := by
  apply BitVec.eq_of_toNat_eq
  rw [BitVec.toNat_and, show (1#32).toNat = 1 from rfl, Nat.and_one_is_mod]
  split <;> simp <;> omega
theorem stepB_odd (q : BitVec 32) (h : q.toNat % 2 = 1) : stepB q = (q >>> 1) ^^^ 0xedb88320#32 := by
  unfold stepB; rw [and1, if_pos h]; congr 1
theorem stepB_even (q : BitVec 32) (h : ¬ q.toNat % 2 = 1) : stepB q = q >>> 1 := by
  unfold stepB; rw [and1, if_neg h]; simp
theorem itB_succ (n : Nat) (r : BitVec 32) : itB (n + 1) r = stepB (itB n r) := by
  induction n generalizing r with
  | zero => rfl
  | succ n ih => rw [show itB (n + 1 + 1) r = itB (n + 1) (stepB r) from rfl, ih]; rfl
theorem stepB_lin (a b : BitVec 32) : stepB (a ^^^ b) = stepB a ^^^ stepB b := by
  have h : ∀ x : BitVec 32, (-(x &&& 1#32)) = if x.getLsbD 0 then BitVec.allOnes 32 else 0#32 := by
    intro x
    have h1 : x &&& 1#32 = if x.getLsbD 0 then 1#32 else 0#32 := by
      apply BitVec.eq_of_getLsbD_eq
      intro i hi
      rcases i with _ | i
      · cases hx : x.getLsbD 0 <;> (have hy : x[0] = _ := hx; simp [hy])
      · cases hx : x.getLsbD 0 <;> simp
    rw [h1]; cases x.getLsbD 0 <;> decide
  unfold stepB
  rw [h, h, h, BitVec.getLsbD_xor, BitVec.ushiftRight_xor_distrib]
  generalize a >>> 1 = p
  generalize b >>> 1 = q
  cases a.getLsbD 0 <;> cases b.getLsbD 0 <;> simp
  · ac_rfl
  · ac_rfl
  · rw [show p ^^^ 3988292384#32 ^^^ (q ^^^ 3988292384#32) = p ^^^ q ^^^ (3988292384#32 ^^^ 3988292384#32) by ac_rfl]; simp
theorem itB_lin (n : Nat) (a b : BitVec 32) : itB n (a ^^^ b) = itB n a ^^^ itB n b := by
  induction n generalizing a b with
  | zero => rfl
  | succ n ih => show itB n (stepB (a ^^^ b)) = _; rw [stepB_lin, ih]; rfl
theorem regB_append (r : BitVec 32) (l m : List (BitVec 8)) : regB r (l ++ m) = regB (regB r l) m := by simp [regB]
theorem updB_append (s : BitVec 32) (l m : List (BitVec 8)) : updB s (l ++ m) = updB (updB s l) m := by simp [updB, regB_append]
theorem updB_nil (s : BitVec 32) : updB s [] = s := by simp [updB, regB]
theorem fnvB_append (h : BitVec 64) (l m : List (BitVec 8)) : fnvB h (l ++ m) = fnvB (fnvB h l) m := by simp [fnvB]
/-- A byte alone in the register, the rest shifted: the reference's way. -/
theorem byteB_ref (r : BitVec 32) (c : BitVec 8) : byteB r c = itB 8 ((r &&& 0xff#32) ^^^ c.setWidth 32) ^^^ (r >>> 8) := by
  have hz : ∀ n x : BitVec 32, True := fun _ _ => trivial
  have sh : ∀ (n : Nat) (x : BitVec 32), (∀ i, i < n → x.getLsbD i = false) → itB n x = x >>> n := by
    intro n
    induction n with
    | zero => intro x _; simp [itB]
    | succ n ih =>
      intro x hx
      have h0 := hx 0 (by omega)
      have h1 : x &&& 1#32 = 0#32 := by
        apply BitVec.eq_of_getLsbD_eq
        intro i hi
        rcases i with _ | i
        · have hy : x[0] = false := h0
          simp [hy]
        · simp
      have h2 : stepB x = x >>> 1 := by unfold stepB; rw [h1]; simp
      show itB n (stepB x) = _
      rw [h2, ih _ (by intro i hi; rw [BitVec.getLsbD_ushiftRight]; exact hx _ (by omega)), ← BitVec.shiftRight_add]
      congr 1; omega
  have hr : r = (r &&& 0xff#32) ^^^ ((r >>> 8) <<< 8) := by
    apply BitVec.eq_of_getLsbD_eq
    intro i hi
    simp only [BitVec.getLsbD_xor, BitVec.getLsbD_and, BitVec.getLsbD_shiftLeft, BitVec.getLsbD_ushiftRight]
    by_cases h8 : i < 8
    · have : (0xff#32).getLsbD i = true := by
        have : i = 0 ∨ i = 1 ∨ i = 2 ∨ i = 3 ∨ i = 4 ∨ i = 5 ∨ i = 6 ∨ i = 7 := by omega
        rcases this with rfl | rfl | rfl | rfl | rfl | rfl | rfl | rfl <;> decide
      simp [h8, this]
    · have : (0xff#32).getLsbD i = false := by
        rw [show (0xff#32) = (0xff#8).setWidth 32 by decide, BitVec.getLsbD_setWidth]
        simp [BitVec.getLsbD_of_ge _ i (by omega : 8 ≤ i)]
      have ht : (255#32)[i] = false := this
      simp [h8, ht, hi, show 8 + (i - 8) = i by omega]
  unfold byteB
  conv => lhs; rw [hr]
  rw [show (r &&& 0xff#32) ^^^ ((r >>> 8) <<< 8) ^^^ c.setWidth 32 = ((r &&& 0xff#32) ^^^ c.setWidth 32) ^^^ ((r >>> 8) <<< 8) by ac_rfl, itB_lin]
  congr 1
  rw [sh 8 _ (by intro i hi; simp [hi])]
  apply BitVec.eq_of_getLsbD_eq
  intro i hi
  simp only [BitVec.getLsbD_ushiftRight, BitVec.getLsbD_shiftLeft]
  by_cases h : 8 + i < 32
  · simp [h]
  · simp [h, BitVec.getLsbD_of_ge r (8 + i) (by omega)]
example : updB 0 [49#8, 50#8, 51#8, 52#8, 53#8, 54#8, 55#8, 56#8, 57#8] = 0xcbf43926#32 := by decide +kernel
end Go.Proofs.Ytdbocghkhcihjaa
