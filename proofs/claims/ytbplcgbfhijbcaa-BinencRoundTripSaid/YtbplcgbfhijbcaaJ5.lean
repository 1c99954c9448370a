import Derived.Test.YtbplcgbfhijbcaaJ4
import Derived.Test.YtbplcgbfhijbcaaU1
namespace Go.Proofs.Ytbplcgbfhijbcaa
open Go.RowKit
set_option linter.unusedVariables false
set_option linter.unusedSimpArgs false
/-- The value of digits in base 256. -/
def val8 : List (BitVec 8) → Nat
  | [] => 0
  | c :: t => c.toNat + 256 * val8 t
def d8 (n : Nat) : List (BitVec 8) := if h : n = 0 then [] else BitVec.ofNat 8 n :: d8 (n / 256)
termination_by n
theorem d8_zero : d8 0 = [] := by rw [d8, dif_pos rfl]
theorem d8_pos {n : Nat} (h : n ≠ 0) : d8 n = BitVec.ofNat 8 n :: d8 (n / 256) := by rw [d8, dif_neg h]
theorem val8_append (l m : List (BitVec 8)) : val8 (l ++ m) = val8 l + 256 ^ l.length * val8 m := by
  induction l with
  | nil => simp [val8]
  | cons c t ih =>
    simp only [List.cons_append, val8, List.length_cons, Nat.pow_succ, ih]
    grind
theorem val8_take (l : List (BitVec 8)) (k : Nat) (h : k < l.length) : val8 (l.take (k + 1)) = val8 (l.take k) + 256 ^ k * l[k].toNat := by
  rw [List.take_succ_eq_append_getElem h, val8_append, List.length_take, Nat.min_eq_left (by omega)]
  simp [val8]
theorem d8_val (k : Nat) : ∀ l : List (BitVec 8), l.length = k → (k = 0 ∨ ∃ h : k - 1 < l.length, l[k - 1].toNat ≠ 0) → d8 (val8 l) = l := by
  induction k with
  | zero => intro l h _; obtain rfl : l = [] := List.length_eq_zero_iff.1 h; exact d8_zero
  | succ k ih =>
    intro l h h2
    rcases l with _ | ⟨c, t⟩
    · simp at h
    · have hc := c.isLt
      have ht : t.length = k := by simpa using h
      obtain ⟨h3, h4⟩ := h2.resolve_left (by omega)
      have hne : val8 (c :: t) ≠ 0 := by
        rcases t with _ | ⟨d, t⟩
        · obtain rfl : k = 0 := by simpa using ht.symm
          simp at h4
          simp [val8]; omega
        · have h5 : d8 (val8 (d :: t)) = d :: t := ih _ ht (.inr ⟨by simp at ht ⊢; omega, by
            obtain ⟨k', rfl⟩ : ∃ k', k = k' + 1 := ⟨t.length, by simpa using ht.symm⟩
            simpa using h4⟩)
          have h6 : val8 (d :: t) ≠ 0 := by
            intro e
            rw [e, d8_zero] at h5
            cases h5
          simp only [val8] at h6 ⊢
          omega
      rw [d8_pos hne]
      have e1 : BitVec.ofNat 8 (val8 (c :: t)) = c := by
        refine BitVec.eq_of_toNat_eq ?_
        rw [BitVec.toNat_ofNat]
        simp only [val8]; omega
      have e2 : val8 (c :: t) / 256 = val8 t := by simp only [val8]; omega
      rw [e1, e2]
      congr 1
      refine ih t ht ?_
      rcases t with _ | ⟨d, t⟩
      · left; simpa using ht.symm
      · right
        refine ⟨by simp at ht ⊢; omega, ?_⟩
        obtain ⟨k', rfl⟩ : ∃ k', k = k' + 1 := ⟨t.length, by simpa using ht.symm⟩
        simpa using h4
/-- The bytes of 32-bit digits, the least first. -/
def by8 : List (BitVec 32) → List (BitVec 8)
  | [] => []
  | d :: t => BitVec.ofNat 8 d.toNat :: BitVec.ofNat 8 (d.toNat / 256) :: BitVec.ofNat 8 (d.toNat / 65536) :: BitVec.ofNat 8 (d.toNat / 16777216) :: by8 t
theorem by8_len (l : List (BitVec 32)) : (by8 l).length = 4 * l.length := by
  induction l with
  | nil => rfl
  | cons d t ih => simp only [by8, List.length_cons, ih]; omega
theorem by8_append (l m : List (BitVec 32)) : by8 (l ++ m) = by8 l ++ by8 m := by
  induction l with
  | nil => rfl
  | cons d t ih => simp [by8, ih]
theorem val8_by8 (l : List (BitVec 32)) : val8 (by8 l) = valD l := by
  induction l with
  | nil => rfl
  | cons d t ih =>
    have hd := d.isLt
    simp only [by8, val8, ih, valD_cons, BitVec.toNat_ofNat]
    omega
theorem d8_one {n : Nat} (h : 0 < n) (h2 : n < 256) : d8 n = [BitVec.ofNat 8 n] := by
  rw [d8_pos (by omega), show n / 256 = 0 by omega, d8_zero]
theorem d8_trim (l : List (BitVec 32)) (k : Nat) (hk : k ≤ (by8 l).length) (h1 : val8 ((by8 l).take k) = valD l) (h2 : k = 0 ∨ ∃ h : k - 1 < (by8 l).length, (by8 l)[k - 1].toNat ≠ 0) : d8 (valD l) = (by8 l).take k := by
  rw [← h1]
  refine d8_val k _ (by rw [List.length_take]; omega) ?_
  rcases h2 with h | ⟨h, h3⟩
  · exact .inl h
  · rcases Nat.eq_zero_or_pos k with hz | hz
    · exact .inl hz
    · exact .inr ⟨by rw [List.length_take]; omega, by rw [List.getElem_take]; exact h3⟩
theorem Rd.of_alloc {W : World} {b : Nat} {cs : Array Value} {t : TypeId} {fr : Nat × Nat} {l : List (BitVec 8)} (hb : W.heap.size = b) (e : cs.toList = bv8 l) : Rd (W.alloc (.cells cs t fr)) (some ⟨b, 0, none⟩) l := by
  subst hb
  exact Rd.of_cells (heap_alloc_new W _) e
theorem by8_cells (y : Nat) (h : y < 4294967296) : (#[Value.int .u8 ((y : Int) % 256), Value.int .u8 ((y : Int) / 256 % 256), Value.int .u8 ((y : Int) / 65536 % 256), Value.int .u8 ((y : Int) / 16777216)]).toList = bv8 [BitVec.ofNat 8 y, BitVec.ofNat 8 (y / 256), BitVec.ofNat 8 (y / 65536), BitVec.ofNat 8 (y / 16777216)] := by
  simp only [bv8, List.map_cons, List.map_nil, BitVec.toNat_ofNat]
  rw [show (y : Int) % 256 = ((y % 2 ^ 8 : Nat) : Int) by omega, show (y : Int) / 256 % 256 = ((y / 256 % 2 ^ 8 : Nat) : Int) by omega, show (y : Int) / 65536 % 256 = ((y / 65536 % 2 ^ 8 : Nat) : Int) by omega, show (y : Int) / 16777216 = ((y / 16777216 % 2 ^ 8 : Nat) : Int) by omega]
theorem own_shrink {w : World} {base : Nat} {e : TypeId} {a : Option Addr} {n c m : Nat} {l : List (BitVec 8)} (h : w.ownsRow base e 1 (.slice a n c) n (bv8 l)) (hm : m ≤ n) : w.ownsRow base e 1 (.slice a m c) m (bv8 (l.take m)) := by
  have hl := h.1
  rw [bv8_len] at hl
  refine ⟨by rw [bv8_len, List.length_take]; omega, ?_⟩
  rcases h.2 with ⟨h1, h2⟩ | ⟨g, cap, cur, h1, h2, h3, h4, h5, h6, h7⟩
  · injection h1 with h1 h3 h4
    subst h1 h4
    obtain rfl : m = 0 := by omega
    exact .inl ⟨rfl, rfl⟩
  · injection h1 with h1 h8 h9
    subst h1 h9
    refine .inr ⟨g, c, cur, rfl, h2, h3, by omega, h5, h6, ?_⟩
    rw [Nat.mul_one] at h7 ⊢
    have : bv8 (l.take m) = (bv8 l).take m := by simp [bv8, List.map_take]
    rw [this, ← h7, List.take_take, Nat.min_eq_left hm]
set_option maxRecDepth 50000 in
theorem tb_any (a : Option Addr) (n c : Nat) (l : List (BitVec 32)) (w : World) (hn : l.length = n) (hl : n ≤ 1000000) (hr : Rw w a l) :
    Calls Try.prog 57 #[.slice a n c] w (FrB w (d8 (valD l))) := by
  subst hn
  go_enter Try.func57, Try.ntmps57
  go_wp2
  go_loopw [3, 8] (fun v i wr => ∃ k : Nat, k ≤ l.length ∧ i = .int .i64 k ∧ wr.ownsRow w.heap.size 5 1 v (4 * k) (bv8 (by8 (l.take k))) ∧ Below w.heap.size w wr) (fun _ i _ => l.length - (intOf i).toNat)
  case atStart => exact ⟨0, Nat.zero_le _, rfl, nil_row8 _ _, Below.refl _ _⟩
  case round =>
    obtain ⟨k, hk, rfl, hown, hb⟩ := hrel
    have hz := hb.size
    by_cases hlt : k < l.length
    · obtain ⟨ad, rfl, hc⟩ := hr k hlt
      have hc2 := (hb.cell (p := ad.add k) (World.block_lt_of_cell? w _ hc)).trans hc
      obtain ⟨y, hy⟩ : ∃ y, l[k].toNat = y := ⟨_, rfl⟩
      have hyl := l[k].isLt
      rw [hy] at hc2 hyl
      have HY := Lib.hid hy
      have HQ := Lib.hid (by8_cells y (by omega))
      have hz2 : w.heap.size ≤ (wr.alloc (.cells #[Value.int .u8 ((y : Int) % 256), Value.int .u8 ((y : Int) / 256 % 256), Value.int .u8 ((y : Int) / 65536 % 256), Value.int .u8 ((y : Int) / 16777216)] 5)).heap.size := by simp; omega
      have hn4 : 4 * k + 4 ≤ 100000000 := by omega
      clear hy hc
      go_wp2_with (at_builtin; go_loud (refine wpList_apps8 (B := w.heap.size) rfl _ _ rfl (hown.alloc _) hz2 (k := [BitVec.ofNat 8 y, BitVec.ofNat 8 (y / 256), BitVec.ofNat 8 (y / 65536), BitVec.ofNat 8 (y / 16777216)]) (m := 4) rfl (Rd.of_alloc rfl HQ.out) hn4 rfl rfl ?_; intro v' w2 hown2 hb2))
      go_roundw
      case rel =>
        refine ⟨k + 1, by omega, by go_num, ?_, (Below.alloc hb hz _).trans hb2⟩
        rw [List.take_succ_eq_append_getElem hlt, by8_append, show by8 [l[k]] = [BitVec.ofNat 8 y, BitVec.ofNat 8 (y / 256), BitVec.ofNat 8 (y / 65536), BitVec.ofNat 8 (y / 16777216)] by rw [← HY.out]; rfl]
        exact hown2
      case measure => (simp [intOf]; try omega)
    · obtain rfl : k = l.length := by omega
      rw [List.take_length] at hown
      obtain ⟨a2, c2, rfl⟩ := own_slice hown
      have hlen := by8_len l
      obtain ⟨T, hT⟩ : ∃ T, by8 l = T := ⟨_, rfl⟩
      have HT := Lib.hid hT
      have HV := Lib.hid (val8_by8 l)
      rw [hT] at hown hlen
      have HL := Lib.hid hlen
      clear hT hlen
      have hcap := own_cap hown
      go_wp2
      go_loop [3] (fun v => ∃ m : Nat, m ≤ 4 * l.length ∧ v = .slice a2 m c2 ∧ Hid (val8 (T.take m) = valD l)) (fun v => match v with | .slice _ k _ => k | _ => 0)
      case atStart => exact ⟨_, Nat.le_refl _, rfl, by show _ = _; rw [List.take_of_length_le (by rw [HL.out]; omega), ← HT.out]; exact HV.out⟩
      case round =>
        obtain ⟨m, hm, rfl, hv⟩ := hrel
        have hfin : (m = 0 ∨ ∃ h : m - 1 < (by8 l).length, (by8 l)[m - 1].toNat ≠ 0) → d8 (valD l) = T.take m := by
          intro h
          have := d8_trim l m (by rw [by8_len]; omega) (by rw [HT.out]; exact hv.out) h
          rw [HT.out] at this
          exact this
        have hsh := own_shrink hown hm
        rcases Nat.eq_zero_or_pos m with h0 | h0
        · have HF := Lib.hid (hfin (.inl h0))
          subst h0
          clear hfin
          go_wp2
          go_ret
          exact (FrB.mk' (by simp) hsh hb).eq HF.out.symm
        · obtain ⟨j, rfl⟩ : ∃ j, m = j + 1 := ⟨m - 1, by omega⟩
          have hjT : j < T.length := by rw [HL.out]; omega
          obtain ⟨ad, rfl, hc⟩ := (Rd.of_own hown) j hjT
          obtain ⟨y, hy⟩ : ∃ y, T[j].toNat = y := ⟨_, rfl⟩
          have hyl := T[j].isLt
          rw [hy] at hc hyl
          have hne : ¬ c2 = j := by omega
          by_cases hz0 : y = 0
          · subst hz0
            have HY := Lib.hid hy
            clear hy hfin
            go_wp2
            go_round
            case rel =>
              refine ⟨j, by omega, by first | rfl | (congr 1; omega), ?_⟩
              show _ = _
              rw [← hv.out, val8_take T j hjT, HY.out]; simp
            case measure => (simp; try omega)
          · have HF := Lib.hid (hfin (.inr ⟨by rw [by8_len]; omega, by
              simp only [HT.out, Nat.add_sub_cancel]
              rw [hy]; exact hz0⟩))
            have f1 : ((y : Int) == 0) = false := by rw [beq_eq_false_iff_ne]; omega
            have HY := Lib.hid hy
            clear hy hfin
            go_wp2
            go_ret
            exact (FrB.mk' (by rw [List.length_take, HL.out]; omega) hsh hb).eq HF.out.symm
end Go.Proofs.Ytbplcgbfhijbcaa
