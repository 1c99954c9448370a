import Derived.Test.YtbplcgbfhijbcaaJC
namespace Go.Proofs.Ytbplcgbfhijbcaa
open Go.RowKit
set_option linter.unusedVariables false
set_option linter.unusedSimpArgs false
attribute [local go_sem ↓] Go.wp_at_zero Go.wp_at_succ
theorem by8_full (l : List (BitVec 32)) : (by8 l).take (4 * l.length) = by8 l := by rw [← by8_len, List.take_length]
theorem by8_at (l : List (BitVec 32)) : ∀ (q r : Nat), (h : q < l.length) → r < 4 → (by8 l)[4 * q + r]? = some (BitVec.ofNat 8 (l[q].toNat / 256 ^ r)) := by
  induction l with
  | nil => intro q r h; simp at h
  | cons x t ih =>
    intro q r h hr
    rcases q with _ | q
    · rcases r with _ | _ | _ | _ | r
      · simp [by8]
      · simp [by8]
      · simp [by8]
      · simp [by8]
      · omega
    · have := ih q r (by simpa using h) hr
      rw [show 4 * (q + 1) + r = 4 * q + r + 4 by omega]
      simpa [by8] using this
theorem by8_step (l : List (BitVec 32)) (i q r : Nat) (hi : 4 * q + r = i) (hr : r < 4) (hq : q < l.length) (d : BitVec 8) (hd : BitVec.ofNat 8 (l[q].toNat / 256 ^ r) = d) : (by8 l).take (i + 1) = (by8 l).take i ++ [d] := by
  have h := by8_at l q r hq hr
  rw [hi, hd] at h
  obtain ⟨hlt, h2⟩ := List.getElem?_eq_some_iff.1 h
  rw [List.take_succ_eq_append_getElem hlt, h2]
theorem b8i (x : Nat) : (x : Int) % 256 = ((BitVec.ofNat 8 x).toNat : Int) := by rw [BitVec.toNat_ofNat]; omega
set_option maxRecDepth 50000 in
theorem rb256_any (a : Option Addr) (n c : Nat) (l : List (BitVec 32)) (w : World) (hn : l.length = n) (hl : n ≤ 1000000) (hr : Rw w a l) :
    Calls Try.prog 58 #[.slice a n c] w (FrB w (d8 (valD l))) := by
  subst hn
  go_enter Try.func58, Try.ntmps58
  go_wp2
  go_loopw [3, 4] (fun v i wr => ∃ k : Nat, k ≤ 4 * l.length ∧ i = .int .i64 k ∧ wr.ownsRow w.heap.size 5 1 v k (bv8 ((by8 l).take k)) ∧ Below w.heap.size w wr) (fun _ i _ => 4 * l.length - (intOf i).toNat)
  case atStart => exact ⟨0, Nat.zero_le _, rfl, fresh_row8 _, Below.alloc (Below.refl _ _) (Nat.le_refl _) _⟩
  case round =>
    obtain ⟨i, hk, rfl, hown, hb⟩ := hrel
    have hz := hb.size
    by_cases hlt : i < 4 * l.length
    · have hql : i / 4 < l.length := by omega
      obtain ⟨ad, rfl, hc⟩ := hr (i / 4) hql
      have hc2 := (hb.cell (p := ad.add (i / 4)) (World.block_lt_of_cell? w _ hc)).trans hc
      obtain ⟨y, hy⟩ : ∃ y, l[i / 4].toNat = y := ⟨_, rfl⟩
      have hyl := l[i / 4].isLt
      rw [hy] at hc2 hyl
      have hst := fun r hr4 hri d hd => by8_step l i (i / 4) r hri hr4 hql d (by rw [hy]; exact hd)
      have HS := Lib.hid hst
      obtain ⟨q, hq⟩ : ∃ q, i / 4 = q := ⟨_, rfl⟩
      obtain ⟨r, hr9⟩ : ∃ r, i % 4 = r := ⟨_, rfl⟩
      have q1 : (i : Int) / 4 = (q : Int) := by omega
      have hri : 4 * q + r = i := by omega
      have hr4 : r < 4 := by omega
      have r1 : (i : Int) % 4 = (r : Int) := by omega
      rw [hq] at hc2
      simp only [hq] at HS
      have hn1 := Lib.hid (show i + 1 ≤ 100000000 by omega)
      have HRI := Lib.hid hri
      have hql2 : q < l.length := by omega
      have d0 : decide ((i : Int) < 4 * (l.length : Int)) = true := by simp; omega
      clear hy hc hst hq hql hr9 hri
      rcases r with _ | _ | _ | _ | r
      · have r2 : (i : Int) % 4 = 0 := by omega
        have Q1 := Lib.hid (show (y : Int) % 256 = ((BitVec.ofNat 8 (y)).toNat : Int) by rw [← b8i]; try omega)
        have HT := Lib.hid (HS.out 0 (by omega) HRI.out (BitVec.ofNat 8 (y)) (by simp))
        clear r1
        go_wp2_with (at_builtin; go_loud (refine wpList_snoc8 (B := w.heap.size) rfl _ _ rfl hown hz hn1.out (BitVec.ofNat 8 (y)) Q1.out rfl rfl ?_; intro v' w2 hown2 hb2 _ _))
        go_roundw
        case rel => exact ⟨i + 1, by omega, by go_num, by rw [HT.out]; exact hown2, hb.trans hb2⟩
        case measure => (simp [intOf]; try omega)
      · have r2 : (i : Int) % 4 = 1 := by omega
        have Q1 := Lib.hid (show (y : Int) / 256 % 256 = ((BitVec.ofNat 8 (y / 256)).toNat : Int) by rw [← b8i]; try omega)
        have HT := Lib.hid (HS.out 1 (by omega) HRI.out (BitVec.ofNat 8 (y / 256)) (by rfl))
        clear r1
        go_wp2_with (at_builtin; go_loud (refine wpList_snoc8 (B := w.heap.size) rfl _ _ rfl hown hz hn1.out (BitVec.ofNat 8 (y / 256)) Q1.out rfl rfl ?_; intro v' w2 hown2 hb2 _ _))
        go_roundw
        case rel => exact ⟨i + 1, by omega, by go_num, by rw [HT.out]; exact hown2, hb.trans hb2⟩
        case measure => (simp [intOf]; try omega)
      · have r2 : (i : Int) % 4 = 2 := by omega
        have Q1 := Lib.hid (show (y : Int) / 65536 % 256 = ((BitVec.ofNat 8 (y / 65536)).toNat : Int) by rw [← b8i]; try omega)
        have HT := Lib.hid (HS.out 2 (by omega) HRI.out (BitVec.ofNat 8 (y / 65536)) (by rfl))
        clear r1
        go_wp2_with (at_builtin; go_loud (refine wpList_snoc8 (B := w.heap.size) rfl _ _ rfl hown hz hn1.out (BitVec.ofNat 8 (y / 65536)) Q1.out rfl rfl ?_; intro v' w2 hown2 hb2 _ _))
        go_roundw
        case rel => exact ⟨i + 1, by omega, by go_num, by rw [HT.out]; exact hown2, hb.trans hb2⟩
        case measure => (simp [intOf]; try omega)
      · have r2 : (i : Int) % 4 = 3 := by omega
        have Q1 := Lib.hid (show (y : Int) / 16777216 = ((BitVec.ofNat 8 (y / 16777216)).toNat : Int) by rw [← b8i]; try omega)
        have HT := Lib.hid (HS.out 3 (by omega) HRI.out (BitVec.ofNat 8 (y / 16777216)) (by rfl))
        clear r1
        go_wp2_with (at_builtin; go_loud (refine wpList_snoc8 (B := w.heap.size) rfl _ _ rfl hown hz hn1.out (BitVec.ofNat 8 (y / 16777216)) Q1.out rfl rfl ?_; intro v' w2 hown2 hb2 _ _))
        go_roundw
        case rel => exact ⟨i + 1, by omega, by go_num, by rw [HT.out]; exact hown2, hb.trans hb2⟩
        case measure => (simp [intOf]; try omega)
      · omega
    · obtain rfl : i = 4 * l.length := by omega
      rw [by8_full] at hown
      obtain ⟨a2, c2, rfl⟩ := own_slice hown
      have hlen := by8_len l
      obtain ⟨T, hT⟩ : ∃ T, by8 l = T := ⟨_, rfl⟩
      have HT := Lib.hid hT
      have HV := Lib.hid (val8_by8 l)
      rw [hT] at hown hlen
      have HL := Lib.hid hlen
      clear hT hlen
      have hcap := own_cap hown
      go_wp2
      go_loop [3] (fun v => ∃ m : Nat, m ≤ 4 * l.length ∧ v = .slice a2 m c2 ∧ Hid (val8 (T.take m) = valD l)) (fun v => match v with | .slice _ k _ => k | _ => 0)
      case atStart => exact ⟨_, Nat.le_refl _, rfl, by show _ = _; rw [List.take_of_length_le (by rw [HL.out]; omega), ← HT.out]; exact HV.out⟩
      case round =>
        obtain ⟨m, hm, rfl, hv⟩ := hrel
        have hfin : (m = 0 ∨ ∃ h : m - 1 < (by8 l).length, (by8 l)[m - 1].toNat ≠ 0) → d8 (valD l) = T.take m := by
          intro h
          have := d8_trim l m (by rw [by8_len]; omega) (by rw [HT.out]; exact hv.out) h
          rw [HT.out] at this
          exact this
        have hsh := own_shrink hown hm
        rcases Nat.eq_zero_or_pos m with h0 | h0
        · have HF := Lib.hid (hfin (.inl h0))
          subst h0
          clear hfin
          go_wp2
          go_ret
          exact (FrB.mk' (by simp) hsh hb).eq HF.out.symm
        · obtain ⟨j, rfl⟩ : ∃ j, m = j + 1 := ⟨m - 1, by omega⟩
          have hjT : j < T.length := by rw [HL.out]; omega
          obtain ⟨ad, rfl, hc⟩ := (Rd.of_own hown) j hjT
          obtain ⟨y, hy⟩ : ∃ y, T[j].toNat = y := ⟨_, rfl⟩
          have hyl := T[j].isLt
          rw [hy] at hc hyl
          have hne : ¬ c2 = j := by omega
          by_cases hz0 : y = 0
          · subst hz0
            have HY := Lib.hid hy
            clear hy hfin
            go_wp2
            go_round
            case rel =>
              refine ⟨j, by omega, by first | rfl | (congr 1; omega), ?_⟩
              show _ = _
              rw [← hv.out, val8_take T j hjT, HY.out]; simp
            case measure => (simp; try omega)
          · have HF := Lib.hid (hfin (.inr ⟨by rw [by8_len]; omega, by
              simp only [HT.out, Nat.add_sub_cancel]
              rw [hy]; exact hz0⟩))
            have f1 : ((y : Int) == 0) = false := by rw [beq_eq_false_iff_ne]; omega
            have HY := Lib.hid hy
            clear hy hfin
            go_wp2
            go_ret
            exact (FrB.mk' (by rw [List.length_take, HL.out]; omega) hsh hb).eq HF.out.symm
end Go.Proofs.Ytbplcgbfhijbcaa
