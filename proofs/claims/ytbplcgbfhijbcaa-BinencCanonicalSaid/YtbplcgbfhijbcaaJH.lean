import Derived.Test.YtbplcgbfhijbcaaJG
namespace Go.Proofs.Ytbplcgbfhijbcaa
open Go.RowKit
set_option linter.unusedVariables false
set_option linter.unusedSimpArgs false
attribute [local go_sem ↓] Go.wp_at_zero Go.wp_at_succ
/-- The magnitude that bytes stand for, normalized. -/
def MgA (w : World) (l : List (BitVec 8)) (e : Ending) (w' : World) : Prop := ∃ (a : Option Addr) (c : Nat), e = .returned (.slice a (canon (val8 l)).length c) ∧ (canon (val8 l)).length ≤ c ∧ Rw w' a (canon (val8 l)) ∧ Below w.heap.size w w'
theorem zz32 : (0 : Int) = ((0#32 : BitVec 32).toNat : Int) := rfl
theorem own_at0 {L : List (BitVec 32)} {m : Nat} (h : L.length = m + 1) {hx : m < L.length} (h0 : (L[m]'hx).toNat = 0) : (bv32 L)[m]? = some (.int .u32 0) := by
  simp [bv32, hx, h0]
theorem cell_at {w w' : World} {ad : Addr} {l : List (BitVec 8)} (hr : Rd w (some ad) l) (hb : Below w.heap.size w w') (k : Nat) (h : k < l.length) : w'.cell? (ad.add k) = some (.int .u8 ((l[k]).toNat : Int)) ∧ True := by
  obtain ⟨ad', e, hc⟩ := hr.below hb k h
  cases e
  exact ⟨hc, trivial⟩
theorem MgA.mk' {w w' : World} {l : List (BitVec 8)} {X : List (BitVec 32)} {a : Option Addr} {n c : Nat} (h : canon (val8 l) = X) (hn : X.length = n) (hc : n ≤ c) (hr : Rw w' a X) (hb : Below w.heap.size w w') : MgA w l (.returned (.slice a n c)) w' := by
  subst h hn
  exact ⟨a, c, rfl, hc, hr, hb⟩
theorem own_none32 (W : World) : (W.alloc (.cells #[] 73)).ownsRow W.heap.size 73 1 (.slice (some ⟨W.heap.size, 0, none⟩) 0 0) 0 (bv32 []) := World.ownsRow_made W #[] 0 (Nat.le_refl _) (by unfold maxLen; omega) (by simp)
def MgR (w : World) (l : List (BitVec 8)) (v i : Value) (wr : World) : Prop := ∃ (k m : Nat) (L : List (BitVec 32)), k ≤ l.length ∧ i = .int .i64 k ∧ Hid (L.length = m ∧ (k + 3) / 4 = m ∧ valD L = val8 (l.take k)) ∧ wr.ownsRow w.heap.size 73 1 v m (bv32 L) ∧ Below w.heap.size w wr
set_option maxRecDepth 50000 in
set_option maxHeartbeats 1000000 in
theorem mag6_any (a : Option Addr) (n c : Nat) (l : List (BitVec 8)) (w : World) (hn : l.length = n) (hl : n ≤ 1000000) (hr : Rd w a l) :
    Calls Try.prog 55 #[.slice a n c] w (MgA w l) := by
  subst hn
  go_enter Try.func55, Try.ntmps55
  go_wp2
  go_loopw [3, 4] (fun v i wr => MgR w l v i wr) (fun _ i _ => l.length - (intOf i).toNat)
  case atStart => exact ⟨0, 0, [], Nat.zero_le _, rfl, ⟨rfl, rfl, rfl⟩, own_none32 w, Below.alloc (Below.refl _ _) (Nat.le_refl _) _⟩
  case round =>
    obtain ⟨k, m, L, hk, rfl, hLv, hown, hb⟩ := hrel
    have hz := hb.size
    obtain ⟨a3, c3, rfl⟩ := own_slice hown
    by_cases hlt : k < l.length
    · obtain ⟨ad, rfl, hc⟩ := hr.below hb k hlt
      obtain ⟨y, hy⟩ : ∃ y, (l[k]).toNat = y := ⟨_, rfl⟩
      have hyl := (l[k]).isLt
      rw [hy] at hc hyl
      obtain ⟨q, hq⟩ : ∃ q, k / 4 = q := ⟨_, rfl⟩
      obtain ⟨r, hr9⟩ : ∃ r, k % 4 = r := ⟨_, rfl⟩
      have q1 : (k : Int) / 4 = (q : Int) := by omega
      have hri : 4 * q + r = k := by omega
      have hr4 : r < 4 := by omega
      have r1 : (k : Int) % 4 = (r : Int) := by omega
      have d0 : decide ((k : Int) < (l.length : Int)) = true := by simp; omega
      have t0 : (k : Int).tdiv 4 = (q : Int) := by rw [Int.tdiv_eq_ediv_of_nonneg (by omega)]; exact q1
      have t6 : IntKind.i64.wrap (q : Int) = (q : Int) := IntWalk.i64_in _ (by omega)
      have HRI := Lib.hid hri
      clear hq hr9 hri
      rcases r with _ | _ | _ | _ | r
      · obtain rfl : m = q := by have := hLv.out; have := HRI.out; omega
        have r2 : (k : Int) % 4 = 0 := by omega
        have t2 : (k : Int).tmod 4 = 0 := by rw [Int.tmod_eq_emod_of_nonneg (by omega)]; exact r2
        have hL0 : (L ++ [0#32]).length = m + 1 := by rw [List.length_append, hLv.out.1]; rfl
        have hv0 : valD (L ++ [0#32]) = val8 (l.take k) := by rw [valD_snoc, hLv.out.2.2]; simp
        have hx0 : ((L ++ [0#32])[m]'(by omega)).toNat = 0 := by
          rw [List.getElem_append_right (by rw [hLv.out.1]; exact Nat.le_refl _)]; simp
        have HD := fb_step (L ++ [0#32]) l k m 0 0 y (by omega) hlt HRI.out hx0 hy hv0 (BitVec.ofNat 32 y) (by rw [BitVec.toNat_ofNat]; simp; omega)
        have HDD := Lib.hid HD
        have HX0 := Lib.hid hx0
        have HL0 := Lib.hid hL0
        have t8 : IntKind.u32.wrap (y : Int) = (y : Int) := IntWalk.u32_in _ (by omega)
        have hn1 := Lib.hid (show m + 1 ≤ 20000000 by have := hLv.out; omega)
        have t4 : (m : Int) < (m : Int) + 1 := by omega
        clear r1 HD hv0
        go_wp2_with (at_builtin; go_loud (refine wpList_snoc32 (w := w) rfl _ _ rfl hown hb hn1.out 0#32 zz32 rfl rfl ?_; intro v2 w2 hown2 hb2; obtain ⟨a2, c2, rfl⟩ := own_slice hown2; obtain ⟨g, rfl, hg⟩ := own_form hown2 (by omega); have hcell := own_cell hown2 m (.int .u32 0) (own_at0 HL0.out HX0.out); have hfz := hown2.frozenAt m; obtain ⟨hc2, _⟩ := cell_at hr hb2 k hlt))
        rw [hy] at hc2
        have hz2 := hb2.size
        have hdn : (BitVec.ofNat 32 y).toNat = y := by rw [BitVec.toNat_ofNat]; omega
        have tB : (y : Int) % 4294967296 = (y : Int) := by omega
        go_still_tail 20, (by kernel_rfl)
        go_wp2
        go_roundw
        case rel =>
          have hs := own_set (own_dr hown2 1) m (.int .u32 ((BitVec.ofNat 32 y).toNat : Int))
          have hbs : Below w.heap.size w ((w2.drewN 1).setCell ⟨g, m, none⟩ (.int .u32 ((BitVec.ofNat 32 y).toNat : Int))) := (below_drewN hb2 1).setCell hg _
          rw [hdn] at hs hbs
          have h2 := HRI.out
          refine ⟨k + 1, m + 1, (L ++ [0#32]).set m (BitVec.ofNat 32 y), by omega, by go_num, ⟨by rw [List.length_set]; exact HL0.out, by omega, HDD.out⟩, ?_, by first | exact hbs | simpa using hbs⟩
          rw [show bv32 ((L ++ [0#32]).set m (BitVec.ofNat 32 y)) = (bv32 (L ++ [0#32])).set m (.int .u32 (y : Int)) by conv => rhs; rw [← hdn]
                                                                                                                        simp [bv32, List.map_set]]
          first | exact hs | simpa using hs
        case measure => (simp [intOf]; try omega)
      · have r2 : (k : Int) % 4 = 1 := by omega
        have t2 : (k : Int).tmod 4 = 1 := by rw [Int.tmod_eq_emod_of_nonneg (by omega)]; exact r2
        have hql : q < L.length := by have := hLv.out; have := HRI.out; omega
        have hqm : q < m := by have := hLv.out.1; omega
        obtain ⟨x, hx⟩ : ∃ x, (L[q]).toNat = x := ⟨_, rfl⟩
        have hxl := (L[q]).isLt
        have hxr := dig_low L q 1 hql (by rw [HRI.out, hLv.out.2.2]; exact Nat.lt_of_lt_of_le (val8_lt _) (Nat.pow_le_pow_right (by omega) (by rw [List.length_take]; omega)))
        have HD := fb_step L l k q 1 x y hql hlt HRI.out hx hy hLv.out.2.2
        rw [hx] at hxr hxl
        obtain ⟨g, rfl, hg⟩ := own_form hown (by omega)
        have hcell := own_cell hown q (.int .u32 (x : Int)) (by simp [bv32, hql, hx])
        have hfz := hown.frozenAt q
        have HDD := Lib.hid (HD (BitVec.ofNat 32 (x + y * 256)) (by rw [BitVec.toNat_ofNat]; simp at hxr; omega))
        have t7 : IntKind.i64.wrap 8 = 8 := by decide
        have t7b : IntKind.u64.wrap 8 = 8 := by decide
        have t8 : IntKind.u32.wrap (y : Int) = (y : Int) := IntWalk.u32_in _ (by omega)
        have t9 : IntKind.u32.wrap (((y : Int) * 256)) = ((y : Int) * 256) := IntWalk.u32_in _ (by omega)
        have tA : IntKind.u32.wrap ((x : Int) + ((y : Int) * 256)) = ((x + y * 256 : Nat) : Int) := by rw [IntWalk.u32_in _ (by simp at hxr; omega)]; omega
        have t4 : (q : Int) < (m : Int) := by omega
        have HX := Lib.hid hx
        clear r1 hy HD hx
        go_wp2
        go_still_tail 20, (by kernel_rfl)
        go_wp2
        go_roundw
        case rel =>
          have hdn : (BitVec.ofNat 32 (x + y * 256)).toNat = x + y * 256 := by rw [BitVec.toNat_ofNat]; simp at hxr; omega
          have hs := own_set (own_dr hown 1) q (.int .u32 ((BitVec.ofNat 32 (x + y * 256)).toNat : Int))
          have hbs : Below w.heap.size w ((wr.drewN 1).setCell ⟨g, q, none⟩ (.int .u32 ((BitVec.ofNat 32 (x + y * 256)).toNat : Int))) := (below_drewN hb 1).setCell hg _
          rw [hdn] at hs hbs
          have h1 := hLv.out
          have h2 := HRI.out
          refine ⟨k + 1, m, L.set q (BitVec.ofNat 32 (x + y * 256)), by omega, by go_num, ⟨by rw [List.length_set]; exact h1.1, by omega, HDD.out⟩, ?_, by first | exact hbs | simpa using hbs⟩
          rw [show bv32 (L.set q (BitVec.ofNat 32 (x + y * 256))) = (bv32 L).set q (.int .u32 ((x + y * 256 : Nat) : Int)) by rw [← hdn]; simp [bv32, List.map_set]]
          first | exact hs | simpa using hs
        case measure => (simp [intOf]; try omega)
      · have r2 : (k : Int) % 4 = 2 := by omega
        have t2 : (k : Int).tmod 4 = 2 := by rw [Int.tmod_eq_emod_of_nonneg (by omega)]; exact r2
        have hql : q < L.length := by have := hLv.out; have := HRI.out; omega
        have hqm : q < m := by have := hLv.out.1; omega
        obtain ⟨x, hx⟩ : ∃ x, (L[q]).toNat = x := ⟨_, rfl⟩
        have hxl := (L[q]).isLt
        have hxr := dig_low L q 2 hql (by rw [HRI.out, hLv.out.2.2]; exact Nat.lt_of_lt_of_le (val8_lt _) (Nat.pow_le_pow_right (by omega) (by rw [List.length_take]; omega)))
        have HD := fb_step L l k q 2 x y hql hlt HRI.out hx hy hLv.out.2.2
        rw [hx] at hxr hxl
        obtain ⟨g, rfl, hg⟩ := own_form hown (by omega)
        have hcell := own_cell hown q (.int .u32 (x : Int)) (by simp [bv32, hql, hx])
        have hfz := hown.frozenAt q
        have HDD := Lib.hid (HD (BitVec.ofNat 32 (x + y * 65536)) (by rw [BitVec.toNat_ofNat]; simp at hxr; omega))
        have t7 : IntKind.i64.wrap 16 = 16 := by decide
        have t7b : IntKind.u64.wrap 16 = 16 := by decide
        have t8 : IntKind.u32.wrap (y : Int) = (y : Int) := IntWalk.u32_in _ (by omega)
        have t9 : IntKind.u32.wrap (((y : Int) * 65536)) = ((y : Int) * 65536) := IntWalk.u32_in _ (by omega)
        have tA : IntKind.u32.wrap ((x : Int) + ((y : Int) * 65536)) = ((x + y * 65536 : Nat) : Int) := by rw [IntWalk.u32_in _ (by simp at hxr; omega)]; omega
        have t4 : (q : Int) < (m : Int) := by omega
        have HX := Lib.hid hx
        clear r1 hy HD hx
        go_wp2
        go_still_tail 20, (by kernel_rfl)
        go_wp2
        go_roundw
        case rel =>
          have hdn : (BitVec.ofNat 32 (x + y * 65536)).toNat = x + y * 65536 := by rw [BitVec.toNat_ofNat]; simp at hxr; omega
          have hs := own_set (own_dr hown 1) q (.int .u32 ((BitVec.ofNat 32 (x + y * 65536)).toNat : Int))
          have hbs : Below w.heap.size w ((wr.drewN 1).setCell ⟨g, q, none⟩ (.int .u32 ((BitVec.ofNat 32 (x + y * 65536)).toNat : Int))) := (below_drewN hb 1).setCell hg _
          rw [hdn] at hs hbs
          have h1 := hLv.out
          have h2 := HRI.out
          refine ⟨k + 1, m, L.set q (BitVec.ofNat 32 (x + y * 65536)), by omega, by go_num, ⟨by rw [List.length_set]; exact h1.1, by omega, HDD.out⟩, ?_, by first | exact hbs | simpa using hbs⟩
          rw [show bv32 (L.set q (BitVec.ofNat 32 (x + y * 65536))) = (bv32 L).set q (.int .u32 ((x + y * 65536 : Nat) : Int)) by rw [← hdn]; simp [bv32, List.map_set]]
          first | exact hs | simpa using hs
        case measure => (simp [intOf]; try omega)
      · have r2 : (k : Int) % 4 = 3 := by omega
        have t2 : (k : Int).tmod 4 = 3 := by rw [Int.tmod_eq_emod_of_nonneg (by omega)]; exact r2
        have hql : q < L.length := by have := hLv.out; have := HRI.out; omega
        have hqm : q < m := by have := hLv.out.1; omega
        obtain ⟨x, hx⟩ : ∃ x, (L[q]).toNat = x := ⟨_, rfl⟩
        have hxl := (L[q]).isLt
        have hxr := dig_low L q 3 hql (by rw [HRI.out, hLv.out.2.2]; exact Nat.lt_of_lt_of_le (val8_lt _) (Nat.pow_le_pow_right (by omega) (by rw [List.length_take]; omega)))
        have HD := fb_step L l k q 3 x y hql hlt HRI.out hx hy hLv.out.2.2
        rw [hx] at hxr hxl
        obtain ⟨g, rfl, hg⟩ := own_form hown (by omega)
        have hcell := own_cell hown q (.int .u32 (x : Int)) (by simp [bv32, hql, hx])
        have hfz := hown.frozenAt q
        have HDD := Lib.hid (HD (BitVec.ofNat 32 (x + y * 16777216)) (by rw [BitVec.toNat_ofNat]; simp at hxr; omega))
        have t7 : IntKind.i64.wrap 24 = 24 := by decide
        have t7b : IntKind.u64.wrap 24 = 24 := by decide
        have t8 : IntKind.u32.wrap (y : Int) = (y : Int) := IntWalk.u32_in _ (by omega)
        have t9 : IntKind.u32.wrap (((y : Int) * 16777216)) = ((y : Int) * 16777216) := IntWalk.u32_in _ (by omega)
        have tA : IntKind.u32.wrap ((x : Int) + ((y : Int) * 16777216)) = ((x + y * 16777216 : Nat) : Int) := by rw [IntWalk.u32_in _ (by simp at hxr; omega)]; omega
        have t4 : (q : Int) < (m : Int) := by omega
        have HX := Lib.hid hx
        clear r1 hy HD hx
        go_wp2
        go_still_tail 20, (by kernel_rfl)
        go_wp2
        go_roundw
        case rel =>
          have hdn : (BitVec.ofNat 32 (x + y * 16777216)).toNat = x + y * 16777216 := by rw [BitVec.toNat_ofNat]; simp at hxr; omega
          have hs := own_set (own_dr hown 1) q (.int .u32 ((BitVec.ofNat 32 (x + y * 16777216)).toNat : Int))
          have hbs : Below w.heap.size w ((wr.drewN 1).setCell ⟨g, q, none⟩ (.int .u32 ((BitVec.ofNat 32 (x + y * 16777216)).toNat : Int))) := (below_drewN hb 1).setCell hg _
          rw [hdn] at hs hbs
          have h1 := hLv.out
          have h2 := HRI.out
          refine ⟨k + 1, m, L.set q (BitVec.ofNat 32 (x + y * 16777216)), by omega, by go_num, ⟨by rw [List.length_set]; exact h1.1, by omega, HDD.out⟩, ?_, by first | exact hbs | simpa using hbs⟩
          rw [show bv32 (L.set q (BitVec.ofNat 32 (x + y * 16777216))) = (bv32 L).set q (.int .u32 ((x + y * 16777216 : Nat) : Int)) by rw [← hdn]; simp [bv32, List.map_set]]
          first | exact hs | simpa using hs
        case measure => (simp [intOf]; try omega)
      · omega
    · obtain rfl : k = l.length := by omega
      have h1 := hLv.out
      have hval : valD L = val8 l := by have := h1.2.2; rw [List.take_length] at this; exact this
      have HV := Lib.hid hval
      have HL := Lib.hid h1.1
      have hcap := own_cap hown
      have hm6 : m ≤ 1000000 := by have := h1.2.1; omega
      have d0 : decide ((l.length : Int) < (l.length : Int)) = false := by simp
      clear h1 hval
      go_wp2
      go_loop [3] (fun v => ∃ j : Nat, j ≤ m ∧ v = .slice a3 j c3 ∧ Hid (trimD (L.take j) = trimD L)) (fun v => match v with | .slice _ k _ => k | _ => 0)
      case atStart => exact ⟨_, Nat.le_refl _, rfl, by show _ = _; rw [List.take_of_length_le (by rw [HL.out]; exact Nat.le_refl _)]⟩
      case round =>
        obtain ⟨j, hj, rfl, hv⟩ := hrel
        have hfin : (j = 0 ∨ ∃ h : j - 1 < L.length, L[j - 1] ≠ 0#32) → canon (val8 l) = L.take j := by
          intro h
          rw [← HV.out, canon_val]
          exact trim_take L j (by rw [HL.out]; exact hj) hv.out h
        have hRL : Rw wr a3 (L.take j) := (Rw.of_own hown).take j
        rcases Nat.eq_zero_or_pos j with h0 | h0
        · have HF := Lib.hid (hfin (.inl h0))
          subst h0
          clear hfin
          go_wp2
          go_ret
          exact MgA.mk' HF.out (by simp) (by omega) hRL hb
        · obtain ⟨i, rfl⟩ : ∃ i, j = i + 1 := ⟨j - 1, by omega⟩
          have hiL : i < L.length := by rw [HL.out]; omega
          obtain ⟨ad3, rfl, hc⟩ := (Rw.of_own hown) i hiL
          obtain ⟨y, hy⟩ : ∃ y, L[i].toNat = y := ⟨_, rfl⟩
          have hyl := L[i].isLt
          rw [hy] at hc hyl
          have hne : ¬ c3 = i := by omega
          by_cases hz0 : y = 0
          · subst hz0
            have hL0 : L[i] = 0#32 := BitVec.eq_of_toNat_eq hy
            have HT := Lib.hid (trim_step L i hiL hv.out hL0)
            clear hy hfin hL0
            go_wp2
            go_round
            case rel => exact ⟨i, by omega, by first | rfl | (congr 1; omega), HT.out⟩
            case measure => (simp; try omega)
          · have HF := Lib.hid (hfin (.inr ⟨by simpa using hiL, by
              simp only [Nat.add_sub_cancel]
              intro e
              rw [e] at hy
              exact hz0 hy.symm⟩))
            have f1 : ((y : Int) == 0) = false := by rw [beq_eq_false_iff_ne]; omega
            clear hy hfin
            go_wp2
            go_ret
            exact MgA.mk' HF.out (by rw [List.length_take, HL.out]; omega) (by omega) hRL hb
end Go.Proofs.Ytbplcgbfhijbcaa
