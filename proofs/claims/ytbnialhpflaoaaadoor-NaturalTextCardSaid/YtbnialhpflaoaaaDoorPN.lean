import Derived.Test.YtbnialhpflaoaaaDoorPM
namespace Go.Proofs.YtbnialhpflaoaaaDoor
open Go.RowKit
set_option linter.unusedVariables false
set_option linter.unusedSimpArgs false
def RfR (w : World) (V N : Nat) (r ch : Value) (wr : World) : Prop := ∃ (a : Option Addr) (c : Nat) (X : List (BitVec 32)) (bs : List UInt8) (chv : Value), r = .slice a X.length c ∧ chv = ch ∧ X.length ≤ N ∧
  Hid (trimD X = X ∧ Lib.decDigits V = (if valD X = 0 then [] else Lib.decDigits (valD X)) ++ bs.reverse) ∧ bs.length ≤ 1000000 ∧ Rw wr a X ∧ wr.ownsRow w.heap.size 5 1 chv bs.length (bvu bs) ∧ Below w.heap.size w wr
def RoR (w : World) (bs : List UInt8) (h hc : Nat) (out i : Value) (wr : World) : Prop := ∃ (p m : Nat) (os : List UInt8) (outv : Value), i = .int .i64 ((p : Int) - 1) ∧ outv = out ∧ p ≤ bs.length ∧ m + p = bs.length ∧ Hid (os = (bs.drop p).reverse) ∧
  wr.ownsRow w.heap.size 5 1 outv m (bvu os) ∧ wr.ownsRow w.heap.size 5 1 (.slice (some ⟨h, 0, none⟩) bs.length hc) bs.length (bvu bs) ∧ outv.ownBlock ≠ some h ∧ Below w.heap.size w wr
theorem drop_rev (bs : List UInt8) (j : Nat) (h : j < bs.length) : (bs.drop j).reverse = (bs.drop (j + 1)).reverse ++ [bs[j]] := by
  rw [List.drop_eq_getElem_cons h, List.reverse_cons]
set_option maxRecDepth 50000 in
set_option maxHeartbeats 2000000 in
theorem rformat_any (a : Option Addr) (n c : Nat) (l : List (BitVec 32)) (w : World) (hn : l.length = n) (hl : n ≤ 90000) (hr : Rw w a l) :
    Calls Tryd.prog 41 #[.slice a n c] w fun e w' => e = .returned (sv (Lib.decDigits (valD l))) ∧ Below w.heap.size w w' := by
  subst hn
  have f1 := trim_len_le l
  obtain ⟨V, hV⟩ : ∃ V, valD l = V := ⟨_, rfl⟩
  have hVl : V < pw l.length := by rw [← hV]; exact valD_lt l
  rw [hV]
  by_cases h0 : V = 0
  · have ht : trimD l = [] := by rw [← canon_val, hV, h0, canon_zero]
    subst h0
    clear hV hVl
    go_enter Tryd.func41, Tryd.ntmps41
    go_wp2_with (go_at_call 20; (with_reducible refine (norm_any a _ c l _ rfl (by omega) hr).mono ?_); rintro e w1 ⟨a1, c1, rfl, hown1, hb1⟩; rw [ht])
    go_ret
    exact ⟨by rw [dec_lt (by omega)]; rfl, hb1⟩
  have htl : 0 < (trimD l).length := by
    rw [← canon_val, hV]
    exact canon_len_pos (by omega)
  have hz : (((trimD l).length : Int) == 0) = false := by rw [beq_eq_false_iff_ne]; omega
  have hdl := big_dec l.length V hVl (by omega)
  have HV : Hid (trimD (trimD l) = trimD l ∧ valD (trimD l) = V) := ⟨by rw [← canon_val l, trim_canon], by rw [valD_trim, hV]⟩
  have HDL : Hid ((Lib.decDigits V).length ≤ 900000) := Nat.le_trans hdl (by omega)
  have HV0 := Lib.hid h0
  obtain ⟨i0, hi, hz0, hz1, hz2⟩ := info_parts infoU
  clear hV hVl hdl h0
  go_enter Tryd.func41, Tryd.ntmps41
  go_wp2_with (go_at_call 20; (with_reducible refine (norm_any a _ c l _ rfl (by omega) hr).mono ?_); rintro e w1 ⟨a1, c1, rfl, hown1, hb1⟩)
  have hfu := own_mono (fresh_rowU w1) (base' := w.heap.size) hb1.size
  have hbA := hb1.alloc hb1.size (.cells #[] 5)
  go_loopw [3, 4, 5, 6] (fun r ch _ _ wr => RfR w V l.length r ch wr) (fun r _ _ _ wr => valD (rowOf wr r))
  case atStart => exact ⟨a1, c1, trimD l, [], _, rfl, rfl, f1, ⟨HV.out.1, by rw [HV.out.2, if_neg HV0.out]; simp⟩, by simp, (Rw.of_own hown1).below (Below.alloc (Below.refl _ _) (Nat.le_refl _) _), hfu, hbA⟩
  case round =>
    clear hown1 hb1 hfu hbA
    obtain ⟨ax, c, X, bs, chv, rfl, rfl, hXN, hq, hbl, hrx, hch, hb⟩ := hrel
    have hrow : valD (rowOf wr (.slice ax X.length c)) = valD X := by rw [rowOf_eq hrx]
    by_cases hX0 : X.length = 0
    · have hX : X = [] := List.length_eq_zero_iff.1 hX0
      subst hX
      obtain ⟨_, q2⟩ := hq.out
      rw [valD_nil, if_pos rfl, List.nil_append] at q2
      have hbp : 0 < bs.length := by
        rcases Nat.eq_zero_or_pos bs.length with h | h
        · exfalso
          rw [List.length_eq_zero_iff.1 h] at q2
          have := dec_len_pos V
          rw [q2] at this
          simp at this
        · exact h
      obtain ⟨ha, hc, rfl⟩ := own_slice hch
      obtain ⟨h, rfl, hh⟩ := own_form hch hbp
      have hhl := (own_ge hch).2
      have HQ2 := Lib.hid q2
      have hfu := own_mono (fresh_rowU wr) (base' := w.heap.size) hb.size
      have hbA := hb.alloc hb.size (.cells #[] 5)
      have hchA := hch.alloc (.cells #[] 5)
      have hneA : (Value.slice (some ⟨wr.heap.size, 0, none⟩) 0 0).ownBlock ≠ some h := by
        intro e
        have h2 : wr.heap.size = h := Option.some.inj e
        omega
      clear q2 hrow
      simp only [List.length_nil]
      go_wp2
      go_loopw [7, 8] (fun out i wr => RoR w bs h hc out i wr) (fun _ i _ => (intOf i + 1).toNat)
      case atStart => exact ⟨bs.length, 0, [], _, by go_num, rfl, Nat.le_refl _, by omega, (by show _ = _; simp), hfu, hchA, hneA, hbA⟩
      case round =>
        clear hfu hbA hchA hneA
        obtain ⟨p, m, os, outv, rfl, rfl, hp, hmp, hos, ho, hbk, hne, hb2⟩ := hrel
        rcases Nat.eq_zero_or_pos p with rfl | hp0
        · have hos2 := hos.out
          rw [List.drop_zero] at hos2
          obtain rfl : m = bs.length := by omega
          obtain ⟨oa, oc, rfl⟩ := own_slice ho
          obtain ⟨g, rfl, hgg⟩ := own_form ho hbp
          have hconv := str_of_row ho
          have HS : Hid (os = Lib.decDigits V) := by show _ = _; rw [hos2, HQ2.out]
          clear hos2
          go_wp2
          go_ret
          exact ⟨by rw [← HS.out]; rfl, hb2⟩
        · obtain ⟨j, rfl⟩ : ∃ j, p = j + 1 := ⟨p - 1, by omega⟩
          have hj : j < bs.length := by omega
          obtain ⟨x, hx⟩ : ∃ x, bs[j].toNat = x := ⟨_, rfl⟩
          have hck := own_cell hbk j (.int .u8 (x : Int)) (by rw [bvu, List.getElem?_map, List.getElem?_eq_getElem hj, ← hx]; rfl)
          have hxl : x < 256 := by rw [← hx]; exact bs[j].toNat_lt
          have HX : Hid (os ++ [bs[j]] = (bs.drop j).reverse ∧ (bs[j].toNat : Int) = (x : Int)) := ⟨by rw [hos.out, drop_rev bs j hj], by rw [hx]⟩
          have hml : m ≤ 1000000 := by omega
          clear hx
          go_wp2_with (at_builtin; go_loud (refine wpList_append_rd _ rfl _ _ _ rfl w.heap.size 5 i0 (.int .u8 0) 1 Tryd.underlying66 hi hz0 hz1 hz2 rfl outv m (bvu os) rfl (ho.alloc _) _ 1 1 [.int .u8 (x : Int)] rfl rfl (fun j u hu => ⟨_, rfl, cell_one_new _ _ _ j u hu⟩) (u8_one _) (by unfold maxLen; omega) (by omega) (hb2.alloc hb2.size _).size ?_; intro v' w6 hown6 hg6 hv6))
          have hwa := hb2.alloc hb2.size (.cells #[.int .u8 (x : Int)] 5)
          have hb6 : Below w.heap.size w w6 := hwa.grown hg6 hwa.size (fun k hk => (ho.lt k hk).1)
          have hbk7 := (hbk.alloc (.cells #[.int .u8 (x : Int)] 5)).kept hg6 (.inr (fun e => hne e.symm))
          have hgl := (own_ge hbk).2
          have hne6 : v'.ownBlock ≠ some h := by
            rcases hv6 with h1 | h1
            · rw [h1]; exact hne
            · rw [h1]
              intro e
              have e2 := Option.some.inj e
              simp at e2
              omega
          rw [← HX.out.2, ← bvu_snoc] at hown6
          go_roundw
          case rel => exact ⟨j, m + 1, os ++ [bs[j]], v', by go_num, rfl, by omega, by omega, HX.out.1, hown6, hbk7, hne6, hb6⟩
          case measure => simp [intOf] <;> omega
    · have hvp : 0 < valD X := by
        have h := valD_len X hq.out.1 (by omega)
        have := pw_pos (X.length - 1)
        omega
      obtain ⟨v, hv⟩ : ∃ v, valD X = v := ⟨_, rfl⟩
      obtain ⟨r, hrv⟩ : ∃ r, v % 10 = r := ⟨_, rfl⟩
      obtain ⟨Y, E1⟩ := ex_canon (v / 10)
      have HTN := tenth_any ax _ c X wr rfl (by omega) hrx
      simp only [hv, hrv, E1.out] at HTN
      have HTN' := Lib.hid HTN
      have hrb : r < 10 := by omega
      have hYl : Y.length ≤ X.length := by
        rw [← E1.out, canon_len_le, ← hv]
        exact Nat.lt_of_le_of_lt (Nat.div_le_self _ _) (valD_lt X)
      have hsz : bs.length ≤ 900000 := by
        have h2 := HDL.out
        rw [hq.out.2, List.length_append, List.length_reverse] at h2
        omega
      have HV1 := Lib.hid (show valD X = v ∧ v % 10 = r ∧ valD Y = v / 10 ∧ trimD Y = Y from ⟨hv, hrv, by rw [← E1.out, valD_canon], by rw [← E1.out, trim_canon]⟩)
      have HROW := Lib.hid hrow
      have HVP := Lib.hid hvp
      have hq1 : decide (0 < (X.length : Int)) = true := by rw [decide_eq_true_iff]; omega
      clear HTN hv hrv hrow hvp
      go_wp2_with (first
        | (go_at_call 61; go_loud ((with_reducible refine HTN'.out.mono ?_); rintro e w2 ⟨a2, c2, rfl, hry, hb12⟩; have hb2 := hb.trans (hb12.mono hb.size); have hch2 := own_below hch hb12))
        | (at_builtin; go_loud (refine wpList_append_rd _ rfl _ _ _ rfl w.heap.size 5 i0 (.int .u8 0) 1 Tryd.underlying66 hi hz0 hz1 hz2 rfl chv bs.length (bvu bs) rfl (hch2.alloc _) _ 1 1 [.int .u8 (48 + (r : Int))] rfl rfl (fun j u hu => ⟨_, rfl, cell_one_new _ _ _ j u hu⟩) (u8_one _) (by unfold maxLen; omega) (by omega) (hb2.alloc hb2.size _).size ?_; intro v' w6 hown6 hg6 hv6)))
      have hwa := hb2.alloc hb2.size (.cells #[.int .u8 (48 + (r : Int))] 5)
      have hb6 : Below w.heap.size w w6 := hwa.grown hg6 hwa.size (fun k hk => (hch2.lt k hk).1)
      have hry6 : Rw w6 a2 Y := by
        rcases Nat.eq_zero_or_pos Y.length with h | h
        · rw [List.length_eq_zero_iff.1 h]; exact Rw.nil _ _
        · refine (hry.1.below (Below.alloc (Below.refl _ _) (Nat.le_refl _) _)).grown hg6 ?_
          intro ad e h2
          have h3 := hry.2 ad e (by intro h4; rw [h4] at h; simp at h)
          have h4 := (hch.lt _ h2.symm).2
          omega
      have hcn : ((UInt8.ofNat (48 + r)).toNat : Int) = 48 + (r : Int) := by rw [toNat_dig hrb]; omega
      rw [← hcn, ← bvu_snoc] at hown6
      go_roundw
      case rel =>
        refine ⟨a2, c2, Y, bs ++ [UInt8.ofNat (48 + r)], v', rfl, rfl, by omega, ⟨HV1.out.2.2.2, ?_⟩, by simp; omega, ?_, by rw [List.length_append]; exact hown6, hb6⟩
        · obtain ⟨k1, k2, k3, k4⟩ := HV1.out
          rw [hq.out.2, k1, k3, List.reverse_append, List.reverse_singleton, ← List.append_assoc, if_neg (by have := HVP.out; omega)]
          congr 1
          rcases Nat.lt_or_ge v 10 with h | h
          · rw [if_pos (by omega), dec_lt h, show r = v by omega]; rfl
          · rw [if_neg (by omega), dec_ge (by omega), k2]
        · exact hry6
      case measure =>
        obtain ⟨k1, k2, k3, k4⟩ := HV1.out
        rw [HROW.out, rowOf_eq hry6, k3]
        have := HVP.out
        omega
end Go.Proofs.YtbnialhpflaoaaaDoor
