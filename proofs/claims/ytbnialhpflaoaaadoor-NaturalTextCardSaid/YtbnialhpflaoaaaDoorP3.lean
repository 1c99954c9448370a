import Derived.Test.YtbnialhpflaoaaaDoorP2
namespace Go.Proofs.YtbnialhpflaoaaaDoor
open Go.RowKit
set_option linter.unusedVariables false
set_option linter.unusedSimpArgs false
theorem drew_below {w w' : World} (h : ∃ n, w' = w.drewN n) : Below w.heap.size w w' := by
  obtain ⟨n, rfl⟩ := h
  exact below_drewN (Below.refl _ _) _
theorem cmpN_ge {x y : Nat} (h : y ≤ x) : ∃ v : Int, cmpN x y = v ∧ decide (v < 0) = false := by
  rcases Nat.lt_or_eq_of_le h with h1 | h1
  · exact ⟨1, cmpN_gt h1, rfl⟩
  · subst h1
    exact ⟨0, cmpN_eq _, rfl⟩
def NsR (w : World) (X Y : List (BitVec 32)) (g cp : Nat) (c i : Value) (wr : World) : Prop := ∃ (p q : Nat) (Q : List (BitVec 32)), p ≤ X.length ∧ i = .int .i64 p ∧ c = .int .u64 q ∧ q ≤ 1 ∧
  Hid (Q.length = X.length ∧ valD (X.take p) + q * pw p = valD (Y.take p) + valD (Q.take p)) ∧
  wr.ownsRow w.heap.size 39 1 (.slice (some ⟨g, 0, none⟩) X.length cp) X.length (bv32 Q) ∧ Below w.heap.size w wr
theorem nsub_head (a b : Option Addr) (n c m d : Nat) (l k : List (BitVec 32)) (w : World) (hn : l.length = n) (hm : k.length = m) (hnc : n ≤ c) (hmd : m ≤ d) (hl : n ≤ 1000000) (hl2 : m ≤ 1000000) (hr : Rw w a l) (hs : Rw w b k) (hlt : valD l < valD k) :
    Calls Tryd.prog 25 #[.slice a n c, .slice b m d] w fun e w' => e = .returned (.tuple #[.slice none 0 0, .bool false]) ∧ Below w.heap.size w w' := by
  subst hn hm
  have f1 := trim_len_le l
  have f2 := trim_len_le k
  have hrt := hr.trim
  have hst := hs.trim
  have hcmp := Lib.hid (cmpN_lt hlt)
  rw [← valD_trim l, ← valD_trim k] at hcmp
  have T1 : ∀ W, Rw W a l → Calls Tryd.prog 43 #[.slice a l.length c] W fun e w' => e = .returned (.slice a (trimD l).length c) ∧ W = w' := fun W h => trim_any a _ c l W rfl hnc (by omega) h
  have T2 : ∀ W, Rw W b k → Calls Tryd.prog 43 #[.slice b k.length d] W fun e w' => e = .returned (.slice b (trimD k).length d) ∧ W = w' := fun W h => trim_any b _ d k W rfl hmd (by omega) h
  have H1 := Lib.hid (T1 w hr)
  have H2 := Lib.hid (T2 w hs)
  clear T1 T2 hr hs hlt
  generalize trimD l = lt at *
  generalize trimD k = kt at *
  go_enter Tryd.func25, Tryd.ntmps25
  go_wp2_with (first
    | (go_at_call 43; (with_reducible refine H1.out.mono ?_); rintro e w1 ⟨rfl, rfl⟩)
    | (go_at_call 43; (with_reducible refine H2.out.mono ?_); rintro e w1 ⟨rfl, rfl⟩)
    | (go_at_call 21; (with_reducible refine (ncmp_any a b _ c _ d lt kt _ rfl rfl (by omega) (by omega) (by omega) (by omega) hrt hst).mono ?_); rintro e wb ⟨rfl, hw1⟩; have hb0 := drew_below hw1; rw [hcmp.out]))
  go_ret2
  exact ⟨rfl, hb0⟩
set_option maxRecDepth 50000 in
set_option maxHeartbeats 2000000 in
theorem nsub_any (a b : Option Addr) (n c m d : Nat) (l k : List (BitVec 32)) (w : World) (hn : l.length = n) (hm : k.length = m) (hnc : n ≤ c) (hmd : m ≤ d) (hl : n ≤ 1000000) (hl2 : m ≤ 1000000) (hr : Rw w a l) (hs : Rw w b k) (hge : valD k ≤ valD l) :
    Calls Tryd.prog 25 #[.slice a n c, .slice b m d] w fun e w' => ∃ a2 c2, e = .returned (.tuple #[.slice a2 (canon (valD l - valD k)).length c2, .bool true]) ∧ (canon (valD l - valD k)).length ≤ c2 ∧ RwF w.heap.size w' a2 (canon (valD l - valD k)) ∧ Below w.heap.size w w' := by
  subst hn hm
  have f1 := trim_len_le l
  have f2 := trim_len_le k
  have hrt := hr.trim
  have hst := hs.trim
  have t2 : trimD (trimD k) = trimD k := by rw [← canon_val k, trim_canon]
  rw [← valD_trim l, ← valD_trim k] at hge ⊢
  have hkl : (trimD k).length ≤ (trimD l).length := by
    rcases Nat.lt_or_ge (trimD l).length (trimD k).length with h | h
    · have := valD_len_lt _ _ t2 h
      omega
    · exact h
  obtain ⟨cv, hcv, hcv2⟩ := cmpN_ge hge
  have hcmp := Lib.hid hcv
  clear hcv t2
  have T1 : ∀ W, Rw W a l → Calls Tryd.prog 43 #[.slice a l.length c] W fun e w' => e = .returned (.slice a (trimD l).length c) ∧ W = w' := fun W h => trim_any a _ c l W rfl hnc (by omega) h
  have T2 : ∀ W, Rw W b k → Calls Tryd.prog 43 #[.slice b k.length d] W fun e w' => e = .returned (.slice b (trimD k).length d) ∧ W = w' := fun W h => trim_any b _ d k W rfl hmd (by omega) h
  have H1 := Lib.hid (T1 w hr)
  have H2 := Lib.hid (T2 w hs)
  have HG := Lib.hid hge
  clear T1 T2 hr hs hge
  generalize trimD l = lt at *
  generalize trimD k = kt at *
  have hmk := run_make_row' (P := Tryd.prog) 22 39 (.int .u32 0) 4 Tryd.underlying22 info32 rfl .i64 .i64 lt.length (by omega) (by omega)
  go_enter Tryd.func25, Tryd.ntmps25
  go_wp2_with (first
    | (go_at_call 43; (with_reducible refine H1.out.mono ?_); rintro e w1 ⟨rfl, rfl⟩)
    | (go_at_call 43; (with_reducible refine H2.out.mono ?_); rintro e w1 ⟨rfl, rfl⟩)
    | (go_at_call 21; (with_reducible refine (ncmp_any a b _ c _ d lt kt _ rfl rfl (by omega) (by omega) (by omega) (by omega) hrt hst).mono ?_); rintro e wb ⟨rfl, hw1⟩; have hb0 := drew_below hw1; clear hw1; rw [hcmp.out]))
  have hrt2 := hrt.below hb0
  have hst2 := hst.below hb0
  go_loopw [7, 8, 23] (fun c _ i wr => NsR wb lt kt wb.heap.size lt.length c i wr) (fun _ _ i _ => lt.length - (intOf i).toNat)
  case atStart => exact ⟨0, 0, zer lt.length, Nat.zero_le _, rfl, rfl, by omega, ⟨by simp [zer], by simp [valD_nil]⟩, made32 wb _ (by omega), Below.alloc (Below.refl _ _) (Nat.le_refl _) _⟩
  case round =>
    obtain ⟨p, q, Q, hp, rfl, rfl, hq, ho, hown, hb⟩ := hrel
    have hrX := hrt2.below hb
    have hrY := hst2.below hb
    have hQl := ho.out.1
    by_cases hlt : p < lt.length
    · obtain ⟨ad, rfl, hc1⟩ := hrX p hlt
      have hpq : p < Q.length := by omega
      obtain ⟨z, hz⟩ : ∃ z, Q[p] = z := ⟨_, rfl⟩
      have hc3 := own_cell hown p (.int .u32 (z.toNat : Int)) (by simp [bv32, hpq, hz])
      have hf3 := hown.frozenAt p
      obtain ⟨x, hx⟩ : ∃ x, lt[p].toNat = x := ⟨_, rfl⟩
      have e1 := lt[p].isLt
      rw [hx] at hc1 e1
      have HX : Hid (digD lt p = x) := by show _ = _; rw [digD_in _ _ hlt, hx]
      have HQ := Lib.hid hpq
      clear hx hz hpq hQl
      by_cases hlt2 : p < kt.length
      · obtain ⟨bd, rfl, hc2⟩ := hrY p hlt2
        obtain ⟨y, hy⟩ : ∃ y, kt[p].toNat = y := ⟨_, rfl⟩
        have e2 := kt[p].isLt
        rw [hy] at hc2 e2
        have HY : Hid (digD kt p = y) := by show _ = _; rw [digD_in _ _ hlt2, hy]
        clear hy
        have hd : ∃ d1 d2 : Nat, IntKind.u64.wrap ((x : Int) - (q : Int)) = (d1 : Int) ∧ IntKind.u64.wrap ((d1 : Int) - (y : Int)) = (d2 : Int) ∧ d2 < 18446744073709551616 ∧ d2 / 9223372036854775808 ≤ 1 ∧ x + d2 / 9223372036854775808 * 4294967296 = y + q + d2 % 4294967296 := by
          have hxq : ∃ d1 : Nat, IntKind.u64.wrap ((x : Int) - (q : Int)) = (d1 : Int) ∧ ((d1 : Int) = (x : Int) - (q : Int) ∨ (d1 : Int) = (x : Int) - (q : Int) + 18446744073709551616 ∧ (x : Int) < q) ∧ d1 < 18446744073709551616 := by
            rw [IntKind.wrap_u64]
            refine ⟨(((x : Int) - (q : Int)) % 18446744073709551616).toNat, by omega, by omega, by omega⟩
          obtain ⟨d1, h1, h2, h3⟩ := hxq
          refine ⟨d1, (((d1 : Int) - (y : Int)) % 18446744073709551616).toNat, h1, ?_, by omega, by omega, by omega⟩
          rw [IntKind.wrap_u64]
          omega
        obtain ⟨d1, d2, w1, w2, hd3, hd4, hd5⟩ := hd
        have w3 : IntKind.u64.wrap (d1 : Int) = (d1 : Int) := by rw [← w1, IntKind.wrap_u64, IntKind.wrap_u64]; omega
        have HD := Lib.hid hd5
        clear hd5 w3
        go_wp2
        go_roundw
        case rel =>
          refine ⟨p + 1, d2 / 9223372036854775808, Q.set p (BitVec.ofNat 32 d2), by omega, by go_num, by go_num, hd4, ⟨?_, ?_⟩, ?_, ?_⟩
          · rw [List.length_set]; exact ho.out.1
          · rw [valD_set_take _ _ _ HQ.out, valD_dig, valD_dig, HX.out, HY.out, BitVec.toNat_ofNat, pw_succ]
            exact sub_num _ _ _ _ _ _ _ _ _ ho.out.2 HD.out
          · have := own_set hown p (.int .u32 ((d2 : Int) % 4294967296))
            rw [bv32_set]
            rw [show ((BitVec.ofNat 32 d2).toNat : Int) = (d2 : Int) % 4294967296 by rw [toNat32]]
            exact this
          · exact Below.setCell hb (p := ⟨wb.heap.size, p, none⟩) (Nat.le_refl _) _
        case measure => simp [intOf] <;> omega
      · have HY : Hid (digD kt p = 0) := digD_out _ _ (by omega)
        have h2 : decide ((p : Int) < (kt.length : Int)) = false := by rw [decide_eq_false_iff_not]; omega
        have hd : ∃ d1 d2 : Nat, IntKind.u64.wrap ((x : Int) - (q : Int)) = (d1 : Int) ∧ IntKind.u64.wrap ((d1 : Int) - (0 : Int)) = (d2 : Int) ∧ d2 < 18446744073709551616 ∧ d2 / 9223372036854775808 ≤ 1 ∧ x + d2 / 9223372036854775808 * 4294967296 = 0 + q + d2 % 4294967296 := by
          have hxq : ∃ d1 : Nat, IntKind.u64.wrap ((x : Int) - (q : Int)) = (d1 : Int) ∧ ((d1 : Int) = (x : Int) - (q : Int) ∨ (d1 : Int) = (x : Int) - (q : Int) + 18446744073709551616 ∧ (x : Int) < q) ∧ d1 < 18446744073709551616 := by
            rw [IntKind.wrap_u64]
            refine ⟨(((x : Int) - (q : Int)) % 18446744073709551616).toNat, by omega, by omega, by omega⟩
          obtain ⟨d1, h1, h2, h3⟩ := hxq
          refine ⟨d1, (((d1 : Int) - (0 : Int)) % 18446744073709551616).toNat, h1, ?_, by omega, by omega, by omega⟩
          rw [IntKind.wrap_u64]
          omega
        obtain ⟨d1, d2, w1, w2, hd3, hd4, hd5⟩ := hd
        have w3 : IntKind.u64.wrap (d1 : Int) = (d1 : Int) := by rw [← w1, IntKind.wrap_u64, IntKind.wrap_u64]; omega
        rw [show ((d1 : Int) - (0 : Int)) = (d1 : Int) by omega, w3] at w2
        have hdd : d1 = d2 := by omega
        subst hdd
        clear w2
        have HD := Lib.hid hd5
        clear hd5 w3
        go_wp2
        go_roundw
        case rel =>
          refine ⟨p + 1, d1 / 9223372036854775808, Q.set p (BitVec.ofNat 32 d1), by omega, by go_num, by go_num, hd4, ⟨?_, ?_⟩, ?_, ?_⟩
          · rw [List.length_set]; exact ho.out.1
          · rw [valD_set_take _ _ _ HQ.out, valD_dig, valD_dig, HX.out, HY.out, BitVec.toNat_ofNat, pw_succ]
            exact sub_num _ _ _ _ _ _ _ _ _ ho.out.2 HD.out
          · have := own_set hown p (.int .u32 ((d1 : Int) % 4294967296))
            rw [bv32_set]
            rw [show ((BitVec.ofNat 32 d1).toNat : Int) = (d1 : Int) % 4294967296 by rw [toNat32]]
            exact this
          · exact Below.setCell hb (p := ⟨wb.heap.size, p, none⟩) (Nat.le_refl _) _
        case measure => simp [intOf] <;> omega
    · obtain rfl : p = lt.length := by omega
      have hval : Hid (trimD Q = canon (valD lt - valD kt)) := by
        show _ = _
        rw [← canon_val]
        congr 1
        have h4 := ho.out.2
        rw [List.take_length, List.take_of_length_le (l := kt) (by omega), List.take_of_length_le (l := Q) (by omega)] at h4
        have h5 := valD_lt Q
        rw [hQl] at h5
        have h6 := HG.out
        rcases Nat.eq_zero_or_pos q with h7 | h7
        · rw [h7] at h4; omega
        · have h8 : pw lt.length ≤ q * pw lt.length := Nat.le_mul_of_pos_left _ h7
          omega
      have hF := RwF.of_own hown
      have hF1 := hF.1
      have HL := Lib.hid hQl
      clear hQl
      go_wp2_with (go_at_call 43; (with_reducible refine (trim_any _ _ _ Q _ HL.out (Nat.le_refl _) (by have := HL.out; omega) hF1).mono ?_); rintro e wz ⟨rfl, rfl⟩; rw [hval.out])
      go_ret2
      have h5 := hF.take (trimD Q).length
      rw [← trim_prefix, hval.out] at h5
      refine ⟨_, _, rfl, ?_, h5.mono hb0.size, hb0.trans (hb.mono hb0.size)⟩
      have := trim_len_le Q
      rw [hval.out, HL.out] at this
      exact this
end Go.Proofs.YtbnialhpflaoaaaDoor
