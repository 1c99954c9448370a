import Derived.Test.YtbnialhpflaoaaaDoorP1
import Derived.Test.YtbnialhpflaoaaaDoorFr
namespace Go.Proofs.YtbnialhpflaoaaaDoor
open Go.RowKit
set_option linter.unusedVariables false
set_option linter.unusedSimpArgs false
theorem take_set32 (Q : List (BitVec 32)) (p : Nat) (d : BitVec 32) (h : p < Q.length) : (Q.set p d).take (p + 1) = Q.take p ++ [d] := by
  rw [List.take_succ_eq_append_getElem (by rw [List.length_set]; exact h), List.getElem_set_self, List.take_set_of_le (Nat.le_refl _)]
theorem valD_set_take (Q : List (BitVec 32)) (p : Nat) (d : BitVec 32) (h : p < Q.length) : valD ((Q.set p d).take (p + 1)) = valD (Q.take p) + pw p * d.toNat := by
  rw [take_set32 Q p d h, valD_snoc, List.length_take, Nat.min_eq_left (Nat.le_of_lt h)]
def NaR (w : World) (X Y : List (BitVec 32)) (g cp : Nat) (c i : Value) (wr : World) : Prop := ∃ (p q : Nat) (Q : List (BitVec 32)), p ≤ X.length ∧ i = .int .i64 p ∧ c = .int .u64 q ∧ q < 4294967296 ∧
  Hid (Q.length = X.length + 1 ∧ valD (X.take p) + valD (Y.take p) = valD (Q.take p) + q * pw p) ∧
  wr.ownsRow w.heap.size 39 1 (.slice (some ⟨g, 0, none⟩) (X.length + 1) cp) (X.length + 1) (bv32 Q) ∧ Below w.heap.size w wr
set_option maxRecDepth 50000 in
set_option maxHeartbeats 2000000 in
theorem nadd_any (a b : Option Addr) (n c m d : Nat) (l k : List (BitVec 32)) (w : World) (hn : l.length = n) (hm : k.length = m) (hnc : n ≤ c) (hmd : m ≤ d) (hl : n ≤ 1000000) (hl2 : m ≤ 1000000) (hr : Rw w a l) (hs : Rw w b k) :
    Calls Tryd.prog 27 #[.slice a n c, .slice b m d] w (FrR w (canon (valD l + valD k))) := by
  subst hn hm
  have f1 := trim_len_le l
  have f2 := trim_len_le k
  have hrt := hr.trim
  have hst := hs.trim
  rw [← valD_trim l, ← valD_trim k]
  have T1 : ∀ W, Rw W a l → Calls Tryd.prog 43 #[.slice a l.length c] W fun e w' => e = .returned (.slice a (trimD l).length c) ∧ W = w' := fun W h => trim_any a _ c l W rfl hnc (by omega) h
  have T2 : ∀ W, Rw W b k → Calls Tryd.prog 43 #[.slice b k.length d] W fun e w' => e = .returned (.slice b (trimD k).length d) ∧ W = w' := fun W h => trim_any b _ d k W rfl hmd (by omega) h
  have H1 := Lib.hid (T1 w hr)
  have H2 := Lib.hid (T2 w hs)
  clear T1 T2 hr hs
  generalize trimD l = lt at *
  generalize trimD k = kt at *
  by_cases hsw : lt.length < kt.length
  · have hsw1 : decide ((lt.length : Int) < (kt.length : Int)) = true := by rw [decide_eq_true_iff]; omega
    rw [Nat.add_comm (valD lt)]
    have hmk := run_make_row' (P := Tryd.prog) 22 39 (.int .u32 0) 4 Tryd.underlying22 info32 rfl .i64 .i64 (kt.length + 1) (by omega) (by omega)
    have hcast : ((kt.length + 1 : Nat) : Int) = (kt.length : Int) + 1 := by omega
    rw [hcast] at hmk
    clear hcast
    go_enter Tryd.func27, Tryd.ntmps27
    go_wp2_with (first
      | (go_at_call 43; (with_reducible refine H1.out.mono ?_); rintro e w1 ⟨rfl, rfl⟩)
      | (go_at_call 43; (with_reducible refine H2.out.mono ?_); rintro e w1 ⟨rfl, rfl⟩))
    go_loopw [6, 7, 25] (fun c _ i wr => NaR w kt lt w.heap.size (kt.length + 1) c i wr) (fun _ _ i _ => kt.length - (intOf i).toNat)
    case atStart => exact ⟨0, 0, zer (kt.length + 1), Nat.zero_le _, rfl, rfl, by omega, ⟨by simp [zer], by simp [valD_nil]⟩, made32 w _ (by omega), Below.alloc (Below.refl _ _) (Nat.le_refl _) _⟩
    case round =>
      obtain ⟨p, q, Q, hp, rfl, rfl, hq, ho, hown, hb⟩ := hrel
      have hrX := hst.below hb
      have hrY := hrt.below hb
      have hQl := ho.out.1
      by_cases hlt : p < kt.length
      · obtain ⟨ad, rfl, hc1⟩ := hrX p hlt
        have hpq : p < Q.length := by omega
        obtain ⟨z, hz⟩ : ∃ z, Q[p] = z := ⟨_, rfl⟩
        have hc3 := own_cell hown p (.int .u32 (z.toNat : Int)) (by simp [bv32, hpq, hz])
        have hf3 := hown.frozenAt p
        obtain ⟨x, hx⟩ : ∃ x, kt[p].toNat = x := ⟨_, rfl⟩
        have e1 := kt[p].isLt
        rw [hx] at hc1 e1
        have HX : Hid (digD kt p = x) := by show _ = _; rw [digD_in _ _ hlt, hx]
        have HQ := Lib.hid hpq
        clear hx hz hpq hQl
        by_cases hlt2 : p < lt.length
        · obtain ⟨bd, rfl, hc2⟩ := hrY p hlt2
          obtain ⟨y, hy⟩ : ∃ y, lt[p].toNat = y := ⟨_, rfl⟩
          have e2 := lt[p].isLt
          rw [hy] at hc2 e2
          have HY : Hid (digD lt p = y) := by show _ = _; rw [digD_in _ _ hlt2, hy]
          clear hy
          go_wp2
          go_roundw
          case rel =>
            refine ⟨p + 1, (x + y + q) / 4294967296, Q.set p (BitVec.ofNat 32 (x + y + q)), by omega, by go_num, by go_num, by omega, ⟨?_, ?_⟩, ?_, ?_⟩
            · rw [List.length_set]; exact ho.out.1
            · rw [valD_set_take _ _ _ HQ.out, valD_dig, valD_dig, HX.out, HY.out, BitVec.toNat_ofNat, pw_succ]
              exact add_num _ _ _ _ _ _ _ ho.out.2
            · have := own_set hown p (.int .u32 (((q : Int) + (x : Int) + (y : Int)) % 4294967296))
              rw [bv32_set]
              rw [show ((BitVec.ofNat 32 (x + y + q)).toNat : Int) = ((q : Int) + (x : Int) + (y : Int)) % 4294967296 by rw [toNat32]; omega]
              exact this
            · exact Below.setCell hb (p := ⟨w.heap.size, p, none⟩) (Nat.le_refl _) _
          case measure => simp [intOf] <;> omega
        · have HY : Hid (digD lt p = 0) := digD_out _ _ (by omega)
          have h2 : decide ((p : Int) < (lt.length : Int)) = false := by rw [decide_eq_false_iff_not]; omega
          go_wp2
          go_roundw
          case rel =>
            refine ⟨p + 1, (x + 0 + q) / 4294967296, Q.set p (BitVec.ofNat 32 (x + 0 + q)), by omega, by go_num, by go_num, by omega, ⟨?_, ?_⟩, ?_, ?_⟩
            · rw [List.length_set]; exact ho.out.1
            · rw [valD_set_take _ _ _ HQ.out, valD_dig, valD_dig, HX.out, HY.out, BitVec.toNat_ofNat, pw_succ]
              exact add_num _ _ _ _ _ _ _ ho.out.2
            · have := own_set hown p (.int .u32 (((q : Int) + (x : Int)) % 4294967296))
              rw [bv32_set]
              rw [show ((BitVec.ofNat 32 (x + 0 + q)).toNat : Int) = ((q : Int) + (x : Int)) % 4294967296 by rw [toNat32]; omega]
              exact this
            · exact Below.setCell hb (p := ⟨w.heap.size, p, none⟩) (Nat.le_refl _) _
          case measure => simp [intOf] <;> omega
      · obtain rfl : p = kt.length := by omega
        have hpq : kt.length < Q.length := by omega
        obtain ⟨z, hz⟩ : ∃ z, Q[kt.length] = z := ⟨_, rfl⟩
        have hc3 := own_cell hown kt.length (.int .u32 (z.toNat : Int)) (by simp [bv32, hpq, hz])
        have hf3 := hown.frozenAt kt.length
        have hown2 := own_set hown kt.length (.int .u32 (q : Int))
        rw [show (Value.int .u32 (q : Int)) = .int .u32 ((BitVec.ofNat 32 q).toNat : Int) by rw [toNat32]; congr 1; omega, ← bv32_set] at hown2
        have hQ2 : Hid ((Q.set kt.length (BitVec.ofNat 32 q)).length = kt.length + 1 ∧ trimD (Q.set kt.length (BitVec.ofNat 32 q)) = canon (valD kt + valD lt)) := by
          refine ⟨by rw [List.length_set]; exact ho.out.1, ?_⟩
          rw [← canon_val]
          congr 1
          have h3 := valD_set_take Q kt.length (BitVec.ofNat 32 q) hpq
          have h4 := ho.out.2
          rw [List.take_of_length_le (by rw [List.length_set]; omega)] at h3
          rw [List.take_length, List.take_of_length_le (l := lt) (by omega)] at h4
          rw [h3, h4, BitVec.toNat_ofNat, Nat.mod_eq_of_lt hq, Nat.mul_comm]
        have hb2 := Below.setCell hb (p := ⟨w.heap.size, kt.length, none⟩) (Nat.le_refl _) (.int .u32 ((BitVec.ofNat 32 q).toNat : Int))
        have hv : (Value.int .u32 ((BitVec.ofNat 32 q).toNat : Int)) = .int .u32 (q : Int) := by rw [toNat32]; congr 1; omega
        have hF := RwF.of_own hown2
        rw [hv] at hown2 hb2 hF
        have hL := hQ2.out.1
        generalize Q.set kt.length (BitVec.ofNat 32 q) = Q2 at *
        clear hz hpq hv
        have hF1 := hF.1
        have HL := Lib.hid hL
        clear hL hQl
        go_wp2_with (go_at_call 43; (with_reducible refine (trim_any _ _ _ Q2 _ HL.out (Nat.le_refl _) (by have := HL.out; omega) hF1).mono ?_); rintro e w2 ⟨rfl, rfl⟩; rw [hQ2.out.2])
        go_ret
        have h5 := hF.take (trimD Q2).length
        rw [← trim_prefix, hQ2.out.2] at h5
        refine ⟨_, _, rfl, ?_, h5, hb2⟩
        have := trim_len_le Q2
        rw [hQ2.out.2, HL.out] at this
        exact this
  · have hsw1 : decide ((lt.length : Int) < (kt.length : Int)) = false := by rw [decide_eq_false_iff_not]; omega
    have hsw2 : decide (lt.length < kt.length) = false := by rw [decide_eq_false_iff_not]; omega
    have hmk := run_make_row' (P := Tryd.prog) 22 39 (.int .u32 0) 4 Tryd.underlying22 info32 rfl .i64 .i64 (lt.length + 1) (by omega) (by omega)
    have hcast : ((lt.length + 1 : Nat) : Int) = (lt.length : Int) + 1 := by omega
    rw [hcast] at hmk
    clear hcast
    go_enter Tryd.func27, Tryd.ntmps27
    go_wp2_with (first
      | (go_at_call 43; (with_reducible refine H1.out.mono ?_); rintro e w1 ⟨rfl, rfl⟩)
      | (go_at_call 43; (with_reducible refine H2.out.mono ?_); rintro e w1 ⟨rfl, rfl⟩))
    go_loopw [6, 7, 25] (fun c _ i wr => NaR w lt kt w.heap.size (lt.length + 1) c i wr) (fun _ _ i _ => lt.length - (intOf i).toNat)
    case atStart => exact ⟨0, 0, zer (lt.length + 1), Nat.zero_le _, rfl, rfl, by omega, ⟨by simp [zer], by simp [valD_nil]⟩, made32 w _ (by omega), Below.alloc (Below.refl _ _) (Nat.le_refl _) _⟩
    case round =>
      obtain ⟨p, q, Q, hp, rfl, rfl, hq, ho, hown, hb⟩ := hrel
      have hrX := hrt.below hb
      have hrY := hst.below hb
      have hQl := ho.out.1
      by_cases hlt : p < lt.length
      · obtain ⟨ad, rfl, hc1⟩ := hrX p hlt
        have hpq : p < Q.length := by omega
        obtain ⟨z, hz⟩ : ∃ z, Q[p] = z := ⟨_, rfl⟩
        have hc3 := own_cell hown p (.int .u32 (z.toNat : Int)) (by simp [bv32, hpq, hz])
        have hf3 := hown.frozenAt p
        obtain ⟨x, hx⟩ : ∃ x, lt[p].toNat = x := ⟨_, rfl⟩
        have e1 := lt[p].isLt
        rw [hx] at hc1 e1
        have HX : Hid (digD lt p = x) := by show _ = _; rw [digD_in _ _ hlt, hx]
        have HQ := Lib.hid hpq
        clear hx hz hpq hQl
        by_cases hlt2 : p < kt.length
        · obtain ⟨bd, rfl, hc2⟩ := hrY p hlt2
          obtain ⟨y, hy⟩ : ∃ y, kt[p].toNat = y := ⟨_, rfl⟩
          have e2 := kt[p].isLt
          rw [hy] at hc2 e2
          have HY : Hid (digD kt p = y) := by show _ = _; rw [digD_in _ _ hlt2, hy]
          clear hy
          go_wp2
          go_roundw
          case rel =>
            refine ⟨p + 1, (x + y + q) / 4294967296, Q.set p (BitVec.ofNat 32 (x + y + q)), by omega, by go_num, by go_num, by omega, ⟨?_, ?_⟩, ?_, ?_⟩
            · rw [List.length_set]; exact ho.out.1
            · rw [valD_set_take _ _ _ HQ.out, valD_dig, valD_dig, HX.out, HY.out, BitVec.toNat_ofNat, pw_succ]
              exact add_num _ _ _ _ _ _ _ ho.out.2
            · have := own_set hown p (.int .u32 (((q : Int) + (x : Int) + (y : Int)) % 4294967296))
              rw [bv32_set]
              rw [show ((BitVec.ofNat 32 (x + y + q)).toNat : Int) = ((q : Int) + (x : Int) + (y : Int)) % 4294967296 by rw [toNat32]; omega]
              exact this
            · exact Below.setCell hb (p := ⟨w.heap.size, p, none⟩) (Nat.le_refl _) _
          case measure => simp [intOf] <;> omega
        · have HY : Hid (digD kt p = 0) := digD_out _ _ (by omega)
          have h2 : decide ((p : Int) < (kt.length : Int)) = false := by rw [decide_eq_false_iff_not]; omega
          go_wp2
          go_roundw
          case rel =>
            refine ⟨p + 1, (x + 0 + q) / 4294967296, Q.set p (BitVec.ofNat 32 (x + 0 + q)), by omega, by go_num, by go_num, by omega, ⟨?_, ?_⟩, ?_, ?_⟩
            · rw [List.length_set]; exact ho.out.1
            · rw [valD_set_take _ _ _ HQ.out, valD_dig, valD_dig, HX.out, HY.out, BitVec.toNat_ofNat, pw_succ]
              exact add_num _ _ _ _ _ _ _ ho.out.2
            · have := own_set hown p (.int .u32 (((q : Int) + (x : Int)) % 4294967296))
              rw [bv32_set]
              rw [show ((BitVec.ofNat 32 (x + 0 + q)).toNat : Int) = ((q : Int) + (x : Int)) % 4294967296 by rw [toNat32]; omega]
              exact this
            · exact Below.setCell hb (p := ⟨w.heap.size, p, none⟩) (Nat.le_refl _) _
          case measure => simp [intOf] <;> omega
      · obtain rfl : p = lt.length := by omega
        have hpq : lt.length < Q.length := by omega
        obtain ⟨z, hz⟩ : ∃ z, Q[lt.length] = z := ⟨_, rfl⟩
        have hc3 := own_cell hown lt.length (.int .u32 (z.toNat : Int)) (by simp [bv32, hpq, hz])
        have hf3 := hown.frozenAt lt.length
        have hown2 := own_set hown lt.length (.int .u32 (q : Int))
        rw [show (Value.int .u32 (q : Int)) = .int .u32 ((BitVec.ofNat 32 q).toNat : Int) by rw [toNat32]; congr 1; omega, ← bv32_set] at hown2
        have hQ2 : Hid ((Q.set lt.length (BitVec.ofNat 32 q)).length = lt.length + 1 ∧ trimD (Q.set lt.length (BitVec.ofNat 32 q)) = canon (valD lt + valD kt)) := by
          refine ⟨by rw [List.length_set]; exact ho.out.1, ?_⟩
          rw [← canon_val]
          congr 1
          have h3 := valD_set_take Q lt.length (BitVec.ofNat 32 q) hpq
          have h4 := ho.out.2
          rw [List.take_of_length_le (by rw [List.length_set]; omega)] at h3
          rw [List.take_length, List.take_of_length_le (l := kt) (by omega)] at h4
          rw [h3, h4, BitVec.toNat_ofNat, Nat.mod_eq_of_lt hq, Nat.mul_comm]
        have hb2 := Below.setCell hb (p := ⟨w.heap.size, lt.length, none⟩) (Nat.le_refl _) (.int .u32 ((BitVec.ofNat 32 q).toNat : Int))
        have hv : (Value.int .u32 ((BitVec.ofNat 32 q).toNat : Int)) = .int .u32 (q : Int) := by rw [toNat32]; congr 1; omega
        have hF := RwF.of_own hown2
        rw [hv] at hown2 hb2 hF
        have hL := hQ2.out.1
        generalize Q.set lt.length (BitVec.ofNat 32 q) = Q2 at *
        clear hz hpq hv
        have hF1 := hF.1
        have HL := Lib.hid hL
        clear hL hQl
        go_wp2_with (go_at_call 43; (with_reducible refine (trim_any _ _ _ Q2 _ HL.out (Nat.le_refl _) (by have := HL.out; omega) hF1).mono ?_); rintro e w2 ⟨rfl, rfl⟩; rw [hQ2.out.2])
        go_ret
        have h5 := hF.take (trimD Q2).length
        rw [← trim_prefix, hQ2.out.2] at h5
        refine ⟨_, _, rfl, ?_, h5, hb2⟩
        have := trim_len_le Q2
        rw [hQ2.out.2, HL.out] at this
        exact this
end Go.Proofs.YtbnialhpflaoaaaDoor
