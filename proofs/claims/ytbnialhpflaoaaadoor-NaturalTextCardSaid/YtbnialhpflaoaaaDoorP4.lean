import Derived.Test.YtbnialhpflaoaaaDoorP3
namespace Go.Proofs.YtbnialhpflaoaaaDoor
open Go.RowKit
set_option linter.unusedVariables false
set_option linter.unusedSimpArgs false
def NmIn (w : World) (l k : List (BitVec 32)) (i : Nat) (g cp : Nat) (c j : Value) (wr : World) : Prop := ∃ (m q : Nat) (Q : List (BitVec 32)), m ≤ k.length ∧ j = .int .i64 m ∧ c = .int .u64 q ∧ q < 4294967296 ∧
  Hid (Q.length = l.length + k.length ∧ valD Q + q * pw (i + m) = valD (l.take i) * valD k + digD l i * valD (k.take m) * pw i ∧ ∀ z, i + k.length ≤ z → z < Q.length → Q[z]? = some 0#32) ∧
  wr.ownsRow w.heap.size 39 1 (.slice (some ⟨g, 0, none⟩) (l.length + k.length) cp) (l.length + k.length) (bv32 Q) ∧ Below w.heap.size w wr
def NmOut (w : World) (l k : List (BitVec 32)) (g cp : Nat) (i : Value) (wr : World) : Prop := ∃ (m : Nat) (Q : List (BitVec 32)), m ≤ l.length ∧ i = .int .i64 m ∧
  Hid (Q.length = l.length + k.length ∧ valD Q = valD (l.take m) * valD k ∧ ∀ z, m + k.length ≤ z → z < Q.length → Q[z]? = some 0#32) ∧
  wr.ownsRow w.heap.size 39 1 (.slice (some ⟨g, 0, none⟩) (l.length + k.length) cp) (l.length + k.length) (bv32 Q) ∧ Below w.heap.size w wr
set_option maxRecDepth 50000 in
set_option maxHeartbeats 2000000 in
theorem nmul_any (a b : Option Addr) (n c m d : Nat) (l k : List (BitVec 32)) (w : World) (hn : l.length = n) (hm : k.length = m) (hnc : n ≤ c) (hmd : m ≤ d) (hl : n ≤ 1000000) (hl2 : m ≤ 1000000) (hr : Rw w a l) (hs : Rw w b k) :
    Calls Tryd.prog 29 #[.slice a n c, .slice b m d] w (FrR w (canon (valD l * valD k))) := by
  subst hn hm
  have f1 := trim_len_le l
  have f2 := trim_len_le k
  have hrt := hr.trim
  have hst := hs.trim
  rw [← valD_trim l, ← valD_trim k]
  have T1 : ∀ W, Rw W a l → Calls Tryd.prog 43 #[.slice a l.length c] W fun e w' => e = .returned (.slice a (trimD l).length c) ∧ W = w' := fun W h => trim_any a _ c l W rfl hnc (by omega) h
  have T2 : ∀ W, Rw W b k → Calls Tryd.prog 43 #[.slice b k.length d] W fun e w' => e = .returned (.slice b (trimD k).length d) ∧ W = w' := fun W h => trim_any b _ d k W rfl hmd (by omega) h
  have H1 := Lib.hid (T1 w hr)
  have H2 := Lib.hid (T2 w hs)
  clear T1 T2 hr hs
  generalize trimD l = lt at *
  generalize trimD k = kt at *
  by_cases hz1 : lt.length = 0
  · have e1 : canon (valD lt * valD kt) = [] := by rw [List.length_eq_zero_iff.1 hz1, valD_nil, Nat.zero_mul, canon_zero]
    have HE := Lib.hid e1
    have HZ := Lib.hid hz1
    rw [hz1] at H1
    clear e1 hz1
    go_enter Tryd.func29, Tryd.ntmps29
    go_wp2
    go_step3
    go_wp2_with (first
      | (go_at_call 43; (with_reducible refine H1.out.mono ?_); rintro e w1 ⟨rfl, rfl⟩)
      | (go_at_call 43; (with_reducible refine H2.out.mono ?_); rintro e w1 ⟨rfl, rfl⟩))
    (try rw [Exit.noGoto_ret])
    go_ret
    rw [HE.out]
    exact ⟨none, 0, rfl, Nat.le_refl _, ⟨Rw.nil _ _, fun ad h => by cases h⟩, Below.refl _ _⟩
  by_cases hz2 : kt.length = 0
  · have e1 : canon (valD lt * valD kt) = [] := by rw [List.length_eq_zero_iff.1 hz2, valD_nil, Nat.mul_zero, canon_zero]
    have HE := Lib.hid e1
    have hz3 : ((lt.length : Int) == 0) = false := by rw [beq_eq_false_iff_ne]; omega
    rw [hz2] at H2
    clear e1 hz2
    go_enter Tryd.func29, Tryd.ntmps29
    go_wp2
    go_step3
    go_wp2_with (first
      | (go_at_call 43; (with_reducible refine H1.out.mono ?_); rintro e w1 ⟨rfl, rfl⟩)
      | (go_at_call 43; (with_reducible refine H2.out.mono ?_); rintro e w1 ⟨rfl, rfl⟩))
    (try rw [Exit.noGoto_ret])
    go_ret
    rw [HE.out]
    exact ⟨none, 0, rfl, Nat.le_refl _, ⟨Rw.nil _ _, fun ad h => by cases h⟩, Below.refl _ _⟩
  have hz3 : ((lt.length : Int) == 0) = false := by rw [beq_eq_false_iff_ne]; omega
  have hz4 : ((kt.length : Int) == 0) = false := by rw [beq_eq_false_iff_ne]; omega
  have hmk := run_make_row' (P := Tryd.prog) 22 39 (.int .u32 0) 4 Tryd.underlying22 info32 rfl .i64 .i64 (lt.length + kt.length) (by omega) (by omega)
  have hcast : ((lt.length + kt.length : Nat) : Int) = (lt.length : Int) + (kt.length : Int) := by omega
  rw [hcast] at hmk
  clear hcast
  go_enter Tryd.func29, Tryd.ntmps29
  go_wp2
  go_step3
  go_wp2_with (first
      | (go_at_call 43; (with_reducible refine H1.out.mono ?_); rintro e w1 ⟨rfl, rfl⟩)
      | (go_at_call 43; (with_reducible refine H2.out.mono ?_); rintro e w1 ⟨rfl, rfl⟩))
  go_step3
  go_wp2
  go_loopw [6, 7, 8, 9, 30, 42] (fun _ _ _ _ i _ wr => NmOut w lt kt w.heap.size (lt.length + kt.length) i wr) (fun _ _ _ _ i _ _ => lt.length - (intOf i).toNat)
  case atStart =>
    refine ⟨0, zer (lt.length + kt.length), Nat.zero_le _, rfl, ⟨by simp [zer], by simp [zer, valD_zeros, valD_nil], ?_⟩, made32 w _ (by omega), Below.alloc (Below.refl _ _) (Nat.le_refl _) _⟩
    intro z _ hz
    rw [zer, List.getElem?_replicate, if_pos (by simpa [zer] using hz)]
  case round =>
    obtain ⟨i, Q, hi, rfl, hq, hown, hb⟩ := hrel
    by_cases hlt : i < lt.length
    · obtain ⟨x, hx⟩ : ∃ x, lt[i].toNat = x := ⟨_, rfl⟩
      have HXD : Hid (digD lt i = x) := by show _ = _; rw [digD_in _ _ hlt, hx]
      have e1 := lt[i].isLt
      rw [hx] at e1
      obtain ⟨ad, rfl, hc0⟩ := hrt.below hb i hlt
      rw [hx] at hc0
      clear hx
      by_cases hx0 : x = 0
      · subst hx0
        go_wp2
        go_roundw
        case rel =>
          refine ⟨i + 1, Q, by omega, by go_num, ⟨hq.out.1, ?_, fun z h1 h2 => hq.out.2.2 z (by omega) h2⟩, hown, hb⟩
          rw [hq.out.2.1, valD_dig, HXD.out, Nat.mul_zero, Nat.add_zero]
        case measure => simp [intOf] <;> omega
      · have hxb : ((x : Int) == 0) = false := by rw [beq_eq_false_iff_ne]; omega
        go_wp2
        go_loopw [8, 9, 42] (fun c _ j wr => NmIn w lt kt i w.heap.size (lt.length + kt.length) c j wr) (fun _ _ j _ => kt.length - (intOf j).toNat)
        case atStart => exact ⟨0, 0, Q, Nat.zero_le _, rfl, rfl, by omega, ⟨hq.out.1, by rw [hq.out.2.1]; simp [valD_nil], hq.out.2.2⟩, hown, hb⟩
        case round =>
          obtain ⟨j, q, Q2, hj, rfl, rfl, hq2, ho, hown2, hb2⟩ := hrel
          have hsb := hst.below hb2
          have hQl := ho.out.1
          by_cases hlt2 : j < kt.length
          · obtain ⟨bd, rfl, hc2⟩ := hsb j hlt2
            have hjq : i + j < Q2.length := by omega
            obtain ⟨z, hz⟩ : ∃ z, Q2[i + j] = z := ⟨_, rfl⟩
            have hc3 := own_cell hown2 (i + j) (.int .u32 (z.toNat : Int)) (by simp [bv32, hjq, hz])
            have hf3 := hown2.frozenAt (i + j)
            have e3 := z.isLt
            obtain ⟨y, hy⟩ : ∃ y, kt[j].toNat = y := ⟨_, rfl⟩
            have e2 := kt[j].isLt
            rw [hy] at hc2 e2
            have e4 := mul_lt32 e1 e2
            obtain ⟨s, hs2⟩ : ∃ s, x * y = s := ⟨_, rfl⟩
            have hsi : (x : Int) * (y : Int) = (s : Int) := by rw [← hs2]; simp
            rw [hs2] at e4
            have HF := Lib.hid (show y = kt[j].toNat ∧ x * y = s ∧ Q2[i + j]? = some z from ⟨hy.symm, hs2, by rw [List.getElem?_eq_getElem hjq, hz]⟩)
            clear hy hs2 hz
            have HQ := Lib.hid hQl
            clear hQl hjq
            have w1 : IntKind.i64.wrap ((i : Int) + (j : Int)) = (i : Int) + (j : Int) := IntWalk.i64_in _ (by omega)
            have w2 : IntKind.u64.wrap ((s : Int) + (z.toNat : Int)) = (s : Int) + (z.toNat : Int) := IntWalk.u64_in _ (by omega)
            have w3 : IntKind.u64.wrap ((q : Int) + ((s : Int) + (z.toNat : Int))) = (q : Int) + ((s : Int) + (z.toNat : Int)) := IntWalk.u64_in _ (by omega)
            have w4 : IntKind.u64.wrap (s : Int) = (s : Int) := IntWalk.u64_in _ (by omega)
            go_wp2
            go_quiet (fail)
            clear w1 w2 w3 w4
            go_wp2
            go_roundw
            case rel =>
              have hlen : i + j < Q2.length := by have := HQ.out; omega
              refine ⟨j + 1, (s + z.toNat + q) / 4294967296, Q2.set (i + j) (BitVec.ofNat 32 (s + z.toNat + q)), by omega, by go_num, by go_num, by omega, ⟨?_, ?_, ?_⟩, ?_, ?_⟩
              · rw [List.length_set]; exact HQ.out
              · have hv := valD_set Q2 (i + j) (BitVec.ofNat 32 (s + z.toNat + q)) hlen
                have hz2 := HF.out.2.2
                rw [List.getElem?_eq_getElem hlen] at hz2
                rw [Option.some.inj hz2, BitVec.toNat_ofNat] at hv
                rw [show i + (j + 1) = (i + j) + 1 by omega, pw_succ, valD_take _ _ hlt2]
                have h0 := ho.out.2.1
                rw [HXD.out] at h0 ⊢
                exact mul_num _ _ _ _ _ x 4294967296 _ _ _ _ _ _ _ hv h0 (pw_add _ _) (by rw [← HF.out.1, HF.out.2.1])
              · intro z2 h1 h2
                rw [List.length_set] at h2
                rw [List.getElem?_set_ne (by omega)]
                exact ho.out.2.2 z2 h1 h2
              · rw [bv32_set]
                rw [show ((BitVec.ofNat 32 (s + z.toNat + q)).toNat : Int) = ((q : Int) + ((s : Int) + (z.toNat : Int))) % 4294967296 by rw [toNat32]; omega]
                exact own_set (w := wr.drewN _) hown2 _ _
              · exact Below.setCell (below_drewN hb2 _) (p := ⟨w.heap.size, i + j, none⟩) (Nat.le_refl _) _
            case measure => simp [intOf] <;> omega
          · have hjk : j = kt.length := by omega
            subst hjk
            have hz0 := ho.out.2.2 (i + kt.length) (Nat.le_refl _) (by omega)
            have hc3 := own_cell hown2 (i + kt.length) (.int .u32 0) (by rw [bv32, List.getElem?_map, hz0]; rfl)
            have hf3 := hown2.frozenAt (i + kt.length)
            have HQ := Lib.hid hQl
            have HZ := Lib.hid hz0
            clear hQl hz0
            go_wp2
            go_roundw
            case rel =>
              have hlen : i + kt.length < Q2.length := by have := HQ.out; omega
              refine ⟨i + 1, Q2.set (i + kt.length) (BitVec.ofNat 32 q), by omega, by go_num, ⟨?_, ?_, ?_⟩, ?_, ?_⟩
              · rw [List.length_set]; exact HQ.out
              · have hv := valD_set Q2 (i + kt.length) (BitVec.ofNat 32 q) hlen
                have hz2 := HZ.out
                rw [List.getElem?_eq_getElem hlen] at hz2
                have e0 : (BitVec.ofNat 32 q).toNat = q := by rw [BitVec.toNat_ofNat]; omega
                have e00 : (0#32).toNat = 0 := rfl
                rw [Option.some.inj hz2, e0, e00, Nat.mul_zero, Nat.add_zero] at hv
                have h4 := ho.out.2.1
                rw [List.take_length] at h4
                rw [valD_dig, Nat.add_mul]
                grind
              · intro z2 h1 h2
                rw [List.length_set] at h2
                rw [List.getElem?_set_ne (by omega)]
                exact ho.out.2.2 z2 (by omega) h2
              · have := own_set hown2 (i + kt.length) (.int .u32 (q : Int))
                rw [bv32_set]
                rw [show ((BitVec.ofNat 32 q).toNat : Int) = (q : Int) by rw [toNat32]; omega]
                exact this
              · exact Below.setCell hb2 (p := ⟨w.heap.size, i + kt.length, none⟩) (Nat.le_refl _) _
            case measure => simp [intOf] <;> omega
    · obtain rfl : i = lt.length := by omega
      have hval : Hid (trimD Q = canon (valD lt * valD kt)) := by
        show _ = _
        rw [← canon_val, hq.out.2.1, List.take_length]
      have hF := RwF.of_own hown
      have hF1 := hF.1
      have HL := Lib.hid hq.out.1
      go_wp2_with (go_at_call 43; (with_reducible refine (trim_any _ _ _ Q _ HL.out (Nat.le_refl _) (by have := HL.out; omega) hF1).mono ?_); rintro e wz ⟨rfl, rfl⟩; rw [hval.out])
      (try rw [Exit.noGoto_ret])
      go_ret
      have h5 := hF.take (trimD Q).length
      rw [← trim_prefix, hval.out] at h5
      refine ⟨_, _, rfl, ?_, h5, hb⟩
      have := trim_len_le Q
      rw [hval.out, HL.out] at this
      exact this
end Go.Proofs.YtbnialhpflaoaaaDoor
