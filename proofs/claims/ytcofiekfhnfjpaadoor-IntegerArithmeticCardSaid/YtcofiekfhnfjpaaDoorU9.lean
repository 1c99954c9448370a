
import Derived.Test.YtcofiekfhnfjpaaDoorU8
/- PP -/
namespace Go.Proofs.YtcofiekfhnfjpaaDoor
open Go.RowKit
set_option linter.unusedVariables false
set_option linter.unusedSimpArgs false
theorem str_drop {S : ByteArray} {L : List UInt8} (h : S.data.toList = L) (p : Nat) (hp : p ≤ L.length) (m : Nat) (hm : L.length = m) : (S.extract p m).data.toList = L.drop p := by
  subst h
  rw [ByteArray.data_extract, Array.toList_extract, List.extract_eq_drop_take', ← hm, List.take_length]
theorem ten_le_pw (k : Nat) : 10 ^ k ≤ pw k := Nat.pow_le_pow_left (by decide) k
theorem dv_fit {l : List UInt8} (h : digs l = true) : (canon (dv l)).length ≤ l.length := by
  rw [canon_len_le]
  exact Nat.lt_of_lt_of_le (dv_lt h) (ten_le_pw _)
theorem digs_sub {l : List UInt8} (h : digs l = true) (i p : Nat) : digs ((l.drop i).take p) = true := by
  rw [digs, List.all_eq_true] at h ⊢
  intro x hx
  exact h x (List.mem_of_mem_drop (List.mem_of_mem_take hx))
theorem isDec_digs {l : List UInt8} (h : isDec l = true) : digs l = true ∧ 0 < l.length := by
  unfold isDec at h
  rw [Bool.and_eq_true, Bool.and_eq_true, decide_eq_true_eq] at h
  exact ⟨h.2, List.length_pos_iff.2 h.1.1⟩
/-- What has been read of the text. -/
def PsR (w : World) (l : List UInt8) (s num : Value) (wr : World) : Prop := ∃ (i : Nat) (S : ByteArray) (a : Option Addr) (c : Nat) (X : List (BitVec 32)), i ≤ l.length ∧ s = .string S ∧ num = .slice a X.length c ∧ X.length ≤ c ∧
  Hid (S.data.toList = l.drop i ∧ X = canon (dv (l.take i))) ∧ RwF w.heap.size wr a X ∧ Below w.heap.size w wr
def PiR (L : List UInt8) (nn : Nat) (w : World) (v sc i : Value) (wr : World) : Prop := w = wr ∧ ∃ (p V T : Nat), p ≤ nn ∧ i = .int .i64 p ∧ v = .int .u64 V ∧ sc = .int .u64 T ∧ V ≤ 10000000000 ∧ T ≤ 1000000000 ∧ Hid (V = dv (L.take p) ∧ T = 10 ^ p)
theorem pow9 {p : Nat} (h : p ≤ 9) : 10 ^ p ≤ 1000000000 := Nat.le_trans (Nat.pow_le_pow_right (by decide) h) (by decide)
theorem dv_take_step {L : List UInt8} {p : Nat} (h : p < L.length) : dv (L.take (p + 1)) = dv (L.take p) * 10 + (L[p].toNat - 48) := by
  rw [List.take_succ_eq_append_getElem h, dv_snoc]
set_option maxRecDepth 50000 in
set_option maxHeartbeats 1000000 in
theorem nparse_ok (S : ByteArray) (l : List UInt8) (w : World) (hS : S.data.toList = l) (hb : isDec l = true) (h2 : l.length ≤ 1000) :
    Calls Tryd.prog 44 #[.string S] w fun e w' => ∃ a c, e = .returned (.tuple #[.slice a (canon (dv l)).length c, .int .i64 0]) ∧ (canon (dv l)).length ≤ c ∧ RwF w.heap.size w' a (canon (dv l)) ∧ Below w.heap.size w w' := by
  have HD := Lib.hid hb
  have hsz := str_size hS
  obtain ⟨hdg, hlp⟩ := isDec_digs hb
  have b3 : decide ((1000 : Int) < (l.length : Int)) = false := by rw [decide_eq_false_iff_not]; omega
  have HDG := Lib.hid hdg
  have hl : l.length ≤ 1000000 := by omega
  clear hb hdg
  go_enter Tryd.func44, Tryd.ntmps44
  go_wp2_with (go_at_call 60; (with_reducible refine (isdec_any S l _ hS hl).mono ?_); rintro e w1 ⟨rfl, rfl⟩; rw [HD.out])
  go_loopw [0, 4, 5, 6, 7, 8, 23, 24] (fun s num _ _ _ _ _ _ wr => PsR w l s num wr) (fun s _ _ _ _ _ _ _ _ => match s with | .string S => S.size | _ => 0)
  case atStart => exact ⟨0, S, none, 0, [], Nat.zero_le _, rfl, rfl, Nat.le_refl _, ⟨hS, by rw [List.take_zero]; exact canon_zero.symm⟩, ⟨Rw.nil _ _, fun ad h => by cases h⟩, Below.refl _ _⟩
  case round =>
    clear hsz hS b3
    obtain ⟨i, S, a, c, X, hi, rfl, rfl, hXc, hq, hfx, hbr⟩ := hrel
    obtain ⟨L, hL⟩ : ∃ L, l.drop i = L := ⟨_, rfl⟩
    have hS := hq.out.1
    rw [hL] at hS
    have hsz := str_size hS
    have hLl : L.length = l.length - i := by rw [← hL, List.length_drop]
    obtain ⟨m, hm⟩ : ∃ m, L.length = m := ⟨_, rfl⟩
    rw [hm] at hsz hLl
    have hmi : m + i = l.length := by omega
    clear hLl
    have HS := Lib.hid hS
    have HL := Lib.hid (show l.drop i = L ∧ L.length = m from ⟨hL, hm⟩)
    rcases Nat.eq_zero_or_pos m with h0 | h0
    · subst h0
      obtain rfl : i = l.length := by omega
      have HX : Hid (X = canon (dv l)) := by
        show _ = _
        have := hq.out.2
        rwa [List.take_length] at this
      clear hS hL hm hmi
      go_wp2
      go_ret2
      exact ⟨a, c, by rw [← HX.out]; rfl, by rw [← HX.out]; exact hXc, by rw [← HX.out]; exact hfx, hbr⟩
    · obtain ⟨nn, hnn⟩ : ∃ nn, (m - 1) % 9 + 1 = nn := ⟨_, rfl⟩
      have hn1 : ((m : Int) - 1) % 9 + 1 = (nn : Int) := by omega
      have hn2 : ((m : Int) - 1).tmod 9 + 1 = (nn : Int) := by rw [Int.tmod_eq_emod_of_nonneg (by omega)]; omega
      have hn9 : nn ≤ 9 := by omega
      have hnm : nn ≤ m := by omega
      have hn0 : 0 < nn := by omega
      clear hnn hS hL hm
      go_wp2
      have HS2 := str_size HS.out
      go_loopw [6, 7, 8, 24] (fun v sc _ i wr' => PiR L nn wr v sc i wr') (fun _ _ _ i _ => nn - (intOf i).toNat)
      case atStart => exact ⟨rfl, 0, 0, 1, Nat.zero_le _, rfl, rfl, rfl, by omega, by omega, rfl, rfl⟩
      case round =>
        obtain ⟨rfl, p, V, T, hp, rfl, rfl, rfl, hVb, hTb, hvt⟩ := hrel
        by_cases hlt : p < nn
        · have hpm : p < L.length := by rw [HL.out.2]; omega
          have hps : p < S.size := by omega
          have gp := str_get HS.out p hps hpm
          obtain ⟨x, hx⟩ : ∃ x, L[p].toNat = x := ⟨_, rfl⟩
          have hgp : (S[p]'hps).toNat = x := by rw [gp, hx]
          have hd := digs_mem (digs_sub HDG.out i l.length) L[p] (by rw [List.take_of_length_le (by simp), HL.out.1]; exact List.getElem_mem hpm)
          rw [hx] at hd
          obtain ⟨hd1, hd2⟩ := hd
          have hxd : IntKind.u8.wrap ((x : Int) - 48) = ((x - 48 : Nat) : Int) := by rw [IntKind.wrap_u8]; omega
          obtain ⟨d, hde⟩ : ∃ d, x - 48 = d := ⟨_, rfl⟩
          rw [hde] at hxd
          have hdb : d ≤ 9 := by omega
          have HX := Lib.hid (show L[p].toNat = x ∧ x - 48 = d from ⟨hx, hde⟩)
          clear gp hx hde
          go_wp2
          go_roundw
          case rel =>
            refine ⟨rfl, p + 1, V * 10 + d, T * 10, by omega, by go_num, by go_num, by go_num, ?_, ?_, ?_, ?_⟩
            · have h1 : V * 10 + d = dv (L.take (p + 1)) := by rw [dv_take_step hpm, hvt.out.1, HX.out.1, HX.out.2]
              have h2 := dv_lt (digs_sub HDG.out i (p + 1))
              rw [HL.out.1, List.length_take, Nat.min_eq_left (by omega)] at h2
              have h3 := pow9 (show p + 1 ≤ 9 by omega)
              omega
            · have h3 := pow9 (show p + 1 ≤ 9 by omega)
              rw [Nat.pow_succ, ← hvt.out.2] at h3
              exact h3
            · rw [dv_take_step hpm, hvt.out.1, HX.out.1, HX.out.2]
            · rw [hvt.out.2, Nat.pow_succ]
          case measure => simp [intOf] <;> omega
        · obtain rfl : p = nn := by omega
          have hrx := hfx.1
          obtain ⟨TL, E1⟩ := ex_canon T
          obtain ⟨M, E2⟩ := ex_canon (valD X * valD TL)
          obtain ⟨VL, E3⟩ := ex_canon V
          obtain ⟨Z, E4⟩ := ex_canon (valD M + valD VL)
          have vX : valD X = dv (l.take i) := by rw [hq.out.2, valD_canon]
          have vTL : valD TL = 10 ^ p := by rw [← E1.out, valD_canon, hvt.out.2]
          have vVL : valD VL = dv (L.take p) := by rw [← E3.out, valD_canon, hvt.out.1]
          have vM : valD M = dv (l.take i) * 10 ^ p := by rw [← E2.out, valD_canon, vX, vTL]
          have hZ : Hid (Z = canon (dv (l.take (i + p)))) := by
            show _ = _
            rw [← E4.out, vM, vVL, List.take_add, dv_append, HL.out.1, List.length_take, HL.out.2, Nat.min_eq_left hnm]
          have fX : X.length ≤ 1000 := by
            rw [hq.out.2]
            have h := dv_fit (l := l.take i) (by have := digs_sub HDG.out 0 i; rwa [List.drop_zero] at this)
            rw [List.length_take] at h
            omega
          have fT : TL.length ≤ 1 := by rw [← E1.out, canon_len_le]; show T < 4294967296 ^ 1; omega
          have fV : VL.length ≤ 2 := by rw [← E3.out, canon_len_le]; show V < 4294967296 ^ 2; omega
          have fM := fit_mul (valD_lt X) (valD_lt TL)
          rw [E2.out] at fM
          have hTu : T < 18446744073709551616 := by omega
          have hVu : V < 18446744073709551616 := by omega
          have HSZ := Lib.hid hsz
          clear vX vTL vVL vM
          go_wp2_with (first
            | (go_at_call 42; (with_reducible refine (nfromR T hTu _).mono ?_); rintro e w2 ⟨a2, c2, rfl, hc2, hf2, hb2⟩; have hn2 := hf2.1; rw [E1.out] at hn2 hc2; rw [E1.out]; have hx2 := hrx.below hb2)
            | (go_at_call 34; go_loud ((with_reducible refine (nmul_any a a2 _ c _ c2 X TL _ rfl rfl hXc hc2 (by omega) (by omega) hx2 hn2).mono ?_); rintro e w3 ⟨a3, c3, rfl, hc3, hf3, hb3⟩; have hn3 := hf3.1; rw [E2.out] at hn3 hc3; rw [E2.out]; have hb23 := hb2.trans (hb3.mono hb2.size)))
            | (go_at_call 42; (with_reducible refine (nfromR V hVu _).mono ?_); rintro e w4 ⟨a4, c4, rfl, hc4, hf4, hb4⟩; have hn4 := hf4.1; rw [E3.out] at hn4 hc4; rw [E3.out]; have hm4 := hn3.below hb4; have hb24 := hb23.trans (hb4.mono hb23.size))
            | (go_at_call 31; go_loud ((with_reducible refine (nadd_any a3 a4 _ c3 _ c4 M VL _ rfl rfl hc3 hc4 (by omega) (by omega) hm4 hn4).mono ?_); rintro e w5 ⟨a5, c5, rfl, hc5, hf5, hb5⟩; rw [E4.out] at hf5 hc5; rw [E4.out]; have hb25 := hb24.trans (hb5.mono hb24.size))))
          go_roundw
          case rel =>
            have hbw := hbr.trans (hb25.mono hbr.size)
            exact ⟨i + p, S.extract p m, a5, c5, Z, by omega, rfl, rfl, hc5, ⟨by rw [str_drop HS.out p (by rw [HL.out.2]; exact hnm) m (by rw [HL.out.2]), ← HL.out.1, List.drop_drop], hZ.out⟩, hf5.mono (hbr.trans (hb24.mono hbr.size)).size, hbw.trans (Below.refl _ _)⟩
          case measure =>
            show (S.extract p m).size < S.size
            have h1 := str_drop HS.out p (by rw [HL.out.2]; exact hnm) m (by rw [HL.out.2])
            have h2 := str_size h1
            rw [List.length_drop, HL.out.2] at h2
            have := HSZ.out
            omega
end Go.Proofs.YtcofiekfhnfjpaaDoor

/- PQ -/
namespace Go.Proofs.YtcofiekfhnfjpaaDoor
open Go.RowKit
set_option linter.unusedVariables false
set_option linter.unusedSimpArgs false
end Go.Proofs.YtcofiekfhnfjpaaDoor

