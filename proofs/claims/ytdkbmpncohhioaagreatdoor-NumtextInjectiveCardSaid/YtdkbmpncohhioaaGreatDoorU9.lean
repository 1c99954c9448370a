
import Derived.Test.YtdkbmpncohhioaaGreatDoorU8
/- PP -/
namespace Go.Proofs.YtdkbmpncohhioaaGreatDoor
open Go.RowKit
set_option linter.unusedVariables false
set_option linter.unusedSimpArgs false
theorem str_drop {S : ByteArray} {L : List UInt8} (h : S.data.toList = L) (p : Nat) (hp : p ≤ L.length) (m : Nat) (hm : L.length = m) : (S.extract p m).data.toList = L.drop p := by
  subst h
  rw [ByteArray.data_extract, Array.toList_extract, List.extract_eq_drop_take', ← hm, List.take_length]
theorem ten_le_pw (k : Nat) : 10 ^ k ≤ pw k := Nat.pow_le_pow_left (by decide) k
theorem dv_fit {l : List UInt8} (h : digs l = true) : (canon (dv l)).length ≤ l.length := by
  rw [canon_len_le]
  exact Nat.lt_of_lt_of_le (dv_lt h) (ten_le_pw _)
theorem digs_sub {l : List UInt8} (h : digs l = true) (i p : Nat) : digs ((l.drop i).take p) = true := by
  rw [digs, List.all_eq_true] at h ⊢
  intro x hx
  exact h x (List.mem_of_mem_drop (List.mem_of_mem_take hx))
theorem isDec_digs {l : List UInt8} (h : isDec l = true) : digs l = true ∧ 0 < l.length := by
  unfold isDec at h
  rw [Bool.and_eq_true, Bool.and_eq_true, decide_eq_true_eq] at h
  exact ⟨h.2, List.length_pos_iff.2 h.1.1⟩
/-- What has been read of the text. -/
def PsR (w : World) (l : List UInt8) (s num : Value) (wr : World) : Prop := ∃ (i : Nat) (S : ByteArray) (a : Option Addr) (c : Nat) (X : List (BitVec 32)), i ≤ l.length ∧ s = .string S ∧ num = .slice a X.length c ∧ X.length ≤ c ∧
  Hid (S.data.toList = l.drop i ∧ X = canon (dv (l.take i))) ∧ RwF w.heap.size wr a X ∧ Below w.heap.size w wr
def PiR (L : List UInt8) (nn : Nat) (w : World) (v sc i : Value) (wr : World) : Prop := w = wr ∧ ∃ (p V T : Nat), p ≤ nn ∧ i = .int .i64 p ∧ v = .int .u64 V ∧ sc = .int .u64 T ∧ V ≤ 10000000000 ∧ T ≤ 1000000000 ∧ Hid (V = dv (L.take p) ∧ T = 10 ^ p)
theorem pow9 {p : Nat} (h : p ≤ 9) : 10 ^ p ≤ 1000000000 := Nat.le_trans (Nat.pow_le_pow_right (by decide) h) (by decide)
theorem dv_take_step {L : List UInt8} {p : Nat} (h : p < L.length) : dv (L.take (p + 1)) = dv (L.take p) * 10 + (L[p].toNat - 48) := by
  rw [List.take_succ_eq_append_getElem h, dv_snoc]
theorem nparse_bad (S : ByteArray) (l : List UInt8) (w : World) (hS : S.data.toList = l) (hl : l.length ≤ 1000000) (hb : isDec l = false) :
    Calls Tryz.prog 48 #[.string S] w fun e w' => e = .returned (.tuple #[.slice none 0 0, .int .i64 3]) ∧ w = w' := by
  have HD := Lib.hid hb
  go_enter Tryz.func48, Tryz.ntmps48
  go_wp2_with (go_at_call 76; (with_reducible refine (isdec_any S l _ hS hl).mono ?_); rintro e w1 ⟨rfl, rfl⟩; rw [HD.out])
  go_ret2
  exact ⟨rfl, rfl⟩
theorem nparse_long (S : ByteArray) (l : List UInt8) (w : World) (hS : S.data.toList = l) (hl : l.length ≤ 1000000) (hb : isDec l = true) (h2 : 1000 < l.length) :
    Calls Tryz.prog 48 #[.string S] w fun e w' => e = .returned (.tuple #[.slice none 0 0, .int .i64 5]) ∧ w = w' := by
  have HD := Lib.hid hb
  have hsz := str_size hS
  have b3 : decide ((1000 : Int) < (l.length : Int)) = true := by rw [decide_eq_true_iff]; omega
  go_enter Tryz.func48, Tryz.ntmps48
  go_wp2_with (go_at_call 76; (with_reducible refine (isdec_any S l _ hS hl).mono ?_); rintro e w1 ⟨rfl, rfl⟩; rw [HD.out])
  go_ret2
  exact ⟨rfl, rfl⟩
set_option maxRecDepth 50000 in
set_option maxHeartbeats 1000000 in
theorem nparse_ok (S : ByteArray) (l : List UInt8) (w : World) (hS : S.data.toList = l) (hb : isDec l = true) (h2 : l.length ≤ 1000) :
    Calls Tryz.prog 48 #[.string S] w fun e w' => ∃ a c, e = .returned (.tuple #[.slice a (canon (dv l)).length c, .int .i64 0]) ∧ (canon (dv l)).length ≤ c ∧ RwF w.heap.size w' a (canon (dv l)) ∧ Below w.heap.size w w' := by
  have HD := Lib.hid hb
  have hsz := str_size hS
  obtain ⟨hdg, hlp⟩ := isDec_digs hb
  have b3 : decide ((1000 : Int) < (l.length : Int)) = false := by rw [decide_eq_false_iff_not]; omega
  have HDG := Lib.hid hdg
  have hl : l.length ≤ 1000000 := by omega
  clear hb hdg
  go_enter Tryz.func48, Tryz.ntmps48
  go_wp2_with (go_at_call 76; (with_reducible refine (isdec_any S l _ hS hl).mono ?_); rintro e w1 ⟨rfl, rfl⟩; rw [HD.out])
  go_loopw [0, 4, 5, 6, 7, 8, 23, 24] (fun s num _ _ _ _ _ _ wr => PsR w l s num wr) (fun s _ _ _ _ _ _ _ _ => match s with | .string S => S.size | _ => 0)
  case atStart => exact ⟨0, S, none, 0, [], Nat.zero_le _, rfl, rfl, Nat.le_refl _, ⟨hS, by rw [List.take_zero]; exact canon_zero.symm⟩, ⟨Rw.nil _ _, fun ad h => by cases h⟩, Below.refl _ _⟩
  case round =>
    clear hsz hS b3
    obtain ⟨i, S, a, c, X, hi, rfl, rfl, hXc, hq, hfx, hbr⟩ := hrel
    obtain ⟨L, hL⟩ : ∃ L, l.drop i = L := ⟨_, rfl⟩
    have hS := hq.out.1
    rw [hL] at hS
    have hsz := str_size hS
    have hLl : L.length = l.length - i := by rw [← hL, List.length_drop]
    obtain ⟨m, hm⟩ : ∃ m, L.length = m := ⟨_, rfl⟩
    rw [hm] at hsz hLl
    have hmi : m + i = l.length := by omega
    clear hLl
    have HS := Lib.hid hS
    have HL := Lib.hid (show l.drop i = L ∧ L.length = m from ⟨hL, hm⟩)
    rcases Nat.eq_zero_or_pos m with h0 | h0
    · subst h0
      obtain rfl : i = l.length := by omega
      have HX : Hid (X = canon (dv l)) := by
        show _ = _
        have := hq.out.2
        rwa [List.take_length] at this
      clear hS hL hm hmi
      go_wp2
      go_ret2
      exact ⟨a, c, by rw [← HX.out]; rfl, by rw [← HX.out]; exact hXc, by rw [← HX.out]; exact hfx, hbr⟩
    · obtain ⟨nn, hnn⟩ : ∃ nn, (m - 1) % 9 + 1 = nn := ⟨_, rfl⟩
      have hn1 : ((m : Int) - 1) % 9 + 1 = (nn : Int) := by omega
      have hn2 : ((m : Int) - 1).tmod 9 + 1 = (nn : Int) := by rw [Int.tmod_eq_emod_of_nonneg (by omega)]; omega
      have hn9 : nn ≤ 9 := by omega
      have hnm : nn ≤ m := by omega
      have hn0 : 0 < nn := by omega
      clear hnn hS hL hm
      go_wp2
      have HS2 := str_size HS.out
      go_loopw [6, 7, 8, 24] (fun v sc _ i wr' => PiR L nn wr v sc i wr') (fun _ _ _ i _ => nn - (intOf i).toNat)
      case atStart => exact ⟨rfl, 0, 0, 1, Nat.zero_le _, rfl, rfl, rfl, by omega, by omega, rfl, rfl⟩
      case round =>
        obtain ⟨rfl, p, V, T, hp, rfl, rfl, rfl, hVb, hTb, hvt⟩ := hrel
        by_cases hlt : p < nn
        · have hpm : p < L.length := by rw [HL.out.2]; omega
          have hps : p < S.size := by omega
          have gp := str_get HS.out p hps hpm
          obtain ⟨x, hx⟩ : ∃ x, L[p].toNat = x := ⟨_, rfl⟩
          have hgp : (S[p]'hps).toNat = x := by rw [gp, hx]
          have hd := digs_mem (digs_sub HDG.out i l.length) L[p] (by rw [List.take_of_length_le (by simp), HL.out.1]; exact List.getElem_mem hpm)
          rw [hx] at hd
          obtain ⟨hd1, hd2⟩ := hd
          have hxd : IntKind.u8.wrap ((x : Int) - 48) = ((x - 48 : Nat) : Int) := by rw [IntKind.wrap_u8]; omega
          obtain ⟨d, hde⟩ : ∃ d, x - 48 = d := ⟨_, rfl⟩
          rw [hde] at hxd
          have hdb : d ≤ 9 := by omega
          have HX := Lib.hid (show L[p].toNat = x ∧ x - 48 = d from ⟨hx, hde⟩)
          clear gp hx hde
          go_wp2
          go_roundw
          case rel =>
            refine ⟨rfl, p + 1, V * 10 + d, T * 10, by omega, by go_num, by go_num, by go_num, ?_, ?_, ?_, ?_⟩
            · have h1 : V * 10 + d = dv (L.take (p + 1)) := by rw [dv_take_step hpm, hvt.out.1, HX.out.1, HX.out.2]
              have h2 := dv_lt (digs_sub HDG.out i (p + 1))
              rw [HL.out.1, List.length_take, Nat.min_eq_left (by omega)] at h2
              have h3 := pow9 (show p + 1 ≤ 9 by omega)
              omega
            · have h3 := pow9 (show p + 1 ≤ 9 by omega)
              rw [Nat.pow_succ, ← hvt.out.2] at h3
              exact h3
            · rw [dv_take_step hpm, hvt.out.1, HX.out.1, HX.out.2]
            · rw [hvt.out.2, Nat.pow_succ]
          case measure => simp [intOf] <;> omega
        · obtain rfl : p = nn := by omega
          have hrx := hfx.1
          obtain ⟨TL, E1⟩ := ex_canon T
          obtain ⟨M, E2⟩ := ex_canon (valD X * valD TL)
          obtain ⟨VL, E3⟩ := ex_canon V
          obtain ⟨Z, E4⟩ := ex_canon (valD M + valD VL)
          have vX : valD X = dv (l.take i) := by rw [hq.out.2, valD_canon]
          have vTL : valD TL = 10 ^ p := by rw [← E1.out, valD_canon, hvt.out.2]
          have vVL : valD VL = dv (L.take p) := by rw [← E3.out, valD_canon, hvt.out.1]
          have vM : valD M = dv (l.take i) * 10 ^ p := by rw [← E2.out, valD_canon, vX, vTL]
          have hZ : Hid (Z = canon (dv (l.take (i + p)))) := by
            show _ = _
            rw [← E4.out, vM, vVL, List.take_add, dv_append, HL.out.1, List.length_take, HL.out.2, Nat.min_eq_left hnm]
          have fX : X.length ≤ 1000 := by
            rw [hq.out.2]
            have h := dv_fit (l := l.take i) (by have := digs_sub HDG.out 0 i; rwa [List.drop_zero] at this)
            rw [List.length_take] at h
            omega
          have fT : TL.length ≤ 1 := by rw [← E1.out, canon_len_le]; show T < 4294967296 ^ 1; omega
          have fV : VL.length ≤ 2 := by rw [← E3.out, canon_len_le]; show V < 4294967296 ^ 2; omega
          have fM := fit_mul (valD_lt X) (valD_lt TL)
          rw [E2.out] at fM
          have hTu : T < 18446744073709551616 := by omega
          have hVu : V < 18446744073709551616 := by omega
          have HSZ := Lib.hid hsz
          clear vX vTL vVL vM
          go_wp2_with (first
            | (go_at_call 54; (with_reducible refine (nfromR T hTu _).mono ?_); rintro e w2 ⟨a2, c2, rfl, hc2, hf2, hb2⟩; have hn2 := hf2.1; rw [E1.out] at hn2 hc2; rw [E1.out]; have hx2 := hrx.below hb2)
            | (go_at_call 72; go_loud ((with_reducible refine (nmul_any a a2 _ c _ c2 X TL _ rfl rfl hXc hc2 (by omega) (by omega) hx2 hn2).mono ?_); rintro e w3 ⟨a3, c3, rfl, hc3, hf3, hb3⟩; have hn3 := hf3.1; rw [E2.out] at hn3 hc3; rw [E2.out]; have hb23 := hb2.trans (hb3.mono hb2.size)))
            | (go_at_call 54; (with_reducible refine (nfromR V hVu _).mono ?_); rintro e w4 ⟨a4, c4, rfl, hc4, hf4, hb4⟩; have hn4 := hf4.1; rw [E3.out] at hn4 hc4; rw [E3.out]; have hm4 := hn3.below hb4; have hb24 := hb23.trans (hb4.mono hb23.size))
            | (go_at_call 77; go_loud ((with_reducible refine (nadd_any a3 a4 _ c3 _ c4 M VL _ rfl rfl hc3 hc4 (by omega) (by omega) hm4 hn4).mono ?_); rintro e w5 ⟨a5, c5, rfl, hc5, hf5, hb5⟩; rw [E4.out] at hf5 hc5; rw [E4.out]; have hb25 := hb24.trans (hb5.mono hb24.size))))
          go_roundw
          case rel =>
            have hbw := hbr.trans (hb25.mono hbr.size)
            exact ⟨i + p, S.extract p m, a5, c5, Z, by omega, rfl, rfl, hc5, ⟨by rw [str_drop HS.out p (by rw [HL.out.2]; exact hnm) m (by rw [HL.out.2]), ← HL.out.1, List.drop_drop], hZ.out⟩, hf5.mono (hbr.trans (hb24.mono hbr.size)).size, hbw.trans (Below.refl _ _)⟩
          case measure =>
            show (S.extract p m).size < S.size
            have h1 := str_drop HS.out p (by rw [HL.out.2]; exact hnm) m (by rw [HL.out.2])
            have h2 := str_size h1
            rw [List.length_drop, HL.out.2] at h2
            have := HSZ.out
            omega
end Go.Proofs.YtdkbmpncohhioaaGreatDoor

/- PQ -/
namespace Go.Proofs.YtdkbmpncohhioaaGreatDoor
open Go.RowKit
set_option linter.unusedVariables false
set_option linter.unusedSimpArgs false
theorem isDec_lead' {l : List UInt8} (h : isDec l = true) (h1 : 1 < l.length) : l[0].toNat ≠ 48 := by
  intro e
  rw [isDec_lead h1 e] at h
  cases h
def RpR (w : World) (l : List UInt8) (num i : Value) (wr : World) : Prop := ∃ (p : Nat) (a : Option Addr) (c : Nat) (X : List (BitVec 32)), p ≤ l.length ∧ i = .int .i64 p ∧ num = .slice a X.length c ∧ Hid (X = canon (dv (l.take p))) ∧ Rw wr a X ∧ Below w.heap.size w wr
theorem rtim10 (a : Option Addr) (n c : Nat) (l : List (BitVec 32)) (w : World) (hn : l.length = n) (hl : n ≤ 1000000) (hr : Rw w a l) :
    Calls Tryz.prog 81 #[.slice a n c, .int .u64 10] w (FrW w (canon (valD l * 10))) := rtim_any a n c l 10 w hn hl (by omega) hr
set_option maxRecDepth 50000 in
set_option maxHeartbeats 1000000 in
theorem rparse_bad (S : ByteArray) (l : List UInt8) (w : World) (hS : S.data.toList = l) (hl : l.length ≤ 1000000) (hb : isDec l = false) :
    Calls Tryz.prog 51 #[.string S] w fun e w' => e = .returned (.tuple #[.slice none 0 0, .int .i64 3]) ∧ w = w' := by
  have hsz0 := str_size hS
  rcases Nat.eq_zero_or_pos l.length with h0 | h0
  · have hl0 := List.length_eq_zero_iff.1 h0
    subst hl0
    have := str_nil hS
    subst this
    clear hS hsz0 h0 hb
    go_enter Tryz.func51, Tryz.ntmps51
    go_wp2
    go_ret2
    exact ⟨rfl, rfl⟩
  have hne2 : ¬ S.toList = [] := by
    rw [ByteArray.toList_eq, hS]
    intro e
    rw [e] at h0
    simp at h0
  have hne : S.toList.isEmpty = false := by
    cases hq : S.toList with
    | nil => exact absurd hq hne2
    | cons _ _ => rfl
  obtain ⟨n, hn⟩ : ∃ n, l.length = n := ⟨_, rfl⟩
  have hsz : S.size = n := by rw [hsz0, hn]
  have hs0 : 0 < S.size := by rw [hsz0]; exact h0
  have g0 := str_get hS 0 hs0 h0
  obtain ⟨x0, hx0⟩ : ∃ x, l[0].toNat = x := ⟨_, rfl⟩
  have hg0 : (S[0]'hs0).toNat = x0 := by rw [g0, hx0]
  have HX0 : Hid (∀ h : 0 < l.length, l[0].toNat = x0) := fun _ => hx0
  have HS := Lib.hid hS
  have hnp : 0 < n := by omega
  have hnl : n ≤ 1000000 := by omega
  have HN := Lib.hid hn
  have HB := Lib.hid hb
  clear hb
  by_cases hbb : 1 < n ∧ x0 = 48
  · obtain ⟨b1, b2⟩ := hbb
    have b3 : decide ((1 : Int) < (n : Int)) = true := by rw [decide_eq_true_iff]; omega
    have b4 : ((x0 : Int) == 48) = true := by rw [b2]; rfl
    clear hn hx0 g0 hS hsz0 h0 hl
    go_enter Tryz.func51, Tryz.ntmps51
    go_wp2
    go_ret2
    exact ⟨rfl, rfl⟩
  have hlead : Hid (l.length ≤ 1 ∨ x0 ≠ 48) := by show _ ∨ _; rw [hn]; omega
  have main : (n ≤ 1 ∨ 1 < n ∧ x0 ≠ 48) := by omega
  clear hn hx0 g0 hS hsz0 h0 hl
  rcases main with hm | ⟨hm, hx48⟩
  · have b3 : decide ((1 : Int) < (n : Int)) = false := by rw [decide_eq_false_iff_not]; omega
    go_enter Tryz.func51, Tryz.ntmps51
    go_wp2
    go_loopw [4] (fun i wr => w = wr ∧ ∃ p : Nat, p ≤ n ∧ i = .int .i64 p ∧ Hid (digs (l.take p) = true)) (fun i _ => n - (intOf i).toNat)
    case atStart => exact ⟨rfl, 0, Nat.zero_le _, rfl, rfl⟩
    case round =>
      obtain ⟨rfl, p, hp, rfl, hd⟩ := hrel
      by_cases hlt : p < n
      · have hpl : p < l.length := by have := HN.out; omega
        have hps : p < S.size := by omega
        have gp := str_get HS.out p hps hpl
        obtain ⟨x, hx⟩ : ∃ x, l[p].toNat = x := ⟨_, rfl⟩
        have hgp : (S[p]'hps).toNat = x := by rw [gp, hx]
        have hxb : x < 256 := by rw [← hx]; exact l[p].toNat_lt
        have HX := Lib.hid hx
        clear gp hx
        by_cases h1 : x < 48
        · have h1d : decide ((x : Int) < 48) = true := by rw [decide_eq_true_iff]; omega
          go_wp2
          go_ret2
          exact ⟨rfl, rfl⟩
        have h1d : decide ((x : Int) < 48) = false := by rw [decide_eq_false_iff_not]; omega
        by_cases h2 : 57 < x
        · have h2d : decide ((57 : Int) < (x : Int)) = true := by rw [decide_eq_true_iff]; omega
          go_wp2
          go_ret2
          exact ⟨rfl, rfl⟩
        have h2d : decide ((57 : Int) < (x : Int)) = false := by rw [decide_eq_false_iff_not]; omega
        go_wp2
        go_roundw
        case rel => exact ⟨trivial, p + 1, by omega, by go_num, digs_take hpl hd.out (by rw [HX.out]; omega) (by rw [HX.out]; omega)⟩
        case measure => simp [intOf] <;> omega
      · exfalso
        obtain rfl : p = n := by omega
        have hres := isDec_ok (by rw [HN.out]; exact hnp) (hlead.out.imp id fun h => by rw [HX0.out]; exact h) (by have := hd.out; rwa [← HN.out, List.take_length] at this)
        rw [HB.out] at hres
        cases hres
  · have b3 : decide ((1 : Int) < (n : Int)) = true := by rw [decide_eq_true_iff]; omega
    have b4 : ((x0 : Int) == 48) = false := by rw [beq_eq_false_iff_ne]; omega
    go_enter Tryz.func51, Tryz.ntmps51
    go_wp2
    go_loopw [4] (fun i wr => w = wr ∧ ∃ p : Nat, p ≤ n ∧ i = .int .i64 p ∧ Hid (digs (l.take p) = true)) (fun i _ => n - (intOf i).toNat)
    case atStart => exact ⟨rfl, 0, Nat.zero_le _, rfl, rfl⟩
    case round =>
      obtain ⟨rfl, p, hp, rfl, hd⟩ := hrel
      by_cases hlt : p < n
      · have hpl : p < l.length := by have := HN.out; omega
        have hps : p < S.size := by omega
        have gp := str_get HS.out p hps hpl
        obtain ⟨x, hx⟩ : ∃ x, l[p].toNat = x := ⟨_, rfl⟩
        have hgp : (S[p]'hps).toNat = x := by rw [gp, hx]
        have hxb : x < 256 := by rw [← hx]; exact l[p].toNat_lt
        have HX := Lib.hid hx
        clear gp hx
        by_cases h1 : x < 48
        · have h1d : decide ((x : Int) < 48) = true := by rw [decide_eq_true_iff]; omega
          go_wp2
          go_ret2
          exact ⟨rfl, rfl⟩
        have h1d : decide ((x : Int) < 48) = false := by rw [decide_eq_false_iff_not]; omega
        by_cases h2 : 57 < x
        · have h2d : decide ((57 : Int) < (x : Int)) = true := by rw [decide_eq_true_iff]; omega
          go_wp2
          go_ret2
          exact ⟨rfl, rfl⟩
        have h2d : decide ((57 : Int) < (x : Int)) = false := by rw [decide_eq_false_iff_not]; omega
        go_wp2
        go_roundw
        case rel => exact ⟨trivial, p + 1, by omega, by go_num, digs_take hpl hd.out (by rw [HX.out]; omega) (by rw [HX.out]; omega)⟩
        case measure => simp [intOf] <;> omega
      · exfalso
        obtain rfl : p = n := by omega
        have hres := isDec_ok (by rw [HN.out]; exact hnp) (hlead.out.imp id fun h => by rw [HX0.out]; exact h) (by have := hd.out; rwa [← HN.out, List.take_length] at this)
        rw [HB.out] at hres
        cases hres
set_option maxRecDepth 50000 in
set_option maxHeartbeats 1000000 in
theorem rparse_long (S : ByteArray) (l : List UInt8) (w : World) (hS : S.data.toList = l) (hl : l.length ≤ 1000000) (hb : isDec l = true) (h2 : 1000 < l.length) :
    Calls Tryz.prog 51 #[.string S] w fun e w' => e = .returned (.tuple #[.slice none 0 0, .int .i64 5]) ∧ w = w' := by
  have hsz0 := str_size hS
  obtain ⟨hdg, h0⟩ := isDec_digs hb
  have HDG := Lib.hid hdg
  have hne2 : ¬ S.toList = [] := by
    rw [ByteArray.toList_eq, hS]
    intro e
    rw [e] at h0
    simp at h0
  have hne : S.toList.isEmpty = false := by
    cases hq : S.toList with
    | nil => exact absurd hq hne2
    | cons _ _ => rfl
  obtain ⟨n, hn⟩ : ∃ n, l.length = n := ⟨_, rfl⟩
  have hsz : S.size = n := by rw [hsz0, hn]
  have hs0 : 0 < S.size := by rw [hsz0]; exact h0
  have g0 := str_get hS 0 hs0 h0
  obtain ⟨x0, hx0⟩ : ∃ x, l[0].toNat = x := ⟨_, rfl⟩
  have hg0 : (S[0]'hs0).toNat = x0 := by rw [g0, hx0]
  have HX0 : Hid (∀ h : 0 < l.length, l[0].toNat = x0) := fun _ => hx0
  have HS := Lib.hid hS
  have hnp : 0 < n := by omega
  have hnl : n ≤ 1000000 := by omega
  have HN := Lib.hid hn
  have h3 : 1000 < n := by omega
  have b5 : decide ((1000 : Int) < (n : Int)) = true := by rw [decide_eq_true_iff]; omega
  have hl48 : 1 < n → x0 ≠ 48 := by intro h; rw [← hx0]; exact isDec_lead' hb (by rw [hn]; exact h)
  have HL48 := Lib.hid hl48
  clear hb hdg hl48 h2
  have hm : 1 < n := by omega
  have hx48 := HL48.out hm
  clear hn hx0 g0 hS hsz0 h0 hl
  have b3 : decide ((1 : Int) < (n : Int)) = true := by rw [decide_eq_true_iff]; omega
  have b4 : ((x0 : Int) == 48) = false := by rw [beq_eq_false_iff_ne]; omega
  go_enter Tryz.func51, Tryz.ntmps51
  go_wp2
  go_loopw [4] (fun i wr => w = wr ∧ ∃ p : Nat, p ≤ n ∧ i = .int .i64 p) (fun i _ => n - (intOf i).toNat)
  case atStart => exact ⟨rfl, 0, Nat.zero_le _, rfl⟩
  case round =>
    obtain ⟨rfl, p, hp, rfl⟩ := hrel
    by_cases hlt : p < n
    · have hpl : p < l.length := by have := HN.out; omega
      have hps : p < S.size := by omega
      have gp := str_get HS.out p hps hpl
      obtain ⟨x, hx⟩ : ∃ x, l[p].toNat = x := ⟨_, rfl⟩
      have hgp : (S[p]'hps).toNat = x := by rw [gp, hx]
      have hd := digs_mem HDG.out l[p] (List.getElem_mem hpl)
      rw [hx] at hd
      obtain ⟨hd1, hd2⟩ := hd
      have h1d : decide ((x : Int) < 48) = false := by rw [decide_eq_false_iff_not]; omega
      have h2d : decide ((57 : Int) < (x : Int)) = false := by rw [decide_eq_false_iff_not]; omega
      clear gp hx
      go_wp2
      go_roundw
      case rel => exact ⟨trivial, p + 1, by omega, by go_num⟩
      case measure => simp [intOf] <;> omega
    · obtain rfl : p = n := by omega
      go_wp2
      go_ret2
      exact ⟨rfl, rfl⟩
set_option maxRecDepth 50000 in
set_option maxHeartbeats 2000000 in
theorem rparse_ok (S : ByteArray) (l : List UInt8) (w : World) (hS : S.data.toList = l) (hb : isDec l = true) (h2 : l.length ≤ 1000) :
    Calls Tryz.prog 51 #[.string S] w fun e w' => ∃ a c, e = .returned (.tuple #[.slice a (canon (dv l)).length c, .int .i64 0]) ∧ Rw w' a (canon (dv l)) ∧ Below w.heap.size w w' := by
  have hsz0 := str_size hS
  obtain ⟨hdg, h0⟩ := isDec_digs hb
  have HDG := Lib.hid hdg
  have hl : l.length ≤ 1000000 := by omega
  have hne2 : ¬ S.toList = [] := by
    rw [ByteArray.toList_eq, hS]
    intro e
    rw [e] at h0
    simp at h0
  have hne : S.toList.isEmpty = false := by
    cases hq : S.toList with
    | nil => exact absurd hq hne2
    | cons _ _ => rfl
  obtain ⟨n, hn⟩ : ∃ n, l.length = n := ⟨_, rfl⟩
  have hsz : S.size = n := by rw [hsz0, hn]
  have hs0 : 0 < S.size := by rw [hsz0]; exact h0
  have g0 := str_get hS 0 hs0 h0
  obtain ⟨x0, hx0⟩ : ∃ x, l[0].toNat = x := ⟨_, rfl⟩
  have hg0 : (S[0]'hs0).toNat = x0 := by rw [g0, hx0]
  have HX0 : Hid (∀ h : 0 < l.length, l[0].toNat = x0) := fun _ => hx0
  have HS := Lib.hid hS
  have hnp : 0 < n := by omega
  have hnl : n ≤ 1000000 := by omega
  have HN := Lib.hid hn
  have h3 : n ≤ 1000 := by omega
  have b5 : decide ((1000 : Int) < (n : Int)) = false := by rw [decide_eq_false_iff_not]; omega
  have hl48 : 1 < n → x0 ≠ 48 := by intro h; rw [← hx0]; exact isDec_lead' hb (by rw [hn]; exact h)
  have HL48 := Lib.hid hl48
  clear hb hdg hl48 h2
  have main : (n ≤ 1 ∨ 1 < n ∧ x0 ≠ 48) := by have := HL48.out; omega
  clear hn hx0 g0 hS hsz0 h0 hl
  rcases main with hm | ⟨hm, hx48⟩
  · have b3 : decide ((1 : Int) < (n : Int)) = false := by rw [decide_eq_false_iff_not]; omega
    go_enter Tryz.func51, Tryz.ntmps51
    go_wp2
    go_loopw [4] (fun i wr => w = wr ∧ ∃ p : Nat, p ≤ n ∧ i = .int .i64 p) (fun i _ => n - (intOf i).toNat)
    case atStart => exact ⟨rfl, 0, Nat.zero_le _, rfl⟩
    case round =>
      obtain ⟨rfl, p, hp, rfl⟩ := hrel
      by_cases hlt : p < n
      · have hpl : p < l.length := by have := HN.out; omega
        have hps : p < S.size := by omega
        have gp := str_get HS.out p hps hpl
        obtain ⟨x, hx⟩ : ∃ x, l[p].toNat = x := ⟨_, rfl⟩
        have hgp : (S[p]'hps).toNat = x := by rw [gp, hx]
        have hd := digs_mem HDG.out l[p] (List.getElem_mem hpl)
        rw [hx] at hd
        obtain ⟨hd1, hd2⟩ := hd
        have h1d : decide ((x : Int) < 48) = false := by rw [decide_eq_false_iff_not]; omega
        have h2d : decide ((57 : Int) < (x : Int)) = false := by rw [decide_eq_false_iff_not]; omega
        clear gp hx
        go_wp2
        go_roundw
        case rel => exact ⟨trivial, p + 1, by omega, by go_num⟩
        case measure => simp [intOf] <;> omega
      · obtain rfl : p = n := by omega
        go_wp2
        go_loopw [5, 6] (fun num i wr => RpR w l num i wr) (fun _ i _ => p - (intOf i).toNat)
        case atStart => exact ⟨0, some ⟨w.heap.size, 0, none⟩, 0, [], Nat.zero_le _, rfl, rfl, (by show _ = _; rw [List.take_zero]; exact canon_zero.symm), Rw.nil _ _, Below.alloc (Below.refl _ _) (Nat.le_refl _) _⟩
        case round =>
          obtain ⟨j, ax, cx, X, hj, rfl, rfl, hX, hrx, hbr⟩ := hrel
          have hn1 := HN.out
          by_cases hjl : j < p
          · have hjl2 : j < l.length := by omega
            have hjs : j < S.size := by omega
            have gp := str_get HS.out j hjs hjl2
            obtain ⟨x, hx⟩ : ∃ x, l[j].toNat = x := ⟨_, rfl⟩
            have hgp : (S[j]'hjs).toNat = x := by rw [gp, hx]
            have hd := digs_mem HDG.out l[j] (List.getElem_mem hjl2)
            rw [hx] at hd
            obtain ⟨hd1, hd2⟩ := hd
            obtain ⟨d, hde⟩ : ∃ d, x - 48 = d := ⟨_, rfl⟩
            have hxd : IntKind.u8.wrap ((x : Int) - 48) = (d : Int) := by rw [IntKind.wrap_u8]; omega
            have hdb : d ≤ 9 := by omega
            have hwd : IntKind.u32.wrap (d : Int) = (d : Int) := by rw [IntKind.wrap_u32]; omega
            obtain ⟨DL, hDL⟩ : ∃ DL, DL = [BitVec.ofNat 32 d] := ⟨_, rfl⟩
            have hDLl : DL.length = 1 := by rw [hDL]; rfl
            have hDLv : valD DL = d := by rw [hDL]; simp [valD_cons, valD_nil]; omega
            have hlit : ∀ W : World, Rw (W.alloc (.cells #[Value.int IntKind.u32 (d : Int)] 42)) (some ⟨W.heap.size, 0, none⟩) DL := fun W => Rw.of_alloc rfl (by rw [hDL]; simp [bv32]; omega)
            obtain ⟨Y, E1⟩ := ex_canon (valD X * 10)
            have vY : valD Y = valD X * 10 := by rw [← E1.out, valD_canon]
            obtain ⟨Z, E2⟩ := ex_canon (valD Y + valD DL)
            have hZ : Hid (Z = canon (dv (l.take (j + 1)))) := by
              show _ = _
              rw [← E2.out, vY, hDLv, hX.out, valD_canon, dv_take_step hjl2, hx, hde]
            have fX : X.length ≤ 1000 := by
              rw [hX.out]
              have h := dv_fit (l := l.take j) (by have := digs_sub HDG.out 0 j; rwa [List.drop_zero] at this)
              rw [List.length_take] at h
              omega
            have fY : Y.length ≤ 1001 := by
              rw [← E1.out, canon_len_le]
              have h1 := valD_lt X
              have h2 := pw_mono fX
              rw [show 1001 = 1000 + 1 from rfl, pw_succ]
              omega
            have hrd : Rw wr.drew ax X := hrx
            have hbd : Below w.heap.size w wr.drew := hbr.drew
            have hrd2 : Rw (wr.alloc (.cells #[Value.int IntKind.u32 (d : Int)] 42)).drew ax X := hrx.below (Below.alloc (Below.refl _ _) (Nat.le_refl _) (.cells #[Value.int IntKind.u32 (d : Int)] 42)).drew
            have hbd2 : Below w.heap.size w (wr.alloc (.cells #[Value.int IntKind.u32 (d : Int)] 42)).drew := (hbr.alloc hbr.size _).drew
            have hl0 : Rw (wr.alloc (.cells #[Value.int IntKind.u32 (d : Int)] 42)).drew (some ⟨wr.heap.size, 0, none⟩) DL := hlit wr
            clear gp hx hde hDL vY hDLv hn1
            go_wp2
            go_region_with ((first
              | (go_at_call 81; (with_reducible refine (rtim10 ax _ cx X wr.drew rfl (by omega) hrd).mono ?_); rintro e w2 ⟨a2, c2, rfl, hf2, hb2⟩; have hn2 := Rw.of_own hf2; rw [E1.out] at hn2; rw [E1.out]; have hb2w := hbd.trans (hb2.mono hbd.size))
              | (go_at_call 81; (with_reducible refine (rtim10 ax _ cx X (wr.alloc (.cells #[Value.int IntKind.u32 (d : Int)] 42)).drew rfl (by omega) hrd2).mono ?_); rintro e w3 ⟨a3, c3, rfl, hf3, hb3⟩; have hn3 := Rw.of_own hf3; rw [E1.out] at hn3; rw [E1.out]; have hl3 := hl0.below hb3; have hb3w := hbd2.trans (hb3.mono hbd2.size))
              | (go_at_call 80; (with_reducible refine (radd_any a2 (some ⟨w2.heap.size, 0, none⟩) _ c2 1 1 Y DL _ rfl hDLl (by omega) (by omega) (hn2.below (Below.alloc (Below.refl _ _) (Nat.le_refl _) _)) (hlit w2)).mono ?_); rintro e w4 ⟨a4, c4, rfl, hf4, hb4⟩; have hn4 := Rw.of_own hf4; rw [E2.out] at hn4; rw [E2.out]; have hb4w := (hb2w.alloc hb2w.size (.cells #[Value.int IntKind.u32 (d : Int)] 42)).trans (hb4.mono (hb2w.alloc hb2w.size (.cells #[Value.int IntKind.u32 (d : Int)] 42)).size))
              | (go_at_call 80; (with_reducible refine (radd_any a3 (some ⟨wr.heap.size, 0, none⟩) _ c3 1 1 Y DL w3 rfl hDLl (by omega) (by omega) hn3 hl3).mono ?_); rintro e w4 ⟨a4, c4, rfl, hf4, hb4⟩; have hn4 := Rw.of_own hf4; rw [E2.out] at hn4; rw [E2.out]; have hb4w := hb3w.trans (hb4.mono hb3w.size))))
            all_goals
              go_wp2
              go_roundw
              case rel => exact ⟨j + 1, a4, c4, Z, by omega, by go_num, rfl, hZ, hn4, hb4w⟩
              case measure => simp [intOf] <;> omega
          · obtain rfl : j = p := by omega
            have HXX : Hid (X = canon (dv l)) := by
              show _ = _
              have := hX.out
              rwa [← hn1, List.take_length] at this
            clear hX hn1
            go_wp2
            go_ret2
            exact ⟨ax, cx, by rw [← HXX.out]; rfl, by rw [← HXX.out]; exact hrx, hbr⟩
  · have b3 : decide ((1 : Int) < (n : Int)) = true := by rw [decide_eq_true_iff]; omega
    have b4 : ((x0 : Int) == 48) = false := by rw [beq_eq_false_iff_ne]; omega
    go_enter Tryz.func51, Tryz.ntmps51
    go_wp2
    go_loopw [4] (fun i wr => w = wr ∧ ∃ p : Nat, p ≤ n ∧ i = .int .i64 p) (fun i _ => n - (intOf i).toNat)
    case atStart => exact ⟨rfl, 0, Nat.zero_le _, rfl⟩
    case round =>
      obtain ⟨rfl, p, hp, rfl⟩ := hrel
      by_cases hlt : p < n
      · have hpl : p < l.length := by have := HN.out; omega
        have hps : p < S.size := by omega
        have gp := str_get HS.out p hps hpl
        obtain ⟨x, hx⟩ : ∃ x, l[p].toNat = x := ⟨_, rfl⟩
        have hgp : (S[p]'hps).toNat = x := by rw [gp, hx]
        have hd := digs_mem HDG.out l[p] (List.getElem_mem hpl)
        rw [hx] at hd
        obtain ⟨hd1, hd2⟩ := hd
        have h1d : decide ((x : Int) < 48) = false := by rw [decide_eq_false_iff_not]; omega
        have h2d : decide ((57 : Int) < (x : Int)) = false := by rw [decide_eq_false_iff_not]; omega
        clear gp hx
        go_wp2
        go_roundw
        case rel => exact ⟨trivial, p + 1, by omega, by go_num⟩
        case measure => simp [intOf] <;> omega
      · obtain rfl : p = n := by omega
        go_wp2
        go_loopw [5, 6] (fun num i wr => RpR w l num i wr) (fun _ i _ => p - (intOf i).toNat)
        case atStart => exact ⟨0, some ⟨w.heap.size, 0, none⟩, 0, [], Nat.zero_le _, rfl, rfl, (by show _ = _; rw [List.take_zero]; exact canon_zero.symm), Rw.nil _ _, Below.alloc (Below.refl _ _) (Nat.le_refl _) _⟩
        case round =>
          obtain ⟨j, ax, cx, X, hj, rfl, rfl, hX, hrx, hbr⟩ := hrel
          have hn1 := HN.out
          by_cases hjl : j < p
          · have hjl2 : j < l.length := by omega
            have hjs : j < S.size := by omega
            have gp := str_get HS.out j hjs hjl2
            obtain ⟨x, hx⟩ : ∃ x, l[j].toNat = x := ⟨_, rfl⟩
            have hgp : (S[j]'hjs).toNat = x := by rw [gp, hx]
            have hd := digs_mem HDG.out l[j] (List.getElem_mem hjl2)
            rw [hx] at hd
            obtain ⟨hd1, hd2⟩ := hd
            obtain ⟨d, hde⟩ : ∃ d, x - 48 = d := ⟨_, rfl⟩
            have hxd : IntKind.u8.wrap ((x : Int) - 48) = (d : Int) := by rw [IntKind.wrap_u8]; omega
            have hdb : d ≤ 9 := by omega
            have hwd : IntKind.u32.wrap (d : Int) = (d : Int) := by rw [IntKind.wrap_u32]; omega
            obtain ⟨DL, hDL⟩ : ∃ DL, DL = [BitVec.ofNat 32 d] := ⟨_, rfl⟩
            have hDLl : DL.length = 1 := by rw [hDL]; rfl
            have hDLv : valD DL = d := by rw [hDL]; simp [valD_cons, valD_nil]; omega
            have hlit : ∀ W : World, Rw (W.alloc (.cells #[Value.int IntKind.u32 (d : Int)] 42)) (some ⟨W.heap.size, 0, none⟩) DL := fun W => Rw.of_alloc rfl (by rw [hDL]; simp [bv32]; omega)
            obtain ⟨Y, E1⟩ := ex_canon (valD X * 10)
            have vY : valD Y = valD X * 10 := by rw [← E1.out, valD_canon]
            obtain ⟨Z, E2⟩ := ex_canon (valD Y + valD DL)
            have hZ : Hid (Z = canon (dv (l.take (j + 1)))) := by
              show _ = _
              rw [← E2.out, vY, hDLv, hX.out, valD_canon, dv_take_step hjl2, hx, hde]
            have fX : X.length ≤ 1000 := by
              rw [hX.out]
              have h := dv_fit (l := l.take j) (by have := digs_sub HDG.out 0 j; rwa [List.drop_zero] at this)
              rw [List.length_take] at h
              omega
            have fY : Y.length ≤ 1001 := by
              rw [← E1.out, canon_len_le]
              have h1 := valD_lt X
              have h2 := pw_mono fX
              rw [show 1001 = 1000 + 1 from rfl, pw_succ]
              omega
            have hrd : Rw wr.drew ax X := hrx
            have hbd : Below w.heap.size w wr.drew := hbr.drew
            have hrd2 : Rw (wr.alloc (.cells #[Value.int IntKind.u32 (d : Int)] 42)).drew ax X := hrx.below (Below.alloc (Below.refl _ _) (Nat.le_refl _) (.cells #[Value.int IntKind.u32 (d : Int)] 42)).drew
            have hbd2 : Below w.heap.size w (wr.alloc (.cells #[Value.int IntKind.u32 (d : Int)] 42)).drew := (hbr.alloc hbr.size _).drew
            have hl0 : Rw (wr.alloc (.cells #[Value.int IntKind.u32 (d : Int)] 42)).drew (some ⟨wr.heap.size, 0, none⟩) DL := hlit wr
            clear gp hx hde hDL vY hDLv hn1
            go_wp2
            go_region_with ((first
              | (go_at_call 81; (with_reducible refine (rtim10 ax _ cx X wr.drew rfl (by omega) hrd).mono ?_); rintro e w2 ⟨a2, c2, rfl, hf2, hb2⟩; have hn2 := Rw.of_own hf2; rw [E1.out] at hn2; rw [E1.out]; have hb2w := hbd.trans (hb2.mono hbd.size))
              | (go_at_call 81; (with_reducible refine (rtim10 ax _ cx X (wr.alloc (.cells #[Value.int IntKind.u32 (d : Int)] 42)).drew rfl (by omega) hrd2).mono ?_); rintro e w3 ⟨a3, c3, rfl, hf3, hb3⟩; have hn3 := Rw.of_own hf3; rw [E1.out] at hn3; rw [E1.out]; have hl3 := hl0.below hb3; have hb3w := hbd2.trans (hb3.mono hbd2.size))
              | (go_at_call 80; (with_reducible refine (radd_any a2 (some ⟨w2.heap.size, 0, none⟩) _ c2 1 1 Y DL _ rfl hDLl (by omega) (by omega) (hn2.below (Below.alloc (Below.refl _ _) (Nat.le_refl _) _)) (hlit w2)).mono ?_); rintro e w4 ⟨a4, c4, rfl, hf4, hb4⟩; have hn4 := Rw.of_own hf4; rw [E2.out] at hn4; rw [E2.out]; have hb4w := (hb2w.alloc hb2w.size (.cells #[Value.int IntKind.u32 (d : Int)] 42)).trans (hb4.mono (hb2w.alloc hb2w.size (.cells #[Value.int IntKind.u32 (d : Int)] 42)).size))
              | (go_at_call 80; (with_reducible refine (radd_any a3 (some ⟨wr.heap.size, 0, none⟩) _ c3 1 1 Y DL w3 rfl hDLl (by omega) (by omega) hn3 hl3).mono ?_); rintro e w4 ⟨a4, c4, rfl, hf4, hb4⟩; have hn4 := Rw.of_own hf4; rw [E2.out] at hn4; rw [E2.out]; have hb4w := hb3w.trans (hb4.mono hb3w.size))))
            all_goals
              go_wp2
              go_roundw
              case rel => exact ⟨j + 1, a4, c4, Z, by omega, by go_num, rfl, hZ, hn4, hb4w⟩
              case measure => simp [intOf] <;> omega
          · obtain rfl : j = p := by omega
            have HXX : Hid (X = canon (dv l)) := by
              show _ = _
              have := hX.out
              rwa [← hn1, List.take_length] at this
            clear hX hn1
            go_wp2
            go_ret2
            exact ⟨ax, cx, by rw [← HXX.out]; rfl, by rw [← HXX.out]; exact hrx, hbr⟩
end Go.Proofs.YtdkbmpncohhioaaGreatDoor

