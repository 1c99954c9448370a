import Derived.Test.YtbnialhpflaoaaaDoorPP
namespace Go.Proofs.YtbnialhpflaoaaaDoor
open Go.RowKit
set_option linter.unusedVariables false
set_option linter.unusedSimpArgs false
theorem isDec_lead' {l : List UInt8} (h : isDec l = true) (h1 : 1 < l.length) : l[0].toNat ≠ 48 := by
  intro e
  rw [isDec_lead h1 e] at h
  cases h
def RpR (w : World) (l : List UInt8) (num i : Value) (wr : World) : Prop := ∃ (p : Nat) (a : Option Addr) (c : Nat) (X : List (BitVec 32)), p ≤ l.length ∧ i = .int .i64 p ∧ num = .slice a X.length c ∧ Hid (X = canon (dv (l.take p))) ∧ Rw wr a X ∧ Below w.heap.size w wr
theorem rtim10 (a : Option Addr) (n c : Nat) (l : List (BitVec 32)) (w : World) (hn : l.length = n) (hl : n ≤ 1000000) (hr : Rw w a l) :
    Calls Tryd.prog 56 #[.slice a n c, .int .u64 10] w (FrW w (canon (valD l * 10))) := rtim_any a n c l 10 w hn hl (by omega) hr
set_option maxRecDepth 50000 in
set_option maxHeartbeats 1000000 in
theorem rparse_bad (S : ByteArray) (l : List UInt8) (w : World) (hS : S.data.toList = l) (hl : l.length ≤ 1000000) (hb : isDec l = false) :
    Calls Tryd.prog 39 #[.string S] w fun e w' => e = .returned (.tuple #[.slice none 0 0, .int .i64 3]) ∧ w = w' := by
  have hsz0 := str_size hS
  rcases Nat.eq_zero_or_pos l.length with h0 | h0
  · have hl0 := List.length_eq_zero_iff.1 h0
    subst hl0
    have := str_nil hS
    subst this
    clear hS hsz0 h0 hb
    go_enter Tryd.func39, Tryd.ntmps39
    go_wp2
    go_ret2
    exact ⟨rfl, rfl⟩
  have hne2 : ¬ S.toList = [] := by
    rw [ByteArray.toList_eq, hS]
    intro e
    rw [e] at h0
    simp at h0
  have hne : S.toList.isEmpty = false := by
    cases hq : S.toList with
    | nil => exact absurd hq hne2
    | cons _ _ => rfl
  obtain ⟨n, hn⟩ : ∃ n, l.length = n := ⟨_, rfl⟩
  have hsz : S.size = n := by rw [hsz0, hn]
  have hs0 : 0 < S.size := by rw [hsz0]; exact h0
  have g0 := str_get hS 0 hs0 h0
  obtain ⟨x0, hx0⟩ : ∃ x, l[0].toNat = x := ⟨_, rfl⟩
  have hg0 : (S[0]'hs0).toNat = x0 := by rw [g0, hx0]
  have HX0 : Hid (∀ h : 0 < l.length, l[0].toNat = x0) := fun _ => hx0
  have HS := Lib.hid hS
  have hnp : 0 < n := by omega
  have hnl : n ≤ 1000000 := by omega
  have HN := Lib.hid hn
  have HB := Lib.hid hb
  clear hb
  by_cases hbb : 1 < n ∧ x0 = 48
  · obtain ⟨b1, b2⟩ := hbb
    have b3 : decide ((1 : Int) < (n : Int)) = true := by rw [decide_eq_true_iff]; omega
    have b4 : ((x0 : Int) == 48) = true := by rw [b2]; rfl
    clear hn hx0 g0 hS hsz0 h0 hl
    go_enter Tryd.func39, Tryd.ntmps39
    go_wp2
    go_ret2
    exact ⟨rfl, rfl⟩
  have hlead : Hid (l.length ≤ 1 ∨ x0 ≠ 48) := by show _ ∨ _; rw [hn]; omega
  have main : (n ≤ 1 ∨ 1 < n ∧ x0 ≠ 48) := by omega
  clear hn hx0 g0 hS hsz0 h0 hl
  rcases main with hm | ⟨hm, hx48⟩
  · have b3 : decide ((1 : Int) < (n : Int)) = false := by rw [decide_eq_false_iff_not]; omega
    go_enter Tryd.func39, Tryd.ntmps39
    go_wp2
    go_loopw [4] (fun i wr => w = wr ∧ ∃ p : Nat, p ≤ n ∧ i = .int .i64 p ∧ Hid (digs (l.take p) = true)) (fun i _ => n - (intOf i).toNat)
    case atStart => exact ⟨rfl, 0, Nat.zero_le _, rfl, rfl⟩
    case round =>
      obtain ⟨rfl, p, hp, rfl, hd⟩ := hrel
      by_cases hlt : p < n
      · have hpl : p < l.length := by have := HN.out; omega
        have hps : p < S.size := by omega
        have gp := str_get HS.out p hps hpl
        obtain ⟨x, hx⟩ : ∃ x, l[p].toNat = x := ⟨_, rfl⟩
        have hgp : (S[p]'hps).toNat = x := by rw [gp, hx]
        have hxb : x < 256 := by rw [← hx]; exact l[p].toNat_lt
        have HX := Lib.hid hx
        clear gp hx
        by_cases h1 : x < 48
        · have h1d : decide ((x : Int) < 48) = true := by rw [decide_eq_true_iff]; omega
          go_wp2
          go_ret2
          exact ⟨rfl, rfl⟩
        have h1d : decide ((x : Int) < 48) = false := by rw [decide_eq_false_iff_not]; omega
        by_cases h2 : 57 < x
        · have h2d : decide ((57 : Int) < (x : Int)) = true := by rw [decide_eq_true_iff]; omega
          go_wp2
          go_ret2
          exact ⟨rfl, rfl⟩
        have h2d : decide ((57 : Int) < (x : Int)) = false := by rw [decide_eq_false_iff_not]; omega
        go_wp2
        go_roundw
        case rel => exact ⟨trivial, p + 1, by omega, by go_num, digs_take hpl hd.out (by rw [HX.out]; omega) (by rw [HX.out]; omega)⟩
        case measure => simp [intOf] <;> omega
      · exfalso
        obtain rfl : p = n := by omega
        have hres := isDec_ok (by rw [HN.out]; exact hnp) (hlead.out.imp id fun h => by rw [HX0.out]; exact h) (by have := hd.out; rwa [← HN.out, List.take_length] at this)
        rw [HB.out] at hres
        cases hres
  · have b3 : decide ((1 : Int) < (n : Int)) = true := by rw [decide_eq_true_iff]; omega
    have b4 : ((x0 : Int) == 48) = false := by rw [beq_eq_false_iff_ne]; omega
    go_enter Tryd.func39, Tryd.ntmps39
    go_wp2
    go_loopw [4] (fun i wr => w = wr ∧ ∃ p : Nat, p ≤ n ∧ i = .int .i64 p ∧ Hid (digs (l.take p) = true)) (fun i _ => n - (intOf i).toNat)
    case atStart => exact ⟨rfl, 0, Nat.zero_le _, rfl, rfl⟩
    case round =>
      obtain ⟨rfl, p, hp, rfl, hd⟩ := hrel
      by_cases hlt : p < n
      · have hpl : p < l.length := by have := HN.out; omega
        have hps : p < S.size := by omega
        have gp := str_get HS.out p hps hpl
        obtain ⟨x, hx⟩ : ∃ x, l[p].toNat = x := ⟨_, rfl⟩
        have hgp : (S[p]'hps).toNat = x := by rw [gp, hx]
        have hxb : x < 256 := by rw [← hx]; exact l[p].toNat_lt
        have HX := Lib.hid hx
        clear gp hx
        by_cases h1 : x < 48
        · have h1d : decide ((x : Int) < 48) = true := by rw [decide_eq_true_iff]; omega
          go_wp2
          go_ret2
          exact ⟨rfl, rfl⟩
        have h1d : decide ((x : Int) < 48) = false := by rw [decide_eq_false_iff_not]; omega
        by_cases h2 : 57 < x
        · have h2d : decide ((57 : Int) < (x : Int)) = true := by rw [decide_eq_true_iff]; omega
          go_wp2
          go_ret2
          exact ⟨rfl, rfl⟩
        have h2d : decide ((57 : Int) < (x : Int)) = false := by rw [decide_eq_false_iff_not]; omega
        go_wp2
        go_roundw
        case rel => exact ⟨trivial, p + 1, by omega, by go_num, digs_take hpl hd.out (by rw [HX.out]; omega) (by rw [HX.out]; omega)⟩
        case measure => simp [intOf] <;> omega
      · exfalso
        obtain rfl : p = n := by omega
        have hres := isDec_ok (by rw [HN.out]; exact hnp) (hlead.out.imp id fun h => by rw [HX0.out]; exact h) (by have := hd.out; rwa [← HN.out, List.take_length] at this)
        rw [HB.out] at hres
        cases hres
set_option maxRecDepth 50000 in
set_option maxHeartbeats 1000000 in
theorem rparse_long (S : ByteArray) (l : List UInt8) (w : World) (hS : S.data.toList = l) (hl : l.length ≤ 1000000) (hb : isDec l = true) (h2 : 1000 < l.length) :
    Calls Tryd.prog 39 #[.string S] w fun e w' => e = .returned (.tuple #[.slice none 0 0, .int .i64 5]) ∧ w = w' := by
  have hsz0 := str_size hS
  obtain ⟨hdg, h0⟩ := isDec_digs hb
  have HDG := Lib.hid hdg
  have hne2 : ¬ S.toList = [] := by
    rw [ByteArray.toList_eq, hS]
    intro e
    rw [e] at h0
    simp at h0
  have hne : S.toList.isEmpty = false := by
    cases hq : S.toList with
    | nil => exact absurd hq hne2
    | cons _ _ => rfl
  obtain ⟨n, hn⟩ : ∃ n, l.length = n := ⟨_, rfl⟩
  have hsz : S.size = n := by rw [hsz0, hn]
  have hs0 : 0 < S.size := by rw [hsz0]; exact h0
  have g0 := str_get hS 0 hs0 h0
  obtain ⟨x0, hx0⟩ : ∃ x, l[0].toNat = x := ⟨_, rfl⟩
  have hg0 : (S[0]'hs0).toNat = x0 := by rw [g0, hx0]
  have HX0 : Hid (∀ h : 0 < l.length, l[0].toNat = x0) := fun _ => hx0
  have HS := Lib.hid hS
  have hnp : 0 < n := by omega
  have hnl : n ≤ 1000000 := by omega
  have HN := Lib.hid hn
  have h3 : 1000 < n := by omega
  have b5 : decide ((1000 : Int) < (n : Int)) = true := by rw [decide_eq_true_iff]; omega
  have hl48 : 1 < n → x0 ≠ 48 := by intro h; rw [← hx0]; exact isDec_lead' hb (by rw [hn]; exact h)
  have HL48 := Lib.hid hl48
  clear hb hdg hl48 h2
  have hm : 1 < n := by omega
  have hx48 := HL48.out hm
  clear hn hx0 g0 hS hsz0 h0 hl
  have b3 : decide ((1 : Int) < (n : Int)) = true := by rw [decide_eq_true_iff]; omega
  have b4 : ((x0 : Int) == 48) = false := by rw [beq_eq_false_iff_ne]; omega
  go_enter Tryd.func39, Tryd.ntmps39
  go_wp2
  go_loopw [4] (fun i wr => w = wr ∧ ∃ p : Nat, p ≤ n ∧ i = .int .i64 p) (fun i _ => n - (intOf i).toNat)
  case atStart => exact ⟨rfl, 0, Nat.zero_le _, rfl⟩
  case round =>
    obtain ⟨rfl, p, hp, rfl⟩ := hrel
    by_cases hlt : p < n
    · have hpl : p < l.length := by have := HN.out; omega
      have hps : p < S.size := by omega
      have gp := str_get HS.out p hps hpl
      obtain ⟨x, hx⟩ : ∃ x, l[p].toNat = x := ⟨_, rfl⟩
      have hgp : (S[p]'hps).toNat = x := by rw [gp, hx]
      have hd := digs_mem HDG.out l[p] (List.getElem_mem hpl)
      rw [hx] at hd
      obtain ⟨hd1, hd2⟩ := hd
      have h1d : decide ((x : Int) < 48) = false := by rw [decide_eq_false_iff_not]; omega
      have h2d : decide ((57 : Int) < (x : Int)) = false := by rw [decide_eq_false_iff_not]; omega
      clear gp hx
      go_wp2
      go_roundw
      case rel => exact ⟨trivial, p + 1, by omega, by go_num⟩
      case measure => simp [intOf] <;> omega
    · obtain rfl : p = n := by omega
      go_wp2
      go_ret2
      exact ⟨rfl, rfl⟩
set_option maxRecDepth 50000 in
set_option maxHeartbeats 2000000 in
theorem rparse_ok (S : ByteArray) (l : List UInt8) (w : World) (hS : S.data.toList = l) (hb : isDec l = true) (h2 : l.length ≤ 1000) :
    Calls Tryd.prog 39 #[.string S] w fun e w' => ∃ a c, e = .returned (.tuple #[.slice a (canon (dv l)).length c, .int .i64 0]) ∧ Rw w' a (canon (dv l)) ∧ Below w.heap.size w w' := by
  have hsz0 := str_size hS
  obtain ⟨hdg, h0⟩ := isDec_digs hb
  have HDG := Lib.hid hdg
  have hl : l.length ≤ 1000000 := by omega
  have hne2 : ¬ S.toList = [] := by
    rw [ByteArray.toList_eq, hS]
    intro e
    rw [e] at h0
    simp at h0
  have hne : S.toList.isEmpty = false := by
    cases hq : S.toList with
    | nil => exact absurd hq hne2
    | cons _ _ => rfl
  obtain ⟨n, hn⟩ : ∃ n, l.length = n := ⟨_, rfl⟩
  have hsz : S.size = n := by rw [hsz0, hn]
  have hs0 : 0 < S.size := by rw [hsz0]; exact h0
  have g0 := str_get hS 0 hs0 h0
  obtain ⟨x0, hx0⟩ : ∃ x, l[0].toNat = x := ⟨_, rfl⟩
  have hg0 : (S[0]'hs0).toNat = x0 := by rw [g0, hx0]
  have HX0 : Hid (∀ h : 0 < l.length, l[0].toNat = x0) := fun _ => hx0
  have HS := Lib.hid hS
  have hnp : 0 < n := by omega
  have hnl : n ≤ 1000000 := by omega
  have HN := Lib.hid hn
  have h3 : n ≤ 1000 := by omega
  have b5 : decide ((1000 : Int) < (n : Int)) = false := by rw [decide_eq_false_iff_not]; omega
  have hl48 : 1 < n → x0 ≠ 48 := by intro h; rw [← hx0]; exact isDec_lead' hb (by rw [hn]; exact h)
  have HL48 := Lib.hid hl48
  clear hb hdg hl48 h2
  have main : (n ≤ 1 ∨ 1 < n ∧ x0 ≠ 48) := by have := HL48.out; omega
  clear hn hx0 g0 hS hsz0 h0 hl
  rcases main with hm | ⟨hm, hx48⟩
  · have b3 : decide ((1 : Int) < (n : Int)) = false := by rw [decide_eq_false_iff_not]; omega
    go_enter Tryd.func39, Tryd.ntmps39
    go_wp2
    go_loopw [4] (fun i wr => w = wr ∧ ∃ p : Nat, p ≤ n ∧ i = .int .i64 p) (fun i _ => n - (intOf i).toNat)
    case atStart => exact ⟨rfl, 0, Nat.zero_le _, rfl⟩
    case round =>
      obtain ⟨rfl, p, hp, rfl⟩ := hrel
      by_cases hlt : p < n
      · have hpl : p < l.length := by have := HN.out; omega
        have hps : p < S.size := by omega
        have gp := str_get HS.out p hps hpl
        obtain ⟨x, hx⟩ : ∃ x, l[p].toNat = x := ⟨_, rfl⟩
        have hgp : (S[p]'hps).toNat = x := by rw [gp, hx]
        have hd := digs_mem HDG.out l[p] (List.getElem_mem hpl)
        rw [hx] at hd
        obtain ⟨hd1, hd2⟩ := hd
        have h1d : decide ((x : Int) < 48) = false := by rw [decide_eq_false_iff_not]; omega
        have h2d : decide ((57 : Int) < (x : Int)) = false := by rw [decide_eq_false_iff_not]; omega
        clear gp hx
        go_wp2
        go_roundw
        case rel => exact ⟨trivial, p + 1, by omega, by go_num⟩
        case measure => simp [intOf] <;> omega
      · obtain rfl : p = n := by omega
        go_wp2
        go_loopw [5, 6] (fun num i wr => RpR w l num i wr) (fun _ i _ => p - (intOf i).toNat)
        case atStart => exact ⟨0, some ⟨w.heap.size, 0, none⟩, 0, [], Nat.zero_le _, rfl, rfl, (by show _ = _; rw [List.take_zero]; exact canon_zero.symm), Rw.nil _ _, Below.alloc (Below.refl _ _) (Nat.le_refl _) _⟩
        case round =>
          obtain ⟨j, ax, cx, X, hj, rfl, rfl, hX, hrx, hbr⟩ := hrel
          have hn1 := HN.out
          by_cases hjl : j < p
          · have hjl2 : j < l.length := by omega
            have hjs : j < S.size := by omega
            have gp := str_get HS.out j hjs hjl2
            obtain ⟨x, hx⟩ : ∃ x, l[j].toNat = x := ⟨_, rfl⟩
            have hgp : (S[j]'hjs).toNat = x := by rw [gp, hx]
            have hd := digs_mem HDG.out l[j] (List.getElem_mem hjl2)
            rw [hx] at hd
            obtain ⟨hd1, hd2⟩ := hd
            obtain ⟨d, hde⟩ : ∃ d, x - 48 = d := ⟨_, rfl⟩
            have hxd : IntKind.u8.wrap ((x : Int) - 48) = (d : Int) := by rw [IntKind.wrap_u8]; omega
            have hdb : d ≤ 9 := by omega
            have hwd : IntKind.u32.wrap (d : Int) = (d : Int) := by rw [IntKind.wrap_u32]; omega
            obtain ⟨DL, hDL⟩ : ∃ DL, DL = [BitVec.ofNat 32 d] := ⟨_, rfl⟩
            have hDLl : DL.length = 1 := by rw [hDL]; rfl
            have hDLv : valD DL = d := by rw [hDL]; simp [valD_cons, valD_nil]; omega
            have hlit : ∀ W : World, Rw (W.alloc (.cells #[Value.int IntKind.u32 (d : Int)] 39)) (some ⟨W.heap.size, 0, none⟩) DL := fun W => Rw.of_alloc rfl (by rw [hDL]; simp [bv32]; omega)
            obtain ⟨Y, E1⟩ := ex_canon (valD X * 10)
            have vY : valD Y = valD X * 10 := by rw [← E1.out, valD_canon]
            obtain ⟨Z, E2⟩ := ex_canon (valD Y + valD DL)
            have hZ : Hid (Z = canon (dv (l.take (j + 1)))) := by
              show _ = _
              rw [← E2.out, vY, hDLv, hX.out, valD_canon, dv_take_step hjl2, hx, hde]
            have fX : X.length ≤ 1000 := by
              rw [hX.out]
              have h := dv_fit (l := l.take j) (by have := digs_sub HDG.out 0 j; rwa [List.drop_zero] at this)
              rw [List.length_take] at h
              omega
            have fY : Y.length ≤ 1001 := by
              rw [← E1.out, canon_len_le]
              have h1 := valD_lt X
              have h2 := pw_mono fX
              rw [show 1001 = 1000 + 1 from rfl, pw_succ]
              omega
            have hrd : Rw wr.drew ax X := hrx
            have hbd : Below w.heap.size w wr.drew := hbr.drew
            have hrd2 : Rw (wr.alloc (.cells #[Value.int IntKind.u32 (d : Int)] 39)).drew ax X := hrx.below (Below.alloc (Below.refl _ _) (Nat.le_refl _) (.cells #[Value.int IntKind.u32 (d : Int)] 39)).drew
            have hbd2 : Below w.heap.size w (wr.alloc (.cells #[Value.int IntKind.u32 (d : Int)] 39)).drew := (hbr.alloc hbr.size _).drew
            have hl0 : Rw (wr.alloc (.cells #[Value.int IntKind.u32 (d : Int)] 39)).drew (some ⟨wr.heap.size, 0, none⟩) DL := hlit wr
            clear gp hx hde hDL vY hDLv hn1
            go_wp2
            go_region_with ((first
              | (go_at_call 56; (with_reducible refine (rtim10 ax _ cx X wr.drew rfl (by omega) hrd).mono ?_); rintro e w2 ⟨a2, c2, rfl, hf2, hb2⟩; have hn2 := Rw.of_own hf2; rw [E1.out] at hn2; rw [E1.out]; have hb2w := hbd.trans (hb2.mono hbd.size))
              | (go_at_call 56; (with_reducible refine (rtim10 ax _ cx X (wr.alloc (.cells #[Value.int IntKind.u32 (d : Int)] 39)).drew rfl (by omega) hrd2).mono ?_); rintro e w3 ⟨a3, c3, rfl, hf3, hb3⟩; have hn3 := Rw.of_own hf3; rw [E1.out] at hn3; rw [E1.out]; have hl3 := hl0.below hb3; have hb3w := hbd2.trans (hb3.mono hbd2.size))
              | (go_at_call 28; (with_reducible refine (radd_any a2 (some ⟨w2.heap.size, 0, none⟩) _ c2 1 1 Y DL _ rfl hDLl (by omega) (by omega) (hn2.below (Below.alloc (Below.refl _ _) (Nat.le_refl _) _)) (hlit w2)).mono ?_); rintro e w4 ⟨a4, c4, rfl, hf4, hb4⟩; have hn4 := Rw.of_own hf4; rw [E2.out] at hn4; rw [E2.out]; have hb4w := (hb2w.alloc hb2w.size (.cells #[Value.int IntKind.u32 (d : Int)] 39)).trans (hb4.mono (hb2w.alloc hb2w.size (.cells #[Value.int IntKind.u32 (d : Int)] 39)).size))
              | (go_at_call 28; (with_reducible refine (radd_any a3 (some ⟨wr.heap.size, 0, none⟩) _ c3 1 1 Y DL w3 rfl hDLl (by omega) (by omega) hn3 hl3).mono ?_); rintro e w4 ⟨a4, c4, rfl, hf4, hb4⟩; have hn4 := Rw.of_own hf4; rw [E2.out] at hn4; rw [E2.out]; have hb4w := hb3w.trans (hb4.mono hb3w.size))))
            all_goals
              go_wp2
              go_roundw
              case rel => exact ⟨j + 1, a4, c4, Z, by omega, by go_num, rfl, hZ, hn4, hb4w⟩
              case measure => simp [intOf] <;> omega
          · obtain rfl : j = p := by omega
            have HXX : Hid (X = canon (dv l)) := by
              show _ = _
              have := hX.out
              rwa [← hn1, List.take_length] at this
            clear hX hn1
            go_wp2
            go_ret2
            exact ⟨ax, cx, by rw [← HXX.out]; rfl, by rw [← HXX.out]; exact hrx, hbr⟩
  · have b3 : decide ((1 : Int) < (n : Int)) = true := by rw [decide_eq_true_iff]; omega
    have b4 : ((x0 : Int) == 48) = false := by rw [beq_eq_false_iff_ne]; omega
    go_enter Tryd.func39, Tryd.ntmps39
    go_wp2
    go_loopw [4] (fun i wr => w = wr ∧ ∃ p : Nat, p ≤ n ∧ i = .int .i64 p) (fun i _ => n - (intOf i).toNat)
    case atStart => exact ⟨rfl, 0, Nat.zero_le _, rfl⟩
    case round =>
      obtain ⟨rfl, p, hp, rfl⟩ := hrel
      by_cases hlt : p < n
      · have hpl : p < l.length := by have := HN.out; omega
        have hps : p < S.size := by omega
        have gp := str_get HS.out p hps hpl
        obtain ⟨x, hx⟩ : ∃ x, l[p].toNat = x := ⟨_, rfl⟩
        have hgp : (S[p]'hps).toNat = x := by rw [gp, hx]
        have hd := digs_mem HDG.out l[p] (List.getElem_mem hpl)
        rw [hx] at hd
        obtain ⟨hd1, hd2⟩ := hd
        have h1d : decide ((x : Int) < 48) = false := by rw [decide_eq_false_iff_not]; omega
        have h2d : decide ((57 : Int) < (x : Int)) = false := by rw [decide_eq_false_iff_not]; omega
        clear gp hx
        go_wp2
        go_roundw
        case rel => exact ⟨trivial, p + 1, by omega, by go_num⟩
        case measure => simp [intOf] <;> omega
      · obtain rfl : p = n := by omega
        go_wp2
        go_loopw [5, 6] (fun num i wr => RpR w l num i wr) (fun _ i _ => p - (intOf i).toNat)
        case atStart => exact ⟨0, some ⟨w.heap.size, 0, none⟩, 0, [], Nat.zero_le _, rfl, rfl, (by show _ = _; rw [List.take_zero]; exact canon_zero.symm), Rw.nil _ _, Below.alloc (Below.refl _ _) (Nat.le_refl _) _⟩
        case round =>
          obtain ⟨j, ax, cx, X, hj, rfl, rfl, hX, hrx, hbr⟩ := hrel
          have hn1 := HN.out
          by_cases hjl : j < p
          · have hjl2 : j < l.length := by omega
            have hjs : j < S.size := by omega
            have gp := str_get HS.out j hjs hjl2
            obtain ⟨x, hx⟩ : ∃ x, l[j].toNat = x := ⟨_, rfl⟩
            have hgp : (S[j]'hjs).toNat = x := by rw [gp, hx]
            have hd := digs_mem HDG.out l[j] (List.getElem_mem hjl2)
            rw [hx] at hd
            obtain ⟨hd1, hd2⟩ := hd
            obtain ⟨d, hde⟩ : ∃ d, x - 48 = d := ⟨_, rfl⟩
            have hxd : IntKind.u8.wrap ((x : Int) - 48) = (d : Int) := by rw [IntKind.wrap_u8]; omega
            have hdb : d ≤ 9 := by omega
            have hwd : IntKind.u32.wrap (d : Int) = (d : Int) := by rw [IntKind.wrap_u32]; omega
            obtain ⟨DL, hDL⟩ : ∃ DL, DL = [BitVec.ofNat 32 d] := ⟨_, rfl⟩
            have hDLl : DL.length = 1 := by rw [hDL]; rfl
            have hDLv : valD DL = d := by rw [hDL]; simp [valD_cons, valD_nil]; omega
            have hlit : ∀ W : World, Rw (W.alloc (.cells #[Value.int IntKind.u32 (d : Int)] 39)) (some ⟨W.heap.size, 0, none⟩) DL := fun W => Rw.of_alloc rfl (by rw [hDL]; simp [bv32]; omega)
            obtain ⟨Y, E1⟩ := ex_canon (valD X * 10)
            have vY : valD Y = valD X * 10 := by rw [← E1.out, valD_canon]
            obtain ⟨Z, E2⟩ := ex_canon (valD Y + valD DL)
            have hZ : Hid (Z = canon (dv (l.take (j + 1)))) := by
              show _ = _
              rw [← E2.out, vY, hDLv, hX.out, valD_canon, dv_take_step hjl2, hx, hde]
            have fX : X.length ≤ 1000 := by
              rw [hX.out]
              have h := dv_fit (l := l.take j) (by have := digs_sub HDG.out 0 j; rwa [List.drop_zero] at this)
              rw [List.length_take] at h
              omega
            have fY : Y.length ≤ 1001 := by
              rw [← E1.out, canon_len_le]
              have h1 := valD_lt X
              have h2 := pw_mono fX
              rw [show 1001 = 1000 + 1 from rfl, pw_succ]
              omega
            have hrd : Rw wr.drew ax X := hrx
            have hbd : Below w.heap.size w wr.drew := hbr.drew
            have hrd2 : Rw (wr.alloc (.cells #[Value.int IntKind.u32 (d : Int)] 39)).drew ax X := hrx.below (Below.alloc (Below.refl _ _) (Nat.le_refl _) (.cells #[Value.int IntKind.u32 (d : Int)] 39)).drew
            have hbd2 : Below w.heap.size w (wr.alloc (.cells #[Value.int IntKind.u32 (d : Int)] 39)).drew := (hbr.alloc hbr.size _).drew
            have hl0 : Rw (wr.alloc (.cells #[Value.int IntKind.u32 (d : Int)] 39)).drew (some ⟨wr.heap.size, 0, none⟩) DL := hlit wr
            clear gp hx hde hDL vY hDLv hn1
            go_wp2
            go_region_with ((first
              | (go_at_call 56; (with_reducible refine (rtim10 ax _ cx X wr.drew rfl (by omega) hrd).mono ?_); rintro e w2 ⟨a2, c2, rfl, hf2, hb2⟩; have hn2 := Rw.of_own hf2; rw [E1.out] at hn2; rw [E1.out]; have hb2w := hbd.trans (hb2.mono hbd.size))
              | (go_at_call 56; (with_reducible refine (rtim10 ax _ cx X (wr.alloc (.cells #[Value.int IntKind.u32 (d : Int)] 39)).drew rfl (by omega) hrd2).mono ?_); rintro e w3 ⟨a3, c3, rfl, hf3, hb3⟩; have hn3 := Rw.of_own hf3; rw [E1.out] at hn3; rw [E1.out]; have hl3 := hl0.below hb3; have hb3w := hbd2.trans (hb3.mono hbd2.size))
              | (go_at_call 28; (with_reducible refine (radd_any a2 (some ⟨w2.heap.size, 0, none⟩) _ c2 1 1 Y DL _ rfl hDLl (by omega) (by omega) (hn2.below (Below.alloc (Below.refl _ _) (Nat.le_refl _) _)) (hlit w2)).mono ?_); rintro e w4 ⟨a4, c4, rfl, hf4, hb4⟩; have hn4 := Rw.of_own hf4; rw [E2.out] at hn4; rw [E2.out]; have hb4w := (hb2w.alloc hb2w.size (.cells #[Value.int IntKind.u32 (d : Int)] 39)).trans (hb4.mono (hb2w.alloc hb2w.size (.cells #[Value.int IntKind.u32 (d : Int)] 39)).size))
              | (go_at_call 28; (with_reducible refine (radd_any a3 (some ⟨wr.heap.size, 0, none⟩) _ c3 1 1 Y DL w3 rfl hDLl (by omega) (by omega) hn3 hl3).mono ?_); rintro e w4 ⟨a4, c4, rfl, hf4, hb4⟩; have hn4 := Rw.of_own hf4; rw [E2.out] at hn4; rw [E2.out]; have hb4w := hb3w.trans (hb4.mono hb3w.size))))
            all_goals
              go_wp2
              go_roundw
              case rel => exact ⟨j + 1, a4, c4, Z, by omega, by go_num, rfl, hZ, hn4, hb4w⟩
              case measure => simp [intOf] <;> omega
          · obtain rfl : j = p := by omega
            have HXX : Hid (X = canon (dv l)) := by
              show _ = _
              have := hX.out
              rwa [← hn1, List.take_length] at this
            clear hX hn1
            go_wp2
            go_ret2
            exact ⟨ax, cx, by rw [← HXX.out]; rfl, by rw [← HXX.out]; exact hrx, hbr⟩
end Go.Proofs.YtbnialhpflaoaaaDoor
