import Derived.Test.YtbplcgbfhijbcaaEl
import Derived.Test.YtbplcgbfhijbcaaU2
namespace Go.Proofs.Ytbplcgbfhijbcaa
open Go.RowKit
set_option linter.unusedVariables false
set_option linter.unusedSimpArgs false
theorem In64.get {l : List Int} (h : In64 l) (k : Nat) (hk : k < l.length) : -9223372036854775808 ≤ l[k] ∧ l[k] ≤ 9223372036854775807 := h _ (List.getElem_mem hk)
theorem denc_snoc (last : Int) (l : List Int) (x : Int) : denc last (l ++ [x]) = denc last l ++ putU (zz (wrp (x - (l.getLast?.getD last)))) := by
  induction l generalizing last with
  | nil => simp [denc]
  | cons y t ih =>
    simp only [List.cons_append, denc, ih, List.append_assoc]
    congr 3
    rcases t with _ | ⟨z, t⟩
    · simp
    · simp [List.getLast?_cons]
theorem denc_len (last : Int) (l : List Int) : (denc last l).length ≤ 10 * l.length := by
  induction l generalizing last with
  | nil => simp [denc]
  | cons y t ih =>
    have hw := wr_in (y - last)
    have h1 := putU_len10 (zz_lt hw.1 hw.2)
    have h2 := ih y
    simp only [denc, List.length_append, List.length_cons]
    omega
set_option maxRecDepth 50000 in
theorem pi_any (a : Option Addr) (n c : Nat) (l : List Int) (w : World) (hn : l.length = n) (hl : n ≤ 1000000) (hi : In64 l) (hr : Ri w a l) :
    Calls Try.prog 38 #[.slice a n c] w (FrB w (putI l)) := by
  subst hn
  have h10 := putU_len10 (n := l.length) (by omega)
  have HL := Lib.hid h10
  clear h10
  have H64 : l.length < 18446744073709551616 := by omega
  go_enter Try.func38, Try.ntmps38
  go_wp2_with (go_at_call 16; go_loud ((with_reducible refine (putu_any _ _ H64).mono ?_); rintro e1 w1 ⟨a1, c1, rfl, hc1, ho1, hb1⟩; have hs1 := hb1.size))
  go_loopw [3, 4, 13] (fun v la i wr => ∃ (k : Nat) (L : Int), k ≤ l.length ∧ i = .int .i64 k ∧ la = .int .i64 L ∧ Hid (L = ((l.take k).getLast?.getD 0)) ∧ (-9223372036854775808 ≤ L ∧ L ≤ 9223372036854775807) ∧ wr.ownsRow w.heap.size 5 1 v ((putU l.length).length + (denc 0 (l.take k)).length) (bv8 (putU l.length ++ denc 0 (l.take k))) ∧ Below w.heap.size w wr) (fun _ _ i _ => l.length - (intOf i).toNat)
  case atStart => exact ⟨0, 0, Nat.zero_le _, rfl, rfl, rfl, by omega, by simpa [denc] using ho1, hb1⟩
  case round =>
    obtain ⟨k, L, hk, rfl, rfl, hL, hLb, hown, hb⟩ := hrel
    have hz := hb.size
    by_cases hlt : k < l.length
    · obtain ⟨ad, rfl, hc⟩ := hr k hlt
      have hc2 := (hb.cell (p := ad.add k) (World.block_lt_of_cell? w _ hc)).trans hc
      obtain ⟨x, hx⟩ : ∃ x, l[k] = x := ⟨_, rfl⟩
      have hxb := hi.get k hlt
      rw [hx] at hc2 hxb
      have HX := Lib.hid hx
      have hw : -9223372036854775808 ≤ wrap64 (x - L) ∧ wrap64 (x - L) ≤ 9223372036854775807 := by rw [wrap64_wr]; exact wr_in (x - L)
      have hq1 := putU_len10 (zz_lt hw.1 hw.2)
      have hq2 := denc_len 0 (l.take k)
      rw [List.length_take] at hq2
      have HQ := Lib.hid (show (putU l.length).length + (denc 0 (l.take k)).length + (putU (zz (wrap64 (x - L)))).length ≤ 100000000 by have := HL.out; omega)
      have HA := Lib.hid hw.1
      have HB := Lib.hid hw.2
      clear hx hq1 hq2 hw hc
      go_wp2_with (first
        | (go_at_call 21; go_loud ((with_reducible refine (pv_any _ _ HA.out HB.out).mono ?_); rintro e1 w2 ⟨a3, c3, rfl, hc3, ho3, hb3⟩; have hown3 := own_below hown hb3; have hz3 := Nat.le_trans hz hb3.size))
        | (at_builtin; go_loud (refine wpList_apps8 (B := w.heap.size) rfl _ _ rfl hown3 hz3 (k := putU (zz (wrap64 (x - L)))) rfl (Rd.of_own ho3) HQ.out rfl rfl ?_; intro v' w4 hown4 hb4)))
      go_roundw
      case rel =>
        have ed : denc 0 (l.take (k + 1)) = denc 0 (l.take k) ++ putU (zz (wrap64 (x - L))) := by
          rw [List.take_succ_eq_append_getElem hlt, denc_snoc, HX.out, ← hL.out, wrap64_wr]
        refine ⟨k + 1, x, by omega, by go_num, rfl, ?_, hxb, ?_, (hb.trans (hb3.mono hz)).trans hb4⟩
        · show _ = _
          rw [List.take_succ_eq_append_getElem hlt, HX.out]; simp
        · rw [ed, ← List.append_assoc, List.length_append, ← Nat.add_assoc]
          exact hown4
      case measure => (simp [intOf]; try omega)
    · obtain rfl : k = l.length := by omega
      rw [List.take_length] at hown
      go_wp2
      go_ret
      exact FrB.mk' (by simp [putI]) hown hb
theorem sub64 (x L : Int) (hx0 : -9223372036854775808 ≤ x) (hx1 : x ≤ 9223372036854775807) (hy0 : -9223372036854775808 ≤ L) (hy1 : L ≤ 9223372036854775807) :
    wrap64 (IntKind.u64.wrap (IntKind.u64.wrap x - IntKind.u64.wrap L)) = wrap64 (x - L) := by
  unfold wrap64 IntKind.wrap; simp [IntKind.signed, IntKind.bits]; try omega
theorem add64 (x L : Int) (hx0 : -9223372036854775808 ≤ x) (hx1 : x ≤ 9223372036854775807) (hy0 : -9223372036854775808 ≤ L) (hy1 : L ≤ 9223372036854775807) :
    wrap64 (IntKind.u64.wrap (IntKind.u64.wrap x + IntKind.u64.wrap L)) = wrap64 (x + L) := by
  unfold wrap64 IntKind.wrap; simp [IntKind.signed, IntKind.bits]; try omega
theorem rpv_at (z y : Int) (w : World) (hy : y = z) (h0 : -9223372036854775808 ≤ z) (h1 : z ≤ 9223372036854775807) : Calls Try.prog 22 #[.int .i64 y] w (FrB w (putU (zz z))) := by subst hy; exact rpv_any y w h0 h1
set_option maxRecDepth 50000 in
theorem rpi_any (a : Option Addr) (n c : Nat) (l : List Int) (w : World) (hn : l.length = n) (hl : n ≤ 1000000) (hi : In64 l) (hr : Ri w a l) :
    Calls Try.prog 39 #[.slice a n c] w (FrB w (putI l)) := by
  subst hn
  have h10 := putU_len10 (n := l.length) (by omega)
  have HL := Lib.hid h10
  clear h10
  have H64 : l.length < 18446744073709551616 := by omega
  go_enter Try.func39, Try.ntmps39
  go_wp2_with (go_at_call 17; go_loud ((with_reducible refine (rputu_any _ _ H64).mono ?_); rintro e1 w1 ⟨a1, c1, rfl, hc1, ho1, hb1⟩; have hs1 := hb1.size))
  go_loopw [3, 4, 5] (fun v la i wr => ∃ (k : Nat) (L : Int), k ≤ l.length ∧ i = .int .i64 k ∧ la = .int .i64 L ∧ Hid (L = ((l.take k).getLast?.getD 0)) ∧ (-9223372036854775808 ≤ L ∧ L ≤ 9223372036854775807) ∧ wr.ownsRow w.heap.size 5 1 v ((putU l.length).length + (denc 0 (l.take k)).length) (bv8 (putU l.length ++ denc 0 (l.take k))) ∧ Below w.heap.size w wr) (fun _ _ i _ => l.length - (intOf i).toNat)
  case atStart => exact ⟨0, 0, Nat.zero_le _, rfl, rfl, rfl, by omega, by simpa [denc] using ho1, hb1⟩
  case round =>
    obtain ⟨k, L, hk, rfl, rfl, hL, hLb, hown, hb⟩ := hrel
    have hz := hb.size
    by_cases hlt : k < l.length
    · obtain ⟨ad, rfl, hc⟩ := hr k hlt
      have hc2 := (hb.cell (p := ad.add k) (World.block_lt_of_cell? w _ hc)).trans hc
      obtain ⟨x, hx⟩ : ∃ x, l[k] = x := ⟨_, rfl⟩
      have hxb := hi.get k hlt
      rw [hx] at hc2 hxb
      have HX := Lib.hid hx
      have hw : -9223372036854775808 ≤ wrap64 (x - L) ∧ wrap64 (x - L) ≤ 9223372036854775807 := by rw [wrap64_wr]; exact wr_in (x - L)
      have hq1 := putU_len10 (zz_lt hw.1 hw.2)
      have hq2 := denc_len 0 (l.take k)
      rw [List.length_take] at hq2
      have HQ := Lib.hid (show (putU l.length).length + (denc 0 (l.take k)).length + (putU (zz (wrap64 (x - L)))).length ≤ 100000000 by have := HL.out; omega)
      have HA := Lib.hid hw.1
      have HB := Lib.hid hw.2
      have HS := Lib.hid (sub64 x L hxb.1 hxb.2 hLb.1 hLb.2)
      clear hx hq1 hq2 hw
      go_wp2_with (first
        | (go_at_call 22; go_loud ((with_reducible refine (rpv_at _ _ _ HS.out HA.out HB.out).mono ?_); rintro e1 w2 ⟨a3, c3, rfl, hc3, ho3, hb3⟩; have hown3 := own_below hown hb3; have hz3 := Nat.le_trans hz hb3.size; have hc3b := (hb3.cell (p := ad.add k) (World.block_lt_of_cell? _ _ hc2)).trans hc2))
        | (at_builtin; go_loud (refine wpList_apps8 (B := w.heap.size) rfl _ _ rfl hown3 hz3 (k := putU (zz (wrap64 (x - L)))) rfl (Rd.of_own ho3) HQ.out rfl rfl ?_; intro v' w4 hown4 hb4; have hc4b := ((hb.trans (hb3.mono hz)).trans hb4 |>.cell (p := ad.add k) (World.block_lt_of_cell? w _ hc)).trans hc; rw [HX.out] at hc4b)))
      go_roundw
      case rel =>
        have ed : denc 0 (l.take (k + 1)) = denc 0 (l.take k) ++ putU (zz (wrap64 (x - L))) := by
          rw [List.take_succ_eq_append_getElem hlt, denc_snoc, HX.out, ← hL.out, wrap64_wr]
        refine ⟨k + 1, x, by omega, by go_num, rfl, ?_, hxb, ?_, (hb.trans (hb3.mono hz)).trans hb4⟩
        · show _ = _
          rw [List.take_succ_eq_append_getElem hlt, HX.out]; simp
        · rw [ed, ← List.append_assoc, List.length_append, ← Nat.add_assoc]
          exact hown4
      case measure => (simp [intOf]; try omega)
    · obtain rfl : k = l.length := by omega
      rw [List.take_length] at hown
      go_wp2
      go_ret
      exact FrB.mk' (by simp [putI]) hown hb
end Go.Proofs.Ytbplcgbfhijbcaa
