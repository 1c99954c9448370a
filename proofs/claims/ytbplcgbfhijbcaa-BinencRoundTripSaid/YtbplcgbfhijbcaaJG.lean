import Derived.Test.YtbplcgbfhijbcaaJF
namespace Go.Proofs.Ytbplcgbfhijbcaa
open Go.RowKit
set_option linter.unusedVariables false
set_option linter.unusedSimpArgs false
attribute [local go_sem ↓] Go.wp_at_zero Go.wp_at_succ
theorem valD_setd (Q : List (BitVec 32)) : ∀ (p : Nat) (d : BitVec 32) (h : p < Q.length), valD (Q.set p d) + pw p * (Q[p]).toNat = valD Q + pw p * d.toNat := by
  induction Q with
  | nil => intro p d h; simp at h
  | cons x t ih =>
    intro p d h
    rcases p with _ | p
    · simp only [List.set_cons_zero, valD, List.getElem_cons_zero, pw_zero, Nat.one_mul]; omega
    · have := ih p d (by simpa using h)
      simp only [List.set_cons_succ, valD, List.getElem_cons_succ, pw_succ]
      have e1 : pw p * 4294967296 * (t[p]'(by simpa using h)).toNat = 4294967296 * (pw p * (t[p]'(by simpa using h)).toNat) := by ac_rfl
      have e2 : pw p * 4294967296 * d.toNat = 4294967296 * (pw p * d.toNat) := by ac_rfl
      rw [e1, e2]
      omega
theorem val8_lt (l : List (BitVec 8)) : val8 l < 256 ^ l.length := by
  induction l with
  | nil => simp [val8]
  | cons c t ih =>
    have := c.isLt
    simp only [val8, List.length_cons, Nat.pow_succ]
    omega
theorem pw_256 (q r : Nat) : 256 ^ (4 * q + r) = pw q * 256 ^ r := by
  rw [Nat.pow_add, Nat.pow_mul]; rfl
theorem dig_low (L : List (BitVec 32)) (q r : Nat) (hq : q < L.length) (h : valD L < 256 ^ (4 * q + r)) : (L[q]).toNat < 256 ^ r := by
  have h1 := valD_setd L q 0#32 hq
  rw [pw_256] at h
  have h2 : pw q * (L[q]).toNat < pw q * 256 ^ r := by simp at h1; omega
  exact Nat.lt_of_mul_lt_mul_left h2
theorem fb_step (L : List (BitVec 32)) (l : List (BitVec 8)) (k q r x y : Nat) (hq : q < L.length) (hk : k < l.length) (hkq : 4 * q + r = k) (hx : (L[q]).toNat = x) (hy : (l[k]).toNat = y) (hv : valD L = val8 (l.take k)) (d : BitVec 32) (hd : d.toNat = x + y * 256 ^ r) : valD (L.set q d) = val8 (l.take (k + 1)) := by
  have h1 := valD_setd L q d hq
  rw [val8_take l k hk, ← hv, hy]
  rw [hx, hd, Nat.mul_add] at h1
  have e : 256 ^ k * y = pw q * (y * 256 ^ r) := by rw [← hkq, pw_256]; ac_rfl
  omega
/-- The magnitude that bytes stand for: digits in a row of their own. -/
def FbA (w : World) (l : List (BitVec 8)) (e : Ending) (w' : World) : Prop := ∃ (L : List (BitVec 32)) (a : Option Addr) (c : Nat), valD L = val8 l ∧ L.length = (l.length + 3) / 4 ∧ e = .returned (.slice a L.length c) ∧ L.length ≤ c ∧ w'.ownsRow w.heap.size 73 1 (.slice a L.length c) L.length (bv32 L) ∧ Below w.heap.size w w'
theorem own_dr {w : World} {B : Nat} {e : TypeId} {v : Value} {n : Nat} {xs : List Value} (h : w.ownsRow B e 1 v n xs) (m : Nat) : (w.drewN m).ownsRow B e 1 v n xs := by
  induction m generalizing w with
  | zero => exact h
  | succ m ih => exact ih h
theorem own_zeros (w : World) (N : Nat) (h : N ≤ 10000000) : (w.alloc (.cells (madeCells #[Value.int .u32 0] N) 73)).ownsRow w.heap.size 73 1 (.slice (some ⟨w.heap.size, 0, none⟩) N N) N (bv32 (List.replicate N 0#32)) := made32 w N h
theorem rep_val (N : Nat) : valD (List.replicate N 0#32) = 0 := by
  induction N with
  | zero => rfl
  | succ n ih => rw [List.replicate_succ]; simp [valD, ih]
set_option maxRecDepth 50000 in
theorem fb_any (a : Option Addr) (n c : Nat) (l : List (BitVec 8)) (w : World) (hn : l.length = n) (hl : n ≤ 1000000) (hr : Rd w a l) :
    Calls Try.prog 51 #[.slice a n c] w (FbA w l) := by
  subst hn
  obtain ⟨N, hN⟩ : ∃ N, (l.length + 3) / 4 = N := ⟨_, rfl⟩
  have q0 : ((l.length : Int) + 3) / 4 = (N : Int) := by omega
  have hNl : N ≤ 1000000 := by omega
  have hmk := run_make_row' (P := Try.prog) 41 73 (.int .u32 0) 4 Try.underlying41 info32 rfl .i64 .i64 N (by omega) (by omega)
  have HN := Lib.hid hN
  clear hN
  go_enter Try.func51, Try.ntmps51
  go_wp2
  clear q0
  go_loopw [13] (fun i wr => ∃ (k : Nat) (L : List (BitVec 32)), k ≤ l.length ∧ i = .int .i64 k ∧ Hid (L.length = N ∧ valD L = val8 (l.take k)) ∧ wr.ownsRow w.heap.size 73 1 (.slice (some ⟨w.heap.size, 0, none⟩) N N) N (bv32 L) ∧ Below w.heap.size w wr) (fun i _ => l.length - (intOf i).toNat)
  case atStart => exact ⟨0, List.replicate N 0#32, Nat.zero_le _, rfl, ⟨by simp, by rw [rep_val]; rfl⟩, own_zeros w N (by omega), Below.alloc (Below.refl _ _) (Nat.le_refl _) _⟩
  case round =>
    obtain ⟨k, L, hk, rfl, hLv, hown, hb⟩ := hrel
    have hz := hb.size
    by_cases hlt : k < l.length
    · have hql : k / 4 < L.length := by have := hLv.out.1; have := HN.out; omega
      obtain ⟨ad, rfl, hc⟩ := hr.below hb k hlt
      obtain ⟨y, hy⟩ : ∃ y, (l[k]).toNat = y := ⟨_, rfl⟩
      have hyl := (l[k]).isLt
      obtain ⟨x, hx⟩ : ∃ x, (L[k / 4]).toNat = x := ⟨_, rfl⟩
      have hxl := (L[k / 4]).isLt
      have hxs := fun r (h4 : 4 * (k / 4) + r = k) => dig_low L (k / 4) r hql (by rw [h4, hLv.out.2]; exact Nat.lt_of_lt_of_le (val8_lt _) (Nat.pow_le_pow_right (by omega) (by rw [List.length_take]; omega)))
      have hst := fun r d (h4 : 4 * (k / 4) + r = k) hd => fb_step L l k (k / 4) r x y hql hlt h4 hx hy hLv.out.2 d hd
      have hcell := own_cell hown (k / 4) (.int .u32 (x : Int)) (by simp [bv32, hql, hx])
      have hfz := hown.frozenAt (k / 4)
      rw [hx] at hxs hxl
      rw [hy] at hc hyl
      have HS := Lib.hid hst
      have HX := Lib.hid hxs
      obtain ⟨q, hq⟩ : ∃ q, k / 4 = q := ⟨_, rfl⟩
      obtain ⟨r, hr9⟩ : ∃ r, k % 4 = r := ⟨_, rfl⟩
      have q1 : (k : Int) / 4 = (q : Int) := by omega
      have hri : 4 * q + r = k := by omega
      have hr4 : r < 4 := by omega
      have r1 : (k : Int) % 4 = (r : Int) := by omega
      have hqN : q < N := by have := hLv.out.1; omega
      rw [hq] at hcell hfz
      simp only [hq] at HS HX
      have HRI := Lib.hid hri
      have HL1 := Lib.hid hLv.out.1
      have d0 : decide ((k : Int) < (l.length : Int)) = true := by simp; omega
      clear hx hy hst hxs hq hql hr9 hri
      rcases r with _ | _ | _ | _ | r
      · have r2 : (k : Int) % 4 = 0 := by omega
        have hxr := HX.out 0 HRI.out
        have O1 : bits .or .u32 (x : Int) (y : Int) = ((x + y : Nat) : Int) := by
          rw [show (y : Int) = ((y : Nat) : Int) by omega]
          exact u32_or_add 0 x (y) (by decide) (by simpa using hxr) (by omega) (by omega)
        have HD := Lib.hid (HS.out 0 (BitVec.ofNat 32 (x + y)) HRI.out (by rw [BitVec.toNat_ofNat]; simp at hxr; rw [Nat.pow_zero, Nat.mul_one]; omega))
        have t0 : (k : Int).tdiv 4 = (q : Int) := by rw [Int.tdiv_eq_ediv_of_nonneg (by omega)]; exact q1
        have t1 : IntKind.i64.wrap ((k : Int).tdiv 4) = (q : Int) := by rw [t0]; exact IntWalk.i64_in _ (by omega)
        have t1b : IntKind.i64.wrap ((k : Int) / 4) = (q : Int) := by rw [q1]; exact IntWalk.i64_in _ (by omega)
        have t2 : (k : Int).tmod 4 = 0 := by rw [Int.tmod_eq_emod_of_nonneg (by omega)]; exact r2
        have t6 : IntKind.i64.wrap (q : Int) = (q : Int) := IntWalk.i64_in _ (by omega)
        have t7 : IntKind.i64.wrap 0 = 0 := by decide
        have t8 : IntKind.u32.wrap (y : Int) = (y : Int) := IntWalk.u32_in _ (by omega)
        have t9 : IntKind.u32.wrap ((y : Int)) = (y : Int) := IntWalk.u32_in _ (by omega)
        have t4 : (q : Int) < (N : Int) := by omega
        have t5 : decide ((q : Int) < (N : Int)) = true := by simp; omega
        clear r1
        go_wp2
        go_still_tail 13, (by kernel_rfl)
        go_wp2
        go_roundw
        case rel =>
          have hdn : (BitVec.ofNat 32 (x + y)).toNat = x + y := by rw [BitVec.toNat_ofNat]; simp at hxr; omega
          have hs := own_set (own_dr hown 1) q (.int .u32 ((BitVec.ofNat 32 (x + y)).toNat : Int))
          have hbs : Below w.heap.size w ((wr.drewN 1).setCell ⟨w.heap.size, q, none⟩ (.int .u32 ((BitVec.ofNat 32 (x + y)).toNat : Int))) := (below_drewN hb 1).setCell (Nat.le_refl _) _
          rw [hdn] at hs hbs
          refine ⟨k + 1, L.set q (BitVec.ofNat 32 (x + y)), by omega, by go_num, ⟨by rw [List.length_set]; exact HL1.out, HD.out⟩, ?_, by first | exact hbs | simpa using hbs⟩
          rw [show bv32 (L.set q (BitVec.ofNat 32 (x + y))) = (bv32 L).set q (.int .u32 ((x + y : Nat) : Int)) by rw [← hdn]; simp [bv32, List.map_set]]
          first | exact hs | simpa using hs
        case measure => (simp [intOf]; try omega)
      · have r2 : (k : Int) % 4 = 1 := by omega
        have hxr := HX.out 1 HRI.out
        have O1 : bits .or .u32 (x : Int) ((y : Int) * 256) = ((x + y * 256 : Nat) : Int) := by
          rw [show ((y : Int) * 256) = ((y * 256 : Nat) : Int) by omega]
          exact u32_or_add 8 x (y * 256) (by decide) (by simpa using hxr) (by omega) (by omega)
        have HD := Lib.hid (HS.out 1 (BitVec.ofNat 32 (x + y * 256)) HRI.out (by rw [BitVec.toNat_ofNat]; simp at hxr; omega))
        have t0 : (k : Int).tdiv 4 = (q : Int) := by rw [Int.tdiv_eq_ediv_of_nonneg (by omega)]; exact q1
        have t1 : IntKind.i64.wrap ((k : Int).tdiv 4) = (q : Int) := by rw [t0]; exact IntWalk.i64_in _ (by omega)
        have t1b : IntKind.i64.wrap ((k : Int) / 4) = (q : Int) := by rw [q1]; exact IntWalk.i64_in _ (by omega)
        have t2 : (k : Int).tmod 4 = 1 := by rw [Int.tmod_eq_emod_of_nonneg (by omega)]; exact r2
        have t6 : IntKind.i64.wrap (q : Int) = (q : Int) := IntWalk.i64_in _ (by omega)
        have t7 : IntKind.i64.wrap 8 = 8 := by decide
        have t8 : IntKind.u32.wrap (y : Int) = (y : Int) := IntWalk.u32_in _ (by omega)
        have t9 : IntKind.u32.wrap (((y : Int) * 256)) = ((y : Int) * 256) := IntWalk.u32_in _ (by omega)
        have t4 : (q : Int) < (N : Int) := by omega
        have t5 : decide ((q : Int) < (N : Int)) = true := by simp; omega
        clear r1
        go_wp2
        go_still_tail 13, (by kernel_rfl)
        go_wp2
        go_roundw
        case rel =>
          have hdn : (BitVec.ofNat 32 (x + y * 256)).toNat = x + y * 256 := by rw [BitVec.toNat_ofNat]; simp at hxr; omega
          have hs := own_set (own_dr hown 1) q (.int .u32 ((BitVec.ofNat 32 (x + y * 256)).toNat : Int))
          have hbs : Below w.heap.size w ((wr.drewN 1).setCell ⟨w.heap.size, q, none⟩ (.int .u32 ((BitVec.ofNat 32 (x + y * 256)).toNat : Int))) := (below_drewN hb 1).setCell (Nat.le_refl _) _
          rw [hdn] at hs hbs
          refine ⟨k + 1, L.set q (BitVec.ofNat 32 (x + y * 256)), by omega, by go_num, ⟨by rw [List.length_set]; exact HL1.out, HD.out⟩, ?_, by first | exact hbs | simpa using hbs⟩
          rw [show bv32 (L.set q (BitVec.ofNat 32 (x + y * 256))) = (bv32 L).set q (.int .u32 ((x + y * 256 : Nat) : Int)) by rw [← hdn]; simp [bv32, List.map_set]]
          first | exact hs | simpa using hs
        case measure => (simp [intOf]; try omega)
      · have r2 : (k : Int) % 4 = 2 := by omega
        have hxr := HX.out 2 HRI.out
        have O1 : bits .or .u32 (x : Int) ((y : Int) * 65536) = ((x + y * 65536 : Nat) : Int) := by
          rw [show ((y : Int) * 65536) = ((y * 65536 : Nat) : Int) by omega]
          exact u32_or_add 16 x (y * 65536) (by decide) (by simpa using hxr) (by omega) (by omega)
        have HD := Lib.hid (HS.out 2 (BitVec.ofNat 32 (x + y * 65536)) HRI.out (by rw [BitVec.toNat_ofNat]; simp at hxr; omega))
        have t0 : (k : Int).tdiv 4 = (q : Int) := by rw [Int.tdiv_eq_ediv_of_nonneg (by omega)]; exact q1
        have t1 : IntKind.i64.wrap ((k : Int).tdiv 4) = (q : Int) := by rw [t0]; exact IntWalk.i64_in _ (by omega)
        have t1b : IntKind.i64.wrap ((k : Int) / 4) = (q : Int) := by rw [q1]; exact IntWalk.i64_in _ (by omega)
        have t2 : (k : Int).tmod 4 = 2 := by rw [Int.tmod_eq_emod_of_nonneg (by omega)]; exact r2
        have t6 : IntKind.i64.wrap (q : Int) = (q : Int) := IntWalk.i64_in _ (by omega)
        have t7 : IntKind.i64.wrap 16 = 16 := by decide
        have t8 : IntKind.u32.wrap (y : Int) = (y : Int) := IntWalk.u32_in _ (by omega)
        have t9 : IntKind.u32.wrap (((y : Int) * 65536)) = ((y : Int) * 65536) := IntWalk.u32_in _ (by omega)
        have t4 : (q : Int) < (N : Int) := by omega
        have t5 : decide ((q : Int) < (N : Int)) = true := by simp; omega
        clear r1
        go_wp2
        go_still_tail 13, (by kernel_rfl)
        go_wp2
        go_roundw
        case rel =>
          have hdn : (BitVec.ofNat 32 (x + y * 65536)).toNat = x + y * 65536 := by rw [BitVec.toNat_ofNat]; simp at hxr; omega
          have hs := own_set (own_dr hown 1) q (.int .u32 ((BitVec.ofNat 32 (x + y * 65536)).toNat : Int))
          have hbs : Below w.heap.size w ((wr.drewN 1).setCell ⟨w.heap.size, q, none⟩ (.int .u32 ((BitVec.ofNat 32 (x + y * 65536)).toNat : Int))) := (below_drewN hb 1).setCell (Nat.le_refl _) _
          rw [hdn] at hs hbs
          refine ⟨k + 1, L.set q (BitVec.ofNat 32 (x + y * 65536)), by omega, by go_num, ⟨by rw [List.length_set]; exact HL1.out, HD.out⟩, ?_, by first | exact hbs | simpa using hbs⟩
          rw [show bv32 (L.set q (BitVec.ofNat 32 (x + y * 65536))) = (bv32 L).set q (.int .u32 ((x + y * 65536 : Nat) : Int)) by rw [← hdn]; simp [bv32, List.map_set]]
          first | exact hs | simpa using hs
        case measure => (simp [intOf]; try omega)
      · have r2 : (k : Int) % 4 = 3 := by omega
        have hxr := HX.out 3 HRI.out
        have O1 : bits .or .u32 (x : Int) ((y : Int) * 16777216) = ((x + y * 16777216 : Nat) : Int) := by
          rw [show ((y : Int) * 16777216) = ((y * 16777216 : Nat) : Int) by omega]
          exact u32_or_add 24 x (y * 16777216) (by decide) (by simpa using hxr) (by omega) (by omega)
        have HD := Lib.hid (HS.out 3 (BitVec.ofNat 32 (x + y * 16777216)) HRI.out (by rw [BitVec.toNat_ofNat]; simp at hxr; omega))
        have t0 : (k : Int).tdiv 4 = (q : Int) := by rw [Int.tdiv_eq_ediv_of_nonneg (by omega)]; exact q1
        have t1 : IntKind.i64.wrap ((k : Int).tdiv 4) = (q : Int) := by rw [t0]; exact IntWalk.i64_in _ (by omega)
        have t1b : IntKind.i64.wrap ((k : Int) / 4) = (q : Int) := by rw [q1]; exact IntWalk.i64_in _ (by omega)
        have t2 : (k : Int).tmod 4 = 3 := by rw [Int.tmod_eq_emod_of_nonneg (by omega)]; exact r2
        have t6 : IntKind.i64.wrap (q : Int) = (q : Int) := IntWalk.i64_in _ (by omega)
        have t7 : IntKind.i64.wrap 24 = 24 := by decide
        have t8 : IntKind.u32.wrap (y : Int) = (y : Int) := IntWalk.u32_in _ (by omega)
        have t9 : IntKind.u32.wrap (((y : Int) * 16777216)) = ((y : Int) * 16777216) := IntWalk.u32_in _ (by omega)
        have t4 : (q : Int) < (N : Int) := by omega
        have t5 : decide ((q : Int) < (N : Int)) = true := by simp; omega
        clear r1
        go_wp2
        go_still_tail 13, (by kernel_rfl)
        go_wp2
        go_roundw
        case rel =>
          have hdn : (BitVec.ofNat 32 (x + y * 16777216)).toNat = x + y * 16777216 := by rw [BitVec.toNat_ofNat]; simp at hxr; omega
          have hs := own_set (own_dr hown 1) q (.int .u32 ((BitVec.ofNat 32 (x + y * 16777216)).toNat : Int))
          have hbs : Below w.heap.size w ((wr.drewN 1).setCell ⟨w.heap.size, q, none⟩ (.int .u32 ((BitVec.ofNat 32 (x + y * 16777216)).toNat : Int))) := (below_drewN hb 1).setCell (Nat.le_refl _) _
          rw [hdn] at hs hbs
          refine ⟨k + 1, L.set q (BitVec.ofNat 32 (x + y * 16777216)), by omega, by go_num, ⟨by rw [List.length_set]; exact HL1.out, HD.out⟩, ?_, by first | exact hbs | simpa using hbs⟩
          rw [show bv32 (L.set q (BitVec.ofNat 32 (x + y * 16777216))) = (bv32 L).set q (.int .u32 ((x + y * 16777216 : Nat) : Int)) by rw [← hdn]; simp [bv32, List.map_set]]
          first | exact hs | simpa using hs
        case measure => (simp [intOf]; try omega)
      · omega
    · obtain rfl : k = l.length := by omega
      have d0 : decide ((l.length : Int) < (l.length : Int)) = false := by simp
      go_wp2
      go_ret
      have h1 := hLv.out.1
      have h2 := hLv.out.2
      rw [List.take_length] at h2
      subst h1
      exact ⟨L, _, _, h2, HN.out.symm, rfl, Nat.le_refl _, hown, hb⟩
end Go.Proofs.Ytbplcgbfhijbcaa
