
import Derived.Test.YtcofiekfhnfjpaaDoorU5
import Derived.Maps.OwnRows
import Derived.RangeFuncBox
import Derived.Test.YtcofiekfhnfjpaaDoorShelf
import Derived.Lib.AppendIntMem
import Derived.Test.YtcofiekfhnfjpaaDoorU2
/- P6 -/
namespace Go.Proofs.YtcofiekfhnfjpaaDoor
open Go.RowKit
set_option linter.unusedVariables false
set_option linter.unusedSimpArgs false
theorem grownBy_set (W : World) (b o : Nat) (v : Value) : W.grownBy (W.setCell ⟨b, o, none⟩ v) (some b) :=
  ⟨rfl, rfl, rfl, (KeepsWalks.setCell W _ v).size, fun k _ hk => Below.heap_setCell _ _ _ k (fun e => hk (by rw [e]))⟩
theorem grownBy_same (W : World) (row : Option Nat) : W.grownBy W row := ⟨rfl, rfl, rfl, Nat.le_refl _, fun _ _ _ => rfl⟩
def DbR (w : World) (B : Nat) (l : List (BitVec 32)) (d g n c : Nat) (r i : Value) (wr : World) : Prop := ∃ (p ρ : Nat) (Q : List (BitVec 32)), p ≤ l.length ∧ i = .int .i64 ((p : Int) - 1) ∧ r = .int .u64 ρ ∧ ρ < d ∧
  Hid (Q.length = l.length ∧ Q.take p = l.take p ∧ valD (l.drop p) = d * valD (Q.drop p) + ρ) ∧
  wr.ownsRow B 32 1 (.slice (some ⟨g, 0, none⟩) n c) n (bv32 Q) ∧ w.grownBy wr (some g)
theorem dbd_num (x V W d ρ t q r : Nat) (ht : ρ * 4294967296 + x = t) (hq : t / d = q) (hr : t % d = r) (h : V = d * W + ρ) : x + 4294967296 * V = d * (q + 4294967296 * W) + r := by
  have h1 := Nat.div_add_mod t d
  rw [hq, hr] at h1
  subst h
  grind
set_option maxRecDepth 50000 in
set_option maxHeartbeats 1000000 in
theorem dbd_any (B g n c d : Nat) (l : List (BitVec 32)) (w : World) (hn : l.length = n) (hl : n ≤ 1000000) (hd : 0 < d) (hd2 : d < 4294967296) (hown : w.ownsRow B 32 1 (.slice (some ⟨g, 0, none⟩) n c) n (bv32 l)) :
    Calls Tryd.prog 56 #[.slice (some ⟨g, 0, none⟩) n c, .int .u32 d] w fun e w' => e = .returned (.int .u32 (valD l % d : Nat)) ∧ ∃ Q : List (BitVec 32), Q.length = l.length ∧ valD Q = valD l / d ∧ w'.ownsRow B 32 1 (.slice (some ⟨g, 0, none⟩) n c) n (bv32 Q) ∧ w.grownBy w' (some g) := by
  subst hn
  have hdz : ((d : Int) == 0) = false := by rw [beq_eq_false_iff_ne]; omega
  go_enter Tryd.func56, Tryd.ntmps56
  go_wp2
  go_loopw [5, 6] (fun r i wr => DbR w B l d g l.length c r i wr) (fun _ i _ => (intOf i + 1).toNat)
  case atStart => exact ⟨l.length, 0, l, Nat.le_refl _, by go_num, rfl, hd, ⟨rfl, rfl, by simp [List.drop_length, valD_nil]⟩, hown, grownBy_same _ _⟩
  case round =>
    obtain ⟨p, ρ, Q, hp, rfl, rfl, hρ, hq, hown2, hg⟩ := hrel
    rcases Nat.eq_zero_or_pos p with rfl | hp0
    · have hres : Hid (valD l % d = ρ ∧ valD Q = valD l / d) := by
        have h := hq.out.2.2
        rw [List.drop_zero, List.drop_zero] at h
        rw [h]
        exact ⟨by rw [Nat.mul_add_mod, Nat.mod_eq_of_lt hρ], by rw [Nat.mul_add_div hd, Nat.div_eq_of_lt hρ, Nat.add_zero]⟩
      have hρ2 : ρ < 4294967296 := by omega
      go_wp2
      go_ret
      exact ⟨by rw [hres.out.1]; rfl, Q, hq.out.1, hres.out.2, hown2, hg⟩
    · obtain ⟨j, rfl⟩ : ∃ j, p = j + 1 := ⟨p - 1, by omega⟩
      have hj : j < Q.length := by rw [hq.out.1]; omega
      have hjl : j < l.length := by omega
      obtain ⟨x, hx⟩ : ∃ x, Q[j].toNat = x := ⟨_, rfl⟩
      have hc := own_cell hown2 j (.int .u32 (Q[j].toNat : Int)) (by simp [bv32, hj])
      have hf := hown2.frozenAt j
      have e1 := Q[j].isLt
      rw [hx] at hc e1
      have HX : Hid (l[j].toNat = x) := by
        show _ = _
        have h := congrArg (fun z : List (BitVec 32) => z[j]?) hq.out.2.1
        simp [List.getElem?_take, hj, hjl] at h
        rw [← h]; exact hx
      have ho := or_num ρ x (by omega) e1
      obtain ⟨t, ht⟩ : ∃ t, ρ * 4294967296 + x = t := ⟨_, rfl⟩
      rw [ht] at ho
      obtain ⟨q, hqq⟩ : ∃ q, t / d = q := ⟨_, rfl⟩
      obtain ⟨r, hrr⟩ : ∃ r, t % d = r := ⟨_, rfl⟩
      have hqi : (t : Int) / (d : Int) = (q : Int) := by rw [← hqq]; simp
      have hri : (t : Int) % (d : Int) = (r : Int) := by rw [← hrr]; simp
      have hqt : (t : Int).tdiv (d : Int) = (q : Int) := by rw [← hqq, Int.tdiv_eq_ediv_of_nonneg (by omega)]; simp
      have hrt : (t : Int).tmod (d : Int) = (r : Int) := by rw [← hrr, Int.tmod_eq_emod_of_nonneg (by omega)]; simp
      have hqb : q < 4294967296 := by
        rw [← hqq, Nat.div_lt_iff_lt_mul hd]
        have : (ρ + 1) * 4294967296 ≤ d * 4294967296 := Nat.mul_le_mul_right _ (by omega)
        omega
      have hrb : r < d := by rw [← hrr]; exact Nat.mod_lt _ hd
      have htb : t < 18446744073709551616 := by omega
      have HT := Lib.hid ht
      have HQQ := Lib.hid hqq
      have HRR := Lib.hid hrr
      have HJ := Lib.hid hj
      clear ht hqq hrr hx
      go_wp2
      go_roundw
      case rel =>
        refine ⟨j, r, Q.set j (BitVec.ofNat 32 q), by omega, by go_num, by go_num, hrb, ⟨?_, ?_, ?_⟩, ?_, ?_⟩
        · rw [List.length_set]; exact hq.out.1
        · rw [List.take_set_of_le (Nat.le_refl _)]
          have h := congrArg (List.take j) hq.out.2.1
          rwa [List.take_take, List.take_take, Nat.min_eq_left (by omega)] at h
        · have h1 : valD (l.drop j) = x + 4294967296 * valD (l.drop (j + 1)) := by rw [drop_dig, digD_in _ _ hjl, HX.out]
          have h2 : valD ((Q.set j (BitVec.ofNat 32 q)).drop j) = q + 4294967296 * valD (Q.drop (j + 1)) := by
            rw [drop_dig, digD_in _ _ (by rw [List.length_set]; exact HJ.out), List.getElem_set_self, List.drop_set_of_lt (by omega), BitVec.toNat_ofNat, Nat.mod_eq_of_lt hqb]
          rw [h1, h2]
          exact dbd_num _ _ _ _ _ _ _ _ HT.out HQQ.out HRR.out hq.out.2.2
        · have := own_set hown2 j (.int .u32 (q : Int))
          rw [bv32_set]
          rw [show ((BitVec.ofNat 32 q).toNat : Int) = (q : Int) by rw [toNat32]; omega]
          exact this
        · exact hg.trans (grownBy_set _ _ _ _)
      case measure => simp [intOf] <;> omega
end Go.Proofs.YtcofiekfhnfjpaaDoor

/- P7 -/
namespace Go.Proofs.YtcofiekfhnfjpaaDoor
open Go.RowKit
set_option linter.unusedVariables false
set_option linter.unusedSimpArgs false
theorem own_take {w : World} {base : Nat} {e : TypeId} {g n c m : Nat} {xs : List Value} (h : w.ownsRow base e 1 (.slice (some ⟨g, 0, none⟩) n c) n xs) (hm : m ≤ n) : w.ownsRow base e 1 (.slice (some ⟨g, 0, none⟩) m c) m (xs.take m) := by
  have h0 := h.1
  refine ⟨by rw [List.length_take]; omega, .inr ?_⟩
  rcases h.2 with ⟨h1, _⟩ | ⟨g', cap, cur, h1, h2, h3, h4, h5, h6, h7⟩
  · injection h1 with h1; cases h1
  · injection h1 with e1 e2 e3
    injection e1 with e1
    injection e1 with e1
    subst e1
    exact ⟨g, cap, cur, by rw [e3], h2, h3, by omega, h5, h6, by rw [← h7, List.take_take, Nat.min_eq_left (by omega), Nat.mul_one]⟩
theorem infoStr : (Tryd.prog.info? 9).map (fun i => (i.zero, i.size, i.bytes)) = some (some (.string ⟨#[]⟩), 1, 16) := by kernel_rfl
theorem own_ge {w : World} {base : Nat} {e : TypeId} {g n c : Nat} {xs : List Value} (h : w.ownsRow base e 1 (.slice (some ⟨g, 0, none⟩) n c) n xs) : base ≤ g ∧ g < w.heap.size := h.lt g rfl
open Go.Lib Go.Sort in
theorem grow_below {w w' : World} (h : ∃ k os, w' = grow (w.drewN k) os) : Below w.heap.size w w' := by
  obtain ⟨k, os, rfl⟩ := h
  exact Lib.below_grow _ _ (Nat.le_refl _) _ _
theorem dbd9 (B g n c : Nat) (l : List (BitVec 32)) (w : World) (hn : l.length = n) (hl : n ≤ 1000000) (hown : w.ownsRow B 32 1 (.slice (some ⟨g, 0, none⟩) n c) n (bv32 l)) :
    Calls Tryd.prog 56 #[.slice (some ⟨g, 0, none⟩) n c, .int .u32 1000000000] w fun e w' => e = .returned (.int .u32 (valD l % 1000000000 : Nat)) ∧ ∃ Q : List (BitVec 32), Q.length = l.length ∧ valD Q = valD l / 1000000000 ∧ w'.ownsRow B 32 1 (.slice (some ⟨g, 0, none⟩) n c) n (bv32 Q) ∧ w.grownBy w' (some g) := dbd_any B g n c 1000000000 l w hn hl (by omega) (by omega) hown
end Go.Proofs.YtcofiekfhnfjpaaDoor

/- Same -/

namespace Go.Proofs.YtcofiekfhnfjpaaDoor
open Go.RowKit
set_option linter.unusedVariables false
set_option linter.unusedSimpArgs false
end Go.Proofs.YtcofiekfhnfjpaaDoor

/- P8 -/

namespace Go.Proofs.YtcofiekfhnfjpaaDoor
open Go.RowKit
set_option linter.unusedVariables false
set_option linter.unusedSimpArgs false
/-- The table of the powers of ten reads as it was laid. -/
def Tb (w : World) : Prop := Lib.TabIs Tryd.prog w "internal/strconv.uint64pow10" .u64 Lib.pow10Tab
theorem Tb.below {w w' : World} (h : Tb w) (hb : Below w.heap.size w w') : Tb w' := by
  have hg : Tryd.prog.globalNamed "internal/strconv.uint64pow10" = some 0 := by kernel_rfl
  unfold Tb Lib.TabIs World.var? at h ⊢
  rw [hg] at h ⊢
  simp only [Option.bind_some] at h ⊢
  have hlt : 0 < w.heap.size := by
    rcases Nat.lt_or_ge 0 w.heap.size with h' | h'
    · exact h'
    · rw [Array.getElem?_eq_none h'] at h; cases h
  rw [hb.block _ hlt]
  exact h
theorem canon_one {n : Nat} (h : 0 < n) (h2 : n < 4294967296) : canon n = [BitVec.ofNat 32 n] := by
  rw [canon_pos (by omega), show n / 4294967296 = 0 by omega, canon_zero]
end Go.Proofs.YtcofiekfhnfjpaaDoor

/- La -/

namespace Go.Proofs.YtcofiekfhnfjpaaDoor
open Go.RowKit
set_option linter.unusedVariables false
set_option linter.unusedSimpArgs false
theorem fit_mul {A B n m : Nat} (hA : A < pw n) (hB : B < pw m) : (canon (A * B)).length ≤ n + m := by
  rw [canon_len_le, pw_add]
  exact Nat.mul_lt_mul_of_lt_of_lt hA hB
end Go.Proofs.YtcofiekfhnfjpaaDoor

/- P9 -/
namespace Go.Proofs.YtcofiekfhnfjpaaDoor
open Go.RowKit
set_option linter.unusedVariables false
set_option linter.unusedSimpArgs false
theorem isBl_zero : IsBl 0 0 := ⟨by decide, fun _ => rfl, fun h => absurd h (by omega)⟩
theorem isBl_aux : ∀ (f x : Nat), x < 2 ^ f → IsBl x (Lib.bitLenAux f x)
  | 0, x, h => by
    have : x = 0 := by simpa using h
    subst this
    exact isBl_zero
  | f + 1, x, h => by
    unfold Lib.bitLenAux
    split
    · rename_i h0
      subst h0
      exact isBl_zero
    · rename_i h0
      have ih := isBl_aux f (x / 2) (by rw [Nat.pow_succ] at h; omega)
      generalize Lib.bitLenAux f (x / 2) = b at ih
      refine ⟨?_, fun h => absurd h h0, fun _ => ⟨by omega, ?_⟩⟩
      · rw [Nat.pow_add]
        have := ih.1
        omega
      · rw [Nat.add_sub_cancel_left]
        rcases Nat.eq_zero_or_pos (x / 2) with h1 | h1
        · rw [ih.2.1 h1]
          show 1 ≤ x
          omega
        · obtain ⟨h2, h3⟩ := ih.2.2 h1
          obtain ⟨b', rfl⟩ : ∃ b', b = b' + 1 := ⟨b - 1, by omega⟩
          rw [Nat.add_sub_cancel] at h3
          rw [Nat.pow_succ]
          omega
theorem isBl_len {x : Nat} (h : x < 4294967296) : IsBl x (Lib.bitLen x) := isBl_aux 64 x (by omega)
theorem isBl_32 {x y : Nat} (h : x < 4294967296) (hy : IsBl x y) : y ≤ 32 := by
  rcases Nat.eq_zero_or_pos x with h0 | h0
  · rw [hy.2.1 h0]; omega
  · obtain ⟨h1, h2⟩ := hy.2.2 h0
    rcases Nat.lt_or_ge 32 y with h3 | h3
    · have h4 : 2 ^ 32 ≤ 2 ^ (y - 1) := Nat.pow_le_pow_right (by decide) (by omega)
      omega
    · exact h3
set_option maxRecDepth 50000 in
theorem nbl_any (a : Option Addr) (n c : Nat) (l : List (BitVec 32)) (w : World) (hn : l.length = n) (hnc : n ≤ c) (hl : n ≤ 1000000) (hr : Rw w a l) :
    Calls Tryd.prog 46 #[.slice a n c] w fun e w' => ∃ b : Nat, e = .returned (.int .i64 b) ∧ IsBl (valD l) b ∧ w' = w := by
  subst hn
  have f1 := trim_len_le l
  have hrt := hr.trim
  have T1 : ∀ W, Rw W a l → Calls Tryd.prog 47 #[.slice a l.length c] W fun e w' => e = .returned (.slice a (trimD l).length c) ∧ W = w' := fun W h => trim_any a _ c l W rfl hnc (by omega) h
  have H1 := Lib.hid (T1 w hr)
  have htop := top_pos (valD l)
  rw [canon_val] at htop
  rw [← valD_trim l]
  clear T1 hr
  generalize trimD l = lt at *
  by_cases h0 : lt.length = 0
  · have hv : Hid (valD lt = 0) := by show _ = _; rw [List.length_eq_zero_iff.1 h0]; rfl
    rw [h0] at H1
    clear h0 htop
    go_enter Tryd.func46, Tryd.ntmps46
    go_wp2_with (go_at_call 47; (with_reducible refine H1.out.mono ?_); rintro e w1 ⟨rfl, rfl⟩)
    go_ret
    exact ⟨0, rfl, by rw [hv.out]; exact isBl_zero, rfl⟩
  · have h1 : lt.length - 1 < lt.length := by omega
    have htp := htop (by omega)
    rw [digD_in _ _ h1] at htp
    obtain ⟨ad, rfl, hc⟩ := hrt (lt.length - 1) h1
    have hx := lt[lt.length - 1].isLt
    have hbl := isBl_top lt (by omega)
    obtain ⟨x, hxe⟩ : ∃ x, lt[lt.length - 1].toNat = x := ⟨_, rfl⟩
    rw [hxe] at hc hx htp
    have hy := isBl_len hx
    have hy2 := isBl_32 hx hy
    have hfin := Lib.hid (hbl (Lib.bitLen x) (by rw [hxe]; exact hy) (by rw [hxe]; omega))
    have hlen := Tryd.bits_Len32 (x : Int) w (by omega) (by omega)
    rw [Int.toNat_natCast] at hlen
    have HL := Lib.hid hlen
    clear hlen hbl hy hxe htop
    generalize Lib.bitLen x = y at *
    have hne : ((lt.length : Int) == 0) = false := by rw [beq_eq_false_iff_ne]; omega
    go_enter Tryd.func46, Tryd.ntmps46
    go_wp2_with (first
      | (go_at_call 47; (with_reducible refine H1.out.mono ?_); rintro e w1 ⟨rfl, rfl⟩)
      | (go_at_call 65; (with_reducible refine HL.out.mono ?_); rintro e w1 ⟨rfl, rfl⟩))
    go_ret
    refine ⟨32 * (lt.length - 1) + y, ?_, hfin.out, rfl⟩
    first | rfl | (congr 2; omega) | (simp; omega)
end Go.Proofs.YtcofiekfhnfjpaaDoor

