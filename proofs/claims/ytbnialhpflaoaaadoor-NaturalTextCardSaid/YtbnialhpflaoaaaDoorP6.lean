import Derived.Test.YtbnialhpflaoaaaDoorP5
import Derived.Maps.OwnRows
import Derived.RangeFuncBox
namespace Go.Proofs.YtbnialhpflaoaaaDoor
open Go.RowKit
set_option linter.unusedVariables false
set_option linter.unusedSimpArgs false
theorem grownBy_set (W : World) (b o : Nat) (v : Value) : W.grownBy (W.setCell ⟨b, o, none⟩ v) (some b) :=
  ⟨rfl, rfl, rfl, (KeepsWalks.setCell W _ v).size, fun k _ hk => Below.heap_setCell _ _ _ k (fun e => hk (by rw [e]))⟩
theorem grownBy_same (W : World) (row : Option Nat) : W.grownBy W row := ⟨rfl, rfl, rfl, Nat.le_refl _, fun _ _ _ => rfl⟩
def DbR (w : World) (B : Nat) (l : List (BitVec 32)) (d g n c : Nat) (r i : Value) (wr : World) : Prop := ∃ (p ρ : Nat) (Q : List (BitVec 32)), p ≤ l.length ∧ i = .int .i64 ((p : Int) - 1) ∧ r = .int .u64 ρ ∧ ρ < d ∧
  Hid (Q.length = l.length ∧ Q.take p = l.take p ∧ valD (l.drop p) = d * valD (Q.drop p) + ρ) ∧
  wr.ownsRow B 39 1 (.slice (some ⟨g, 0, none⟩) n c) n (bv32 Q) ∧ w.grownBy wr (some g)
theorem dbd_num (x V W d ρ t q r : Nat) (ht : ρ * 4294967296 + x = t) (hq : t / d = q) (hr : t % d = r) (h : V = d * W + ρ) : x + 4294967296 * V = d * (q + 4294967296 * W) + r := by
  have h1 := Nat.div_add_mod t d
  rw [hq, hr] at h1
  subst h
  grind
set_option maxRecDepth 50000 in
set_option maxHeartbeats 1000000 in
theorem dbd_any (B g n c d : Nat) (l : List (BitVec 32)) (w : World) (hn : l.length = n) (hl : n ≤ 1000000) (hd : 0 < d) (hd2 : d < 4294967296) (hown : w.ownsRow B 39 1 (.slice (some ⟨g, 0, none⟩) n c) n (bv32 l)) :
    Calls Tryd.prog 48 #[.slice (some ⟨g, 0, none⟩) n c, .int .u32 d] w fun e w' => e = .returned (.int .u32 (valD l % d : Nat)) ∧ ∃ Q : List (BitVec 32), Q.length = l.length ∧ valD Q = valD l / d ∧ w'.ownsRow B 39 1 (.slice (some ⟨g, 0, none⟩) n c) n (bv32 Q) ∧ w.grownBy w' (some g) := by
  subst hn
  have hdz : ((d : Int) == 0) = false := by rw [beq_eq_false_iff_ne]; omega
  go_enter Tryd.func48, Tryd.ntmps48
  go_wp2
  go_loopw [5, 6] (fun r i wr => DbR w B l d g l.length c r i wr) (fun _ i _ => (intOf i + 1).toNat)
  case atStart => exact ⟨l.length, 0, l, Nat.le_refl _, by go_num, rfl, hd, ⟨rfl, rfl, by simp [List.drop_length, valD_nil]⟩, hown, grownBy_same _ _⟩
  case round =>
    obtain ⟨p, ρ, Q, hp, rfl, rfl, hρ, hq, hown2, hg⟩ := hrel
    rcases Nat.eq_zero_or_pos p with rfl | hp0
    · have hres : Hid (valD l % d = ρ ∧ valD Q = valD l / d) := by
        have h := hq.out.2.2
        rw [List.drop_zero, List.drop_zero] at h
        rw [h]
        exact ⟨by rw [Nat.mul_add_mod, Nat.mod_eq_of_lt hρ], by rw [Nat.mul_add_div hd, Nat.div_eq_of_lt hρ, Nat.add_zero]⟩
      have hρ2 : ρ < 4294967296 := by omega
      go_wp2
      go_ret
      exact ⟨by rw [hres.out.1]; rfl, Q, hq.out.1, hres.out.2, hown2, hg⟩
    · obtain ⟨j, rfl⟩ : ∃ j, p = j + 1 := ⟨p - 1, by omega⟩
      have hj : j < Q.length := by rw [hq.out.1]; omega
      have hjl : j < l.length := by omega
      obtain ⟨x, hx⟩ : ∃ x, Q[j].toNat = x := ⟨_, rfl⟩
      have hc := own_cell hown2 j (.int .u32 (Q[j].toNat : Int)) (by simp [bv32, hj])
      have hf := hown2.frozenAt j
      have e1 := Q[j].isLt
      rw [hx] at hc e1
      have HX : Hid (l[j].toNat = x) := by
        show _ = _
        have h := congrArg (fun z : List (BitVec 32) => z[j]?) hq.out.2.1
        simp [List.getElem?_take, hj, hjl] at h
        rw [← h]; exact hx
      have ho := or_num ρ x (by omega) e1
      obtain ⟨t, ht⟩ : ∃ t, ρ * 4294967296 + x = t := ⟨_, rfl⟩
      rw [ht] at ho
      obtain ⟨q, hqq⟩ : ∃ q, t / d = q := ⟨_, rfl⟩
      obtain ⟨r, hrr⟩ : ∃ r, t % d = r := ⟨_, rfl⟩
      have hqi : (t : Int) / (d : Int) = (q : Int) := by rw [← hqq]; simp
      have hri : (t : Int) % (d : Int) = (r : Int) := by rw [← hrr]; simp
      have hqt : (t : Int).tdiv (d : Int) = (q : Int) := by rw [← hqq, Int.tdiv_eq_ediv_of_nonneg (by omega)]; simp
      have hrt : (t : Int).tmod (d : Int) = (r : Int) := by rw [← hrr, Int.tmod_eq_emod_of_nonneg (by omega)]; simp
      have hqb : q < 4294967296 := by
        rw [← hqq, Nat.div_lt_iff_lt_mul hd]
        have : (ρ + 1) * 4294967296 ≤ d * 4294967296 := Nat.mul_le_mul_right _ (by omega)
        omega
      have hrb : r < d := by rw [← hrr]; exact Nat.mod_lt _ hd
      have htb : t < 18446744073709551616 := by omega
      have HT := Lib.hid ht
      have HQQ := Lib.hid hqq
      have HRR := Lib.hid hrr
      have HJ := Lib.hid hj
      clear ht hqq hrr hx
      go_wp2
      go_roundw
      case rel =>
        refine ⟨j, r, Q.set j (BitVec.ofNat 32 q), by omega, by go_num, by go_num, hrb, ⟨?_, ?_, ?_⟩, ?_, ?_⟩
        · rw [List.length_set]; exact hq.out.1
        · rw [List.take_set_of_le (Nat.le_refl _)]
          have h := congrArg (List.take j) hq.out.2.1
          rwa [List.take_take, List.take_take, Nat.min_eq_left (by omega)] at h
        · have h1 : valD (l.drop j) = x + 4294967296 * valD (l.drop (j + 1)) := by rw [drop_dig, digD_in _ _ hjl, HX.out]
          have h2 : valD ((Q.set j (BitVec.ofNat 32 q)).drop j) = q + 4294967296 * valD (Q.drop (j + 1)) := by
            rw [drop_dig, digD_in _ _ (by rw [List.length_set]; exact HJ.out), List.getElem_set_self, List.drop_set_of_lt (by omega), BitVec.toNat_ofNat, Nat.mod_eq_of_lt hqb]
          rw [h1, h2]
          exact dbd_num _ _ _ _ _ _ _ _ HT.out HQQ.out HRR.out hq.out.2.2
        · have := own_set hown2 j (.int .u32 (q : Int))
          rw [bv32_set]
          rw [show ((BitVec.ofNat 32 q).toNat : Int) = (q : Int) by rw [toNat32]; omega]
          exact this
        · exact hg.trans (grownBy_set _ _ _ _)
      case measure => simp [intOf] <;> omega
end Go.Proofs.YtbnialhpflaoaaaDoor
