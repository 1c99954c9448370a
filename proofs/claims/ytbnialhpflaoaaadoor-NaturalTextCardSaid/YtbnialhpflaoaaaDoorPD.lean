import Derived.Test.YtbnialhpflaoaaaDoorDmNum
import Derived.Test.YtbnialhpflaoaaaDoorP6
namespace Go.Proofs.YtbnialhpflaoaaaDoor
open Go.RowKit
set_option linter.unusedVariables false
set_option linter.unusedSimpArgs false
def AbR (w : World) (B : Nat) (Q0 D : List (BitVec 32)) (g N cp j : Nat) (c i : Value) (wr : World) : Prop := ∃ (p q : Nat) (Q : List (BitVec 32)), p ≤ D.length ∧ i = .int .i64 p ∧ c = .int .u64 q ∧ q < 4294967296 ∧
  Hid (Q.length = N ∧ valD Q + q * pw (j + p) = valD Q0 + valD (D.take p) * pw j ∧ ∀ z, j + p ≤ z → Q[z]? = Q0[z]?) ∧
  wr.ownsRow B 39 1 (.slice (some ⟨g, 0, none⟩) N cp) N (bv32 Q) ∧ w.grownBy wr (some g)
theorem grownBy_drewN {a w : World} {r : Option Nat} (h : a.grownBy w r) (n : Nat) : a.grownBy (w.drewN n) r := ⟨h.os, h.tape, h.output, h.size, h.block⟩
theorem set_far {Q Q0 : List (BitVec 32)} {k : Nat} (d : BitVec 32) (h : ∀ z, k ≤ z → Q[z]? = Q0[z]?) (z : Nat) (hz : k + 1 ≤ z) : (Q.set k d)[z]? = Q0[z]? := by
  rw [List.getElem?_set_ne (by omega)]
  exact h z (by omega)
theorem get_of {Q : List (BitVec 32)} {k : Nat} {z : BitVec 32} (h : Q[k]? = some z) (hk : k < Q.length) : Q[k] = z := by
  rw [List.getElem?_eq_getElem hk] at h
  exact Option.some.inj h
set_option maxRecDepth 50000 in
set_option maxHeartbeats 2000000 in
theorem addback_any (B g N cp j n c dc : Nat) (dv : Option Addr) (Q0 D : List (BitVec 32)) (w : World) (hN : Q0.length = N) (hn : D.length = n) (hfit : j + n + 1 ≤ N) (hl : N ≤ 1000000) (hown : w.ownsRow B 39 1 (.slice (some ⟨g, 0, none⟩) N cp) N (bv32 Q0)) (hs : Rw w dv D) (hlow : ∀ ad, dv = some ad → some ad.block ≠ some g) :
    Calls Tryd.prog 72 #[.slice (some ⟨g, j, none⟩) (n + 1) c, .slice dv n dc] w fun e w' => e = .returned (.tuple #[]) ∧ ∃ (Q : List (BitVec 32)) (y : Nat), Q.length = N ∧ y ≤ 1 ∧ valD Q + y * pw (j + n + 1) = valD Q0 + valD D * pw j ∧ (∀ z, j + n + 1 ≤ z → Q[z]? = Q0[z]?) ∧ w'.ownsRow B 39 1 (.slice (some ⟨g, 0, none⟩) N cp) N (bv32 Q) ∧ w.grownBy w' (some g) := by
  subst hn
  go_enter Tryd.func72, Tryd.ntmps72
  go_wp2
  go_loopw [4, 5, 8] (fun q _ i wr => AbR w B Q0 D g N cp j q i wr) (fun _ _ i _ => D.length - (intOf i).toNat)
  case atStart => exact ⟨0, 0, Q0, Nat.zero_le _, rfl, rfl, by omega, ⟨hN, by simp [valD_nil], fun z _ => rfl⟩, hown, grownBy_same _ _⟩
  case round =>
    obtain ⟨p, q, Q, hp, rfl, rfl, hq, ho, hown2, hg⟩ := hrel
    have hsb := hs.grown hg hlow
    have hQl := ho.out.1
    by_cases hlt : p < D.length
    · obtain ⟨bd, rfl, hc2⟩ := hsb p hlt
      have hjq : j + p < Q.length := by omega
      obtain ⟨z, hz⟩ : ∃ z, Q[j + p] = z := ⟨_, rfl⟩
      have hc3 := own_cell hown2 (j + p) (.int .u32 (z.toNat : Int)) (by simp [bv32, hjq, hz])
      have hf3 := hown2.frozenAt (j + p)
      have e3 := z.isLt
      obtain ⟨y, hy⟩ : ∃ y, D[p].toNat = y := ⟨_, rfl⟩
      have e2 := D[p].isLt
      rw [hy] at hc2 e2
      have HF := Lib.hid (show digD D p = y ∧ Q[j + p]? = some z from ⟨by rw [digD_in _ _ hlt, hy], by rw [List.getElem?_eq_getElem hjq, hz]⟩)
      have HJ := Lib.hid hjq
      have HQ := Lib.hid hQl
      clear hy hz hQl hjq
      go_wp2
      go_quiet (fail)
      go_wp2
      go_roundw
      case rel =>
        have hlen := HJ.out
        have ed : (BitVec.ofNat 32 (q + (z.toNat + y))).toNat = (q + (z.toNat + y)) % 4294967296 := by rw [BitVec.toNat_ofNat]
        refine ⟨p + 1, (q + (z.toNat + y)) / 4294967296, Q.set (j + p) (BitVec.ofNat 32 (q + (z.toNat + y))), by omega, by go_num, by go_num, by omega, ⟨?_, ?_, ?_⟩, ?_, ?_⟩
        · rw [List.length_set]; exact HQ.out
        · have hv := valD_set Q (j + p) (BitVec.ofNat 32 (q + (z.toNat + y))) hlen
          rw [get_of HF.out.2 hlen, ed] at hv
          rw [show j + (p + 1) = (j + p) + 1 by omega, pw_succ, valD_dig, HF.out.1]
          exact ab_num _ _ _ _ _ _ _ _ _ _ _ hv ho.out.2.1 rfl (by rw [pw_add, Nat.mul_comm])
        · exact fun z2 h1 => set_far _ ho.out.2.2 z2 (by omega)
        · rw [bv32_set, ed]
          rw [show (((q + (z.toNat + y)) % 4294967296 : Nat) : Int) = ((q : Int) + ((z.toNat : Int) + (y : Int))) % 4294967296 by omega]
          exact own_set (w := wr.drewN _) hown2 _ _
        · exact (grownBy_drewN hg _).trans (grownBy_set _ _ _ _)
      case measure => simp [intOf] <;> omega
    · have hjk : p = D.length := by omega
      subst hjk
      have hjq : j + D.length < Q.length := by omega
      obtain ⟨z, hz⟩ : ∃ z, Q[j + D.length] = z := ⟨_, rfl⟩
      have hc3 := own_cell hown2 (j + D.length) (.int .u32 (z.toNat : Int)) (by simp [bv32, hjq, hz])
      have hf3 := hown2.frozenAt (j + D.length)
      have e3 := z.isLt
      have HF := Lib.hid (show Q[j + D.length]? = some z from by rw [List.getElem?_eq_getElem hjq, hz])
      have HJ := Lib.hid hjq
      have HQ := Lib.hid hQl
      clear hz hQl hjq
      go_wp2
      refine bodyPost_end (v := .tuple #[]) (by simp [results, Tryd.results72, go_sem]) rfl ?_
      have hlen := HJ.out
      have ed : (BitVec.ofNat 32 (z.toNat + q)).toNat = (z.toNat + q) % 4294967296 := by rw [BitVec.toNat_ofNat]
      refine ⟨rfl, Q.set (j + D.length) (BitVec.ofNat 32 (z.toNat + q)), (z.toNat + q) / 4294967296, by rw [List.length_set]; exact HQ.out, by omega, ?_, fun z2 h1 => set_far _ ho.out.2.2 z2 h1, ?_, hg.trans (grownBy_set _ _ _ _)⟩
      · have hv := valD_set Q (j + D.length) (BitVec.ofNat 32 (z.toNat + q)) hlen
        rw [get_of HF.out hlen, ed] at hv
        have h0 := ho.out.2.1
        rw [List.take_length] at h0
        rw [pw_succ]
        exact ab_end _ _ _ _ _ _ _ _ hv h0 rfl
      · rw [bv32_set, ed]
        rw [show (((z.toNat + q) % 4294967296 : Nat) : Int) = ((z.toNat : Int) + (q : Int)) % 4294967296 by omega]
        exact own_set hown2 _ _
end Go.Proofs.YtbnialhpflaoaaaDoor
