import Derived.Test.YtbnialhpflaoaaaDoorPL
import Derived.Laws.BytesArg
namespace Go.Proofs.YtbnialhpflaoaaaDoor
open Go.RowKit
set_option linter.unusedVariables false
set_option linter.unusedSimpArgs false
def TnR (w : World) (l : List (BitVec 32)) (g cp : Nat) (r i : Value) (wr : World) : Prop := ∃ (p ρ : Nat) (Q : List (BitVec 32)), p ≤ l.length ∧ i = .int .i64 ((p : Int) - 1) ∧ r = .int .u64 ρ ∧ ρ < 10 ∧
  Hid (Q.length = l.length ∧ valD (l.drop p) = 10 * valD (Q.drop p) + ρ) ∧
  wr.ownsRow w.heap.size 39 1 (.slice (some ⟨g, 0, none⟩) l.length cp) l.length (bv32 Q) ∧ Below w.heap.size w wr
set_option maxRecDepth 50000 in
set_option maxHeartbeats 1000000 in
theorem tenth_any (a : Option Addr) (n c : Nat) (l : List (BitVec 32)) (w : World) (hn : l.length = n) (hl : n ≤ 1000000) (hr : Rw w a l) :
    Calls Tryd.prog 61 #[.slice a n c] w fun e w' => ∃ a1 c1, e = .returned (.tuple #[.slice a1 (canon (valD l / 10)).length c1, .int .u64 (valD l % 10 : Nat)]) ∧ RwF w.heap.size w' a1 (canon (valD l / 10)) ∧ Below w.heap.size w w' := by
  subst hn
  have hmk := run_make_row' (P := Tryd.prog) 22 39 (.int .u32 0) 4 Tryd.underlying22 info32 rfl .i64 .i64 l.length (by omega) (by omega)
  go_enter Tryd.func61, Tryd.ntmps61
  go_wp2
  go_loopw [5, 6, 7] (fun r i _ wr => TnR w l w.heap.size l.length r i wr) (fun _ i _ _ => (intOf i + 1).toNat)
  case atStart => exact ⟨l.length, 0, zer l.length, Nat.le_refl _, by go_num, rfl, by omega, ⟨by simp [zer], by simp [zer, valD_nil]⟩, made32 w _ (by omega), Below.alloc (Below.refl _ _) (Nat.le_refl _) _⟩
  case round =>
    obtain ⟨p, ρ, Q, hp, rfl, rfl, hρ, hq, hown, hb⟩ := hrel
    rcases Nat.eq_zero_or_pos p with rfl | hp0
    · have hres : Hid (valD l % 10 = ρ ∧ valD Q = valD l / 10) := by
        have h := hq.out.2
        rw [List.drop_zero, List.drop_zero] at h
        exact ⟨by omega, by omega⟩
      have HL := Lib.hid hq.out.1
      have hF := Rw.of_own hown
      have HT : Hid (trimD Q = canon (valD l / 10)) := by show _ = _; rw [← canon_val, hres.out.2]
      go_wp2_with (go_at_call 20; go_loud ((with_reducible refine (norm_any _ _ _ Q _ HL.out (by have := HL.out; omega) hF).mono ?_); rintro e w2 ⟨a2, c2, rfl, hown2, hb2⟩; rw [HT.out] at hown2; rw [HT.out]))
      go_ret2
      exact ⟨a2, c2, by rw [hres.out.1]; rfl, (RwF.of_own hown2).mono hb.size, hb.trans (hb2.mono hb.size)⟩
    · obtain ⟨j, rfl⟩ : ∃ j, p = j + 1 := ⟨p - 1, by omega⟩
      have hj : j < Q.length := by rw [hq.out.1]; omega
      have hjl : j < l.length := by omega
      obtain ⟨ad, rfl, hc0⟩ := hr.below hb j hjl
      obtain ⟨x, hx⟩ : ∃ x, l[j].toNat = x := ⟨_, rfl⟩
      have e1 := l[j].isLt
      rw [hx] at hc0 e1
      have hcq := own_cell hown j (.int .u32 (Q[j].toNat : Int)) (by simp [bv32, hj])
      have hf := hown.frozenAt j
      obtain ⟨t, ht⟩ : ∃ t, ρ * 4294967296 + x = t := ⟨_, rfl⟩
      have hti : (ρ : Int) * 4294967296 + (x : Int) = (t : Int) := by omega
      have htb : t < 42949672960 := by omega
      obtain ⟨q, hqq⟩ : ∃ q, t / 10 = q := ⟨_, rfl⟩
      obtain ⟨r, hrr⟩ : ∃ r, t % 10 = r := ⟨_, rfl⟩
      have hqi : (t : Int) / 10 = (q : Int) := by omega
      have hri : (t : Int) % 10 = (r : Int) := by omega
      have hqt : (t : Int).tdiv 10 = (q : Int) := by rw [Int.tdiv_eq_ediv_of_nonneg (by omega)]; omega
      have hrt : (t : Int).tmod 10 = (r : Int) := by rw [Int.tmod_eq_emod_of_nonneg (by omega)]; omega
      have hqb : q < 4294967296 := by omega
      have HX := Lib.hid (show digD l j = x from by rw [digD_in _ _ hjl, hx])
      have HT := Lib.hid ht
      have HQQ := Lib.hid hqq
      have HRR := Lib.hid hrr
      have HJ := Lib.hid hj
      clear ht hqq hrr hx
      go_wp2
      go_roundw
      case rel =>
        refine ⟨j, r, Q.set j (BitVec.ofNat 32 q), by omega, by go_num, by go_num, by have := HRR.out; omega, ⟨?_, ?_⟩, ?_, ?_⟩
        · rw [List.length_set]; exact hq.out.1
        · have h1 : valD (l.drop j) = x + 4294967296 * valD (l.drop (j + 1)) := by rw [drop_dig, HX.out]
          have h2 : valD ((Q.set j (BitVec.ofNat 32 q)).drop j) = q + 4294967296 * valD (Q.drop (j + 1)) := by
            rw [drop_dig, digD_in _ _ (by rw [List.length_set]; exact HJ.out), List.getElem_set_self, List.drop_set_of_lt (by omega), BitVec.toNat_ofNat, Nat.mod_eq_of_lt hqb]
          rw [h1, h2]
          exact dbd_num _ _ _ _ _ _ _ _ HT.out HQQ.out HRR.out hq.out.2
        · have := own_set hown j (.int .u32 (q : Int))
          rw [bv32_set]
          rw [show ((BitVec.ofNat 32 q).toNat : Int) = (q : Int) by rw [toNat32]; omega]
          exact this
        · exact Below.setCell hb (p := ⟨w.heap.size, j, none⟩) (Nat.le_refl _) _
      case measure => simp [intOf] <;> omega
/-- The bytes of a text as values. -/
def bvu (l : List UInt8) : List Value := l.map fun c => .int .u8 (c.toNat : Int)
theorem bvu_len (l : List UInt8) : (bvu l).length = l.length := by simp [bvu]
theorem bvu_snoc (l : List UInt8) (c : UInt8) : bvu (l ++ [c]) = bvu l ++ [.int .u8 (c.toNat : Int)] := by simp [bvu]
theorem u8_one (x : Int) : ∀ u ∈ [Value.int .u8 x], u.oneCell' = true := by
  intro u hu
  simp at hu
  subst hu
  rfl
theorem infoU : (Tryd.prog.info? 5).map (fun i => (i.zero, i.size, i.bytes)) = some (some (.int .u8 0), 1, 1) := by kernel_rfl
theorem fresh_rowU (W : World) : (W.alloc (.cells #[] 5)).ownsRow W.heap.size 5 1 (.slice (some ⟨W.heap.size, 0, none⟩) 0 0) 0 [] := World.ownsRow_made W #[] 0 (Nat.le_refl _) (by unfold maxLen; omega) (by simp)
theorem str_of_row {W : World} {B g n c : Nat} {l : List UInt8} (h : W.ownsRow B 5 1 (.slice (some ⟨g, 0, none⟩) n c) n (bvu l)) : (convert 66 9 (.slice (some ⟨g, 0, none⟩) n c)).run Tryd.prog W = .ok (sv l) W := by
  have hl := h.1
  rw [bvu_len] at hl
  have hr := run_convert_bytes_arg (P := Tryd.prog) W 66 5 Tryd.underlying66 Tryd.underlying5 g 0 n c (l.map fun c => (c.toNat : Int)) (by rw [List.length_map]; omega) (fun i hi => by
    rw [Nat.zero_add]
    refine own_cell h i _ ?_
    rw [bvu, List.getElem?_map, List.getElem?_eq_getElem (by omega)]
    simp [List.getD, show i < l.length by omega]) 9 Tryd.underlying9
  rw [hr]
  unfold sv
  congr 2
  unfold strOfNums
  congr 2
  rw [List.map_map]
  conv => rhs; rw [← List.map_id l]
  apply List.map_congr_left
  intro x _
  simp
end Go.Proofs.YtbnialhpflaoaaaDoor
