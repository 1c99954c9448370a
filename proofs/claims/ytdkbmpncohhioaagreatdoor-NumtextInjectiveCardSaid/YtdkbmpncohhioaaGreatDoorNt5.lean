
import Derived.Test.YtdkbmpncohhioaaGreatDoorNt4
import Derived.Test.YtdkbmpncohhioaaGreatDoorNtC
import Derived.Test.YtdkbmpncohhioaaGreatDoorHr
namespace Go.Proofs.YtdkbmpncohhioaaGreatDoor
open Go.RowKit
set_option linter.unusedVariables false
set_option linter.unusedSimpArgs false
attribute [local go_sem ↓] Go.wp_at_zero Go.wp_at_succ
theorem Rw.of_alloc2 {W : World} {b : Nat} {cs : Array Value} {t : TypeId} {fr : Nat × Nat} {l : List (BitVec 32)} (hb : W.heap.size = b) (e : cs.toList = bv32 l) : Rw (W.alloc (.cells cs t fr)) (some ⟨b, 0, none⟩) l := by
  subst hb
  exact Rw.of_cells (heap_alloc_new W _) e
theorem ex_q1 : qE [50, 47, 52] = 3 := by decide +kernel
theorem ex_q2 : qE [51, 47, 49] = 3 := by decide +kernel
theorem ex_q3 : qE [45, 51, 47, 52] = 0 ∧ pZ (cA [45, 51, 47, 52]) = -3 ∧ qD [45, 51, 47, 52] = 4 := by decide +kernel
theorem ex_i : irV [45, 55] (-7) 0 = -7 ∧ irE [45, 55] (-7) 0 = 0 := by decide +kernel
theorem ex_f : fmtR (rnN (-3) 4) (rnD (-3) 4) = [45, 51, 47, 52] := by
  have e1 : rnN (-3) 4 = -3 := by decide +kernel
  have e2 : rnD (-3) 4 = 4 := by decide +kernel
  rw [e1, e2]
  unfold fmtR zfmt
  rw [if_neg (by decide), if_pos (by decide), if_neg (by decide)]
  simp [Lib.decDigits]
theorem ex_z : zfmt (-120) = [45, 49, 50, 48] := by
  unfold zfmt
  rw [if_pos (by decide)]
  simp [Lib.decDigits]
theorem ex_h : encL [0, 175] = [48, 48, 97, 102] := by decide +kernel
theorem ex_pr1 (W : World) (h : Mx W) : Calls Tryz.prog 14 #[.string ⟨#[50, 47, 52]⟩] W fun e w' => e = qerr 3 ∧ Below W.heap.size W w' := (prat_any ⟨#[50, 47, 52]⟩ [50, 47, 52] W rfl (by decide) h).mono fun e w' h => by
  rcases h with ⟨_, h, h2⟩ | ⟨h, _⟩
  · rw [ex_q1] at h; exact ⟨h, h2⟩
  · rw [ex_q1] at h; cases h
theorem ex_pr2 (W : World) (h : Mx W) : Calls Tryz.prog 14 #[.string ⟨#[51, 47, 49]⟩] W fun e w' => e = qerr 3 ∧ Below W.heap.size W w' := (prat_any ⟨#[51, 47, 49]⟩ [51, 47, 49] W rfl (by decide) h).mono fun e w' h => by
  rcases h with ⟨_, h, h2⟩ | ⟨h, _⟩
  · rw [ex_q2] at h; exact ⟨h, h2⟩
  · rw [ex_q2] at h; cases h
theorem can3 : canon (-3 : Int).natAbs = [3#32] := by
  show canon 3 = _
  rw [canon_pos (by decide), show 3 / 4294967296 = 0 from rfl, canon_zero]
theorem can4 : canon (4 : Int).natAbs = [4#32] := by
  show canon 4 = _
  rw [canon_pos (by decide), show 4 / 4294967296 = 0 from rfl, canon_zero]
theorem ex_pr3 (W : World) (h : Mx W) : Calls Tryz.prog 14 #[.string ⟨#[45, 51, 47, 52]⟩] W fun e w' => ∃ (a : Option Addr) (c : Nat) (b : Option Addr) (d : Nat), e = .returned (.tuple #[.agg #[.bool true, .slice a 1 c, .bool false, .slice b 1 d], .int .i64 0]) ∧ Rw w' a [3#32] ∧ Rw w' b [4#32] ∧ Below W.heap.size W w' := (prat_any ⟨#[45, 51, 47, 52]⟩ [45, 51, 47, 52] W rfl (by decide) h).mono fun e w' h => by
  rcases h with ⟨h, _⟩ | ⟨_, a, c, b, d, h1, h2, h3, h4, h5, h6⟩
  · exact absurd ex_q3.1 h
  · rw [ex_q3.2.1] at h1 h2
    rw [ex_q3.2.2] at h1 h3
    rw [can3] at h1 h2
    rw [can4] at h1 h3
    exact ⟨a, c, b, d, h1, h2.rw, h3.rw, h6⟩
theorem ex_ir (W : World) : Calls Tryz.prog 9 #[.string ⟨#[45, 55]⟩, .int .i64 (-7), .int .i64 0] W fun e w' => e = dui (-7) 0 ∧ Below W.heap.size W w' := (pir_any ⟨#[45, 55]⟩ [45, 55] (-7) 0 W rfl (by decide)).mono fun e w' h => by
  rw [ex_i.1, ex_i.2] at h
  exact h
theorem ex_sm (W : World) (a b a2 b2 : Option Addr) (c d c2 d2 : Nat) (h1 : Rw W a [3#32]) (h2 : Rw W b [4#32]) (h3 : Rw W a2 [3#32]) (h4 : Rw W b2 [4#32]) : Calls Tryz.prog 18 #[.agg #[.bool true, .slice a 1 c, .bool false, .slice b 1 d], .agg #[.bool true, .slice a2 1 c2, .bool false, .slice b2 1 d2]] W fun e w' => e = .returned (.bool true) ∧ Below W.heap.size W w' :=
  srat_yes true false a b a2 b2 c d c2 d2 [3#32] [4#32] W (by decide) (by decide) h1 h2 h3 h4
theorem ex_fm (W : World) (a b : Option Addr) (c d : Nat) (hc : 1 ≤ c) (hd : 1 ≤ d) (h1 : Rw W a [3#32]) (h2 : Rw W b [4#32]) (hT : Tb W) : Calls Tryz.prog 16 #[.agg #[.bool true, .slice a 1 c, .bool false, .slice b 1 d]] W fun e w' => e = .returned (sv [45, 51, 47, 52]) ∧ Below W.heap.size W w' := (fmtr_any true false a b 1 c 1 d [3#32] [4#32] W rfl rfl hc hd (by decide) (by decide) h1 h2 hT).mono fun e w' h => by
  have e1 : zv true (valD [3#32]) = -3 := by simp [zv, valD]
  have e2 : zv false (valD [4#32]) = 4 := by simp [zv, valD]
  rw [e1, e2, ex_f] at h
  exact h
theorem ex_en (W : World) (b c : Nat) (h : RdV W (some ⟨b, 0, none⟩) [.int .u8 0, .int .u8 175]) : Calls Tryz.prog 20 #[.slice (some ⟨b, 0, none⟩) 2 c] W fun e w' => e = .returned (.string ⟨#[48, 48, 97, 102]⟩) ∧ Below W.heap.size W w' := (hexenc_any [0, 175] (some ⟨b, 0, none⟩) c W h (by decide)).mono fun e w' h => by
  rw [ex_h] at h
  exact h
theorem ex_fi (W : World) (hT : Tb W) : Calls Tryz.prog 11 #[.int .i64 (-120)] W fun e w' => e = .returned (sv [45, 49, 50, 48]) ∧ Below W.heap.size W w' := (fmti_any (-120) W (by decide) (by decide) hT).mono fun e w' h => by
  rw [ex_z] at h
  exact h
theorem rdv_two (W : World) : RdV (W.alloc (.cells #[.int .u8 0, .int .u8 175] 5)) (some ⟨W.heap.size, 0, none⟩) [.int .u8 0, .int .u8 175] := fun k u hk => by
  refine ⟨_, rfl, ?_⟩
  rcases k with _ | _ | k
  · cases hk; go_simp
  · cases hk; go_simp
  · simp at hk
set_option maxRecDepth 50000 in
set_option maxHeartbeats 2000000 in
theorem ex_any (w : World) (hT : Tb w) (hM : Mx w) : Calls Tryz.prog 6 #[] w fun e w' => e = .returned (.bool true) ∧ Below w.heap.size w w' := by
  go_enter Tryz.func6, Tryz.ntmps6
  go_wp2_with (first
    | (go_at_call 14; go_loud (first
        | ((with_reducible refine (ex_pr1 _ hM).mono ?_); unfold qerr; rintro e w1 ⟨rfl, hc1⟩; have hb1a := belAl hc1 (.cells #[Value.bool false, Value.slice none 0 0, Value.bool false, Value.slice none 0 0] 33); have hM1 := hM.below hb1a)
        | ((with_reducible refine (ex_pr2 _ hM1).mono ?_); unfold qerr; rintro e w2 ⟨rfl, hc2⟩; have hb2a := belAl (bel_step hb1a hc2) (.cells #[Value.bool false, Value.slice none 0 0, Value.bool false, Value.slice none 0 0] 33); have hM2 := hM.below hb2a)
        | ((with_reducible refine (ex_pr3 _ hM2).mono ?_); rintro e w3 ⟨a3, c3, b3, d3, rfl, hx3, hy3, hc3⟩; have hb3 := bel_step hb2a hc3; have hb3d : Below w.heap.size w ((((w3.alloc (.cells #[Value.bool true, Value.slice a3 1 c3, Value.bool false, Value.slice b3 1 d3] 33)).alloc (.cells #[Value.int .u32 3] 42)).alloc (.cells #[Value.int .u32 4] 42)).alloc (.cells #[Value.bool true, Value.slice (some ⟨w3.heap.size + 1, 0, none⟩) 1 1, Value.bool false, Value.slice (some ⟨w3.heap.size + 1 + 1, 0, none⟩) 1 1] 33)) := belAl (belAl (belAl (belAl hb3 _) _) _) _; have hu3 : Rw ((w3.alloc (.cells #[Value.bool true, Value.slice a3 1 c3, Value.bool false, Value.slice b3 1 d3] 33)).alloc (.cells #[Value.int .u32 3] 42)) (some ⟨w3.heap.size + 1, 0, none⟩) [3#32] := Rw.of_alloc2 (by simp) rfl; have hz3 : Rw (((w3.alloc (.cells #[Value.bool true, Value.slice a3 1 c3, Value.bool false, Value.slice b3 1 d3] 33)).alloc (.cells #[Value.int .u32 3] 42)).alloc (.cells #[Value.int .u32 4] 42)) (some ⟨w3.heap.size + 1 + 1, 0, none⟩) [4#32] := Rw.of_alloc2 (by simp) rfl)))
    | (go_at_call 9; go_loud ((with_reducible refine (ex_ir _).mono ?_); unfold dui; rintro e w4 ⟨rfl, hc4⟩; have k4_h_0 : w4.cell? ⟨w3.heap.size, 0, none⟩ = some (.bool true) := bcs hc4 (by first | with_reducible assumption | go_simp); have k4_h_1 : w4.cell? ⟨w3.heap.size, 1, none⟩ = some (.slice a3 1 c3) := bcs hc4 (by first | with_reducible assumption | go_simp); have k4_h_2 : w4.cell? ⟨w3.heap.size, 2, none⟩ = some (.bool false) := bcs hc4 (by first | with_reducible assumption | go_simp); have k4_h_3 : w4.cell? ⟨w3.heap.size, 3, none⟩ = some (.slice b3 1 d3) := bcs hc4 (by first | with_reducible assumption | go_simp); have k4_v_0 : w4.cell? ⟨(w3.heap.size + 1 + 1 + 1), 0, none⟩ = some (.bool true) := bcs hc4 (by first | with_reducible assumption | go_simp); have k4_v_1 : w4.cell? ⟨(w3.heap.size + 1 + 1 + 1), 1, none⟩ = some (.slice (some ⟨w3.heap.size + 1, 0, none⟩) 1 1) := bcs hc4 (by first | with_reducible assumption | go_simp); have k4_v_2 : w4.cell? ⟨(w3.heap.size + 1 + 1 + 1), 2, none⟩ = some (.bool false) := bcs hc4 (by first | with_reducible assumption | go_simp); have k4_v_3 : w4.cell? ⟨(w3.heap.size + 1 + 1 + 1), 3, none⟩ = some (.slice (some ⟨w3.heap.size + 1 + 1, 0, none⟩) 1 1) := bcs hc4 (by first | with_reducible assumption | go_simp); have hx4 : Rw w4 a3 [3#32] := Rw.below (by (repeat' first | with_reducible assumption | with_reducible refine Rw.al ?_ _)) hc4; have hy4 : Rw w4 b3 [4#32] := Rw.below (by (repeat' first | with_reducible assumption | with_reducible refine Rw.al ?_ _)) hc4; have hu4 : Rw w4 (some ⟨w3.heap.size + 1, 0, none⟩) [3#32] := Rw.below (by (repeat' first | with_reducible assumption | with_reducible refine Rw.al ?_ _)) hc4; have hz4 : Rw w4 (some ⟨w3.heap.size + 1 + 1, 0, none⟩) [4#32] := Rw.below (by (repeat' first | with_reducible assumption | with_reducible refine Rw.al ?_ _)) hc4; have hb4 := bel_step hb3d hc4))
    | (go_at_call 18; go_loud ((with_reducible refine (ex_sm _ _ _ _ _ _ _ _ _ hx4 hy4 hu4 hz4).mono ?_); rintro e w5 ⟨rfl, hc5⟩; have k5_h_0 : w5.cell? ⟨w3.heap.size, 0, none⟩ = some (.bool true) := bcs hc5 (by first | with_reducible assumption | go_simp); have k5_h_1 : w5.cell? ⟨w3.heap.size, 1, none⟩ = some (.slice a3 1 c3) := bcs hc5 (by first | with_reducible assumption | go_simp); have k5_h_2 : w5.cell? ⟨w3.heap.size, 2, none⟩ = some (.bool false) := bcs hc5 (by first | with_reducible assumption | go_simp); have k5_h_3 : w5.cell? ⟨w3.heap.size, 3, none⟩ = some (.slice b3 1 d3) := bcs hc5 (by first | with_reducible assumption | go_simp); have k5_v_0 : w5.cell? ⟨(w3.heap.size + 1 + 1 + 1), 0, none⟩ = some (.bool true) := bcs hc5 (by first | with_reducible assumption | go_simp); have k5_v_1 : w5.cell? ⟨(w3.heap.size + 1 + 1 + 1), 1, none⟩ = some (.slice (some ⟨w3.heap.size + 1, 0, none⟩) 1 1) := bcs hc5 (by first | with_reducible assumption | go_simp); have k5_v_2 : w5.cell? ⟨(w3.heap.size + 1 + 1 + 1), 2, none⟩ = some (.bool false) := bcs hc5 (by first | with_reducible assumption | go_simp); have k5_v_3 : w5.cell? ⟨(w3.heap.size + 1 + 1 + 1), 3, none⟩ = some (.slice (some ⟨w3.heap.size + 1 + 1, 0, none⟩) 1 1) := bcs hc5 (by first | with_reducible assumption | go_simp); have hx5 : Rw w5 a3 [3#32] := Rw.below (by (repeat' first | with_reducible assumption | with_reducible refine Rw.al ?_ _)) hc5; have hy5 : Rw w5 b3 [4#32] := Rw.below (by (repeat' first | with_reducible assumption | with_reducible refine Rw.al ?_ _)) hc5; have hu5 : Rw w5 (some ⟨w3.heap.size + 1, 0, none⟩) [3#32] := Rw.below (by (repeat' first | with_reducible assumption | with_reducible refine Rw.al ?_ _)) hc5; have hz5 : Rw w5 (some ⟨w3.heap.size + 1 + 1, 0, none⟩) [4#32] := Rw.below (by (repeat' first | with_reducible assumption | with_reducible refine Rw.al ?_ _)) hc5; have hb5 := bel_step hb4 hc5))
    | (go_at_call 16; go_loud ((with_reducible refine (ex_fm _ _ _ _ _ (by decide) (by decide) hu5 hz5 (hT.below hb5)).mono ?_); unfold sv; rintro e w6 ⟨rfl, hc6⟩; have hb6 := bel_step hb5 hc6; have hen : RdV (w6.alloc (.cells #[.int .u8 0, .int .u8 175] 5)) (some ⟨w6.heap.size, 0, none⟩) [.int .u8 0, .int .u8 175] := rdv_two _; have hb6a := belAl hb6 (.cells #[.int .u8 0, .int .u8 175] 5)))
    | (go_at_call 20; go_loud ((with_reducible refine (ex_en _ _ _ hen).mono ?_); rintro e w7 ⟨rfl, hc7⟩; have hb7 := bel_step hb6a hc7))
    | (go_at_call 11; go_loud ((with_reducible refine (ex_fi _ (hT.below hb7)).mono ?_); unfold sv; rintro e w8 ⟨rfl, hc8⟩; have hb8 := bel_step hb7 hc8)))
  go_ret
  exact ⟨rfl, hb8⟩
end Go.Proofs.YtdkbmpncohhioaaGreatDoor
