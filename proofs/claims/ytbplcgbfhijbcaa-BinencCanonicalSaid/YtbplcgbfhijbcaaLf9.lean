import Derived.Test.YtbplcgbfhijbcaaLf0
namespace Go.Proofs.Ytbplcgbfhijbcaa
open Go.RowKit
set_option linter.unusedVariables false
set_option linter.unusedSimpArgs false
attribute [local go_sem ↓] Go.wp_at_zero Go.wp_at_succ
theorem isenc_y (a b : Option Addr) (n c m d k q : Nat) (y : Int) (l p : List (BitVec 8)) (w : World) (hn : l.length = n) (hc : n ≤ c) (hm : p.length = m) (hq : k + m = q) (hy : y = (q : Int)) (hql : q ≤ n) (hl : n ≤ 1000000) (hr : Rd w a l) (hs : Rd w b p) (he : p = (l.drop k).take m) :
    Calls Try.prog 34 #[.slice a n c, .int .i64 k, .int .i64 y, .slice b m d] w fun e w' => e = .returned (.bool true) ∧ Below w.heap.size w w' := by
  subst hy
  have hm1 : m ≤ 1000000000 := by omega
  have hsub : q - k = m := by omega
  have hdl : ((l.drop k).take m).length = m := by rw [← he]; exact hm
  have hrd := (hr.drop k).take m
  have d1 : decide ((k : Int) ≤ (q : Int)) = true := by simp; omega
  have d2 : decide ((q : Int) ≤ (n : Int)) = true := by simp; omega
  by_cases hck : c = k
  · obtain rfl : m = 0 := by omega
    obtain rfl : p = [] := List.length_eq_zero_iff.1 hm
    go_enter Try.func34, Try.ntmps34
    go_wp2_with (go_at_call 15; go_loud ((with_reducible refine (same8_yes _ _ 0 _ 0 _ [] [] _ List.length_nil List.length_nil hm1 hs (Rd.nil _ _) rfl).mono ?_); rintro e w6 ⟨rfl, hb6⟩))
    all_goals go_ret
    all_goals exact ⟨rfl, hb6⟩
  · go_enter Try.func34, Try.ntmps34
    go_wp2_with (go_at_call 15; go_loud ((with_reducible refine (same8_yes _ _ _ _ _ _ _ _ _ hm hdl hm1 hs hrd he).mono ?_); rintro e w6 ⟨rfl, hb6⟩))
    all_goals go_ret
    all_goals exact ⟨rfl, hb6⟩
theorem len_tk {p u : List (BitVec 8)} {k n : Nat} (h : p = (u.drop k).take n) (hn : p.length = n) (h0 : k ≤ u.length) : k + n ≤ u.length := by
  have := congrArg List.length h
  rw [List.length_take, List.length_drop] at this
  omega
/-- A byte string's encoding that lacks its last byte. -/
theorem cut_enc (N : List (BitVec 8)) (h : N.length ≤ 4096) : bytE ((putB N).take ((putB N).length - 1)) 4096 = 4 := by
  rcases N with _ | ⟨x, t⟩
  · have e : (putB ([] : List (BitVec 8))).take ((putB ([] : List (BitVec 8))).length - 1) = [] := by unfold putB; rw [List.length_nil, putU_small (by decide)]; rfl
    rw [e]
    have e2 : uvE ([] : List (BitVec 8)) = 4 := by unfold uvE; rw [if_pos (by simp)]
    unfold bytE
    rw [if_pos (by rw [lenE_bad (by rw [e2]; decide), e2]; decide), lenE_bad (by rw [e2]; decide), e2]
  · have e0 : (putB (x :: t)).take ((putB (x :: t)).length - 1) = putU (x :: t).length ++ (x :: t).take t.length := by
      unfold putB
      rw [List.length_append, List.length_cons, show (putU (t.length + 1)).length + (t.length + 1) - 1 = (putU (t.length + 1)).length + t.length by omega, List.take_length_add_append]
    obtain ⟨h1, h2, h3⟩ := uv_putU (x :: t).length (by omega) ((x :: t).take t.length)
    rw [e0]
    unfold bytE
    rw [lenE_fine h1 (by rw [h2]; omega), if_neg (by decide), if_pos]
    rw [h2, h3, List.length_append, List.length_take, List.length_cons]
    omega
theorem rat_cut (l : List (BitVec 8)) (k p : Nat) (D : BitVec 8) (N1 N2 r : List (BitVec 8)) (hl : l.length ≤ 1000000) (h : l.drop k = D :: (putB N1 ++ (putB N2 ++ r))) (hD : D.toNat ≤ 1) (hN1 : N1.length ≤ 4096) (hN2 : N2.length ≤ 4096) (hp : k + 1 + (putB N1).length + (putB N2).length = p) : BinC (l.take (p - 1)) k (ErrQ 4) := by
  have h2 : 0 < (putB N2).length := by unfold putB; rw [List.length_append]; have := putU_pos N2.length; omega
  have hd : (l.take (p - 1)).drop k = D :: (putB N1 ++ (putB N2).take ((putB N2).length - 1)) := by
    rw [List.drop_take, h, show p - 1 - k = (putB N1).length + ((putB N2).length - 1) + 1 by omega, List.take_succ_cons, List.take_length_add_append, List.take_append_of_le_length (by omega)]
  have := (both_den (l.take (p - 1)) k D N1 _ (by rw [List.length_take]; omega) hd hD hN1 (by rw [cut_enc N2 hN2]; decide)).1
  rw [cut_enc N2 hN2] at this
  exact this
theorem rd_tk {w : World} {a : Option Addr} {l : List (BitVec 8)} (h : Rd w a l) (n : Nat) : Rd w a (l.take n) := h.take n
theorem lcn_big (a : Option Addr) (n c : Nat) (at' : Int) (w : World) (h : 300 < n) (hn : n ≤ 9223372036854775807) :
    Calls Try.prog 8 #[.slice a n c, .int .i64 at'] w fun e w' => e = .returned (.bool true) ∧ Below w.heap.size w w' := by
  go_enter Try.func8, Try.ntmps8
  go_wp2_with (go_at_call 18; go_loud ((with_reducible refine (ex_any _).mono ?_); rintro e w6 ⟨rfl, hb6⟩))
  go_ret
  exact ⟨rfl, hb6⟩
set_option maxRecDepth 50000 in
set_option maxHeartbeats 4000000 in
theorem lcn_000 (a : Option Addr) (n c : Nat) (at' : Int) (l : List (BitVec 8)) (w : World) (hn : l.length = n) (hc : n ≤ c) (h : n ≤ 300) (hr : Rd w a l) (E1 : Nat) (hE1 : E1 ≠ 0) (hU : ∀ W, Rd W a l → Calls Try.prog 13 #[.slice a n c, .int .i64 at'] W fun e W' => e = tri 0 0 E1 ∧ Below W.heap.size W W') (hV : ∀ W, Rd W a l → Calls Try.prog 19 #[.slice a n c, .int .i64 at'] W fun e W' => e = dri 0 0 E1 ∧ Below W.heap.size W W') (E2 : Nat) (hE2 : E2 ≠ 0) (hB : ∀ W, Rd W a l → Calls Try.prog 23 #[.slice a n c, .int .i64 at', .int .i64 n] W fun e W' => e = trs (.slice none 0 0) 0 E2 ∧ Below W.heap.size W W') (E3 : Nat) (hE3 : E3 ≠ 0) (hR : BinC l at' (ErrQ E3)) :
    Calls Try.prog 8 #[.slice a n c, .int .i64 at'] w fun e w' => e = .returned (.bool true) ∧ Below w.heap.size w w' := by
  subst hn
  simp only [BinC] at hR
  have HU := Lib.hid hU
  have HV := Lib.hid hV
  have HB := Lib.hid hB
  have HR := Lib.hid hR
  have hl9 : l.length ≤ 1000000 := by omega
  have qa1 : ((E1 : Int) == 0) = false := by simp; exact hE1
  have qa2 : ((E1 : Int) != 0) = true := by simp; exact hE1
  have qb1 : ((E2 : Int) == 0) = false := by simp; exact hE2
  have qb2 : ((E2 : Int) != 0) = true := by simp; exact hE2
  have qc1 : ((E3 : Int) == 0) = false := by simp; exact hE3
  have qc2 : ((E3 : Int) != 0) = true := by simp; exact hE3
  clear hU hV hB hR
  go_enter Try.func8, Try.ntmps8
  go_wp2_with (first
    | (go_at_call 13; go_loud ((with_reducible refine (HU.out _ hr).mono ?_); unfold tri; rintro e w1 ⟨rfl, hbx1⟩; have hr1 := hr.below hbx1))
    | (go_at_call 19; go_loud ((with_reducible refine (HV.out _ hr1).mono ?_); unfold dri; rintro e w4 ⟨rfl, hbw4⟩; have hbx4 := bel_step hbx1 hbw4; have hr4 := hr1.below hbw4))
    | (go_at_call 23; go_loud ((with_reducible refine (HB.out _ hr4).mono ?_); unfold trs; rintro e w7 ⟨rfl, hbw7⟩; have hbx7 := bel_step hbx4 hbw7; have hr7 := hr4.below hbw7))
    | (go_at_call 28; go_loud ((with_reducible refine (HR.out _ _ _ _ rfl hc hr7).mono ?_); unfold ErrQ ratE; rintro e w10 ⟨rfl, hbw10⟩; have hbx10 := bel_step hbx7 hbw10; have hbx10a := belAl hbx10 (.cells #[Value.bool false, Value.slice none 0 0, Value.bool false, Value.slice none 0 0] 45)))
    | (go_at_call 18; go_loud ((with_reducible refine (ex_any _).mono ?_); rintro e w30 ⟨rfl, hbw30⟩; have hbx30 := bel_step hbx10a hbw30)))
  go_ret
  exact ⟨rfl, hbx30⟩
set_option maxRecDepth 50000 in
set_option maxHeartbeats 4000000 in
theorem lcn_001 (a : Option Addr) (n c : Nat) (k : Nat) (l : List (BitVec 8)) (w : World) (hn : l.length = n) (hc : n ≤ c) (h : n ≤ 300) (hr : Rd w a l) (E1 : Nat) (hE1 : E1 ≠ 0) (hU : ∀ W, Rd W a l → Calls Try.prog 13 #[.slice a n c, .int .i64 k] W fun e W' => e = tri 0 0 E1 ∧ Below W.heap.size W W') (hV : ∀ W, Rd W a l → Calls Try.prog 19 #[.slice a n c, .int .i64 k] W fun e W' => e = dri 0 0 E1 ∧ Below W.heap.size W W') (E2 : Nat) (hE2 : E2 ≠ 0) (hB : ∀ W, Rd W a l → Calls Try.prog 23 #[.slice a n c, .int .i64 k, .int .i64 n] W fun e W' => e = trs (.slice none 0 0) 0 E2 ∧ Below W.heap.size W W') (sg : Bool) (X Y : List (BitVec 32)) (PB : List (BitVec 8)) (p : Nat) (hX : X.length ≤ 2000) (hY : Y.length ≤ 2000) (hrn : rnB sg false X Y = true) (hPB : putF (rnN (zv sg (valD X)) (zv false (valD Y))) (rnD (zv sg (valD X)) (zv false (valD Y))) = PB) (pl : p ≤ n) (p1 : 1 ≤ p) (r1 : k + PB.length = p) (r2 : PB = (l.drop k).take PB.length) (hR : BinC l k (fun W => RatK W sg X Y p)) (hC : BinC (l.take (p - 1)) k (ErrQ 4)) :
    Calls Try.prog 8 #[.slice a n c, .int .i64 k] w fun e w' => e = .returned (.bool true) ∧ Below w.heap.size w w' := by
  subst hn
  simp only [BinC] at hR
  have HU := Lib.hid hU
  have HV := Lib.hid hV
  have HB := Lib.hid hB
  have HR := Lib.hid hR
  have hl9 : l.length ≤ 1000000 := by omega
  have qa1 : ((E1 : Int) == 0) = false := by simp; exact hE1
  have qa2 : ((E1 : Int) != 0) = true := by simp; exact hE1
  have qb1 : ((E2 : Int) == 0) = false := by simp; exact hE2
  have qb2 : ((E2 : Int) != 0) = true := by simp; exact hE2
  simp only [BinC] at hC
  have HC := Lib.hid hC
  have hpr : ∀ W (a9 : Option Addr) (c9 : Nat) (b9 : Option Addr) (d9 : Nat), X.length ≤ c9 → Y.length ≤ d9 → Rw W a9 X → Rw W b9 Y → Calls Try.prog 30 #[.agg #[.bool sg, .slice a9 X.length c9, .bool false, .slice b9 Y.length d9]] W (FrB W PB) := fun W a9 c9 b9 d9 h1 h2 h3 h4 => by
    have := prat_any sg false a9 b9 _ c9 _ d9 X Y W rfl rfl h1 h2 (by omega) (by omega) h3 h4
    rw [hPB] at this
    exact this
  have hin : ∀ W (a9 : Option Addr) (c9 : Nat) (b9 : Option Addr) (d9 : Nat), X.length ≤ c9 → Y.length ≤ d9 → Rw W a9 X → Rw W b9 Y → Calls Try.prog 35 #[.agg #[.bool sg, .slice a9 X.length c9, .bool false, .slice b9 Y.length d9]] W fun e W' => e = .returned (.bool true) ∧ Below W.heap.size W W' := fun W a9 c9 b9 d9 h1 h2 h3 h4 => by
    have := risn_any sg false a9 b9 _ c9 _ d9 X Y W rfl rfl h1 h2 (by omega) (by omega) h3 h4
    rw [hrn] at this
    exact this
  have HPR := Lib.hid hpr
  have HIN := Lib.hid hin
  have HQ4 := Lib.hid r1
  have HE4 := Lib.hid r2
  have hpl2 : (l.take (p - 1)).length = p - 1 := by rw [List.length_take]; omega
  have HPL := Lib.hid hpl2
  have e9 : ((p : Int) == 0) = false := by rw [beq_eq_false_iff_ne]; omega
  have e8 : (p : Int) - 1 = ((p - 1 : Nat) : Int) := by omega
  obtain ⟨p9, hp9⟩ : ∃ p9, p - 1 = p9 := ⟨_, rfl⟩
  rw [hp9] at HC HPL e8
  have hp9c : p9 ≤ l.length := by omega
  have hp9d : p9 ≤ c := by omega
  have plc : p ≤ c := by omega
  clear hU hV hB hR hC hpr hin r1 r2 hpl2 hrn hPB
  go_enter Try.func8, Try.ntmps8
  go_wp2_with (first
    | (go_at_call 13; go_loud ((with_reducible refine (HU.out _ hr).mono ?_); unfold tri; rintro e w1 ⟨rfl, hbx1⟩; have hr1 := hr.below hbx1))
    | (go_at_call 19; go_loud ((with_reducible refine (HV.out _ hr1).mono ?_); unfold dri; rintro e w4 ⟨rfl, hbw4⟩; have hbx4 := bel_step hbx1 hbw4; have hr4 := hr1.below hbw4))
    | (go_at_call 23; go_loud ((with_reducible refine (HB.out _ hr4).mono ?_); unfold trs; rintro e w7 ⟨rfl, hbw7⟩; have hbx7 := bel_step hbx4 hbw7; have hr7 := hr4.below hbw7))
    | (go_at_call 28; go_loud (first
      | ((with_reducible refine (HC.out _ _ _ _ HPL.out hp9d (rd_tk hr13 p9)).mono ?_); unfold ErrQ ratE; rintro e w14 ⟨rfl, hbw14⟩; have hbx14 := bel_step hbx13 hbw14; have hbx14a := belAl hbx14 (.cells #[Value.bool false, Value.slice none 0 0, Value.bool false, Value.slice none 0 0] 45))
      | ((with_reducible refine (HR.out _ _ _ _ rfl hc hr7).mono ?_); rintro e w10 ⟨a10, c10, b10, d10, rfl, hca10, hcb10, hX10, hY10, hbw10⟩; have hbx10 := bel_step hbx7 hbw10; have hr10 := hr7.below hbw10; have hbx10a := belAl hbx10 (.cells #[Value.bool sg, Value.slice a10 X.length c10, Value.bool false, Value.slice b10 Y.length d10] 45); have hr10a := hr.below hbx10a; have hX10a := hX10.al (.cells #[Value.bool sg, Value.slice a10 X.length c10, Value.bool false, Value.slice b10 Y.length d10] 45); have hY10a := hY10.al (.cells #[Value.bool sg, Value.slice a10 X.length c10, Value.bool false, Value.slice b10 Y.length d10] 45))))
    | (go_at_call 30; go_loud ((with_reducible refine (HPR.out _ _ _ _ _ hca10 hcb10 hX10a hY10a).mono ?_); rintro e w11 ⟨a11, c11, rfl, hc11, ho11, hbw11⟩; have k11_x_0 : w11.cell? ⟨w10.heap.size, 0, none⟩ = some (.bool sg) := bcs hbw11 (by first | with_reducible assumption | go_simp); have g11_x_0 : w11.frozen? ⟨w10.heap.size, 0, none⟩ = false := bfs hbw11 (v := .bool sg) (by first | with_reducible assumption | go_simp) (by first | with_reducible assumption | go_simp); have k11_x_1 : w11.cell? ⟨w10.heap.size, 1, none⟩ = some (.slice a10 X.length c10) := bcs hbw11 (by first | with_reducible assumption | go_simp); have g11_x_1 : w11.frozen? ⟨w10.heap.size, 1, none⟩ = false := bfs hbw11 (v := .slice a10 X.length c10) (by first | with_reducible assumption | go_simp) (by first | with_reducible assumption | go_simp); have k11_x_2 : w11.cell? ⟨w10.heap.size, 2, none⟩ = some (.bool false) := bcs hbw11 (by first | with_reducible assumption | go_simp); have g11_x_2 : w11.frozen? ⟨w10.heap.size, 2, none⟩ = false := bfs hbw11 (v := .bool false) (by first | with_reducible assumption | go_simp) (by first | with_reducible assumption | go_simp); have k11_x_3 : w11.cell? ⟨w10.heap.size, 3, none⟩ = some (.slice b10 Y.length d10) := bcs hbw11 (by first | with_reducible assumption | go_simp); have g11_x_3 : w11.frozen? ⟨w10.heap.size, 3, none⟩ = false := bfs hbw11 (v := .slice b10 Y.length d10) (by first | with_reducible assumption | go_simp) (by first | with_reducible assumption | go_simp); have x11_x : ¬ w10.heap.size = w11.heap.size := qne k11_x_0; have y11_x : ¬ w11.heap.size = w10.heap.size := fun h => qne k11_x_0 h.symm; have q11_x : w10.heap.size < w11.heap.size := qlt k11_x_0; have hbx11 := bel_step hbx10a hbw11; have hr11 := hr10a.below hbw11; have hX11 := hX10a.below hbw11; have hY11 := hY10a.below hbw11))
    | (go_at_call 35; go_loud ((with_reducible refine (HIN.out _ _ _ _ _ hca10 hcb10 hX12 hY12).mono ?_); rintro e w13 ⟨rfl, hbw13⟩; have hbx13 := bel_step hbx12 hbw13; have hr13 := hr12.below hbw13))
    | (go_at_call 34; go_loud (first
      | ((with_reducible refine (isenc_y _ _ _ _ _ _ k p _ _ _ _ rfl hc rfl HQ4.out rfl pl hl9 hr11 (Rd.of_own ho11) HE4.out).mono ?_); rintro e w12 ⟨rfl, hbw12⟩; have hbx12 := bel_step hbx11 hbw12; have hr12 := hr11.below hbw12; have k12_x_0 : w12.cell? ⟨w10.heap.size, 0, none⟩ = some (.bool sg) := bcs hbw12 (by first | with_reducible assumption | go_simp); have g12_x_0 : w12.frozen? ⟨w10.heap.size, 0, none⟩ = false := bfs hbw12 (v := .bool sg) (by first | with_reducible assumption | go_simp) (by first | with_reducible assumption | go_simp); have k12_x_1 : w12.cell? ⟨w10.heap.size, 1, none⟩ = some (.slice a10 X.length c10) := bcs hbw12 (by first | with_reducible assumption | go_simp); have g12_x_1 : w12.frozen? ⟨w10.heap.size, 1, none⟩ = false := bfs hbw12 (v := .slice a10 X.length c10) (by first | with_reducible assumption | go_simp) (by first | with_reducible assumption | go_simp); have k12_x_2 : w12.cell? ⟨w10.heap.size, 2, none⟩ = some (.bool false) := bcs hbw12 (by first | with_reducible assumption | go_simp); have g12_x_2 : w12.frozen? ⟨w10.heap.size, 2, none⟩ = false := bfs hbw12 (v := .bool false) (by first | with_reducible assumption | go_simp) (by first | with_reducible assumption | go_simp); have k12_x_3 : w12.cell? ⟨w10.heap.size, 3, none⟩ = some (.slice b10 Y.length d10) := bcs hbw12 (by first | with_reducible assumption | go_simp); have g12_x_3 : w12.frozen? ⟨w10.heap.size, 3, none⟩ = false := bfs hbw12 (v := .slice b10 Y.length d10) (by first | with_reducible assumption | go_simp) (by first | with_reducible assumption | go_simp); have x12_x : ¬ w10.heap.size = w12.heap.size := qne k12_x_0; have y12_x : ¬ w12.heap.size = w10.heap.size := fun h => qne k12_x_0 h.symm; have q12_x : w10.heap.size < w12.heap.size := qlt k12_x_0; have hX12 := hX11.below hbw12; have hY12 := hY11.below hbw12)))
    | (go_at_call 18; go_loud ((with_reducible refine (ex_any _).mono ?_); rintro e w30 ⟨rfl, hbw30⟩; have hbx30 := bel_step hbx14a hbw30)))
  go_ret
  exact ⟨rfl, hbx30⟩
set_option maxRecDepth 50000 in
set_option maxHeartbeats 4000000 in
theorem lcn_100 (a : Option Addr) (n c : Nat) (k : Nat) (l : List (BitVec 8)) (w : World) (hn : l.length = n) (hc : n ≤ c) (h : n ≤ 300) (hr : Rd w a l) (v q1 : Nat) (hv : v < 18446744073709551616) (q1l : q1 ≤ n) (u1 : k + (putU v).length = q1) (u2 : putU v = (l.drop k).take (putU v).length) (hU : ∀ W, Rd W a l → Calls Try.prog 13 #[.slice a n c, .int .i64 k] W fun e W' => e = tri v q1 0 ∧ Below W.heap.size W W') (hV : ∀ W, Rd W a l → Calls Try.prog 19 #[.slice a n c, .int .i64 k] W fun e W' => e = dri (unzz v) q1 0 ∧ Below W.heap.size W W') (E2 : Nat) (hE2 : E2 ≠ 0) (hB : ∀ W, Rd W a l → Calls Try.prog 23 #[.slice a n c, .int .i64 k, .int .i64 n] W fun e W' => e = trs (.slice none 0 0) 0 E2 ∧ Below W.heap.size W W') (E3 : Nat) (hE3 : E3 ≠ 0) (hR : BinC l k (ErrQ E3)) :
    Calls Try.prog 8 #[.slice a n c, .int .i64 k] w fun e w' => e = .returned (.bool true) ∧ Below w.heap.size w w' := by
  subst hn
  simp only [BinC] at hR
  have HU := Lib.hid hU
  have HV := Lib.hid hV
  have HB := Lib.hid hB
  have HR := Lib.hid hR
  have hl9 : l.length ≤ 1000000 := by omega
  have HQ1 := Lib.hid u1
  have HE1 := Lib.hid u2
  have HZ1 := Lib.hid (show k + (putU (zz (unzz v))).length = q1 by rw [zz_unzz]; exact u1)
  have HZ2 := Lib.hid (show putU (zz (unzz v)) = (l.drop k).take (putU (zz (unzz v))).length by rw [zz_unzz]; exact u2)
  have hz := unzz_in hv
  have HZ3 := Lib.hid hz.1
  have HZ4 := Lib.hid hz.2
  have qb1 : ((E2 : Int) == 0) = false := by simp; exact hE2
  have qb2 : ((E2 : Int) != 0) = true := by simp; exact hE2
  have qc1 : ((E3 : Int) == 0) = false := by simp; exact hE3
  have qc2 : ((E3 : Int) != 0) = true := by simp; exact hE3
  clear hU hV hB hR u1 u2 hz
  go_enter Try.func8, Try.ntmps8
  go_wp2_with (first
    | (go_at_call 13; go_loud ((with_reducible refine (HU.out _ hr).mono ?_); unfold tri; rintro e w1 ⟨rfl, hbx1⟩; have hr1 := hr.below hbx1))
    | (go_at_call 16; go_loud ((with_reducible refine (putu_any _ _ hv).mono ?_); rintro e w2 ⟨a2, c2, rfl, hc2, ho2, hbw2⟩; have hbx2 := bel_step hbx1 hbw2; have hr2 := hr1.below hbw2))
    | (go_at_call 19; go_loud ((with_reducible refine (HV.out _ hr3).mono ?_); unfold dri; rintro e w4 ⟨rfl, hbw4⟩; have hbx4 := bel_step hbx3 hbw4; have hr4 := hr3.below hbw4))
    | (go_at_call 21; go_loud ((with_reducible refine (pv_any _ _ HZ3.out HZ4.out).mono ?_); rintro e w5 ⟨a5, c5, rfl, hc5, ho5, hbw5⟩; have hbx5 := bel_step hbx4 hbw5; have hr5 := hr4.below hbw5))
    | (go_at_call 23; go_loud ((with_reducible refine (HB.out _ hr6).mono ?_); unfold trs; rintro e w7 ⟨rfl, hbw7⟩; have hbx7 := bel_step hbx6 hbw7; have hr7 := hr6.below hbw7))
    | (go_at_call 28; go_loud ((with_reducible refine (HR.out _ _ _ _ rfl hc hr7).mono ?_); unfold ErrQ ratE; rintro e w10 ⟨rfl, hbw10⟩; have hbx10 := bel_step hbx7 hbw10; have hbx10a := belAl hbx10 (.cells #[Value.bool false, Value.slice none 0 0, Value.bool false, Value.slice none 0 0] 45)))
    | (go_at_call 34; go_loud (first
      | ((with_reducible refine (isenc_y _ _ _ _ _ _ k q1 _ _ _ _ rfl hc rfl HZ1.out rfl q1l hl9 hr5 (Rd.of_own ho5) HZ2.out).mono ?_); rintro e w6 ⟨rfl, hbw6⟩; have hbx6 := bel_step hbx5 hbw6; have hr6 := hr5.below hbw6)
      | ((with_reducible refine (isenc_y _ _ _ _ _ _ k q1 _ _ _ _ rfl hc rfl HQ1.out rfl q1l hl9 hr2 (Rd.of_own ho2) HE1.out).mono ?_); rintro e w3 ⟨rfl, hbw3⟩; have hbx3 := bel_step hbx2 hbw3; have hr3 := hr2.below hbw3)))
    | (go_at_call 18; go_loud ((with_reducible refine (ex_any _).mono ?_); rintro e w30 ⟨rfl, hbw30⟩; have hbx30 := bel_step hbx10a hbw30)))
  go_ret
  exact ⟨rfl, hbx30⟩
set_option maxRecDepth 50000 in
set_option maxHeartbeats 4000000 in
theorem lcn_101 (a : Option Addr) (n c : Nat) (k : Nat) (l : List (BitVec 8)) (w : World) (hn : l.length = n) (hc : n ≤ c) (h : n ≤ 300) (hr : Rd w a l) (v q1 : Nat) (hv : v < 18446744073709551616) (q1l : q1 ≤ n) (u1 : k + (putU v).length = q1) (u2 : putU v = (l.drop k).take (putU v).length) (hU : ∀ W, Rd W a l → Calls Try.prog 13 #[.slice a n c, .int .i64 k] W fun e W' => e = tri v q1 0 ∧ Below W.heap.size W W') (hV : ∀ W, Rd W a l → Calls Try.prog 19 #[.slice a n c, .int .i64 k] W fun e W' => e = dri (unzz v) q1 0 ∧ Below W.heap.size W W') (E2 : Nat) (hE2 : E2 ≠ 0) (hB : ∀ W, Rd W a l → Calls Try.prog 23 #[.slice a n c, .int .i64 k, .int .i64 n] W fun e W' => e = trs (.slice none 0 0) 0 E2 ∧ Below W.heap.size W W') (sg : Bool) (X Y : List (BitVec 32)) (PB : List (BitVec 8)) (p : Nat) (hX : X.length ≤ 2000) (hY : Y.length ≤ 2000) (hrn : rnB sg false X Y = true) (hPB : putF (rnN (zv sg (valD X)) (zv false (valD Y))) (rnD (zv sg (valD X)) (zv false (valD Y))) = PB) (pl : p ≤ n) (p1 : 1 ≤ p) (r1 : k + PB.length = p) (r2 : PB = (l.drop k).take PB.length) (hR : BinC l k (fun W => RatK W sg X Y p)) (hC : BinC (l.take (p - 1)) k (ErrQ 4)) :
    Calls Try.prog 8 #[.slice a n c, .int .i64 k] w fun e w' => e = .returned (.bool true) ∧ Below w.heap.size w w' := by
  subst hn
  simp only [BinC] at hR
  have HU := Lib.hid hU
  have HV := Lib.hid hV
  have HB := Lib.hid hB
  have HR := Lib.hid hR
  have hl9 : l.length ≤ 1000000 := by omega
  have HQ1 := Lib.hid u1
  have HE1 := Lib.hid u2
  have HZ1 := Lib.hid (show k + (putU (zz (unzz v))).length = q1 by rw [zz_unzz]; exact u1)
  have HZ2 := Lib.hid (show putU (zz (unzz v)) = (l.drop k).take (putU (zz (unzz v))).length by rw [zz_unzz]; exact u2)
  have hz := unzz_in hv
  have HZ3 := Lib.hid hz.1
  have HZ4 := Lib.hid hz.2
  have qb1 : ((E2 : Int) == 0) = false := by simp; exact hE2
  have qb2 : ((E2 : Int) != 0) = true := by simp; exact hE2
  simp only [BinC] at hC
  have HC := Lib.hid hC
  have hpr : ∀ W (a9 : Option Addr) (c9 : Nat) (b9 : Option Addr) (d9 : Nat), X.length ≤ c9 → Y.length ≤ d9 → Rw W a9 X → Rw W b9 Y → Calls Try.prog 30 #[.agg #[.bool sg, .slice a9 X.length c9, .bool false, .slice b9 Y.length d9]] W (FrB W PB) := fun W a9 c9 b9 d9 h1 h2 h3 h4 => by
    have := prat_any sg false a9 b9 _ c9 _ d9 X Y W rfl rfl h1 h2 (by omega) (by omega) h3 h4
    rw [hPB] at this
    exact this
  have hin : ∀ W (a9 : Option Addr) (c9 : Nat) (b9 : Option Addr) (d9 : Nat), X.length ≤ c9 → Y.length ≤ d9 → Rw W a9 X → Rw W b9 Y → Calls Try.prog 35 #[.agg #[.bool sg, .slice a9 X.length c9, .bool false, .slice b9 Y.length d9]] W fun e W' => e = .returned (.bool true) ∧ Below W.heap.size W W' := fun W a9 c9 b9 d9 h1 h2 h3 h4 => by
    have := risn_any sg false a9 b9 _ c9 _ d9 X Y W rfl rfl h1 h2 (by omega) (by omega) h3 h4
    rw [hrn] at this
    exact this
  have HPR := Lib.hid hpr
  have HIN := Lib.hid hin
  have HQ4 := Lib.hid r1
  have HE4 := Lib.hid r2
  have hpl2 : (l.take (p - 1)).length = p - 1 := by rw [List.length_take]; omega
  have HPL := Lib.hid hpl2
  have e9 : ((p : Int) == 0) = false := by rw [beq_eq_false_iff_ne]; omega
  have e8 : (p : Int) - 1 = ((p - 1 : Nat) : Int) := by omega
  obtain ⟨p9, hp9⟩ : ∃ p9, p - 1 = p9 := ⟨_, rfl⟩
  rw [hp9] at HC HPL e8
  have hp9c : p9 ≤ l.length := by omega
  have hp9d : p9 ≤ c := by omega
  have plc : p ≤ c := by omega
  clear hU hV hB hR u1 u2 hz hC hpr hin r1 r2 hpl2 hrn hPB
  go_enter Try.func8, Try.ntmps8
  go_wp2_with (first
    | (go_at_call 13; go_loud ((with_reducible refine (HU.out _ hr).mono ?_); unfold tri; rintro e w1 ⟨rfl, hbx1⟩; have hr1 := hr.below hbx1))
    | (go_at_call 16; go_loud ((with_reducible refine (putu_any _ _ hv).mono ?_); rintro e w2 ⟨a2, c2, rfl, hc2, ho2, hbw2⟩; have hbx2 := bel_step hbx1 hbw2; have hr2 := hr1.below hbw2))
    | (go_at_call 19; go_loud ((with_reducible refine (HV.out _ hr3).mono ?_); unfold dri; rintro e w4 ⟨rfl, hbw4⟩; have hbx4 := bel_step hbx3 hbw4; have hr4 := hr3.below hbw4))
    | (go_at_call 21; go_loud ((with_reducible refine (pv_any _ _ HZ3.out HZ4.out).mono ?_); rintro e w5 ⟨a5, c5, rfl, hc5, ho5, hbw5⟩; have hbx5 := bel_step hbx4 hbw5; have hr5 := hr4.below hbw5))
    | (go_at_call 23; go_loud ((with_reducible refine (HB.out _ hr6).mono ?_); unfold trs; rintro e w7 ⟨rfl, hbw7⟩; have hbx7 := bel_step hbx6 hbw7; have hr7 := hr6.below hbw7))
    | (go_at_call 28; go_loud (first
      | ((with_reducible refine (HC.out _ _ _ _ HPL.out hp9d (rd_tk hr13 p9)).mono ?_); unfold ErrQ ratE; rintro e w14 ⟨rfl, hbw14⟩; have hbx14 := bel_step hbx13 hbw14; have hbx14a := belAl hbx14 (.cells #[Value.bool false, Value.slice none 0 0, Value.bool false, Value.slice none 0 0] 45))
      | ((with_reducible refine (HR.out _ _ _ _ rfl hc hr7).mono ?_); rintro e w10 ⟨a10, c10, b10, d10, rfl, hca10, hcb10, hX10, hY10, hbw10⟩; have hbx10 := bel_step hbx7 hbw10; have hr10 := hr7.below hbw10; have hbx10a := belAl hbx10 (.cells #[Value.bool sg, Value.slice a10 X.length c10, Value.bool false, Value.slice b10 Y.length d10] 45); have hr10a := hr.below hbx10a; have hX10a := hX10.al (.cells #[Value.bool sg, Value.slice a10 X.length c10, Value.bool false, Value.slice b10 Y.length d10] 45); have hY10a := hY10.al (.cells #[Value.bool sg, Value.slice a10 X.length c10, Value.bool false, Value.slice b10 Y.length d10] 45))))
    | (go_at_call 30; go_loud ((with_reducible refine (HPR.out _ _ _ _ _ hca10 hcb10 hX10a hY10a).mono ?_); rintro e w11 ⟨a11, c11, rfl, hc11, ho11, hbw11⟩; have k11_x_0 : w11.cell? ⟨w10.heap.size, 0, none⟩ = some (.bool sg) := bcs hbw11 (by first | with_reducible assumption | go_simp); have g11_x_0 : w11.frozen? ⟨w10.heap.size, 0, none⟩ = false := bfs hbw11 (v := .bool sg) (by first | with_reducible assumption | go_simp) (by first | with_reducible assumption | go_simp); have k11_x_1 : w11.cell? ⟨w10.heap.size, 1, none⟩ = some (.slice a10 X.length c10) := bcs hbw11 (by first | with_reducible assumption | go_simp); have g11_x_1 : w11.frozen? ⟨w10.heap.size, 1, none⟩ = false := bfs hbw11 (v := .slice a10 X.length c10) (by first | with_reducible assumption | go_simp) (by first | with_reducible assumption | go_simp); have k11_x_2 : w11.cell? ⟨w10.heap.size, 2, none⟩ = some (.bool false) := bcs hbw11 (by first | with_reducible assumption | go_simp); have g11_x_2 : w11.frozen? ⟨w10.heap.size, 2, none⟩ = false := bfs hbw11 (v := .bool false) (by first | with_reducible assumption | go_simp) (by first | with_reducible assumption | go_simp); have k11_x_3 : w11.cell? ⟨w10.heap.size, 3, none⟩ = some (.slice b10 Y.length d10) := bcs hbw11 (by first | with_reducible assumption | go_simp); have g11_x_3 : w11.frozen? ⟨w10.heap.size, 3, none⟩ = false := bfs hbw11 (v := .slice b10 Y.length d10) (by first | with_reducible assumption | go_simp) (by first | with_reducible assumption | go_simp); have x11_x : ¬ w10.heap.size = w11.heap.size := qne k11_x_0; have y11_x : ¬ w11.heap.size = w10.heap.size := fun h => qne k11_x_0 h.symm; have q11_x : w10.heap.size < w11.heap.size := qlt k11_x_0; have hbx11 := bel_step hbx10a hbw11; have hr11 := hr10a.below hbw11; have hX11 := hX10a.below hbw11; have hY11 := hY10a.below hbw11))
    | (go_at_call 35; go_loud ((with_reducible refine (HIN.out _ _ _ _ _ hca10 hcb10 hX12 hY12).mono ?_); rintro e w13 ⟨rfl, hbw13⟩; have hbx13 := bel_step hbx12 hbw13; have hr13 := hr12.below hbw13))
    | (go_at_call 34; go_loud (first
      | ((with_reducible refine (isenc_y _ _ _ _ _ _ k p _ _ _ _ rfl hc rfl HQ4.out rfl pl hl9 hr11 (Rd.of_own ho11) HE4.out).mono ?_); rintro e w12 ⟨rfl, hbw12⟩; have hbx12 := bel_step hbx11 hbw12; have hr12 := hr11.below hbw12; have k12_x_0 : w12.cell? ⟨w10.heap.size, 0, none⟩ = some (.bool sg) := bcs hbw12 (by first | with_reducible assumption | go_simp); have g12_x_0 : w12.frozen? ⟨w10.heap.size, 0, none⟩ = false := bfs hbw12 (v := .bool sg) (by first | with_reducible assumption | go_simp) (by first | with_reducible assumption | go_simp); have k12_x_1 : w12.cell? ⟨w10.heap.size, 1, none⟩ = some (.slice a10 X.length c10) := bcs hbw12 (by first | with_reducible assumption | go_simp); have g12_x_1 : w12.frozen? ⟨w10.heap.size, 1, none⟩ = false := bfs hbw12 (v := .slice a10 X.length c10) (by first | with_reducible assumption | go_simp) (by first | with_reducible assumption | go_simp); have k12_x_2 : w12.cell? ⟨w10.heap.size, 2, none⟩ = some (.bool false) := bcs hbw12 (by first | with_reducible assumption | go_simp); have g12_x_2 : w12.frozen? ⟨w10.heap.size, 2, none⟩ = false := bfs hbw12 (v := .bool false) (by first | with_reducible assumption | go_simp) (by first | with_reducible assumption | go_simp); have k12_x_3 : w12.cell? ⟨w10.heap.size, 3, none⟩ = some (.slice b10 Y.length d10) := bcs hbw12 (by first | with_reducible assumption | go_simp); have g12_x_3 : w12.frozen? ⟨w10.heap.size, 3, none⟩ = false := bfs hbw12 (v := .slice b10 Y.length d10) (by first | with_reducible assumption | go_simp) (by first | with_reducible assumption | go_simp); have x12_x : ¬ w10.heap.size = w12.heap.size := qne k12_x_0; have y12_x : ¬ w12.heap.size = w10.heap.size := fun h => qne k12_x_0 h.symm; have q12_x : w10.heap.size < w12.heap.size := qlt k12_x_0; have hX12 := hX11.below hbw12; have hY12 := hY11.below hbw12)
      | ((with_reducible refine (isenc_y _ _ _ _ _ _ k q1 _ _ _ _ rfl hc rfl HZ1.out rfl q1l hl9 hr5 (Rd.of_own ho5) HZ2.out).mono ?_); rintro e w6 ⟨rfl, hbw6⟩; have hbx6 := bel_step hbx5 hbw6; have hr6 := hr5.below hbw6)
      | ((with_reducible refine (isenc_y _ _ _ _ _ _ k q1 _ _ _ _ rfl hc rfl HQ1.out rfl q1l hl9 hr2 (Rd.of_own ho2) HE1.out).mono ?_); rintro e w3 ⟨rfl, hbw3⟩; have hbx3 := bel_step hbx2 hbw3; have hr3 := hr2.below hbw3)))
    | (go_at_call 18; go_loud ((with_reducible refine (ex_any _).mono ?_); rintro e w30 ⟨rfl, hbw30⟩; have hbx30 := bel_step hbx14a hbw30)))
  go_ret
  exact ⟨rfl, hbx30⟩
set_option maxRecDepth 50000 in
set_option maxHeartbeats 4000000 in
theorem lcn_110 (a : Option Addr) (n c : Nat) (k : Nat) (l : List (BitVec 8)) (w : World) (hn : l.length = n) (hc : n ≤ c) (h : n ≤ 300) (hr : Rd w a l) (v q1 : Nat) (hv : v < 18446744073709551616) (q1l : q1 ≤ n) (u1 : k + (putU v).length = q1) (u2 : putU v = (l.drop k).take (putU v).length) (hU : ∀ W, Rd W a l → Calls Try.prog 13 #[.slice a n c, .int .i64 k] W fun e W' => e = tri v q1 0 ∧ Below W.heap.size W W') (hV : ∀ W, Rd W a l → Calls Try.prog 19 #[.slice a n c, .int .i64 k] W fun e W' => e = dri (unzz v) q1 0 ∧ Below W.heap.size W W') (S : List (BitVec 8)) (q3 : Nat) (hS : S.length ≤ 300) (q3l : q3 ≤ n) (b1 : k + (putB S).length = q3) (b2 : putB S = (l.drop k).take (putB S).length) (hB : ∀ W, Rd W a l → Calls Try.prog 23 #[.slice a n c, .int .i64 k, .int .i64 n] W fun e W' => ∃ a3 c3, e = trs (.slice a3 S.length c3) q3 0 ∧ W'.ownsRow W.heap.size 5 1 (.slice a3 S.length c3) S.length (bv8 S) ∧ Below W.heap.size W W') (E3 : Nat) (hE3 : E3 ≠ 0) (hR : BinC l k (ErrQ E3)) :
    Calls Try.prog 8 #[.slice a n c, .int .i64 k] w fun e w' => e = .returned (.bool true) ∧ Below w.heap.size w w' := by
  subst hn
  simp only [BinC] at hR
  have HU := Lib.hid hU
  have HV := Lib.hid hV
  have HB := Lib.hid hB
  have HR := Lib.hid hR
  have hl9 : l.length ≤ 1000000 := by omega
  have HQ1 := Lib.hid u1
  have HE1 := Lib.hid u2
  have HZ1 := Lib.hid (show k + (putU (zz (unzz v))).length = q1 by rw [zz_unzz]; exact u1)
  have HZ2 := Lib.hid (show putU (zz (unzz v)) = (l.drop k).take (putU (zz (unzz v))).length by rw [zz_unzz]; exact u2)
  have hz := unzz_in hv
  have HZ3 := Lib.hid hz.1
  have HZ4 := Lib.hid hz.2
  have HQ3 := Lib.hid b1
  have HE3 := Lib.hid b2
  have qc1 : ((E3 : Int) == 0) = false := by simp; exact hE3
  have qc2 : ((E3 : Int) != 0) = true := by simp; exact hE3
  clear hU hV hB hR u1 u2 hz b1 b2
  go_enter Try.func8, Try.ntmps8
  go_wp2_with (first
    | (go_at_call 13; go_loud ((with_reducible refine (HU.out _ hr).mono ?_); unfold tri; rintro e w1 ⟨rfl, hbx1⟩; have hr1 := hr.below hbx1))
    | (go_at_call 16; go_loud ((with_reducible refine (putu_any _ _ hv).mono ?_); rintro e w2 ⟨a2, c2, rfl, hc2, ho2, hbw2⟩; have hbx2 := bel_step hbx1 hbw2; have hr2 := hr1.below hbw2))
    | (go_at_call 19; go_loud ((with_reducible refine (HV.out _ hr3).mono ?_); unfold dri; rintro e w4 ⟨rfl, hbw4⟩; have hbx4 := bel_step hbx3 hbw4; have hr4 := hr3.below hbw4))
    | (go_at_call 21; go_loud ((with_reducible refine (pv_any _ _ HZ3.out HZ4.out).mono ?_); rintro e w5 ⟨a5, c5, rfl, hc5, ho5, hbw5⟩; have hbx5 := bel_step hbx4 hbw5; have hr5 := hr4.below hbw5))
    | (go_at_call 23; go_loud ((with_reducible refine (HB.out _ hr6).mono ?_); unfold trs; rintro e w7 ⟨a7, c7, rfl, ho7, hbw7⟩; have hbx7 := bel_step hbx6 hbw7; have hr7 := hr6.below hbw7; have ho7b := Rd.of_own ho7; clear ho7))
    | (go_at_call 25; go_loud ((with_reducible refine (pb_any _ _ _ _ _ rfl (by omega) ho7b).mono ?_); rintro e w8 ⟨a8, c8, rfl, hc8, ho8, hbw8⟩; have hbx8 := bel_step hbx7 hbw8; have hr8 := hr7.below hbw8))
    | (go_at_call 28; go_loud ((with_reducible refine (HR.out _ _ _ _ rfl hc hr9).mono ?_); unfold ErrQ ratE; rintro e w10 ⟨rfl, hbw10⟩; have hbx10 := bel_step hbx9 hbw10; have hbx10a := belAl hbx10 (.cells #[Value.bool false, Value.slice none 0 0, Value.bool false, Value.slice none 0 0] 45)))
    | (go_at_call 34; go_loud (first
      | ((with_reducible refine (isenc_y _ _ _ _ _ _ k q3 _ _ _ _ rfl hc rfl HQ3.out rfl q3l hl9 hr8 (Rd.of_own ho8) HE3.out).mono ?_); rintro e w9 ⟨rfl, hbw9⟩; have hbx9 := bel_step hbx8 hbw9; have hr9 := hr8.below hbw9)
      | ((with_reducible refine (isenc_y _ _ _ _ _ _ k q1 _ _ _ _ rfl hc rfl HZ1.out rfl q1l hl9 hr5 (Rd.of_own ho5) HZ2.out).mono ?_); rintro e w6 ⟨rfl, hbw6⟩; have hbx6 := bel_step hbx5 hbw6; have hr6 := hr5.below hbw6)
      | ((with_reducible refine (isenc_y _ _ _ _ _ _ k q1 _ _ _ _ rfl hc rfl HQ1.out rfl q1l hl9 hr2 (Rd.of_own ho2) HE1.out).mono ?_); rintro e w3 ⟨rfl, hbw3⟩; have hbx3 := bel_step hbx2 hbw3; have hr3 := hr2.below hbw3)))
    | (go_at_call 18; go_loud ((with_reducible refine (ex_any _).mono ?_); rintro e w30 ⟨rfl, hbw30⟩; have hbx30 := bel_step hbx10a hbw30)))
  go_ret
  exact ⟨rfl, hbx30⟩
set_option maxRecDepth 50000 in
set_option maxHeartbeats 4000000 in
theorem lcn_111 (a : Option Addr) (n c : Nat) (k : Nat) (l : List (BitVec 8)) (w : World) (hn : l.length = n) (hc : n ≤ c) (h : n ≤ 300) (hr : Rd w a l) (v q1 : Nat) (hv : v < 18446744073709551616) (q1l : q1 ≤ n) (u1 : k + (putU v).length = q1) (u2 : putU v = (l.drop k).take (putU v).length) (hU : ∀ W, Rd W a l → Calls Try.prog 13 #[.slice a n c, .int .i64 k] W fun e W' => e = tri v q1 0 ∧ Below W.heap.size W W') (hV : ∀ W, Rd W a l → Calls Try.prog 19 #[.slice a n c, .int .i64 k] W fun e W' => e = dri (unzz v) q1 0 ∧ Below W.heap.size W W') (S : List (BitVec 8)) (q3 : Nat) (hS : S.length ≤ 300) (q3l : q3 ≤ n) (b1 : k + (putB S).length = q3) (b2 : putB S = (l.drop k).take (putB S).length) (hB : ∀ W, Rd W a l → Calls Try.prog 23 #[.slice a n c, .int .i64 k, .int .i64 n] W fun e W' => ∃ a3 c3, e = trs (.slice a3 S.length c3) q3 0 ∧ W'.ownsRow W.heap.size 5 1 (.slice a3 S.length c3) S.length (bv8 S) ∧ Below W.heap.size W W') (sg : Bool) (X Y : List (BitVec 32)) (PB : List (BitVec 8)) (p : Nat) (hX : X.length ≤ 2000) (hY : Y.length ≤ 2000) (hrn : rnB sg false X Y = true) (hPB : putF (rnN (zv sg (valD X)) (zv false (valD Y))) (rnD (zv sg (valD X)) (zv false (valD Y))) = PB) (pl : p ≤ n) (p1 : 1 ≤ p) (r1 : k + PB.length = p) (r2 : PB = (l.drop k).take PB.length) (hR : BinC l k (fun W => RatK W sg X Y p)) (hC : BinC (l.take (p - 1)) k (ErrQ 4)) :
    Calls Try.prog 8 #[.slice a n c, .int .i64 k] w fun e w' => e = .returned (.bool true) ∧ Below w.heap.size w w' := by
  subst hn
  simp only [BinC] at hR
  have HU := Lib.hid hU
  have HV := Lib.hid hV
  have HB := Lib.hid hB
  have HR := Lib.hid hR
  have hl9 : l.length ≤ 1000000 := by omega
  have HQ1 := Lib.hid u1
  have HE1 := Lib.hid u2
  have HZ1 := Lib.hid (show k + (putU (zz (unzz v))).length = q1 by rw [zz_unzz]; exact u1)
  have HZ2 := Lib.hid (show putU (zz (unzz v)) = (l.drop k).take (putU (zz (unzz v))).length by rw [zz_unzz]; exact u2)
  have hz := unzz_in hv
  have HZ3 := Lib.hid hz.1
  have HZ4 := Lib.hid hz.2
  have HQ3 := Lib.hid b1
  have HE3 := Lib.hid b2
  simp only [BinC] at hC
  have HC := Lib.hid hC
  have hpr : ∀ W (a9 : Option Addr) (c9 : Nat) (b9 : Option Addr) (d9 : Nat), X.length ≤ c9 → Y.length ≤ d9 → Rw W a9 X → Rw W b9 Y → Calls Try.prog 30 #[.agg #[.bool sg, .slice a9 X.length c9, .bool false, .slice b9 Y.length d9]] W (FrB W PB) := fun W a9 c9 b9 d9 h1 h2 h3 h4 => by
    have := prat_any sg false a9 b9 _ c9 _ d9 X Y W rfl rfl h1 h2 (by omega) (by omega) h3 h4
    rw [hPB] at this
    exact this
  have hin : ∀ W (a9 : Option Addr) (c9 : Nat) (b9 : Option Addr) (d9 : Nat), X.length ≤ c9 → Y.length ≤ d9 → Rw W a9 X → Rw W b9 Y → Calls Try.prog 35 #[.agg #[.bool sg, .slice a9 X.length c9, .bool false, .slice b9 Y.length d9]] W fun e W' => e = .returned (.bool true) ∧ Below W.heap.size W W' := fun W a9 c9 b9 d9 h1 h2 h3 h4 => by
    have := risn_any sg false a9 b9 _ c9 _ d9 X Y W rfl rfl h1 h2 (by omega) (by omega) h3 h4
    rw [hrn] at this
    exact this
  have HPR := Lib.hid hpr
  have HIN := Lib.hid hin
  have HQ4 := Lib.hid r1
  have HE4 := Lib.hid r2
  have hpl2 : (l.take (p - 1)).length = p - 1 := by rw [List.length_take]; omega
  have HPL := Lib.hid hpl2
  have e9 : ((p : Int) == 0) = false := by rw [beq_eq_false_iff_ne]; omega
  have e8 : (p : Int) - 1 = ((p - 1 : Nat) : Int) := by omega
  obtain ⟨p9, hp9⟩ : ∃ p9, p - 1 = p9 := ⟨_, rfl⟩
  rw [hp9] at HC HPL e8
  have hp9c : p9 ≤ l.length := by omega
  have hp9d : p9 ≤ c := by omega
  have plc : p ≤ c := by omega
  clear hU hV hB hR u1 u2 hz b1 b2 hC hpr hin r1 r2 hpl2 hrn hPB
  go_enter Try.func8, Try.ntmps8
  go_wp2_with (first
    | (go_at_call 13; go_loud ((with_reducible refine (HU.out _ hr).mono ?_); unfold tri; rintro e w1 ⟨rfl, hbx1⟩; have hr1 := hr.below hbx1))
    | (go_at_call 16; go_loud ((with_reducible refine (putu_any _ _ hv).mono ?_); rintro e w2 ⟨a2, c2, rfl, hc2, ho2, hbw2⟩; have hbx2 := bel_step hbx1 hbw2; have hr2 := hr1.below hbw2))
    | (go_at_call 19; go_loud ((with_reducible refine (HV.out _ hr3).mono ?_); unfold dri; rintro e w4 ⟨rfl, hbw4⟩; have hbx4 := bel_step hbx3 hbw4; have hr4 := hr3.below hbw4))
    | (go_at_call 21; go_loud ((with_reducible refine (pv_any _ _ HZ3.out HZ4.out).mono ?_); rintro e w5 ⟨a5, c5, rfl, hc5, ho5, hbw5⟩; have hbx5 := bel_step hbx4 hbw5; have hr5 := hr4.below hbw5))
    | (go_at_call 23; go_loud ((with_reducible refine (HB.out _ hr6).mono ?_); unfold trs; rintro e w7 ⟨a7, c7, rfl, ho7, hbw7⟩; have hbx7 := bel_step hbx6 hbw7; have hr7 := hr6.below hbw7; have ho7b := Rd.of_own ho7; clear ho7))
    | (go_at_call 25; go_loud ((with_reducible refine (pb_any _ _ _ _ _ rfl (by omega) ho7b).mono ?_); rintro e w8 ⟨a8, c8, rfl, hc8, ho8, hbw8⟩; have hbx8 := bel_step hbx7 hbw8; have hr8 := hr7.below hbw8))
    | (go_at_call 28; go_loud (first
      | ((with_reducible refine (HC.out _ _ _ _ HPL.out hp9d (rd_tk hr13 p9)).mono ?_); unfold ErrQ ratE; rintro e w14 ⟨rfl, hbw14⟩; have hbx14 := bel_step hbx13 hbw14; have hbx14a := belAl hbx14 (.cells #[Value.bool false, Value.slice none 0 0, Value.bool false, Value.slice none 0 0] 45))
      | ((with_reducible refine (HR.out _ _ _ _ rfl hc hr9).mono ?_); rintro e w10 ⟨a10, c10, b10, d10, rfl, hca10, hcb10, hX10, hY10, hbw10⟩; have hbx10 := bel_step hbx9 hbw10; have hr10 := hr9.below hbw10; have hbx10a := belAl hbx10 (.cells #[Value.bool sg, Value.slice a10 X.length c10, Value.bool false, Value.slice b10 Y.length d10] 45); have hr10a := hr.below hbx10a; have hX10a := hX10.al (.cells #[Value.bool sg, Value.slice a10 X.length c10, Value.bool false, Value.slice b10 Y.length d10] 45); have hY10a := hY10.al (.cells #[Value.bool sg, Value.slice a10 X.length c10, Value.bool false, Value.slice b10 Y.length d10] 45))))
    | (go_at_call 30; go_loud ((with_reducible refine (HPR.out _ _ _ _ _ hca10 hcb10 hX10a hY10a).mono ?_); rintro e w11 ⟨a11, c11, rfl, hc11, ho11, hbw11⟩; have k11_x_0 : w11.cell? ⟨w10.heap.size, 0, none⟩ = some (.bool sg) := bcs hbw11 (by first | with_reducible assumption | go_simp); have g11_x_0 : w11.frozen? ⟨w10.heap.size, 0, none⟩ = false := bfs hbw11 (v := .bool sg) (by first | with_reducible assumption | go_simp) (by first | with_reducible assumption | go_simp); have k11_x_1 : w11.cell? ⟨w10.heap.size, 1, none⟩ = some (.slice a10 X.length c10) := bcs hbw11 (by first | with_reducible assumption | go_simp); have g11_x_1 : w11.frozen? ⟨w10.heap.size, 1, none⟩ = false := bfs hbw11 (v := .slice a10 X.length c10) (by first | with_reducible assumption | go_simp) (by first | with_reducible assumption | go_simp); have k11_x_2 : w11.cell? ⟨w10.heap.size, 2, none⟩ = some (.bool false) := bcs hbw11 (by first | with_reducible assumption | go_simp); have g11_x_2 : w11.frozen? ⟨w10.heap.size, 2, none⟩ = false := bfs hbw11 (v := .bool false) (by first | with_reducible assumption | go_simp) (by first | with_reducible assumption | go_simp); have k11_x_3 : w11.cell? ⟨w10.heap.size, 3, none⟩ = some (.slice b10 Y.length d10) := bcs hbw11 (by first | with_reducible assumption | go_simp); have g11_x_3 : w11.frozen? ⟨w10.heap.size, 3, none⟩ = false := bfs hbw11 (v := .slice b10 Y.length d10) (by first | with_reducible assumption | go_simp) (by first | with_reducible assumption | go_simp); have x11_x : ¬ w10.heap.size = w11.heap.size := qne k11_x_0; have y11_x : ¬ w11.heap.size = w10.heap.size := fun h => qne k11_x_0 h.symm; have q11_x : w10.heap.size < w11.heap.size := qlt k11_x_0; have hbx11 := bel_step hbx10a hbw11; have hr11 := hr10a.below hbw11; have hX11 := hX10a.below hbw11; have hY11 := hY10a.below hbw11))
    | (go_at_call 35; go_loud ((with_reducible refine (HIN.out _ _ _ _ _ hca10 hcb10 hX12 hY12).mono ?_); rintro e w13 ⟨rfl, hbw13⟩; have hbx13 := bel_step hbx12 hbw13; have hr13 := hr12.below hbw13))
    | (go_at_call 34; go_loud (first
      | ((with_reducible refine (isenc_y _ _ _ _ _ _ k p _ _ _ _ rfl hc rfl HQ4.out rfl pl hl9 hr11 (Rd.of_own ho11) HE4.out).mono ?_); rintro e w12 ⟨rfl, hbw12⟩; have hbx12 := bel_step hbx11 hbw12; have hr12 := hr11.below hbw12; have k12_x_0 : w12.cell? ⟨w10.heap.size, 0, none⟩ = some (.bool sg) := bcs hbw12 (by first | with_reducible assumption | go_simp); have g12_x_0 : w12.frozen? ⟨w10.heap.size, 0, none⟩ = false := bfs hbw12 (v := .bool sg) (by first | with_reducible assumption | go_simp) (by first | with_reducible assumption | go_simp); have k12_x_1 : w12.cell? ⟨w10.heap.size, 1, none⟩ = some (.slice a10 X.length c10) := bcs hbw12 (by first | with_reducible assumption | go_simp); have g12_x_1 : w12.frozen? ⟨w10.heap.size, 1, none⟩ = false := bfs hbw12 (v := .slice a10 X.length c10) (by first | with_reducible assumption | go_simp) (by first | with_reducible assumption | go_simp); have k12_x_2 : w12.cell? ⟨w10.heap.size, 2, none⟩ = some (.bool false) := bcs hbw12 (by first | with_reducible assumption | go_simp); have g12_x_2 : w12.frozen? ⟨w10.heap.size, 2, none⟩ = false := bfs hbw12 (v := .bool false) (by first | with_reducible assumption | go_simp) (by first | with_reducible assumption | go_simp); have k12_x_3 : w12.cell? ⟨w10.heap.size, 3, none⟩ = some (.slice b10 Y.length d10) := bcs hbw12 (by first | with_reducible assumption | go_simp); have g12_x_3 : w12.frozen? ⟨w10.heap.size, 3, none⟩ = false := bfs hbw12 (v := .slice b10 Y.length d10) (by first | with_reducible assumption | go_simp) (by first | with_reducible assumption | go_simp); have x12_x : ¬ w10.heap.size = w12.heap.size := qne k12_x_0; have y12_x : ¬ w12.heap.size = w10.heap.size := fun h => qne k12_x_0 h.symm; have q12_x : w10.heap.size < w12.heap.size := qlt k12_x_0; have hX12 := hX11.below hbw12; have hY12 := hY11.below hbw12)
      | ((with_reducible refine (isenc_y _ _ _ _ _ _ k q3 _ _ _ _ rfl hc rfl HQ3.out rfl q3l hl9 hr8 (Rd.of_own ho8) HE3.out).mono ?_); rintro e w9 ⟨rfl, hbw9⟩; have hbx9 := bel_step hbx8 hbw9; have hr9 := hr8.below hbw9)
      | ((with_reducible refine (isenc_y _ _ _ _ _ _ k q1 _ _ _ _ rfl hc rfl HZ1.out rfl q1l hl9 hr5 (Rd.of_own ho5) HZ2.out).mono ?_); rintro e w6 ⟨rfl, hbw6⟩; have hbx6 := bel_step hbx5 hbw6; have hr6 := hr5.below hbw6)
      | ((with_reducible refine (isenc_y _ _ _ _ _ _ k q1 _ _ _ _ rfl hc rfl HQ1.out rfl q1l hl9 hr2 (Rd.of_own ho2) HE1.out).mono ?_); rintro e w3 ⟨rfl, hbw3⟩; have hbx3 := bel_step hbx2 hbw3; have hr3 := hr2.below hbw3)))
    | (go_at_call 18; go_loud ((with_reducible refine (ex_any _).mono ?_); rintro e w30 ⟨rfl, hbw30⟩; have hbx30 := bel_step hbx14a hbw30)))
  go_ret
  exact ⟨rfl, hbx30⟩
theorem lcn_w (a : Option Addr) (n c : Nat) (at' : Int) (l : List (BitVec 8)) (w : World) (hn : l.length = n) (hc : n ≤ c) (hn9 : n ≤ 9223372036854775807) (hr : Rd w a l) :
    Calls Try.prog 8 #[.slice a n c, .int .i64 at'] w fun e w' => e = .returned (.bool true) ∧ Below w.heap.size w w' := by
  by_cases h : 300 < n
  · exact lcn_big a n c at' w h hn9
  have h3 : n ≤ 300 := by omega
  have hrat := rat_pair l at' (by omega)
  by_cases ho : at' < 0 ∨ (n : Int) < at'
  · have h1 := fun W (hW : Rd W a l) => bu_out a n c at' W (by omega) ho
    have h2 := fun W (hW : Rd W a l) => bv_out a n c at' W (by omega) ho
    have h4 := fun W (hW : Rd W a l) => bb_out a n c at' (n : Int) W (by omega) ho
    rcases hrat with ⟨E, hE, p1, _⟩ | ⟨K, D, N1, N2, r, rfl, e1, _⟩
    · exact lcn_000 a n c at' l w hn hc h3 hr 2 (by decide) h1 h2 2 (by decide) h4 E hE p1
    · have := (dk_tail e1).2.2.1
      omega
  obtain ⟨k, rfl⟩ := Int.eq_ofNat_of_zero_le (show 0 ≤ at' by omega)
  have hk : k ≤ n := by omega
  have hrat2 : (∃ E : Nat, E ≠ 0 ∧ BinC l k (ErrQ E)) ∨ (∃ (sg : Bool) (X Y : List (BitVec 32)) (PB : List (BitVec 8)) (p : Nat), X.length ≤ 2000 ∧ Y.length ≤ 2000 ∧ rnB sg false X Y = true ∧ putF (rnN (zv sg (valD X)) (zv false (valD Y))) (rnD (zv sg (valD X)) (zv false (valD Y))) = PB ∧ p ≤ n ∧ 1 ≤ p ∧ k + PB.length = p ∧ PB = (l.drop k).take PB.length ∧ BinC l k (fun W => RatK W sg X Y p) ∧ BinC (l.take (p - 1)) k (ErrQ 4)) := by
    rcases hrat with ⟨E, hE, p1, _⟩ | ⟨K, D, N1, N2, r, hKk, e1, e2, e3, e4, e5, e6, e7, p1, _⟩
    · exact .inl ⟨E, hE, p1⟩
    · obtain rfl : k = K := by omega
      right
      have hx1 := canon_v8 1024 N1 (by omega)
      have hx2 := canon_v8 1024 N2 (by omega)
      have ht := dk_tail e1
      have hlen := ht.2.2.2
      rw [List.length_append, List.length_append] at hlen
      have hpf : putF (rnN (zv (D.toNat == 1) (valD (canon (val8 N1)))) (zv false (valD (canon (val8 N2))))) (rnD (zv (D.toNat == 1) (valD (canon (val8 N1)))) (zv false (valD (canon (val8 N2))))) = [D] ++ putB N1 ++ putB N2 := by
        have h9 := rat_tests2 (D.toNat == 1) N1 N2 e3 e4
        rw [e5, e6, e7, d_sgn e2] at h9
        simpa using h9
      refine ⟨_, _, _, _, k + 1 + (putB N1).length + (putB N2).length, by omega, by omega, e7, hpf, by omega, by omega, by simp only [List.length_append, List.length_cons, List.length_nil]; omega, ?_, p1, rat_cut l k _ D N1 N2 r (by omega) e1 e2 e3 e4 rfl⟩
      rw [e1, show D :: (putB N1 ++ (putB N2 ++ r)) = ([D] ++ putB N1 ++ putB N2) ++ r by simp [List.append_assoc], List.take_left]
  clear hrat
  by_cases hu : uvE (l.drop k) ≠ 0
  · have hU := fun W (hW : Rd W a l) => bu_bad a n c k l W hn hc (by omega) hW hk hu
    have hV := fun W (hW : Rd W a l) => bv_bad a n c k l W hn hc (by omega) hW hk hu
    obtain ⟨E2, hE2, hB⟩ : ∃ E2 : Nat, E2 ≠ 0 ∧ ∀ W, Rd W a l → Calls Try.prog 23 #[.slice a n c, .int .i64 k, .int .i64 n] W fun e W' => e = trs (.slice none 0 0) 0 E2 ∧ Below W.heap.size W W' := by
      have hb : bytE (l.drop k) (n : Int) ≠ 0 := by unfold bytE; rw [lenE_bad hu, if_pos hu]; exact hu
      exact ⟨_, hb, fun W hW => bb_bad a n c k (n : Int) l W hn hc (by omega) (by omega) hW hk hb⟩
    rcases hrat2 with ⟨E3, hE3, hR⟩ | ⟨sg, X, Y, PB, p, r1, r2, r3, r4, r5, r6, r7, r8, r9, r10⟩
    · have := lcn_000 a n c (k : Int) l w hn hc h3 hr _ hu hU hV E2 hE2 hB E3 hE3 hR
      exact this
    · exact lcn_001 a n c k l w hn hc h3 hr _ hu hU hV E2 hE2 hB sg X Y PB p r1 r2 r3 r4 r5 r6 r7 r8 r9 r10
  have hu : uvE (l.drop k) = 0 := by omega
  have hU := fun W (hW : Rd W a l) => bu_ok a n c k l W hn hc (by omega) hW hk hu
  have hV := fun W (hW : Rd W a l) => bv_ok a n c k l W hn hc (by omega) hW hk hu
  have hpu := putU_uv (l.drop k) hu
  have hlu := uvE_len (l.drop k) hu
  have hdl : (l.drop k).length = n - k := by rw [List.length_drop, hn]
  have hpl : (putU (uvV (l.drop k))).length = uvN (l.drop k) := by rw [hpu, List.length_take]; omega
  have hul : k + uvN (l.drop k) ≤ n := by omega
  have hu1 : k + (putU (uvV (l.drop k))).length = k + uvN (l.drop k) := by rw [hpl]
  have hu2 : putU (uvV (l.drop k)) = (l.drop k).take (putU (uvV (l.drop k))).length := by rw [hpl]; exact hpu
  by_cases hb : bytE (l.drop k) (n : Int) ≠ 0
  · have hB := fun W (hW : Rd W a l) => bb_bad a n c k (n : Int) l W hn hc (by omega) (by omega) hW hk hb
    rcases hrat2 with ⟨E3, hE3, hR⟩ | ⟨sg, X, Y, PB, p, r1, r2, r3, r4, r5, r6, r7, r8, r9, r10⟩
    · exact lcn_100 a n c k l w hn hc h3 hr (uvV (l.drop k)) (k + uvN (l.drop k)) (uvV_lt _ hu) hul hu1 hu2 hU hV _ hb hB E3 hE3 hR
    · exact lcn_101 a n c k l w hn hc h3 hr (uvV (l.drop k)) (k + uvN (l.drop k)) (uvV_lt _ hu) hul hu1 hu2 hU hV _ hb hB sg X Y PB p r1 r2 r3 r4 r5 r6 r7 r8 r9 r10
  have hb : bytE (l.drop k) (n : Int) = 0 := by omega
  obtain ⟨f1, f2⟩ := bytE_ok hb
  obtain ⟨S, hSe⟩ : ∃ S, ((l.drop k).drop (uvN (l.drop k))).take (uvV (l.drop k)) = S := ⟨_, rfl⟩
  have hSl : S.length = uvV (l.drop k) := by rw [← hSe, List.length_take, List.length_drop]; omega
  have hPBl : (putB S).length = uvN (l.drop k) + uvV (l.drop k) := by unfold putB; rw [List.length_append, hSl, hpl]
  have hb2 : putB S = (l.drop k).take (putB S).length := by
    rw [hPBl, List.take_add, hSe, ← hpu]
    unfold putB
    rw [hSl]
  have hB : ∀ W, Rd W a l → Calls Try.prog 23 #[.slice a n c, .int .i64 k, .int .i64 n] W fun e W' => ∃ a3 c3, e = trs (.slice a3 S.length c3) (k + (putB S).length : Nat) 0 ∧ W'.ownsRow W.heap.size 5 1 (.slice a3 S.length c3) S.length (bv8 S) ∧ Below W.heap.size W W' := fun W hW => by
    refine (bb_ok a n c k (n : Int) l W hn hc (by omega) (by omega) hW hk hb).mono ?_
    rintro e w' ⟨a3, c3, h1, h2, h3, h4, h5⟩
    rw [hSe] at h4
    rw [hPBl, hSl]
    exact ⟨a3, c3, h1, h4, h5⟩
  rcases hrat2 with ⟨E3, hE3, hR⟩ | ⟨sg, X, Y, PB, p, r1, r2, r3, r4, r5, r6, r7, r8, r9, r10⟩
  · exact lcn_110 a n c k l w hn hc h3 hr (uvV (l.drop k)) (k + uvN (l.drop k)) (uvV_lt _ hu) hul hu1 hu2 hU hV S _ (by omega) (by omega) rfl hb2 hB E3 hE3 hR
  · exact lcn_111 a n c k l w hn hc h3 hr (uvV (l.drop k)) (k + uvN (l.drop k)) (uvV_lt _ hu) hul hu1 hu2 hU hV S _ (by omega) (by omega) rfl hb2 hB sg X Y PB p r1 r2 r3 r4 r5 r6 r7 r8 r9 r10
end Go.Proofs.Ytbplcgbfhijbcaa
