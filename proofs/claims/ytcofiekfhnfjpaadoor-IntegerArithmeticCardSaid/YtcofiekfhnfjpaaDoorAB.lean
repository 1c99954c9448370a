
import Derived.Test.YtcofiekfhnfjpaaDoorAA
import Derived.Deep.CutRange
import Derived.BigQuiet
namespace Go.Proofs.YtcofiekfhnfjpaaDoor
open Go.RowKit
set_option linter.unusedVariables false
set_option linter.unusedSimpArgs false
attribute [local go_sem ↓] Go.wp_at_zero Go.wp_at_succ
attribute [local go_sem] rhoF_tmp rhoF_const rhoF_global rhoF_func
attribute [local go_sem] iV
set_option maxRecDepth 50000 in
set_option maxHeartbeats 4000000 in
theorem ia_no (s t : Bool) (a b : Option Addr) (c d : Nat) (l k : List (BitVec 32)) (w : World) (hN : Tb w) (hfew : decide (∀ n ∈ [l.length, k.length], (n : Int) ≤ 40) = false) :
    Calls Tryd.prog 3 #[.agg #[.bool s, .slice a l.length c], .agg #[.bool t, .slice b k.length d]] w fun e w' => e = .returned (.bool true) ∧ Below w.heap.size w w' := by
  go_enter Tryd.func3, Tryd.ntmps3
  go_wp2_with (go_at_call 5; go_loud ((with_reducible refine (few_any (w.heap.size + 1 + 1) 2 2 [l.length, k.length] 40 _ rfl (by decide) (zholds_two s a c t b d (by go_simp) (by go_simp) (by go_simp) (by go_simp))).mono ?_); rintro e w1 ⟨rfl, hc1⟩; have E1 : Below w.heap.size w w1 := bel_step (by (with_reducible repeat' first | exact Below.refl _ _ | assumption | apply belA | apply Below.drew | apply below_drewN | refine belS ?_ (by first | omega | (simp; done) | (simp; omega)))) hc1; have P1_p : Bx w1 w.heap.size [.bool s, .slice a l.length c] := Bx.below (show Bx _ w.heap.size [.bool s, .slice a l.length c] from (by (with_reducible repeat' first | assumption | exact Bx.new _ _ _ | refine Bx.newAt _ _ _ (by simp; done) | apply Bx.dr | apply Bx.drN | apply Bx.al | refine Bx.st ?_ (by first | assumption | omega | (simp; done) | (simp; omega))))) hc1; have P1_q : Bx w1 (w.heap.size + 1) [.bool t, .slice b k.length d] := Bx.below (show Bx _ (w.heap.size + 1) [.bool t, .slice b k.length d] from (by (with_reducible repeat' first | assumption | exact Bx.new _ _ _ | refine Bx.newAt _ _ _ (by simp; done) | apply Bx.dr | apply Bx.drN | apply Bx.al | refine Bx.st ?_ (by first | assumption | omega | (simp; done) | (simp; omega))))) hc1; have hbw1 : Below w.heap.size w w1 := E1; have hz1 := hbw1.size; obtain ⟨⟨k1_p_0, g1_p_0⟩, ⟨k1_p_1, g1_p_1⟩, x1_p, y1_p, q1_p⟩ := id P1_p.x2; obtain ⟨⟨k1_q_0, g1_q_0⟩, ⟨k1_q_1, g1_q_1⟩, x1_q, y1_q, q1_q⟩ := id P1_q.x2; rw [hfew]; clear E1))
  go_wp2_with (go_at_call 6; go_loud ((with_reducible refine (example_any _ (hN.below (by (with_reducible repeat' first | exact Below.refl _ _ | assumption | apply belA | apply Below.drew | apply below_drewN | refine belS ?_ (by first | omega | (simp; done) | (simp; omega)))))).mono ?_); rintro e w2 ⟨rfl, hc2⟩; have E2 : Below w1.heap.size w1 w2 := bel_step (by (with_reducible repeat' first | exact Below.refl _ _ | assumption | apply belA | apply Below.drew | apply below_drewN | refine belS ?_ (by first | omega | (simp; done) | (simp; omega)))) hc2; have P2_p := P1_p.below E2; have P2_q := P1_q.below E2; have hbw2 : Below w.heap.size w w2 := bel_step hbw1 E2; have hz2 := hbw2.size; obtain ⟨⟨k2_p_0, g2_p_0⟩, ⟨k2_p_1, g2_p_1⟩, x2_p, y2_p, q2_p⟩ := id P2_p.x2; obtain ⟨⟨k2_q_0, g2_q_0⟩, ⟨k2_q_1, g2_q_1⟩, x2_q, y2_q, q2_q⟩ := id P2_q.x2; clear P1_p q1_p k1_p_0 g1_p_0 k1_p_1 g1_p_1 x1_p y1_p P1_q q1_q k1_q_0 g1_q_0 k1_q_1 g1_q_1 x1_q y1_q E2))
  go_ret
  exact ⟨rfl, by (with_reducible repeat' first | exact Below.refl _ _ | assumption | apply belA | apply Below.drew | apply below_drewN | refine belS ?_ (by first | omega | (simp; done) | (simp; omega)))⟩
set_option maxRecDepth 50000 in
set_option maxHeartbeats 8000000 in
theorem ia_w (s t : Bool) (a b : Option Addr) (c d : Nat) (l k : List (BitVec 32)) (w : World) (ha : Rw w a l) (hb : Rw w b k) (hN : Tb w) (cap_a : l.length ≤ c) (cap_b : k.length ≤ d) (hfew : decide (∀ n ∈ [l.length, k.length], (n : Int) ≤ 40) = true) (l1 : l.length ≤ 400000) (l2 : k.length ≤ 400000) (sN sA sS sM : Bool) (ZN ZA ZS ZM : List (BitVec 32)) (nN : ZN.length ≤ 400000) (nA : ZA.length ≤ 400000) (nS : ZS.length ≤ 400000) (nM : ZM.length ≤ 400000) (z : Int)
    (hN0 : ∀ (W : World) (W0 : World) (v0 : Option Addr) (n0 : Nat), Below W0.heap.size W0 W → Rw W0 v0 l → Calls Tryd.prog 7 #[.agg #[.bool s, .slice v0 l.length n0]] W (AnsR (fun γ => .agg #[.bool s, .slice (γ 0).1 l.length (γ 0).2]) (KwP [l ++ [77#32]]) W))
    (hN1 : ∀ (W : World) (W0 : World) (v0 : Option Addr) (n0 : Nat), Below W0.heap.size W0 W → Rw W0 v0 k → Calls Tryd.prog 7 #[.agg #[.bool t, .slice v0 k.length n0]] W (AnsR (fun γ => .agg #[.bool t, .slice (γ 0).1 k.length (γ 0).2]) (KwP [k ++ [77#32]]) W))
    (hN2 : ∀ (W : World) (W0 : World) (v0 v1 : Option Addr) (n0 n1 : Nat), Below W0.heap.size W0 W → l.length ≤ n0 → k.length ≤ n1 → Rw W0 v0 l → Rw W0 v1 k → Calls Tryd.prog 8 #[.agg #[.bool s, .slice v0 l.length n0], .agg #[.bool t, .slice v1 k.length n1]] W fun e w' => e = .returned (.int .i64 z) ∧ Below W.heap.size W w')
    (hN3 : ∀ (W : World) (W0 : World) (v0 v1 : Option Addr) (n0 n1 : Nat), Below W0.heap.size W0 W → Rw W0 v0 l → Rw W0 v1 k → Calls Tryd.prog 9 #[.agg #[.bool s, .slice v0 l.length n0], .agg #[.bool t, .slice v1 k.length n1]] W fun e w' => e = .returned (.int .i64 z) ∧ Below W.heap.size W w')
    (hN4 : ∀ (W : World) (W0 : World) (v0 : Option Addr) (n0 : Nat), Below W0.heap.size W0 W → l.length ≤ n0 → Rw W0 v0 l → Calls Tryd.prog 10 #[.agg #[.bool s, .slice v0 l.length n0]] W (AnsR (iV sN ZN) (OwP [ZN]) W))
    (hN5 : ∀ (W : World) (W0 : World) (v0 v1 : Option Addr) (n0 n1 : Nat), Below W0.heap.size W0 W → l.length ≤ n0 → k.length ≤ n1 → Rw W0 v0 l → Rw W0 v1 k → Calls Tryd.prog 11 #[.agg #[.bool s, .slice v0 l.length n0], .agg #[.bool t, .slice v1 k.length n1]] W (AnsR (iV sA ZA) (OwP [ZA]) W))
    (hN6 : ∀ (W : World) (W0 : World) (v0 v1 : Option Addr) (n0 n1 : Nat), Below W0.heap.size W0 W → l.length ≤ n0 → k.length ≤ n1 → Rw W0 v0 l → Rw W0 v1 k → Calls Tryd.prog 12 #[.agg #[.bool s, .slice v0 l.length n0], .agg #[.bool t, .slice v1 k.length n1]] W (AnsR (iV sS ZS) (OwP [ZS]) W))
    (hN7 : ∀ (W : World) (W0 : World) (v0 v1 : Option Addr) (n0 n1 : Nat), Below W0.heap.size W0 W → l.length ≤ n0 → k.length ≤ n1 → Rw W0 v0 l → Rw W0 v1 k → Calls Tryd.prog 13 #[.agg #[.bool s, .slice v0 l.length n0], .agg #[.bool t, .slice v1 k.length n1]] W (AnsR (iV sM ZM) (OwP [ZM]) W))
    (hN8 : ∀ (W : World) (W0 : World) (v0 : Option Addr) (n0 : Nat), Below W0.heap.size W0 W → Rw W0 v0 l → Calls Tryd.prog 14 #[.agg #[.bool s, .slice v0 l.length n0]] W (AnsR (iV sN ZN) (RwfP [ZN]) W))
    (hN9 : ∀ (W : World) (W0 : World) (v0 v1 : Option Addr) (n0 n1 : Nat), Below W0.heap.size W0 W → Rw W0 v0 l → Rw W0 v1 k → Calls Tryd.prog 15 #[.agg #[.bool s, .slice v0 l.length n0], .agg #[.bool t, .slice v1 k.length n1]] W (AnsR (iV sA ZA) (RwfP [ZA]) W))
    (hN10 : ∀ (W : World) (W0 : World) (v0 v1 : Option Addr) (n0 n1 : Nat), Below W0.heap.size W0 W → Rw W0 v0 l → Rw W0 v1 k → Calls Tryd.prog 16 #[.agg #[.bool s, .slice v0 l.length n0], .agg #[.bool t, .slice v1 k.length n1]] W (AnsR (iV sS ZS) (RwfP [ZS]) W))
    (hN11 : ∀ (W : World) (W0 : World) (v0 v1 : Option Addr) (n0 n1 : Nat), Below W0.heap.size W0 W → Rw W0 v0 l → Rw W0 v1 k → Calls Tryd.prog 17 #[.agg #[.bool s, .slice v0 l.length n0], .agg #[.bool t, .slice v1 k.length n1]] W (AnsR (iV sM ZM) (RwfP [ZM]) W)) :
    Calls Tryd.prog 3 #[.agg #[.bool s, .slice a l.length c], .agg #[.bool t, .slice b k.length d]] w fun e w' => e = .returned (.bool true) ∧ Below w.heap.size w w' := by
  have f1 : (z != z) = false := by simp
  have HN0 := Lib.hid hN0
  have HN1 := Lib.hid hN1
  have HN2 := Lib.hid hN2
  have HN3 := Lib.hid hN3
  have HN4 := Lib.hid hN4
  have HN5 := Lib.hid hN5
  have HN6 := Lib.hid hN6
  have HN7 := Lib.hid hN7
  have HN8 := Lib.hid hN8
  have HN9 := Lib.hid hN9
  have HN10 := Lib.hid hN10
  have HN11 := Lib.hid hN11
  clear hN0 hN1 hN2 hN3 hN4 hN5 hN6 hN7 hN8 hN9 hN10 hN11
  go_enter Tryd.func3, Tryd.ntmps3
  go_wp2_with (go_at_call 5; go_loud ((with_reducible refine (few_any (w.heap.size + 1 + 1) 2 2 [l.length, k.length] 40 _ rfl (by decide) (zholds_two s a c t b d (by go_simp) (by go_simp) (by go_simp) (by go_simp))).mono ?_); rintro e w1 ⟨rfl, hc1⟩; have E1 : Below w.heap.size w w1 := bel_step (by (with_reducible repeat' first | exact Below.refl _ _ | assumption | apply belA | apply Below.drew | apply below_drewN | refine belS ?_ (by first | omega | (simp; done) | (simp; omega)))) hc1; have P1_p : Bx w1 w.heap.size [.bool s, .slice a l.length c] := Bx.below (show Bx _ w.heap.size [.bool s, .slice a l.length c] from (by (with_reducible repeat' first | assumption | exact Bx.new _ _ _ | refine Bx.newAt _ _ _ (by simp; done) | apply Bx.dr | apply Bx.drN | apply Bx.al | refine Bx.st ?_ (by first | assumption | omega | (simp; done) | (simp; omega))))) hc1; have P1_q : Bx w1 (w.heap.size + 1) [.bool t, .slice b k.length d] := Bx.below (show Bx _ (w.heap.size + 1) [.bool t, .slice b k.length d] from (by (with_reducible repeat' first | assumption | exact Bx.new _ _ _ | refine Bx.newAt _ _ _ (by simp; done) | apply Bx.dr | apply Bx.drN | apply Bx.al | refine Bx.st ?_ (by first | assumption | omega | (simp; done) | (simp; omega))))) hc1; have ha1 := ha.below E1; have hb1 := hb.below E1; have hbw1 : Below w.heap.size w w1 := E1; have hz1 := hbw1.size; obtain ⟨⟨k1_p_0, g1_p_0⟩, ⟨k1_p_1, g1_p_1⟩, x1_p, y1_p, q1_p⟩ := id P1_p.x2; obtain ⟨⟨k1_q_0, g1_q_0⟩, ⟨k1_q_1, g1_q_1⟩, x1_q, y1_q, q1_q⟩ := id P1_q.x2; rw [hfew]; clear E1))
  refine wp_region_go1 (fun W => Bx W w.heap.size [.bool s, .slice a l.length c] ∧ Bx W (w.heap.size + 1) [.bool t, .slice b k.length d] ∧ Rw W a l ∧ Rw W b k ∧ Below w.heap.size w W) 6 99 [kv (.agg #[.bool s, .slice a l.length c]), .made (fun γ => .agg #[.bool s, .slice (γ 0).1 l.length (γ 0).2]) (KwP [(l ++ [77#32])]), kv (.agg #[.bool t, .slice b k.length d]), .made (fun γ => .agg #[.bool t, .slice (γ 0).1 k.length (γ 0).2]) (KwP [(k ++ [77#32])]), .fresh (.cells #[Value.bool false, Value.slice none 0 0] 24), .fresh (.cells #[Value.bool false, Value.slice none 0 0] 24)] [[], [], [], [], [], []] [1, 3, 4, 5] (by kernel_rfl) (by kernel_rfl) rfl (by kernel_rfl) (by kernel_rfl) (by kernel_rfl) rfl (by repeat' first | exact fits_nil | refine fits_cons ?_ ?_ | exact fit_const _ | exact trueP_fit _ | exact owP_fit _ _ | exact rwsP_fit _ _ | exact rwnP_fit _ _ | exact fit_fresh _ | exact fit_skip | exact kwP_fit _ _ | exact rwfP_fit _ _) (by rintro w1 w2 ⟨p_p, p_q, r_a, r_b, bel⟩ hc; exact ⟨p_p.below hc, p_q.below hc, r_a.below hc, r_b.below hc, bel_step bel hc⟩) (⟨P1_p, P1_q, ha1, hb1, hbw1⟩) (by (with_reducible repeat' first | exact Below.refl _ _ | assumption | apply belA | apply Below.drew | apply below_drewN | refine belS ?_ (by first | omega | (simp; done) | (simp; omega)))) ?_
  rintro w2 ⟨P2_p, P2_q, ha2, hb2, hbw2⟩ G1 lo1 hi1
  clear P1_p q1_p k1_p_0 g1_p_0 k1_p_1 g1_p_1 x1_p y1_p P1_q q1_q k1_q_0 g1_q_0 k1_q_1 g1_q_1 x1_q y1_q ha1 hb1
  have hz2 := hbw2.size
  simp only [List.take_succ_cons, List.take_zero, List.drop_succ_cons, List.drop_zero, List.cons_append, List.nil_append, List.append_nil]
  refine oge_val (by rfl) ?_ ?_
  · exact fun f hf w' h _ => ldI (off := 0) rfl (by rw [← hf]; rfl) (h.1) rfl rfl
  refine oge_call 7 #[.agg #[.bool s, .slice a l.length c]] (by rfl) ?_ ?_ ?_
  · exact fun f hf w' h _ => cl1 rfl (by rw [← hf]; rfl) (by go_simp)
  · rintro w' ⟨p_p, p_q, r_a, r_b, bel⟩ hF; exact HN0.out _ _ _ _ (Below.refl _ _) r_a
  refine oge_val (by rfl) ?_ ?_
  · exact fun f hf w' h _ => ldI (off := 0) rfl (by rw [← hf]; rfl) (h.2.1) rfl rfl
  refine oge_call 7 #[.agg #[.bool t, .slice b k.length d]] (by rfl) ?_ ?_ ?_
  · exact fun f hf w' h _ => cl1 rfl (by rw [← hf]; rfl) (by go_simp)
  · rintro w' ⟨p_p, p_q, r_a, r_b, bel⟩ hF; exact HN1.out _ _ _ _ (Below.refl _ _) r_b
  refine oge_fresh (by rfl) ?_ ?_
  · intro f hf; clear hf; intro w' _; go_simp
  refine oge_fresh (by rfl) ?_ ?_
  · intro f hf; clear hf; intro w' _; go_simp
  refine oge_nil ?_
  rintro w3 ⟨P3_p, P3_q, ha3, hb3, hbw3⟩ hd3 hA
  have hz3 := hbw3.size
  obtain ⟨⟨la1, lb1, lc1, fw1⟩, ld1, ⟨⟨la3, lb3, lc3, fw3⟩, ld3, ⟨⟨la4, lb4, lc4, fw4⟩, ld4, ⟨⟨la5, lb5, lc5, fw5⟩, ld5, -⟩⟩⟩⟩ := hA
  obtain ⟨fa4, fh4⟩ := fw4
  obtain ⟨fa5, fh5⟩ := fw5
  have P3_x : Bx w3 (lo1 4) [.bool false, .slice none 0 0] := Bx.row fa4
  have v4_p : ¬ (lo1 4) = w.heap.size := by have := P2_p.2; omega
  have vp_4 : ¬ w.heap.size = (lo1 4) := by have := P2_p.2; omega
  have v4_q : ¬ (lo1 4) = (w.heap.size + 1) := by have := P2_q.2; omega
  have vq_4 : ¬ (w.heap.size + 1) = (lo1 4) := by have := P2_q.2; omega
  have v4_5 : ¬ (lo1 4) = (lo1 5) := by have := ld4 5 (by simp); omega
  have v5_4 : ¬ (lo1 5) = (lo1 4) := by have := ld4 5 (by simp); omega
  have vl4 : w.heap.size ≤ lo1 4 := by omega
  have P3_y : Bx w3 (lo1 5) [.bool false, .slice none 0 0] := Bx.row fa5
  have v5_p : ¬ (lo1 5) = w.heap.size := by have := P2_p.2; omega
  have vp_5 : ¬ w.heap.size = (lo1 5) := by have := P2_p.2; omega
  have v5_q : ¬ (lo1 5) = (w.heap.size + 1) := by have := P2_q.2; omega
  have vq_5 : ¬ (w.heap.size + 1) = (lo1 5) := by have := P2_q.2; omega
  have vl5 : w.heap.size ≤ lo1 5 := by omega
  have fo1 : KwP [(l ++ [77#32])] (G1 1) (lo1 1) (hi1 1) w3 := fw1
  have fa1 := fo1.1
  have hxs3 : Rw w3 (G1 1 0).1 (l ++ [77#32]) := (fa1 0 _ rfl).2
  have cap_xs : (l ++ [77#32]).length ≤ (G1 1 0).2 := (fa1 0 _ rfl).1
  have fo3 : KwP [(k ++ [77#32])] (G1 3) (lo1 3) (hi1 3) w3 := fw3
  have fa3 := fo3.1
  have hys3 : Rw w3 (G1 3 0).1 (k ++ [77#32]) := (fa3 0 _ rfl).2
  have cap_ys : (k ++ [77#32]).length ≤ (G1 3 0).2 := (fa3 0 _ rfl).1
  have qq2_p : w.heap.size < w2.heap.size := P2_p.2
  have qq2_q : (w.heap.size + 1) < w2.heap.size := P2_q.2
  obtain ⟨gx, ex⟩ := fo1.2 0 _ rfl
  obtain ⟨gy, ey⟩ := fo3.2 0 _ rfl
  have EX := Lib.hid ex
  have EY := Lib.hid ey
  clear ex ey
  clear P2_p P2_q ha2 hb2 ld1 fw1 ld3 fw3 ld4 lb4 ld5 lb5 hd3
  have q3_p := P3_p.2
  have q3_q := P3_q.2
  obtain ⟨⟨k3_x_0, g3_x_0⟩, ⟨k3_x_1, g3_x_1⟩, x3_x, y3_x, q3_x⟩ := id P3_x.x2
  obtain ⟨⟨k3_y_0, g3_y_0⟩, ⟨k3_y_1, g3_y_1⟩, x3_y, y3_y, q3_y⟩ := id P3_y.x2
  simp only [puts, putD, Act.put, List.setIfInBounds_toArray, List.set_cons_zero, List.set_cons_succ]
  have hxr3 : Rw w3 (G1 1 0).1 l := by have h := hxs3.take l.length; rwa [List.take_left] at h
  have cap_xr : l.length ≤ (G1 1 0).2 := by have h := cap_xs; simp at h; omega
  have hyr3 : Rw w3 (G1 3 0).1 k := by have h := hys3.take k.length; rwa [List.take_left] at h
  have cap_yr : k.length ≤ (G1 3 0).2 := by have h := cap_ys; simp at h; omega
  go_wp2
  refine wp_region_go0 (fun W => Bx W w.heap.size [.bool s, .slice a l.length c] ∧ Bx W (w.heap.size + 1) [.bool t, .slice b k.length d] ∧ Bx W (lo1 4) [.bool s, .slice (G1 1 0).1 l.length (G1 1 0).2] ∧ Bx W (lo1 5) [.bool t, .slice (G1 3 0).1 k.length (G1 3 0).2] ∧ Rw W a l ∧ Rw W b k ∧ Rw W (G1 1 0).1 (l ++ [77#32]) ∧ Rw W (G1 3 0).1 (k ++ [77#32]) ∧ Rw W (G1 1 0).1 l ∧ Rw W (G1 3 0).1 k ∧ Below w.heap.size w W) 7 99 [kv (.agg #[.bool s, .slice (G1 1 0).1 l.length (G1 1 0).2]), kv (.agg #[.bool t, .slice (G1 3 0).1 k.length (G1 3 0).2]), km (.int .i64 z), kv (.agg #[.bool s, .slice a l.length c]), kv (.agg #[.bool t, .slice b k.length d]), km (.int .i64 z), kv (.bool false)] [[], [], [], [], [], [], []] [2, 5] (by kernel_rfl) (by kernel_rfl) rfl (by kernel_rfl) (by kernel_rfl) (by kernel_rfl) rfl (by repeat' first | exact fits_nil | refine fits_cons ?_ ?_ | exact fit_const _ | exact trueP_fit _ | exact owP_fit _ _ | exact rwsP_fit _ _ | exact rwnP_fit _ _ | exact fit_fresh _ | exact fit_skip) (by rintro w1 w2 ⟨p_p, p_q, p_x, p_y, r_a, r_b, r_xs, r_ys, r_xr, r_yr, bel⟩ hc; exact ⟨p_p.below hc, p_q.below hc, p_x.below hc, p_y.below hc, r_a.below hc, r_b.below hc, r_xs.below hc, r_ys.below hc, r_xr.below hc, r_yr.below hc, bel_step bel hc⟩) ⟨(show Bx _ w.heap.size [.bool s, .slice a l.length c] from (by (with_reducible repeat' first | assumption | exact Bx.new _ _ _ | refine Bx.newAt _ _ _ (by simp; done) | apply Bx.dr | apply Bx.drN | apply Bx.al | refine Bx.st ?_ (by first | assumption | omega | (simp; done) | (simp; omega))))), (show Bx _ (w.heap.size + 1) [.bool t, .slice b k.length d] from (by (with_reducible repeat' first | assumption | exact Bx.new _ _ _ | refine Bx.newAt _ _ _ (by simp; done) | apply Bx.dr | apply Bx.drN | apply Bx.al | refine Bx.st ?_ (by first | assumption | omega | (simp; done) | (simp; omega))))), (Bx.of2 (by first | with_reducible assumption | go_simp) (by first | with_reducible assumption | go_simp) (by first | with_reducible assumption | go_simp) (by first | with_reducible assumption | go_simp) : Bx _ (lo1 4) [.bool s, .slice (G1 1 0).1 l.length (G1 1 0).2]), (Bx.of2 (by first | with_reducible assumption | go_simp) (by first | with_reducible assumption | go_simp) (by first | with_reducible assumption | go_simp) (by first | with_reducible assumption | go_simp) : Bx _ (lo1 5) [.bool t, .slice (G1 3 0).1 k.length (G1 3 0).2]), (show Rw _ a l from (by (repeat' first | with_reducible assumption | with_reducible apply Rw.dr | with_reducible apply Rw.drN | with_reducible apply Rw.al | exact Rw.sets (W := w3) (by with_reducible assumption) [((lo1 4), 0, .bool s), ((lo1 4), 1, .slice (G1 1 0).1 l.length (G1 1 0).2), ((lo1 5), 0, .bool t), ((lo1 5), 1, .slice (G1 3 0).1 k.length (G1 3 0).2)] ⟨⟨_, k3_x_0, rfl⟩, ⟨_, k3_x_1, rfl⟩, ⟨_, k3_y_0, rfl⟩, ⟨_, k3_y_1, rfl⟩, trivial⟩))), (show Rw _ b k from (by (repeat' first | with_reducible assumption | with_reducible apply Rw.dr | with_reducible apply Rw.drN | with_reducible apply Rw.al | exact Rw.sets (W := w3) (by with_reducible assumption) [((lo1 4), 0, .bool s), ((lo1 4), 1, .slice (G1 1 0).1 l.length (G1 1 0).2), ((lo1 5), 0, .bool t), ((lo1 5), 1, .slice (G1 3 0).1 k.length (G1 3 0).2)] ⟨⟨_, k3_x_0, rfl⟩, ⟨_, k3_x_1, rfl⟩, ⟨_, k3_y_0, rfl⟩, ⟨_, k3_y_1, rfl⟩, trivial⟩))), (show Rw _ (G1 1 0).1 (l ++ [77#32]) from (by (repeat' first | with_reducible assumption | with_reducible apply Rw.dr | with_reducible apply Rw.drN | with_reducible apply Rw.al | exact Rw.sets (W := w3) (by with_reducible assumption) [((lo1 4), 0, .bool s), ((lo1 4), 1, .slice (G1 1 0).1 l.length (G1 1 0).2), ((lo1 5), 0, .bool t), ((lo1 5), 1, .slice (G1 3 0).1 k.length (G1 3 0).2)] ⟨⟨_, k3_x_0, rfl⟩, ⟨_, k3_x_1, rfl⟩, ⟨_, k3_y_0, rfl⟩, ⟨_, k3_y_1, rfl⟩, trivial⟩))), (show Rw _ (G1 3 0).1 (k ++ [77#32]) from (by (repeat' first | with_reducible assumption | with_reducible apply Rw.dr | with_reducible apply Rw.drN | with_reducible apply Rw.al | exact Rw.sets (W := w3) (by with_reducible assumption) [((lo1 4), 0, .bool s), ((lo1 4), 1, .slice (G1 1 0).1 l.length (G1 1 0).2), ((lo1 5), 0, .bool t), ((lo1 5), 1, .slice (G1 3 0).1 k.length (G1 3 0).2)] ⟨⟨_, k3_x_0, rfl⟩, ⟨_, k3_x_1, rfl⟩, ⟨_, k3_y_0, rfl⟩, ⟨_, k3_y_1, rfl⟩, trivial⟩))), (show Rw _ (G1 1 0).1 l from (by (repeat' first | with_reducible assumption | with_reducible apply Rw.dr | with_reducible apply Rw.drN | with_reducible apply Rw.al | exact Rw.sets (W := w3) (by with_reducible assumption) [((lo1 4), 0, .bool s), ((lo1 4), 1, .slice (G1 1 0).1 l.length (G1 1 0).2), ((lo1 5), 0, .bool t), ((lo1 5), 1, .slice (G1 3 0).1 k.length (G1 3 0).2)] ⟨⟨_, k3_x_0, rfl⟩, ⟨_, k3_x_1, rfl⟩, ⟨_, k3_y_0, rfl⟩, ⟨_, k3_y_1, rfl⟩, trivial⟩))), (show Rw _ (G1 3 0).1 k from (by (repeat' first | with_reducible assumption | with_reducible apply Rw.dr | with_reducible apply Rw.drN | with_reducible apply Rw.al | exact Rw.sets (W := w3) (by with_reducible assumption) [((lo1 4), 0, .bool s), ((lo1 4), 1, .slice (G1 1 0).1 l.length (G1 1 0).2), ((lo1 5), 0, .bool t), ((lo1 5), 1, .slice (G1 3 0).1 k.length (G1 3 0).2)] ⟨⟨_, k3_x_0, rfl⟩, ⟨_, k3_x_1, rfl⟩, ⟨_, k3_y_0, rfl⟩, ⟨_, k3_y_1, rfl⟩, trivial⟩))), (show Below w.heap.size w _ from (by (with_reducible repeat' first | exact Below.refl _ _ | assumption | apply belA | apply Below.drew | apply below_drewN | refine belS ?_ (by first | omega | (simp; done) | (simp; omega)))))⟩ ?_
  rintro w4 ⟨P4_p, P4_q, P4_x, P4_y, ha4, hb4, hxs4, hys4, hxr4, hyr4, hbw4⟩ G2 lo2 hi2
  clear P3_p q3_p P3_q q3_q P3_x q3_x k3_x_0 g3_x_0 k3_x_1 g3_x_1 x3_x y3_x P3_y q3_y k3_y_0 g3_y_0 k3_y_1 g3_y_1 x3_y y3_y ha3 hb3 hxs3 hys3 hxr3 hyr3
  have hz4 := hbw4.size
  simp only [List.take_succ_cons, List.take_zero, List.drop_succ_cons, List.drop_zero, List.cons_append, List.nil_append, List.append_nil]
  refine oge_val (by rfl) ?_ ?_
  · exact fun f hf w' h _ => ldI (off := 0) rfl (by rw [← hf]; rfl) (h.2.2.1) rfl rfl
  refine oge_val (by rfl) ?_ ?_
  · exact fun f hf w' h _ => ldI (off := 0) rfl (by rw [← hf]; rfl) (h.2.2.2.1) rfl rfl
  refine oge_call 8 #[.agg #[.bool s, .slice (G1 1 0).1 l.length (G1 1 0).2], .agg #[.bool t, .slice (G1 3 0).1 k.length (G1 3 0).2]] (by rfl) ?_ ?_ ?_
  · exact fun f hf w' h _ => cl2 rfl (by rw [← hf]; rfl) (by rw [← hf]; rfl) (by go_simp)
  · rintro w' ⟨p_p, p_q, p_x, p_y, r_a, r_b, r_xs, r_ys, r_xr, r_yr, bel⟩ hF; exact Calls.mono (HN2.out _ _ _ _ _ _ (Below.refl _ _) cap_xr cap_yr r_xr r_yr) (fun _ _ h => AnsR.fix h)
  refine oge_val (by rfl) ?_ ?_
  · exact fun f hf w' h _ => ldI (off := 0) rfl (by rw [← hf]; rfl) (h.1) rfl rfl
  refine oge_val (by rfl) ?_ ?_
  · exact fun f hf w' h _ => ldI (off := 0) rfl (by rw [← hf]; rfl) (h.2.1) rfl rfl
  refine oge_call 9 #[.agg #[.bool s, .slice a l.length c], .agg #[.bool t, .slice b k.length d]] (by rfl) ?_ ?_ ?_
  · exact fun f hf w' h _ => cl2 rfl (by rw [← hf]; rfl) (by rw [← hf]; rfl) (by go_simp)
  · rintro w' ⟨p_p, p_q, p_x, p_y, r_a, r_b, r_xs, r_ys, r_xr, r_yr, bel⟩ hF; exact Calls.mono (HN3.out _ _ _ _ _ _ (Below.refl _ _) r_a r_b) (fun _ _ h => AnsR.fix h)
  refine oge_val (by rfl) ?_ ?_
  · intro f hf; have u23 : f 23 = (.int .i64 z) := (by rw [← hf]; rfl); have u26 : f 26 = (.int .i64 z) := (by rw [← hf]; rfl); clear hf; intro w' h _; clear h; go_simp
  refine oge_nil ?_
  rintro w5 ⟨P5_p, P5_q, P5_x, P5_y, ha5, hb5, hxs5, hys5, hxr5, hyr5, hbw5⟩ hd5 hA
  have hz5 := hbw5.size
  obtain ⟨⟨la2, lb2, lc2, fw2⟩, ld2, ⟨⟨la5, lb5, lc5, fw5⟩, ld5, -⟩⟩ := hA
  have qq4_p : w.heap.size < w4.heap.size := P4_p.2
  have qq4_q : (w.heap.size + 1) < w4.heap.size := P4_q.2
  have qq4_x : (lo1 4) < w4.heap.size := P4_x.2
  have qq4_y : (lo1 5) < w4.heap.size := P4_y.2
  clear P4_p P4_q P4_x P4_y ha4 hb4 hxs4 hys4 hxr4 hyr4 ld2 fw2 ld5 fw5 hd5
  have q5_p := P5_p.2
  have q5_q := P5_q.2
  have q5_x := P5_x.2
  have q5_y := P5_y.2
  simp only [puts, putD, Act.put, List.setIfInBounds_toArray, List.set_cons_zero, List.set_cons_succ]
  go_wp2
  refine wp_region_go1 (fun W => Bx W w.heap.size [.bool s, .slice a l.length c] ∧ Bx W (w.heap.size + 1) [.bool t, .slice b k.length d] ∧ Bx W (lo1 4) [.bool s, .slice (G1 1 0).1 l.length (G1 1 0).2] ∧ Bx W (lo1 5) [.bool t, .slice (G1 3 0).1 k.length (G1 3 0).2] ∧ Rw W a l ∧ Rw W b k ∧ Rw W (G1 1 0).1 (l ++ [77#32]) ∧ Rw W (G1 3 0).1 (k ++ [77#32]) ∧ Rw W (G1 1 0).1 l ∧ Rw W (G1 3 0).1 k ∧ Below w.heap.size w W) 11 99 [kv (.agg #[.bool s, .slice (G1 1 0).1 l.length (G1 1 0).2]), .made (fun γ => .agg #[.bool sN, .slice (γ 0).1 ZN.length (γ 0).2]) (OwP [ZN]), kv (.agg #[.bool s, .slice (G1 1 0).1 l.length (G1 1 0).2]), kv (.agg #[.bool t, .slice (G1 3 0).1 k.length (G1 3 0).2]), .made (fun γ => .agg #[.bool sA, .slice (γ 0).1 ZA.length (γ 0).2]) (OwP [ZA]), kv (.agg #[.bool s, .slice (G1 1 0).1 l.length (G1 1 0).2]), kv (.agg #[.bool t, .slice (G1 3 0).1 k.length (G1 3 0).2]), .made (fun γ => .agg #[.bool sS, .slice (γ 0).1 ZS.length (γ 0).2]) (OwP [ZS]), kv (.agg #[.bool s, .slice (G1 1 0).1 l.length (G1 1 0).2]), kv (.agg #[.bool t, .slice (G1 3 0).1 k.length (G1 3 0).2]), .made (fun γ => .agg #[.bool sM, .slice (γ 0).1 ZM.length (γ 0).2]) (OwP [ZM])] [[], [], [], [], [], [], [], [], [], [], []] [1, 4, 7, 10] (by kernel_rfl) (by kernel_rfl) rfl (by kernel_rfl) (by kernel_rfl) (by kernel_rfl) rfl (by repeat' first | exact fits_nil | refine fits_cons ?_ ?_ | exact fit_const _ | exact trueP_fit _ | exact owP_fit _ _ | exact rwsP_fit _ _ | exact rwnP_fit _ _ | exact fit_fresh _ | exact fit_skip) (by rintro w1 w2 ⟨p_p, p_q, p_x, p_y, r_a, r_b, r_xs, r_ys, r_xr, r_yr, bel⟩ hc; exact ⟨p_p.below hc, p_q.below hc, p_x.below hc, p_y.below hc, r_a.below hc, r_b.below hc, r_xs.below hc, r_ys.below hc, r_xr.below hc, r_yr.below hc, bel_step bel hc⟩) (⟨P5_p, P5_q, P5_x, P5_y, ha5, hb5, hxs5, hys5, hxr5, hyr5, hbw5⟩) (by (with_reducible repeat' first | exact Below.refl _ _ | assumption | apply belA | apply Below.drew | apply below_drewN | refine belS ?_ (by first | omega | (simp; done) | (simp; omega)))) ?_
  rintro w6 ⟨P6_p, P6_q, P6_x, P6_y, ha6, hb6, hxs6, hys6, hxr6, hyr6, hbw6⟩ G3 lo3 hi3
  clear P5_p q5_p P5_q q5_q P5_x q5_x P5_y q5_y ha5 hb5 hxs5 hys5 hxr5 hyr5
  have hz6 := hbw6.size
  simp only [List.take_succ_cons, List.take_zero, List.drop_succ_cons, List.drop_zero, List.cons_append, List.nil_append, List.append_nil]
  refine oge_val (by rfl) ?_ ?_
  · exact fun f hf w' h _ => ldI (off := 0) rfl (by rw [← hf]; rfl) (h.2.2.1) rfl rfl
  refine oge_call 10 #[.agg #[.bool s, .slice (G1 1 0).1 l.length (G1 1 0).2]] (by rfl) ?_ ?_ ?_
  · exact fun f hf w' h _ => cl1 rfl (by rw [← hf]; rfl) (by go_simp)
  · rintro w' ⟨p_p, p_q, p_x, p_y, r_a, r_b, r_xs, r_ys, r_xr, r_yr, bel⟩ hF; exact HN4.out _ _ _ _ (Below.refl _ _) cap_xr r_xr
  refine oge_val (by rfl) ?_ ?_
  · exact fun f hf w' h _ => ldI (off := 0) rfl (by rw [← hf]; rfl) (h.2.2.1) rfl rfl
  refine oge_val (by rfl) ?_ ?_
  · exact fun f hf w' h _ => ldI (off := 0) rfl (by rw [← hf]; rfl) (h.2.2.2.1) rfl rfl
  refine oge_call 11 #[.agg #[.bool s, .slice (G1 1 0).1 l.length (G1 1 0).2], .agg #[.bool t, .slice (G1 3 0).1 k.length (G1 3 0).2]] (by rfl) ?_ ?_ ?_
  · exact fun f hf w' h _ => cl2 rfl (by rw [← hf]; rfl) (by rw [← hf]; rfl) (by go_simp)
  · rintro w' ⟨p_p, p_q, p_x, p_y, r_a, r_b, r_xs, r_ys, r_xr, r_yr, bel⟩ hF; exact HN5.out _ _ _ _ _ _ (Below.refl _ _) cap_xr cap_yr r_xr r_yr
  refine oge_val (by rfl) ?_ ?_
  · exact fun f hf w' h _ => ldI (off := 0) rfl (by rw [← hf]; rfl) (h.2.2.1) rfl rfl
  refine oge_val (by rfl) ?_ ?_
  · exact fun f hf w' h _ => ldI (off := 0) rfl (by rw [← hf]; rfl) (h.2.2.2.1) rfl rfl
  refine oge_call 12 #[.agg #[.bool s, .slice (G1 1 0).1 l.length (G1 1 0).2], .agg #[.bool t, .slice (G1 3 0).1 k.length (G1 3 0).2]] (by rfl) ?_ ?_ ?_
  · exact fun f hf w' h _ => cl2 rfl (by rw [← hf]; rfl) (by rw [← hf]; rfl) (by go_simp)
  · rintro w' ⟨p_p, p_q, p_x, p_y, r_a, r_b, r_xs, r_ys, r_xr, r_yr, bel⟩ hF; exact HN6.out _ _ _ _ _ _ (Below.refl _ _) cap_xr cap_yr r_xr r_yr
  refine oge_val (by rfl) ?_ ?_
  · exact fun f hf w' h _ => ldI (off := 0) rfl (by rw [← hf]; rfl) (h.2.2.1) rfl rfl
  refine oge_val (by rfl) ?_ ?_
  · exact fun f hf w' h _ => ldI (off := 0) rfl (by rw [← hf]; rfl) (h.2.2.2.1) rfl rfl
  refine oge_call 13 #[.agg #[.bool s, .slice (G1 1 0).1 l.length (G1 1 0).2], .agg #[.bool t, .slice (G1 3 0).1 k.length (G1 3 0).2]] (by rfl) ?_ ?_ ?_
  · exact fun f hf w' h _ => cl2 rfl (by rw [← hf]; rfl) (by rw [← hf]; rfl) (by go_simp)
  · rintro w' ⟨p_p, p_q, p_x, p_y, r_a, r_b, r_xs, r_ys, r_xr, r_yr, bel⟩ hF; exact HN7.out _ _ _ _ _ _ (Below.refl _ _) cap_xr cap_yr r_xr r_yr
  refine oge_nil ?_
  rintro w7 ⟨P7_p, P7_q, P7_x, P7_y, ha7, hb7, hxs7, hys7, hxr7, hyr7, hbw7⟩ hd7 hA
  have hz7 := hbw7.size
  obtain ⟨⟨la1, lb1, lc1, fw1⟩, ld1, ⟨⟨la4, lb4, lc4, fw4⟩, ld4, ⟨⟨la7, lb7, lc7, fw7⟩, ld7, ⟨⟨la10, lb10, lc10, fw10⟩, ld10, -⟩⟩⟩⟩ := hA
  have fo1 : OwP [ZN] (G3 1) (lo3 1) (hi3 1) w7 := fw1
  have fa1 := fo1.rws
  have fo4 : OwP [ZA] (G3 4) (lo3 4) (hi3 4) w7 := fw4
  have fa4 := fo4.rws
  have fo7 : OwP [ZS] (G3 7) (lo3 7) (hi3 7) w7 := fw7
  have fa7 := fo7.rws
  have fo10 : OwP [ZM] (G3 10) (lo3 10) (hi3 10) w7 := fw10
  have fa10 := fo10.rws
  have qq6_p : w.heap.size < w6.heap.size := P6_p.2
  have qq6_q : (w.heap.size + 1) < w6.heap.size := P6_q.2
  have qq6_x : (lo1 4) < w6.heap.size := P6_x.2
  have qq6_y : (lo1 5) < w6.heap.size := P6_y.2
  have kP_p := P6_p
  have kP_q := P6_q
  have kP_x := P6_x
  have kP_y := P6_y
  have kh_a := ha6
  have kh_b := hb6
  have kh_xs := hxs6
  have kh_ys := hys6
  have kbw := hbw6
  have hag7 : Below w6.heap.size w6 w7 := hd7
  have hgN7 : w7.ownsRow w6.heap.size 32 1 (.slice (G3 1 0).1 ZN.length (G3 1 0).2) ZN.length (bv32 ZN) := own_mono (fo1.1 0 _ rfl).1 la1
  have hgA7 : w7.ownsRow w6.heap.size 32 1 (.slice (G3 4 0).1 ZA.length (G3 4 0).2) ZA.length (bv32 ZA) := own_mono (fo4.1 0 _ rfl).1 la4
  have hgS7 : w7.ownsRow w6.heap.size 32 1 (.slice (G3 7 0).1 ZS.length (G3 7 0).2) ZS.length (bv32 ZS) := own_mono (fo7.1 0 _ rfl).1 la7
  have hgM7 : w7.ownsRow w6.heap.size 32 1 (.slice (G3 10 0).1 ZM.length (G3 10 0).2) ZM.length (bv32 ZM) := own_mono (fo10.1 0 _ rfl).1 la10
  have bb1 : ∀ p, (G3 1 0).1 = some p → lo3 1 ≤ p.block ∧ p.block < hi3 1 := fun p hp => ⟨(own_blk (fo1.1 0 _ rfl).1 p hp).1, (fo1.1 0 _ rfl).2 p hp⟩
  have bb4 : ∀ p, (G3 4 0).1 = some p → lo3 4 ≤ p.block ∧ p.block < hi3 4 := fun p hp => ⟨(own_blk (fo4.1 0 _ rfl).1 p hp).1, (fo4.1 0 _ rfl).2 p hp⟩
  have bb7 : ∀ p, (G3 7 0).1 = some p → lo3 7 ≤ p.block ∧ p.block < hi3 7 := fun p hp => ⟨(own_blk (fo7.1 0 _ rfl).1 p hp).1, (fo7.1 0 _ rfl).2 p hp⟩
  have bb10 : ∀ p, (G3 10 0).1 = some p → lo3 10 ≤ p.block ∧ p.block < hi3 10 := fun p hp => ⟨(own_blk (fo10.1 0 _ rfl).1 p hp).1, (fo10.1 0 _ rfl).2 p hp⟩
  have hap : Apt (pick4 (G3 1 0).1 (G3 4 0).1 (G3 7 0).1 (G3 10 0).1) := apt_of bb1 bb4 bb7 bb10 (ld1 4 (by simp)) (ld1 7 (by simp)) (ld1 10 (by simp)) (ld4 7 (by simp)) (ld4 10 (by simp)) (ld7 10 (by simp))
  have hub : ∀ i p, i < 4 → (pick4 (G3 1 0).1 (G3 4 0).1 (G3 7 0).1 (G3 10 0).1) i = some p → w6.heap.size ≤ p.block ∧ p.block < w7.heap.size := in4 bb1 bb4 bb7 bb10 la1 la4 la7 la10 lc1 lc4 lc7 lc10
  clear bb1 bb4 bb7 bb10
  clear P6_p P6_q P6_x P6_y ha6 hb6 hxs6 hys6 hxr6 hyr6 ld1 fw1 ld4 fw4 ld7 fw7 ld10 fw10 hd7
  have q7_p := P7_p.2
  have q7_q := P7_q.2
  have q7_x := P7_x.2
  have q7_y := P7_y.2
  simp only [puts, putD, Act.put, List.setIfInBounds_toArray, List.set_cons_zero, List.set_cons_succ]
  go_wp2
  refine wp_region_go0 (fun W => Bx W w.heap.size [.bool s, .slice a l.length c] ∧ Bx W (w.heap.size + 1) [.bool t, .slice b k.length d] ∧ Bx W (lo1 4) [.bool s, .slice (G1 1 0).1 l.length (G1 1 0).2] ∧ Bx W (lo1 5) [.bool t, .slice (G1 3 0).1 k.length (G1 3 0).2] ∧ Bx W w7.heap.size [.bool sN, .slice (G3 1 0).1 ZN.length (G3 1 0).2, .bool sA, .slice (G3 4 0).1 ZA.length (G3 4 0).2, .bool sS, .slice (G3 7 0).1 ZS.length (G3 7 0).2, .bool sM, .slice (G3 10 0).1 ZM.length (G3 10 0).2] ∧ Rw W a l ∧ Rw W b k ∧ Rw W (G1 1 0).1 (l ++ [77#32]) ∧ Rw W (G1 3 0).1 (k ++ [77#32]) ∧ Below w6.heap.size w6 W ∧ W.ownsRow w6.heap.size 32 1 (.slice (G3 1 0).1 ZN.length (G3 1 0).2) ZN.length (bv32 ZN) ∧ W.ownsRow w6.heap.size 32 1 (.slice (G3 4 0).1 ZA.length (G3 4 0).2) ZA.length (bv32 ZA) ∧ W.ownsRow w6.heap.size 32 1 (.slice (G3 7 0).1 ZS.length (G3 7 0).2) ZS.length (bv32 ZS) ∧ W.ownsRow w6.heap.size 32 1 (.slice (G3 10 0).1 ZM.length (G3 10 0).2) ZM.length (bv32 ZM) ∧ Below w.heap.size w W) 11 99 [kv (.agg #[.bool s, .slice a l.length c]), .made (fun γ => .agg #[.bool sN, .slice (γ 0).1 ZN.length (γ 0).2]) (RwfP [ZN]), kv (.agg #[.bool s, .slice a l.length c]), kv (.agg #[.bool t, .slice b k.length d]), .made (fun γ => .agg #[.bool sA, .slice (γ 0).1 ZA.length (γ 0).2]) (RwfP [ZA]), kv (.agg #[.bool s, .slice a l.length c]), kv (.agg #[.bool t, .slice b k.length d]), .made (fun γ => .agg #[.bool sS, .slice (γ 0).1 ZS.length (γ 0).2]) (RwfP [ZS]), kv (.agg #[.bool s, .slice a l.length c]), kv (.agg #[.bool t, .slice b k.length d]), .made (fun γ => .agg #[.bool sM, .slice (γ 0).1 ZM.length (γ 0).2]) (RwfP [ZM])] [[], [], [], [], [], [], [], [], [], [], []] [1, 4, 7, 10] (by kernel_rfl) (by kernel_rfl) rfl (by kernel_rfl) (by kernel_rfl) (by kernel_rfl) rfl (by repeat' first | exact fits_nil | refine fits_cons ?_ ?_ | exact fit_const _ | exact trueP_fit _ | exact owP_fit _ _ | exact rwsP_fit _ _ | exact rwnP_fit _ _ | exact fit_fresh _ | exact fit_skip | exact kwP_fit _ _ | exact rwfP_fit _ _) (by rintro w1 w2 ⟨p_p, p_q, p_x, p_y, p_gt, r_a, r_b, r_xs, r_ys, r_ag, r_gN, r_gA, r_gS, r_gM, bel⟩ hc; exact ⟨p_p.below hc, p_q.below hc, p_x.below hc, p_y.below hc, p_gt.below hc, r_a.below hc, r_b.below hc, r_xs.below hc, r_ys.below hc, anc_below r_ag hc, own_below r_gN hc, own_below r_gA hc, own_below r_gS hc, own_below r_gM hc, bel_step bel hc⟩) ⟨(P7_p.below (by (with_reducible repeat' first | exact Below.refl _ _ | assumption | apply belA | apply Below.drew | apply below_drewN | refine belS ?_ (by first | omega | (simp; done) | (simp; omega))))), (P7_q.below (by (with_reducible repeat' first | exact Below.refl _ _ | assumption | apply belA | apply Below.drew | apply below_drewN | refine belS ?_ (by first | omega | (simp; done) | (simp; omega))))), (P7_x.below (by (with_reducible repeat' first | exact Below.refl _ _ | assumption | apply belA | apply Below.drew | apply below_drewN | refine belS ?_ (by first | omega | (simp; done) | (simp; omega))))), (P7_y.below (by (with_reducible repeat' first | exact Below.refl _ _ | assumption | apply belA | apply Below.drew | apply below_drewN | refine belS ?_ (by first | omega | (simp; done) | (simp; omega))))), (show Bx _ w7.heap.size [.bool sN, .slice (G3 1 0).1 ZN.length (G3 1 0).2, .bool sA, .slice (G3 4 0).1 ZA.length (G3 4 0).2, .bool sS, .slice (G3 7 0).1 ZS.length (G3 7 0).2, .bool sM, .slice (G3 10 0).1 ZM.length (G3 10 0).2] from (by (with_reducible repeat' first | assumption | exact Bx.new _ _ _ | refine Bx.newAt _ _ _ (by simp; done) | apply Bx.dr | apply Bx.drN | apply Bx.al | refine Bx.st ?_ (by first | assumption | omega | (simp; done) | (simp; omega))))), (ha7.below (by (with_reducible repeat' first | exact Below.refl _ _ | assumption | apply belA | apply Below.drew | apply below_drewN | refine belS ?_ (by first | omega | (simp; done) | (simp; omega))))), (hb7.below (by (with_reducible repeat' first | exact Below.refl _ _ | assumption | apply belA | apply Below.drew | apply below_drewN | refine belS ?_ (by first | omega | (simp; done) | (simp; omega))))), (hxs7.below (by (with_reducible repeat' first | exact Below.refl _ _ | assumption | apply belA | apply Below.drew | apply below_drewN | refine belS ?_ (by first | omega | (simp; done) | (simp; omega))))), (hys7.below (by (with_reducible repeat' first | exact Below.refl _ _ | assumption | apply belA | apply Below.drew | apply below_drewN | refine belS ?_ (by first | omega | (simp; done) | (simp; omega))))), (anc_below hag7 (show Below w7.heap.size w7 _ from (by (with_reducible repeat' first | exact Below.refl _ _ | assumption | apply belA | apply Below.drew | apply below_drewN | refine belS ?_ (by first | omega | (simp; done) | (simp; omega)))))), (own_below hgN7 (show Below w7.heap.size w7 _ from (by (with_reducible repeat' first | exact Below.refl _ _ | assumption | apply belA | apply Below.drew | apply below_drewN | refine belS ?_ (by first | omega | (simp; done) | (simp; omega)))))), (own_below hgA7 (show Below w7.heap.size w7 _ from (by (with_reducible repeat' first | exact Below.refl _ _ | assumption | apply belA | apply Below.drew | apply below_drewN | refine belS ?_ (by first | omega | (simp; done) | (simp; omega)))))), (own_below hgS7 (show Below w7.heap.size w7 _ from (by (with_reducible repeat' first | exact Below.refl _ _ | assumption | apply belA | apply Below.drew | apply below_drewN | refine belS ?_ (by first | omega | (simp; done) | (simp; omega)))))), (own_below hgM7 (show Below w7.heap.size w7 _ from (by (with_reducible repeat' first | exact Below.refl _ _ | assumption | apply belA | apply Below.drew | apply below_drewN | refine belS ?_ (by first | omega | (simp; done) | (simp; omega)))))), (show Below w.heap.size w _ from (by (with_reducible repeat' first | exact Below.refl _ _ | assumption | apply belA | apply Below.drew | apply below_drewN | refine belS ?_ (by first | omega | (simp; done) | (simp; omega)))))⟩ ?_
  rintro w8 ⟨P8_p, P8_q, P8_x, P8_y, P8_gt, ha8, hb8, hxs8, hys8, hag8, hgN8, hgA8, hgS8, hgM8, hbw8⟩ G4 lo4 hi4
  clear P7_p q7_p P7_q q7_q P7_x q7_x P7_y q7_y ha7 hb7 hxs7 hys7 hag7 hgN7 hgA7 hgS7 hgM7
  have hz8 := hbw8.size
  simp only [List.take_succ_cons, List.take_zero, List.drop_succ_cons, List.drop_zero, List.cons_append, List.nil_append, List.append_nil]
  refine oge_val (by rfl) ?_ ?_
  · exact fun f hf w' h _ => ldI (off := 0) rfl (by rw [← hf]; rfl) (h.1) rfl rfl
  refine oge_call 14 #[.agg #[.bool s, .slice a l.length c]] (by rfl) ?_ ?_ ?_
  · exact fun f hf w' h _ => cl1 rfl (by rw [← hf]; rfl) (by go_simp)
  · rintro w' ⟨p_p, p_q, p_x, p_y, p_gt, r_a, r_b, r_xs, r_ys, r_ag, r_gN, r_gA, r_gS, r_gM, bel⟩ hF; exact HN8.out _ _ _ _ (Below.refl _ _) r_a
  refine oge_val (by rfl) ?_ ?_
  · exact fun f hf w' h _ => ldI (off := 0) rfl (by rw [← hf]; rfl) (h.1) rfl rfl
  refine oge_val (by rfl) ?_ ?_
  · exact fun f hf w' h _ => ldI (off := 0) rfl (by rw [← hf]; rfl) (h.2.1) rfl rfl
  refine oge_call 15 #[.agg #[.bool s, .slice a l.length c], .agg #[.bool t, .slice b k.length d]] (by rfl) ?_ ?_ ?_
  · exact fun f hf w' h _ => cl2 rfl (by rw [← hf]; rfl) (by rw [← hf]; rfl) (by go_simp)
  · rintro w' ⟨p_p, p_q, p_x, p_y, p_gt, r_a, r_b, r_xs, r_ys, r_ag, r_gN, r_gA, r_gS, r_gM, bel⟩ hF; exact HN9.out _ _ _ _ _ _ (Below.refl _ _) r_a r_b
  refine oge_val (by rfl) ?_ ?_
  · exact fun f hf w' h _ => ldI (off := 0) rfl (by rw [← hf]; rfl) (h.1) rfl rfl
  refine oge_val (by rfl) ?_ ?_
  · exact fun f hf w' h _ => ldI (off := 0) rfl (by rw [← hf]; rfl) (h.2.1) rfl rfl
  refine oge_call 16 #[.agg #[.bool s, .slice a l.length c], .agg #[.bool t, .slice b k.length d]] (by rfl) ?_ ?_ ?_
  · exact fun f hf w' h _ => cl2 rfl (by rw [← hf]; rfl) (by rw [← hf]; rfl) (by go_simp)
  · rintro w' ⟨p_p, p_q, p_x, p_y, p_gt, r_a, r_b, r_xs, r_ys, r_ag, r_gN, r_gA, r_gS, r_gM, bel⟩ hF; exact HN10.out _ _ _ _ _ _ (Below.refl _ _) r_a r_b
  refine oge_val (by rfl) ?_ ?_
  · exact fun f hf w' h _ => ldI (off := 0) rfl (by rw [← hf]; rfl) (h.1) rfl rfl
  refine oge_val (by rfl) ?_ ?_
  · exact fun f hf w' h _ => ldI (off := 0) rfl (by rw [← hf]; rfl) (h.2.1) rfl rfl
  refine oge_call 17 #[.agg #[.bool s, .slice a l.length c], .agg #[.bool t, .slice b k.length d]] (by rfl) ?_ ?_ ?_
  · exact fun f hf w' h _ => cl2 rfl (by rw [← hf]; rfl) (by rw [← hf]; rfl) (by go_simp)
  · rintro w' ⟨p_p, p_q, p_x, p_y, p_gt, r_a, r_b, r_xs, r_ys, r_ag, r_gN, r_gA, r_gS, r_gM, bel⟩ hF; exact HN11.out _ _ _ _ _ _ (Below.refl _ _) r_a r_b
  refine oge_nil ?_
  rintro w9 ⟨P9_p, P9_q, P9_x, P9_y, P9_gt, ha9, hb9, hxs9, hys9, hag9, hgN9, hgA9, hgS9, hgM9, hbw9⟩ hd9 hA
  have hz9 := hbw9.size
  obtain ⟨⟨la1, lb1, lc1, fw1⟩, ld1, ⟨⟨la4, lb4, lc4, fw4⟩, ld4, ⟨⟨la7, lb7, lc7, fw7⟩, ld7, ⟨⟨la10, lb10, lc10, fw10⟩, ld10, -⟩⟩⟩⟩ := hA
  have fa1 : RwfP [ZN] (G4 1) (lo4 1) (hi4 1) w9 := fw1
  have fa4 : RwfP [ZA] (G4 4) (lo4 4) (hi4 4) w9 := fw4
  have fa7 : RwfP [ZS] (G4 7) (lo4 7) (hi4 7) w9 := fw7
  have fa10 : RwfP [ZM] (G4 10) (lo4 10) (hi4 10) w9 := fw10
  have qq8_p : w.heap.size < w8.heap.size := P8_p.2
  have qq8_q : (w.heap.size + 1) < w8.heap.size := P8_q.2
  have qq8_x : (lo1 4) < w8.heap.size := P8_x.2
  have qq8_y : (lo1 5) < w8.heap.size := P8_y.2
  have qq8_gt : w7.heap.size < w8.heap.size := P8_gt.2
  have hwN : RwF w8.heap.size w9 (G4 1 0).1 ZN := (fa1 0 _ rfl).mono la1
  have hwA : RwF w8.heap.size w9 (G4 4 0).1 ZA := (fa4 0 _ rfl).mono la4
  have hwS : RwF w8.heap.size w9 (G4 7 0).1 ZS := (fa7 0 _ rfl).mono la7
  have hwM : RwF w8.heap.size w9 (G4 10 0).1 ZM := (fa10 0 _ rfl).mono la10
  have qgt := P8_gt.2
  have hwb := want4 hwN hwA hwS hwM
  clear P8_p P8_q P8_x P8_y P8_gt ha8 hb8 hxs8 hys8 hag8 hgN8 hgA8 hgS8 hgM8 ld1 fw1 ld4 fw4 ld7 fw7 ld10 fw10 hd9
  have q9_p := P9_p.2
  have q9_q := P9_q.2
  have q9_x := P9_x.2
  have q9_y := P9_y.2
  have q9_gt := P9_gt.2
  simp only [puts, putD, Act.put, List.setIfInBounds_toArray, List.set_cons_zero, List.set_cons_succ]
  go_wp2
  simp only [Nat.reduceAdd]
  have qgt4 := P9_gt.2
  go_loopw [9, 10, 54, 73] (fun _ _ i _ w10 => ∃ p, p ≤ 4 ∧ i = .int .i64 (p : Nat) ∧ Below w6.heap.size w6 w10 ∧ Ga w10 w7.heap.size (pick4 sN sA sS sM) (pick4 (G3 1 0).1 (G3 4 0).1 (G3 7 0).1 (G3 10 0).1) (pick4 (G3 1 0).2 (G3 4 0).2 (G3 7 0).2 (G3 10 0).2) (pick4 ZN ZA ZS ZM) ∧ Ga w10 w9.heap.size (pick4 sN sA sS sM) (pick4 (G4 1 0).1 (G4 4 0).1 (G4 7 0).1 (G4 10 0).1) (pick4 (G4 1 0).2 (G4 4 0).2 (G4 7 0).2 (G4 10 0).2) (pick4 ZN ZA ZS ZM) ∧ Own4 w10 w6.heap.size p (pick4 (G3 1 0).1 (G3 4 0).1 (G3 7 0).1 (G3 10 0).1) (pick4 (G3 1 0).2 (G3 4 0).2 (G3 7 0).2 (G3 10 0).2) (pick4 ZN ZA ZS ZM) ∧ ∀ q, q < 4 → Rw w10 ((pick4 (G4 1 0).1 (G4 4 0).1 (G4 7 0).1 (G4 10 0).1) q) ((pick4 ZN ZA ZS ZM) q)) (fun _ _ i _ _ => 4 - (intOf i).toNat)
  case atStart =>
    refine ⟨0, Nat.zero_le _, rfl, ?_, ?_, ?_, ?_, ?_⟩
    · exact anc_below hag9 (show Below w9.heap.size w9 _ from (by (with_reducible repeat' first | exact Below.refl _ _ | assumption | apply belA | apply Below.drew | apply below_drewN | refine belS ?_ (by first | omega | (simp; done) | (simp; omega)))))
    · exact (ga_of P9_gt).below (show Below w9.heap.size w9 _ from (by (with_reducible repeat' first | exact Below.refl _ _ | assumption | apply belA | apply Below.drew | apply below_drewN | refine belS ?_ (by first | omega | (simp; done) | (simp; omega)))))
    · exact ga_of (show Bx _ w9.heap.size [.bool sN, .slice (G4 1 0).1 ZN.length (G4 1 0).2, .bool sA, .slice (G4 4 0).1 ZA.length (G4 4 0).2, .bool sS, .slice (G4 7 0).1 ZS.length (G4 7 0).2, .bool sM, .slice (G4 10 0).1 ZM.length (G4 10 0).2] from (by (with_reducible repeat' first | assumption | exact Bx.new _ _ _ | refine Bx.newAt _ _ _ (by simp; done) | apply Bx.dr | apply Bx.drN | apply Bx.al | refine Bx.st ?_ (by first | assumption | omega | (simp; done) | (simp; omega)))))
    · exact own4_of (own_below hgN9 (show Below w9.heap.size w9 _ from (by (with_reducible repeat' first | exact Below.refl _ _ | assumption | apply belA | apply Below.drew | apply below_drewN | refine belS ?_ (by first | omega | (simp; done) | (simp; omega)))))) (own_below hgA9 (show Below w9.heap.size w9 _ from (by (with_reducible repeat' first | exact Below.refl _ _ | assumption | apply belA | apply Below.drew | apply below_drewN | refine belS ?_ (by first | omega | (simp; done) | (simp; omega)))))) (own_below hgS9 (show Below w9.heap.size w9 _ from (by (with_reducible repeat' first | exact Below.refl _ _ | assumption | apply belA | apply Below.drew | apply below_drewN | refine belS ?_ (by first | omega | (simp; done) | (simp; omega)))))) (own_below hgM9 (show Below w9.heap.size w9 _ from (by (with_reducible repeat' first | exact Below.refl _ _ | assumption | apply belA | apply Below.drew | apply below_drewN | refine belS ?_ (by first | omega | (simp; done) | (simp; omega))))))
    · exact rows4 (hwN.1.below (show Below w9.heap.size w9 _ from (by (with_reducible repeat' first | exact Below.refl _ _ | assumption | apply belA | apply Below.drew | apply below_drewN | refine belS ?_ (by first | omega | (simp; done) | (simp; omega)))))) (hwA.1.below (show Below w9.heap.size w9 _ from (by (with_reducible repeat' first | exact Below.refl _ _ | assumption | apply belA | apply Below.drew | apply below_drewN | refine belS ?_ (by first | omega | (simp; done) | (simp; omega)))))) (hwS.1.below (show Below w9.heap.size w9 _ from (by (with_reducible repeat' first | exact Below.refl _ _ | assumption | apply belA | apply Below.drew | apply below_drewN | refine belS ?_ (by first | omega | (simp; done) | (simp; omega)))))) (hwM.1.below (show Below w9.heap.size w9 _ from (by (with_reducible repeat' first | exact Below.refl _ _ | assumption | apply belA | apply Below.drew | apply below_drewN | refine belS ?_ (by first | omega | (simp; done) | (simp; omega))))))
  case round =>
    rename World => w10
    obtain ⟨p, hp, rfl, hag10, gG10, gW10, hOw, hWr⟩ := hrel
    have hlen := len4 nN nA nS nM
    have hzB := hag10.size
    by_cases hlt : p < 4
    · skip
      generalize (pick4 sN sA sS sM) = gs at *
      generalize (pick4 (G3 1 0).1 (G3 4 0).1 (G3 7 0).1 (G3 10 0).1) = ga at *
      generalize (pick4 (G3 1 0).2 (G3 4 0).2 (G3 7 0).2 (G3 10 0).2) = gc at *
      generalize (pick4 ZN ZA ZS ZM) = gZ at *
      generalize (pick4 (G4 1 0).1 (G4 4 0).1 (G4 7 0).1 (G4 10 0).1) = wa4 at *
      generalize (pick4 (G4 1 0).2 (G4 4 0).2 (G4 7 0).2 (G4 10 0).2) = wc4 at *
      obtain ⟨cg1, cg2⟩ := gG10 p hlt
      obtain ⟨cw1, cw2⟩ := gW10 p hlt
      have ho := hOw p (Nat.le_refl _) hlt
      have hw := hWr p hlt
      have hZ := hlen p hlt
      obtain ⟨A, eA⟩ : ∃ x, ga p = x := ⟨_, rfl⟩
      obtain ⟨C1, eC1⟩ : ∃ x, gc p = x := ⟨_, rfl⟩
      obtain ⟨A2, eA2⟩ : ∃ x, wa4 p = x := ⟨_, rfl⟩
      obtain ⟨C2, eC2⟩ : ∃ x, wc4 p = x := ⟨_, rfl⟩
      obtain ⟨S, eS⟩ : ∃ x, gs p = x := ⟨_, rfl⟩
      obtain ⟨Zp, eZ⟩ : ∃ x, gZ p = x := ⟨_, rfl⟩
      rw [eA, eC1, eZ] at cg2 ho
      rw [eS] at cg1 cw1
      rw [eA2, eC2, eZ] at cw2
      rw [eA2, eZ] at hw
      rw [eZ] at hZ
      have d1 : decide ((p : Int) < 4) = true := by rw [decide_eq_true_iff]; omega
      have d2 : decide (p < 4) = true := by rw [decide_eq_true_iff]; omega
      have d3 : (p : Int) < 4 := by omega
      have d4 : (0 : Int) ≤ (p : Int) := by omega
      go_wp2
      go_region_held3 (fun w' => w'.cell? ⟨w7.heap.size, p * 2, none⟩ = some (.bool S) ∧ w'.cell? ⟨w7.heap.size, p * 2 + 1, none⟩ = some (.slice A Zp.length C1) ∧ w'.cell? ⟨w9.heap.size, p * 2, none⟩ = some (.bool S) ∧ w'.cell? ⟨w9.heap.size, p * 2 + 1, none⟩ = some (.slice A2 Zp.length C2)) (first | exact ⟨cgA1, cgA, cwA1, cwA2⟩ | exact ⟨cg1, cg2, cw1, cw2⟩ | (refine ⟨?_, ?_, ?_, ?_⟩ <;> go_simp)) ((first
        | (go_at_call 18; (with_reducible refine (zsame_h S Zp hZ _ w10 A A2 C1 C2 (by (with_reducible repeat' first | exact Below.refl _ _ | assumption | apply belA | apply Below.drew | apply below_drewN | refine belS ?_ (by first | omega | (simp; done) | (simp; omega)))) (Rw.of_own ho) hw).mono ?_); rintro e wA ⟨rfl, hca⟩; have hE : Below w10.heap.size w10 wA := bel_step (by (with_reducible repeat' first | exact Below.refl _ _ | assumption | apply belA | apply Below.drew | apply below_drewN | refine belS ?_ (by first | omega | (simp; done) | (simp; omega)))) hca; have cgA1 := bcs hE cg1; have cgA := bcs hE cg2; have cwA1 := bcs hE cw1; have cwA2 := bcs hE cw2; have hoA := own_below ho hE; have hagA := anc_below hag10 hE; have gGa := gG10.below hE; have gWa := gW10.below hE; have hOwA : Own4 wA w6.heap.size p ga gc gZ := fun q h1 h2 => own_below (hOw q h1 h2) hE; have hWrA : ∀ q, q < 4 → Rw wA (wa4 q) (gZ q) := fun q hq => (hWr q hq).below hE; have hzA := hagA.size)
        ))
      go_wp2
      rcases Nat.eq_zero_or_pos Zp.length with h0 | h0
      · have h1 : decide ((0 : Int) < (Zp.length : Int)) = false := by rw [decide_eq_false_iff_not]; omega
        have h2 : decide (0 < Zp.length) = false := by rw [decide_eq_false_iff_not]; omega
        go_loopw [10, 73] (fun _ i wr => i = .int .i64 0 ∧ wr = wA) (fun _ _ _ => 0)
        case atStart => exact ⟨rfl, rfl⟩
        case round =>
          obtain ⟨rfl, rfl⟩ := hrel
          go_wp2
          go_roundw
          case rel =>
            refine ⟨p + 1, by omega, by go_num, ?_, ?_, ?_, ?_, ?_⟩
            · exact hagA
            · exact gGa
            · exact gWa
            · exact fun q h1 h2 => hOwA q (by omega) h2
            · exact hWrA
          case measure => simp [intOf] <;> omega
      · obtain ⟨gM, rfl, hgM⟩ := own_form hoA h0
        have hgL := (hoA.lt gM rfl).2
        have hu := hub p _ hlt eA
        simp only at hu
        have nG : w7.heap.size ≠ gM := by omega
        have nW : w9.heap.size ≠ gM := by omega
        go_loopw [10, 73] (fun _ i wr => ∃ (r : Nat) (Q : List (BitVec 32)), r ≤ Zp.length ∧ i = .int .i64 r ∧ Q.length = Zp.length ∧ wr.ownsRow w6.heap.size 32 1 (.slice (some ⟨gM, 0, none⟩) Zp.length C1) Zp.length (bv32 Q) ∧ wA.grownBy wr (some gM)) (fun _ i _ => Zp.length - (intOf i).toNat)
        case atStart => exact ⟨0, Zp, Nat.zero_le _, rfl, rfl, hoA, grownBy_same _ _⟩
        case round =>
          obtain ⟨r, Q, hr2, rfl, hQ, hown, hg⟩ := hrel
          have cgB := hg.cell cgA (by intro e; exact nG (Option.some.inj e))
          by_cases hl : r < Zp.length
          · obtain ⟨d, hd⟩ : ∃ d, Q[r] = d := ⟨_, rfl⟩
            have hc3 := own_cell hown r (.int .u32 (d.toNat : Int)) (by simp [bv32, show r < Q.length by omega, hd])
            have hf3 := hown.frozenAt r
            have ed := d.isLt
            have h1 : decide ((r : Int) < (Zp.length : Int)) = true := by rw [decide_eq_true_iff]; omega
            have h2 : decide (r < Zp.length) = true := by rw [decide_eq_true_iff]; omega
            go_wp2
            go_roundw
            case rel =>
              refine ⟨r + 1, Q.set r (BitVec.ofNat 32 (d.toNat + 1)), hl, by go_num, by rw [List.length_set]; exact hQ, ?_, hg.trans (grownBy_set _ _ _ _)⟩
              rw [bv32_set]
              have e : ((BitVec.ofNat 32 (d.toNat + 1)).toNat : Int) = ((d.toNat : Int) + 1) % 4294967296 := by rw [BitVec.toNat_ofNat]; omega
              rw [e]
              exact own_set hown _ _
            case measure => simp [intOf] <;> omega
          · have h1 : decide ((r : Int) < (Zp.length : Int)) = false := by rw [decide_eq_false_iff_not]; omega
            have h2 : decide (r < Zp.length) = false := by rw [decide_eq_false_iff_not]; omega
            go_wp2
            go_roundw
            case rel =>
              refine ⟨p + 1, by omega, by go_num, ?_, ?_, ?_, ?_, ?_⟩
              · exact hagA.grown hg hzA (fun q hq => by cases hq; exact (hub p _ hlt eA).1)
              · exact gGa.kept hg nG
              · exact gWa.kept hg nW
              · exact fun q h1 h2 => ownr_kept (hOwA q (by omega) h2) hg (fun pp hpp => hap q p pp _ h2 hlt (by omega) hpp eA)
              · exact fun q hq => row_kept (hWrA q hq) hg (fun hne pp hpp => by have h1 := hwb q pp hq hpp hne; have h2 := (hub p _ hlt eA).2; simp only at h2; omega)
            case measure => simp [intOf] <;> omega
    · have d1 : decide ((p : Int) < 4) = false := by rw [decide_eq_false_iff_not]; omega
      have d2 : decide (p < 4) = false := by rw [decide_eq_false_iff_not]; omega
      have P10_p := kP_p.below hag10
      have P10_q := kP_q.below hag10
      have P10_x := kP_x.below hag10
      have P10_y := kP_y.below hag10
      have ha10 := kh_a.below hag10
      have hb10 := kh_b.below hag10
      have hxs10 := kh_xs.below hag10
      have hys10 := kh_ys.below hag10
      have hbw10 := bel_step kbw hag10
      have hz10 := hbw10.size
      obtain ⟨⟨k10_p_0, g10_p_0⟩, ⟨k10_p_1, g10_p_1⟩, x10_p, y10_p, q10_p⟩ := id P10_p.x2
      obtain ⟨⟨k10_q_0, g10_q_0⟩, ⟨k10_q_1, g10_q_1⟩, x10_q, y10_q, q10_q⟩ := id P10_q.x2
      obtain ⟨⟨k10_x_0, g10_x_0⟩, ⟨k10_x_1, g10_x_1⟩, x10_x, y10_x, q10_x⟩ := id P10_x.x2
      obtain ⟨⟨k10_y_0, g10_y_0⟩, ⟨k10_y_1, g10_y_1⟩, x10_y, y10_y, q10_y⟩ := id P10_y.x2
      go_wp2_with (go_at_call 19; go_loud ((with_reducible refine (kept_q s l1 EX.out cap_xs (hxs10.below (by (with_reducible repeat' first | exact Below.refl _ _ | assumption | apply belA | apply Below.drew | apply below_drewN | refine belS ?_ (by first | omega | (simp; done) | (simp; omega))))) (ha10.below (by (with_reducible repeat' first | exact Below.refl _ _ | assumption | apply belA | apply Below.drew | apply below_drewN | refine belS ?_ (by first | omega | (simp; done) | (simp; omega)))))).mono ?_); rintro e w11 ⟨rfl, hc11⟩; have E11 : Below w10.heap.size w10 w11 := bel_step (by (with_reducible repeat' first | exact Below.refl _ _ | assumption | apply belA | apply Below.drew | apply below_drewN | refine belS ?_ (by first | omega | (simp; done) | (simp; omega)))) hc11; have P11_p := P10_p.below E11; have P11_q := P10_q.below E11; have P11_x := P10_x.below E11; have P11_y := P10_y.below E11; have ha11 := ha10.below E11; have hb11 := hb10.below E11; have hxs11 := hxs10.below E11; have hys11 := hys10.below E11; have hbw11 : Below w.heap.size w w11 := bel_step hbw10 E11; have hz11 := hbw11.size; obtain ⟨⟨k11_p_0, g11_p_0⟩, ⟨k11_p_1, g11_p_1⟩, x11_p, y11_p, q11_p⟩ := id P11_p.x2; obtain ⟨⟨k11_q_0, g11_q_0⟩, ⟨k11_q_1, g11_q_1⟩, x11_q, y11_q, q11_q⟩ := id P11_q.x2; obtain ⟨⟨k11_x_0, g11_x_0⟩, ⟨k11_x_1, g11_x_1⟩, x11_x, y11_x, q11_x⟩ := id P11_x.x2; obtain ⟨⟨k11_y_0, g11_y_0⟩, ⟨k11_y_1, g11_y_1⟩, x11_y, y11_y, q11_y⟩ := id P11_y.x2; clear P10_p q10_p k10_p_0 g10_p_0 k10_p_1 g10_p_1 x10_p y10_p P10_q q10_q k10_q_0 g10_q_0 k10_q_1 g10_q_1 x10_q y10_q P10_x q10_x k10_x_0 g10_x_0 k10_x_1 g10_x_1 x10_x y10_x P10_y q10_y k10_y_0 g10_y_0 k10_y_1 g10_y_1 x10_y y10_y ha10 hb10 hxs10 hys10 E11))
      go_wp2_with (go_at_call 19; go_loud ((with_reducible refine (kept_q t l2 EY.out cap_ys (hys11.below (by (with_reducible repeat' first | exact Below.refl _ _ | assumption | apply belA | apply Below.drew | apply below_drewN | refine belS ?_ (by first | omega | (simp; done) | (simp; omega))))) (hb11.below (by (with_reducible repeat' first | exact Below.refl _ _ | assumption | apply belA | apply Below.drew | apply below_drewN | refine belS ?_ (by first | omega | (simp; done) | (simp; omega)))))).mono ?_); rintro e w12 ⟨rfl, hc12⟩; have E12 : Below w11.heap.size w11 w12 := bel_step (by (with_reducible repeat' first | exact Below.refl _ _ | assumption | apply belA | apply Below.drew | apply below_drewN | refine belS ?_ (by first | omega | (simp; done) | (simp; omega)))) hc12; have P12_p := P11_p.below E12; have P12_q := P11_q.below E12; have P12_x := P11_x.below E12; have P12_y := P11_y.below E12; have ha12 := ha11.below E12; have hb12 := hb11.below E12; have hxs12 := hxs11.below E12; have hys12 := hys11.below E12; have hbw12 : Below w.heap.size w w12 := bel_step hbw11 E12; have hz12 := hbw12.size; obtain ⟨⟨k12_p_0, g12_p_0⟩, ⟨k12_p_1, g12_p_1⟩, x12_p, y12_p, q12_p⟩ := id P12_p.x2; obtain ⟨⟨k12_q_0, g12_q_0⟩, ⟨k12_q_1, g12_q_1⟩, x12_q, y12_q, q12_q⟩ := id P12_q.x2; obtain ⟨⟨k12_x_0, g12_x_0⟩, ⟨k12_x_1, g12_x_1⟩, x12_x, y12_x, q12_x⟩ := id P12_x.x2; obtain ⟨⟨k12_y_0, g12_y_0⟩, ⟨k12_y_1, g12_y_1⟩, x12_y, y12_y, q12_y⟩ := id P12_y.x2; clear P11_p q11_p k11_p_0 g11_p_0 k11_p_1 g11_p_1 x11_p y11_p P11_q q11_q k11_q_0 g11_q_0 k11_q_1 g11_q_1 x11_q y11_q P11_x q11_x k11_x_0 g11_x_0 k11_x_1 g11_x_1 x11_x y11_x P11_y q11_y k11_y_0 g11_y_0 k11_y_1 g11_y_1 x11_y y11_y ha11 hb11 hxs11 hys11 E12))
      go_wp2_with (go_at_call 6; go_loud ((with_reducible refine (example_any _ (hN.below (by (with_reducible repeat' first | exact Below.refl _ _ | assumption | apply belA | apply Below.drew | apply below_drewN | refine belS ?_ (by first | omega | (simp; done) | (simp; omega)))))).mono ?_); rintro e w13 ⟨rfl, hc13⟩; have E13 : Below w12.heap.size w12 w13 := bel_step (by (with_reducible repeat' first | exact Below.refl _ _ | assumption | apply belA | apply Below.drew | apply below_drewN | refine belS ?_ (by first | omega | (simp; done) | (simp; omega)))) hc13; have P13_p := P12_p.below E13; have P13_q := P12_q.below E13; have P13_x := P12_x.below E13; have P13_y := P12_y.below E13; have ha13 := ha12.below E13; have hb13 := hb12.below E13; have hxs13 := hxs12.below E13; have hys13 := hys12.below E13; have hbw13 : Below w.heap.size w w13 := bel_step hbw12 E13; have hz13 := hbw13.size; obtain ⟨⟨k13_p_0, g13_p_0⟩, ⟨k13_p_1, g13_p_1⟩, x13_p, y13_p, q13_p⟩ := id P13_p.x2; obtain ⟨⟨k13_q_0, g13_q_0⟩, ⟨k13_q_1, g13_q_1⟩, x13_q, y13_q, q13_q⟩ := id P13_q.x2; obtain ⟨⟨k13_x_0, g13_x_0⟩, ⟨k13_x_1, g13_x_1⟩, x13_x, y13_x, q13_x⟩ := id P13_x.x2; obtain ⟨⟨k13_y_0, g13_y_0⟩, ⟨k13_y_1, g13_y_1⟩, x13_y, y13_y, q13_y⟩ := id P13_y.x2; clear P12_p q12_p k12_p_0 g12_p_0 k12_p_1 g12_p_1 x12_p y12_p P12_q q12_q k12_q_0 g12_q_0 k12_q_1 g12_q_1 x12_q y12_q P12_x q12_x k12_x_0 g12_x_0 k12_x_1 g12_x_1 x12_x y12_x P12_y q12_y k12_y_0 g12_y_0 k12_y_1 g12_y_1 x12_y y12_y ha12 hb12 hxs12 hys12 E13))
      go_ret
      exact ⟨rfl, by (with_reducible repeat' first | exact Below.refl _ _ | assumption | apply belA | apply Below.drew | apply below_drewN | refine belS ?_ (by first | omega | (simp; done) | (simp; omega)))⟩
end Go.Proofs.YtcofiekfhnfjpaaDoor
