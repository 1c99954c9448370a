
import Derived.Test.YtcofiekfhnfjpaaSE
import Derived.Deep.CutRange
namespace Go.Proofs.Ytcofiekfhnfjpaa
open Go.RowKit
set_option linter.unusedVariables false
set_option linter.unusedSimpArgs false
attribute [local go_sem ↓] Go.wp_at_zero Go.wp_at_succ
attribute [local go_sem] rhoF_tmp rhoF_const rhoF_global rhoF_func
attribute [local go_sem] qV iV
attribute [local go_sem] qE
set_option maxRecDepth 50000 in
set_option maxHeartbeats 4000000 in
theorem lfi_ok (x y : Int) (w : World) (sX sU : Bool) (X Y U V : List (BitVec 32)) (hy : ((y : Int) != 0) = true)
    (hA : ∀ W, Calls Try.prog 21 #[.int .i64 x, .int .i64 y] W (AnsR (qE sX X false Y) (OwP [X, Y]) W))
    (hB : ∀ W, Calls Try.prog 22 #[.int .i64 x, .int .i64 y] W (AnsR (qE sX X false Y) (RwnP [X, Y]) W))
    (hS : ∀ W (a b a2 b2 : Option Addr) (c d c2 d2 : Nat), Rw W a X → Rw W b Y → Rw W a2 X → Rw W b2 Y → Calls Try.prog 14 #[.agg #[.bool sX, .slice a X.length c, .bool false, .slice b Y.length d], .agg #[.bool sX, .slice a2 X.length c2, .bool false, .slice b2 Y.length d2]] W fun e w' => e = .returned (.bool true) ∧ Below W.heap.size W w') (hN : ∀ W (a b : Option Addr) (c d : Nat), X.length ≤ c → Y.length ≤ d → Rw W a X → Rw W b Y → Calls Try.prog 16 #[.agg #[.bool sX, .slice a X.length c, .bool false, .slice b Y.length d]] W fun e w' => e = .returned (.bool true) ∧ Below W.heap.size W w')
    (hC : ∀ W, Calls Try.prog 23 #[.int .i64 x] W (AnsR (qV sU U false V) (OwP [U, V]) W)) (hD : ∀ W, Calls Try.prog 24 #[.int .i64 x] W (AnsR (qV sU U false V) (RwnP [U, V]) W)) (hT : ∀ W (a b a2 b2 : Option Addr) (c d c2 d2 : Nat), Rw W a U → Rw W b V → Rw W a2 U → Rw W b2 V → Calls Try.prog 14 #[.agg #[.bool sU, .slice a U.length c, .bool false, .slice b V.length d], .agg #[.bool sU, .slice a2 U.length c2, .bool false, .slice b2 V.length d2]] W fun e w' => e = .returned (.bool true) ∧ Below W.heap.size W w') (hM : ∀ W (a b : Option Addr) (c d : Nat), U.length ≤ c → V.length ≤ d → Rw W a U → Rw W b V → Calls Try.prog 16 #[.agg #[.bool sU, .slice a U.length c, .bool false, .slice b V.length d]] W fun e w' => e = .returned (.bool true) ∧ Below W.heap.size W w') :
    Calls Try.prog 4 #[.int .i64 x, .int .i64 y] w fun e w' => e = .returned (.bool true) ∧ Below w.heap.size w w' := by
  have HA := Lib.hid hA
  have HB := Lib.hid hB
  have HS := Lib.hid hS
  have HN := Lib.hid hN
  have HC := Lib.hid hC
  have HD := Lib.hid hD
  have HT := Lib.hid hT
  have HM := Lib.hid hM
  clear hA hB hS hN hC hD hT hM
  go_enter Try.func4, Try.ntmps4
  go_wp2_with (go_at_call 21; go_loud ((with_reducible refine (HA.out _).mono ?_); rintro e w1 ⟨γ1, rfl, f1, hc1⟩; have E1 : Below w.heap.size w w1 := bel_step (by (with_reducible repeat' first | exact Below.refl _ _ | assumption | apply belA | apply Below.drew | apply below_drewN | refine belS ?_ (by first | omega | (simp; done) | (simp; omega)))) hc1; have hbw1 : Below w.heap.size w w1 := E1; have hz1 := hbw1.size; have f1r := f1.rws; have hfx1 : Rw w1 (γ1 0).1 X := (f1r 0 _ rfl).2; have cap_fx : X.length ≤ (γ1 0).2 := (f1r 0 _ rfl).1; have hfy1 : Rw w1 (γ1 1).1 Y := (f1r 1 _ rfl).2; have cap_fy : Y.length ≤ (γ1 1).2 := (f1r 1 _ rfl).1; clear E1))
  go_wp2_with (go_at_call 22; go_loud ((with_reducible refine (HB.out _).mono ?_); rintro e w2 ⟨γ2, rfl, f2, hc2⟩; have E2 : Below w1.heap.size w1 w2 := bel_step (by (with_reducible repeat' first | exact Below.refl _ _ | assumption | apply belA | apply Below.drew | apply below_drewN | refine belS ?_ (by first | omega | (simp; done) | (simp; omega)))) hc2; have P2_f : Bx w2 w1.heap.size [.bool sX, .slice (γ1 0).1 X.length (γ1 0).2, .bool false, .slice (γ1 1).1 Y.length (γ1 1).2] := Bx.below (Bx.of4 (by first | with_reducible assumption | go_simp) (by first | with_reducible assumption | go_simp) (by first | with_reducible assumption | go_simp) (by first | with_reducible assumption | go_simp) (by first | with_reducible assumption | go_simp) (by first | with_reducible assumption | go_simp) (by first | with_reducible assumption | go_simp) (by first | with_reducible assumption | go_simp) : Bx _ w1.heap.size [.bool sX, .slice (γ1 0).1 X.length (γ1 0).2, .bool false, .slice (γ1 1).1 Y.length (γ1 1).2]) hc2; have hfx2 := hfx1.below E2; have hfy2 := hfy1.below E2; have hbw2 : Below w.heap.size w w2 := bel_step hbw1 E2; have hz2 := hbw2.size; obtain ⟨⟨k2_f_0, g2_f_0⟩, ⟨k2_f_1, g2_f_1⟩, ⟨k2_f_2, g2_f_2⟩, ⟨k2_f_3, g2_f_3⟩, x2_f, y2_f, q2_f⟩ := id P2_f.x4; have hgx2 : Rw w2 (γ2 0).1 X := f2 0 _ rfl; have hgy2 : Rw w2 (γ2 1).1 Y := f2 1 _ rfl; clear hfx1 hfy1 E2))
  go_wp2_with (go_at_call 23; go_loud ((with_reducible refine (HC.out _).mono ?_); rintro e w3 ⟨γ3, rfl, f3, hc3⟩; have E3 : Below w2.heap.size w2 w3 := bel_step (by (with_reducible repeat' first | exact Below.refl _ _ | assumption | apply belA | apply Below.drew | apply below_drewN | refine belS ?_ (by first | omega | (simp; done) | (simp; omega)))) hc3; have P3_f := P2_f.below E3; have P3_g : Bx w3 w2.heap.size [.bool sX, .slice (γ2 0).1 X.length (γ2 0).2, .bool false, .slice (γ2 1).1 Y.length (γ2 1).2] := Bx.below (Bx.of4 (by first | with_reducible assumption | go_simp) (by first | with_reducible assumption | go_simp) (by first | with_reducible assumption | go_simp) (by first | with_reducible assumption | go_simp) (by first | with_reducible assumption | go_simp) (by first | with_reducible assumption | go_simp) (by first | with_reducible assumption | go_simp) (by first | with_reducible assumption | go_simp) : Bx _ w2.heap.size [.bool sX, .slice (γ2 0).1 X.length (γ2 0).2, .bool false, .slice (γ2 1).1 Y.length (γ2 1).2]) hc3; have hfx3 := hfx2.below E3; have hfy3 := hfy2.below E3; have hgx3 := hgx2.below E3; have hgy3 := hgy2.below E3; have hbw3 : Below w.heap.size w w3 := bel_step hbw2 E3; have hz3 := hbw3.size; obtain ⟨⟨k3_f_0, g3_f_0⟩, ⟨k3_f_1, g3_f_1⟩, ⟨k3_f_2, g3_f_2⟩, ⟨k3_f_3, g3_f_3⟩, x3_f, y3_f, q3_f⟩ := id P3_f.x4; obtain ⟨⟨k3_g_0, g3_g_0⟩, ⟨k3_g_1, g3_g_1⟩, ⟨k3_g_2, g3_g_2⟩, ⟨k3_g_3, g3_g_3⟩, x3_g, y3_g, q3_g⟩ := id P3_g.x4; have f3r := f3.rws; have hhx3 : Rw w3 (γ3 0).1 U := (f3r 0 _ rfl).2; have cap_hx : U.length ≤ (γ3 0).2 := (f3r 0 _ rfl).1; have hhy3 : Rw w3 (γ3 1).1 V := (f3r 1 _ rfl).2; have cap_hy : V.length ≤ (γ3 1).2 := (f3r 1 _ rfl).1; clear P2_f q2_f k2_f_0 g2_f_0 k2_f_1 g2_f_1 k2_f_2 g2_f_2 k2_f_3 g2_f_3 x2_f y2_f hfx2 hfy2 hgx2 hgy2 E3))
  refine wp_region_go0 (fun W => Bx W w1.heap.size [.bool sX, .slice (γ1 0).1 X.length (γ1 0).2, .bool false, .slice (γ1 1).1 Y.length (γ1 1).2] ∧ Bx W w2.heap.size [.bool sX, .slice (γ2 0).1 X.length (γ2 0).2, .bool false, .slice (γ2 1).1 Y.length (γ2 1).2] ∧ Bx W w3.heap.size [.bool sU, .slice (γ3 0).1 U.length (γ3 0).2, .bool false, .slice (γ3 1).1 V.length (γ3 1).2] ∧ Rw W (γ1 0).1 X ∧ Rw W (γ1 1).1 Y ∧ Rw W (γ2 0).1 X ∧ Rw W (γ2 1).1 Y ∧ Rw W (γ3 0).1 U ∧ Rw W (γ3 1).1 V ∧ Below w.heap.size w W) 36 60 [kv (.agg #[.bool sX, .slice (γ1 0).1 X.length (γ1 0).2, .bool false, .slice (γ1 1).1 Y.length (γ1 1).2]), kv (.agg #[.bool sX, .slice (γ2 0).1 X.length (γ2 0).2, .bool false, .slice (γ2 1).1 Y.length (γ2 1).2]), km (.bool true), kv (.bool true), kv (.int .i64 0), kv (.int .i64 0), kv (.bool true), kv (.bool true), kv (.bool true), kv (.int .i64 0), kv (.bool true), kv (.int .i64 y), kv (.bool true), kv (.bool true), kv (.bool true), kv (.bool true), kv (.int .i64 0), kv (.bool false), kv (.bool false), kv (.agg #[.bool sX, .slice (γ1 0).1 X.length (γ1 0).2, .bool false, .slice (γ1 1).1 Y.length (γ1 1).2]), km (.bool true), kv (.bool true), kv (.bool true), kv (.bool true), kv (.agg #[.bool sU, .slice (γ3 0).1 U.length (γ3 0).2, .bool false, .slice (γ3 1).1 V.length (γ3 1).2]), kv (.int .i64 x), .made (fun γ => .agg #[.bool sU, .slice (γ 0).1 U.length (γ 0).2, .bool false, .slice (γ 1).1 V.length (γ 1).2]) (RwnP [U, V]), km (.bool true), kv (.bool true), kv (.bool true), kv (.agg #[.bool sU, .slice (γ3 0).1 U.length (γ3 0).2, .bool false, .slice (γ3 1).1 V.length (γ3 1).2]), km (.bool true), kv (.bool true), kv (.bool true), km (.bool true), kv (.bool true)] [[], [], [], [], [], [], [], [], [], [], [], [], [], [], [], [], [], [], [], [], [], [], [], [], [], [], [], [26], [], [], [], [], [], [], [], []] [2, 20, 26, 27, 31, 34] (by kernel_rfl) (by kernel_rfl) rfl (by kernel_rfl) (by kernel_rfl) (by kernel_rfl) rfl (by repeat' first | exact fits_nil | refine fits_cons ?_ ?_ | exact fit_const _ | exact trueP_fit _ | exact owP_fit _ _ | exact rwsP_fit _ _ | exact rwnP_fit _ _ | exact fit_fresh _ | exact fit_skip) (by rintro w1 w2 ⟨p_f, p_g, p_h, r_fx, r_fy, r_gx, r_gy, r_hx, r_hy, bel⟩ hc; exact ⟨p_f.below hc, p_g.below hc, p_h.below hc, r_fx.below hc, r_fy.below hc, r_gx.below hc, r_gy.below hc, r_hx.below hc, r_hy.below hc, bel_step bel hc⟩) ⟨(P3_f.below (by (with_reducible repeat' first | exact Below.refl _ _ | assumption | apply belA | apply Below.drew | apply below_drewN | refine belS ?_ (by first | omega | (simp; done) | (simp; omega))))), (P3_g.below (by (with_reducible repeat' first | exact Below.refl _ _ | assumption | apply belA | apply Below.drew | apply below_drewN | refine belS ?_ (by first | omega | (simp; done) | (simp; omega))))), (Bx.of4 (by first | with_reducible assumption | go_simp) (by first | with_reducible assumption | go_simp) (by first | with_reducible assumption | go_simp) (by first | with_reducible assumption | go_simp) (by first | with_reducible assumption | go_simp) (by first | with_reducible assumption | go_simp) (by first | with_reducible assumption | go_simp) (by first | with_reducible assumption | go_simp) : Bx _ w3.heap.size [.bool sU, .slice (γ3 0).1 U.length (γ3 0).2, .bool false, .slice (γ3 1).1 V.length (γ3 1).2]), (hfx3.below (by (with_reducible repeat' first | exact Below.refl _ _ | assumption | apply belA | apply Below.drew | apply below_drewN | refine belS ?_ (by first | omega | (simp; done) | (simp; omega))))), (hfy3.below (by (with_reducible repeat' first | exact Below.refl _ _ | assumption | apply belA | apply Below.drew | apply below_drewN | refine belS ?_ (by first | omega | (simp; done) | (simp; omega))))), (hgx3.below (by (with_reducible repeat' first | exact Below.refl _ _ | assumption | apply belA | apply Below.drew | apply below_drewN | refine belS ?_ (by first | omega | (simp; done) | (simp; omega))))), (hgy3.below (by (with_reducible repeat' first | exact Below.refl _ _ | assumption | apply belA | apply Below.drew | apply below_drewN | refine belS ?_ (by first | omega | (simp; done) | (simp; omega))))), (hhx3.below (by (with_reducible repeat' first | exact Below.refl _ _ | assumption | apply belA | apply Below.drew | apply below_drewN | refine belS ?_ (by first | omega | (simp; done) | (simp; omega))))), (hhy3.below (by (with_reducible repeat' first | exact Below.refl _ _ | assumption | apply belA | apply Below.drew | apply below_drewN | refine belS ?_ (by first | omega | (simp; done) | (simp; omega))))), (show Below w.heap.size w _ from (by (with_reducible repeat' first | exact Below.refl _ _ | assumption | apply belA | apply Below.drew | apply below_drewN | refine belS ?_ (by first | omega | (simp; done) | (simp; omega)))))⟩ ?_
  rintro w4 ⟨P4_f, P4_g, P4_h, hfx4, hfy4, hgx4, hgy4, hhx4, hhy4, hbw4⟩ G1 lo1 hi1
  clear P3_f q3_f k3_f_0 g3_f_0 k3_f_1 g3_f_1 k3_f_2 g3_f_2 k3_f_3 g3_f_3 x3_f y3_f P3_g q3_g k3_g_0 g3_g_0 k3_g_1 g3_g_1 k3_g_2 g3_g_2 k3_g_3 g3_g_3 x3_g y3_g hfx3 hfy3 hgx3 hgy3 hhx3 hhy3
  have hz4 := hbw4.size
  simp only [List.take_succ_cons, List.take_zero, List.drop_succ_cons, List.drop_zero, List.cons_append, List.nil_append, List.append_nil]
  refine oge_val (by rfl) ?_ ?_
  · exact fun f hf w' h _ => ldR rfl (by rw [← hf]; rfl) h.1
  refine oge_val (by rfl) ?_ ?_
  · exact fun f hf w' h _ => ldR rfl (by rw [← hf]; rfl) h.2.1
  refine oge_call 14 #[.agg #[.bool sX, .slice (γ1 0).1 X.length (γ1 0).2, .bool false, .slice (γ1 1).1 Y.length (γ1 1).2], .agg #[.bool sX, .slice (γ2 0).1 X.length (γ2 0).2, .bool false, .slice (γ2 1).1 Y.length (γ2 1).2]] (by rfl) ?_ ?_ ?_
  · exact fun f hf w' h _ => cl2 rfl (by rw [← hf]; rfl) (by rw [← hf]; rfl) (by go_simp)
  · rintro w' ⟨p_f, p_g, p_h, r_fx, r_fy, r_gx, r_gy, r_hx, r_hy, bel⟩ hF; exact Calls.mono (HS.out _ _ _ _ _ _ _ _ _ r_fx r_fy r_gx r_gy) (fun _ _ h => AnsR.fix h)
  refine oge_val (by rfl) ?_ ?_
  · exact fun f hf w' h _ => mv rfl (by rw [← hf]; rfl)
  refine oge_val (by rfl) ?_ ?_
  · exact fun f hf w' h _ => mv rfl (by rw [← hf]; rfl)
  refine oge_val (by rfl) ?_ ?_
  · exact fun f hf w' h _ => mv rfl (by rw [← hf]; rfl)
  refine oge_val (by rfl) ?_ ?_
  · intro f hf; have u28 : f 28 = (.int .i64 0) := (by rw [← hf]; rfl); have u29 : f 29 = (.int .i64 0) := (by rw [← hf]; rfl); clear hf; intro w' h _; clear h; go_simp
  refine oge_val (by rfl) ?_ ?_
  · exact fun f hf w' h _ => pkT rfl (by rw [← hf]; rfl) (by rw [← hf]; rfl)
  refine oge_val (by rfl) ?_ ?_
  · exact fun f hf w' h _ => mv rfl (by rw [← hf]; rfl)
  refine oge_val (by rfl) ?_ ?_
  · exact fun f hf w' h _ => mv rfl (by rw [← hf]; rfl)
  refine oge_val (by rfl) ?_ ?_
  · intro f hf; have u33 : f 33 = (.int .i64 0) := (by rw [← hf]; rfl); clear hf; intro w' h _; clear h; go_simp
  refine oge_val (by rfl) ?_ ?_
  · exact fun f hf w' h _ => mv rfl (by rw [← hf]; rfl)
  refine oge_val (by rfl) ?_ ?_
  · intro f hf; have u35 : f 35 = (.int .i64 y) := (by rw [← hf]; rfl); clear hf; intro w' h _; clear h; go_simp
  refine oge_val (by rfl) ?_ ?_
  · intro f hf; have u34 : f 34 = (.bool true) := (by rw [← hf]; rfl); have u36 : f 36 = (.bool true) := (by rw [← hf]; rfl); clear hf; intro w' h _; clear h; go_simp
  refine oge_val (by rfl) ?_ ?_
  · exact fun f hf w' h _ => pkT rfl (by rw [← hf]; rfl) (by rw [← hf]; rfl)
  refine oge_val (by rfl) ?_ ?_
  · exact fun f hf w' h _ => mv rfl (by rw [← hf]; rfl)
  refine oge_val (by rfl) ?_ ?_
  · exact fun f hf w' h _ => mv rfl (by rw [← hf]; rfl)
  refine oge_val (by rfl) ?_ ?_
  · intro f hf; have u40 : f 40 = (.int .i64 0) := (by rw [← hf]; rfl); clear hf; intro w' h _; clear h; go_simp
  refine oge_val (by rfl) ?_ ?_
  · exact fun f hf w' h _ => mv rfl (by rw [← hf]; rfl)
  refine oge_val (by rfl) ?_ ?_
  · exact fun f hf w' h _ => ldR rfl (by rw [← hf]; rfl) h.1
  refine oge_call 16 #[.agg #[.bool sX, .slice (γ1 0).1 X.length (γ1 0).2, .bool false, .slice (γ1 1).1 Y.length (γ1 1).2]] (by rfl) ?_ ?_ ?_
  · exact fun f hf w' h _ => cl1 rfl (by rw [← hf]; rfl) (by go_simp)
  · rintro w' ⟨p_f, p_g, p_h, r_fx, r_fy, r_gx, r_gy, r_hx, r_hy, bel⟩ hF; exact Calls.mono (HN.out _ _ _ _ _ cap_fx cap_fy r_fx r_fy) (fun _ _ h => AnsR.fix h)
  refine oge_val (by rfl) ?_ ?_
  · exact fun f hf w' h _ => pkF rfl (by rw [← hf]; rfl) (by rw [← hf]; rfl)
  refine oge_val (by rfl) ?_ ?_
  · exact fun f hf w' h _ => pkT rfl (by rw [← hf]; rfl) (by rw [← hf]; rfl)
  refine oge_val (by rfl) ?_ ?_
  · exact fun f hf w' h _ => mv rfl (by rw [← hf]; rfl)
  refine oge_val (by rfl) ?_ ?_
  · exact fun f hf w' h _ => ldR rfl (by rw [← hf]; rfl) h.2.2.1
  refine oge_val (by rfl) ?_ ?_
  · exact fun f hf w' h _ => mv rfl (by rw [← hf]; rfl)
  refine oge_call 24 #[.int .i64 x] (by rfl) ?_ ?_ ?_
  · exact fun f hf w' h _ => cl1 rfl (by rw [← hf]; rfl) (by go_simp)
  · rintro w' ⟨p_f, p_g, p_h, r_fx, r_fy, r_gx, r_gy, r_hx, r_hy, bel⟩ hF; exact HD.out _
  refine oge_call 14 #[.agg #[.bool sU, .slice (γ3 0).1 U.length (γ3 0).2, .bool false, .slice (γ3 1).1 V.length (γ3 1).2], .agg #[.bool sU, .slice (G1 26 0).1 U.length (G1 26 0).2, .bool false, .slice (G1 26 1).1 V.length (G1 26 1).2]] (by rfl) ?_ ?_ ?_
  · exact fun f hf w' h _ => cl2 rfl (by rw [← hf]; rfl) (by rw [← hf]; rfl) (by go_simp)
  · rintro w' ⟨p_f, p_g, p_h, r_fx, r_fy, r_gx, r_gy, r_hx, r_hy, bel⟩ hF; have ff26 : RwnP [U, V] (G1 26) (lo1 26) (hi1 26) w' := (hF 26 (List.mem_of_elem_eq_true rfl)).1; exact Calls.mono (HT.out _ _ _ _ _ _ _ _ _ r_hx r_hy (ff26 0 _ rfl) (ff26 1 _ rfl)) (fun _ _ h => AnsR.fix h)
  refine oge_val (by rfl) ?_ ?_
  · exact fun f hf w' h _ => pkT rfl (by rw [← hf]; rfl) (by rw [← hf]; rfl)
  refine oge_val (by rfl) ?_ ?_
  · exact fun f hf w' h _ => mv rfl (by rw [← hf]; rfl)
  refine oge_val (by rfl) ?_ ?_
  · exact fun f hf w' h _ => ldR rfl (by rw [← hf]; rfl) h.2.2.1
  refine oge_call 16 #[.agg #[.bool sU, .slice (γ3 0).1 U.length (γ3 0).2, .bool false, .slice (γ3 1).1 V.length (γ3 1).2]] (by rfl) ?_ ?_ ?_
  · exact fun f hf w' h _ => cl1 rfl (by rw [← hf]; rfl) (by go_simp)
  · rintro w' ⟨p_f, p_g, p_h, r_fx, r_fy, r_gx, r_gy, r_hx, r_hy, bel⟩ hF; exact Calls.mono (HM.out _ _ _ _ _ cap_hx cap_hy r_hx r_hy) (fun _ _ h => AnsR.fix h)
  refine oge_val (by rfl) ?_ ?_
  · exact fun f hf w' h _ => pkT rfl (by rw [← hf]; rfl) (by rw [← hf]; rfl)
  refine oge_val (by rfl) ?_ ?_
  · exact fun f hf w' h _ => mv rfl (by rw [← hf]; rfl)
  refine oge_call 9 #[] (by rfl) ?_ ?_ ?_
  · exact fun f hf w' h _ => cl0 rfl (by go_simp)
  · rintro w' ⟨p_f, p_g, p_h, r_fx, r_fy, r_gx, r_gy, r_hx, r_hy, bel⟩ hF; exact Calls.mono (ex_any _) (fun _ _ h => AnsR.fix h)
  refine oge_val (by rfl) ?_ ?_
  · exact fun f hf w' h _ => pkT rfl (by rw [← hf]; rfl) (by rw [← hf]; rfl)
  refine oge_nil ?_
  rintro w5 ⟨P5_f, P5_g, P5_h, hfx5, hfy5, hgx5, hgy5, hhx5, hhy5, hbw5⟩ hd5 hA
  have hz5 := hbw5.size
  obtain ⟨⟨la2, lb2, lc2, fw2⟩, ld2, ⟨⟨la20, lb20, lc20, fw20⟩, ld20, ⟨⟨la26, lb26, lc26, fw26⟩, ld26, ⟨⟨la27, lb27, lc27, fw27⟩, ld27, ⟨⟨la31, lb31, lc31, fw31⟩, ld31, ⟨⟨la34, lb34, lc34, fw34⟩, ld34, -⟩⟩⟩⟩⟩⟩ := hA
  have fa26 : RwnP [U, V] (G1 26) (lo1 26) (hi1 26) w5 := fw26
  have hi5 : Rw w5 (G1 26 0).1 U := fa26 0 _ rfl
  have hj5 : Rw w5 (G1 26 1).1 V := fa26 1 _ rfl
  have qq4_f : w1.heap.size < w4.heap.size := P4_f.2
  have qq4_g : w2.heap.size < w4.heap.size := P4_g.2
  have qq4_h : w3.heap.size < w4.heap.size := P4_h.2
  clear P4_f P4_g P4_h hfx4 hfy4 hgx4 hgy4 hhx4 hhy4 ld2 fw2 ld20 fw20 ld26 fw26 ld27 fw27 ld31 fw31 ld34 fw34 hd5
  obtain ⟨⟨k5_f_0, g5_f_0⟩, ⟨k5_f_1, g5_f_1⟩, ⟨k5_f_2, g5_f_2⟩, ⟨k5_f_3, g5_f_3⟩, x5_f, y5_f, q5_f⟩ := id P5_f.x4
  obtain ⟨⟨k5_g_0, g5_g_0⟩, ⟨k5_g_1, g5_g_1⟩, ⟨k5_g_2, g5_g_2⟩, ⟨k5_g_3, g5_g_3⟩, x5_g, y5_g, q5_g⟩ := id P5_g.x4
  obtain ⟨⟨k5_h_0, g5_h_0⟩, ⟨k5_h_1, g5_h_1⟩, ⟨k5_h_2, g5_h_2⟩, ⟨k5_h_3, g5_h_3⟩, x5_h, y5_h, q5_h⟩ := id P5_h.x4
  simp only [puts, putD, Act.put, List.setIfInBounds_toArray, List.set_cons_zero, List.set_cons_succ]
  go_wp2
  go_ret
  exact ⟨rfl, by (with_reducible repeat' first | exact Below.refl _ _ | assumption | apply belA | apply Below.drew | apply below_drewN | refine belS ?_ (by first | omega | (simp; done) | (simp; omega)))⟩
set_option maxRecDepth 50000 in
set_option maxHeartbeats 4000000 in
theorem lfi_no (x y : Int) (w : World) (sU : Bool) (U V : List (BitVec 32)) (hy : ((y : Int) != 0) = false)
    (hA : ∀ W, Calls Try.prog 21 #[.int .i64 x, .int .i64 y] W fun e w' => e = .returned (.tuple #[.agg #[.bool false, .slice none 0 0, .bool false, .slice none 0 0], .int .i64 9]) ∧ Below W.heap.size W w')
    (hB : ∀ W, Calls Try.prog 22 #[.int .i64 x, .int .i64 y] W fun e w' => e = .returned (.tuple #[.agg #[.bool false, .slice none 0 0, .bool false, .slice none 0 0], .int .i64 9]) ∧ Below W.heap.size W w')
    (hS : ∀ W, Calls Try.prog 14 #[.agg #[.bool false, .slice none 0 0, .bool false, .slice none 0 0], .agg #[.bool false, .slice none 0 0, .bool false, .slice none 0 0]] W fun e w' => e = .returned (.bool true) ∧ Below W.heap.size W w')
    (hC : ∀ W, Calls Try.prog 23 #[.int .i64 x] W (AnsR (qV sU U false V) (OwP [U, V]) W)) (hD : ∀ W, Calls Try.prog 24 #[.int .i64 x] W (AnsR (qV sU U false V) (RwnP [U, V]) W)) (hT : ∀ W (a b a2 b2 : Option Addr) (c d c2 d2 : Nat), Rw W a U → Rw W b V → Rw W a2 U → Rw W b2 V → Calls Try.prog 14 #[.agg #[.bool sU, .slice a U.length c, .bool false, .slice b V.length d], .agg #[.bool sU, .slice a2 U.length c2, .bool false, .slice b2 V.length d2]] W fun e w' => e = .returned (.bool true) ∧ Below W.heap.size W w') (hM : ∀ W (a b : Option Addr) (c d : Nat), U.length ≤ c → V.length ≤ d → Rw W a U → Rw W b V → Calls Try.prog 16 #[.agg #[.bool sU, .slice a U.length c, .bool false, .slice b V.length d]] W fun e w' => e = .returned (.bool true) ∧ Below W.heap.size W w') :
    Calls Try.prog 4 #[.int .i64 x, .int .i64 y] w fun e w' => e = .returned (.bool true) ∧ Below w.heap.size w w' := by
  have HA := Lib.hid hA
  have HB := Lib.hid hB
  have HS := Lib.hid hS
  have HC := Lib.hid hC
  have HD := Lib.hid hD
  have HT := Lib.hid hT
  have HM := Lib.hid hM
  clear hA hB hS hC hD hT hM
  go_enter Try.func4, Try.ntmps4
  go_wp2_with (go_at_call 21; go_loud ((with_reducible refine (HA.out _).mono ?_); rintro e w1 ⟨rfl, hc1⟩; have E1 : Below w.heap.size w w1 := bel_step (by (with_reducible repeat' first | exact Below.refl _ _ | assumption | apply belA | apply Below.drew | apply below_drewN | refine belS ?_ (by first | omega | (simp; done) | (simp; omega)))) hc1; have hbw1 : Below w.heap.size w w1 := E1; have hz1 := hbw1.size; clear E1))
  go_wp2_with (go_at_call 22; go_loud ((with_reducible refine (HB.out _).mono ?_); rintro e w2 ⟨rfl, hc2⟩; have E2 : Below w1.heap.size w1 w2 := bel_step (by (with_reducible repeat' first | exact Below.refl _ _ | assumption | apply belA | apply Below.drew | apply below_drewN | refine belS ?_ (by first | omega | (simp; done) | (simp; omega)))) hc2; have P2_f : Bx w2 w1.heap.size [.bool false, .slice none 0 0, .bool false, .slice none 0 0] := Bx.below (Bx.of4 (by first | with_reducible assumption | go_simp) (by first | with_reducible assumption | go_simp) (by first | with_reducible assumption | go_simp) (by first | with_reducible assumption | go_simp) (by first | with_reducible assumption | go_simp) (by first | with_reducible assumption | go_simp) (by first | with_reducible assumption | go_simp) (by first | with_reducible assumption | go_simp) : Bx _ w1.heap.size [.bool false, .slice none 0 0, .bool false, .slice none 0 0]) hc2; have hbw2 : Below w.heap.size w w2 := bel_step hbw1 E2; have hz2 := hbw2.size; obtain ⟨⟨k2_f_0, g2_f_0⟩, ⟨k2_f_1, g2_f_1⟩, ⟨k2_f_2, g2_f_2⟩, ⟨k2_f_3, g2_f_3⟩, x2_f, y2_f, q2_f⟩ := id P2_f.x4; clear E2))
  go_wp2_with (go_at_call 23; go_loud ((with_reducible refine (HC.out _).mono ?_); rintro e w3 ⟨γ3, rfl, f3, hc3⟩; have E3 : Below w2.heap.size w2 w3 := bel_step (by (with_reducible repeat' first | exact Below.refl _ _ | assumption | apply belA | apply Below.drew | apply below_drewN | refine belS ?_ (by first | omega | (simp; done) | (simp; omega)))) hc3; have P3_f := P2_f.below E3; have P3_g : Bx w3 w2.heap.size [.bool false, .slice none 0 0, .bool false, .slice none 0 0] := Bx.below (Bx.of4 (by first | with_reducible assumption | go_simp) (by first | with_reducible assumption | go_simp) (by first | with_reducible assumption | go_simp) (by first | with_reducible assumption | go_simp) (by first | with_reducible assumption | go_simp) (by first | with_reducible assumption | go_simp) (by first | with_reducible assumption | go_simp) (by first | with_reducible assumption | go_simp) : Bx _ w2.heap.size [.bool false, .slice none 0 0, .bool false, .slice none 0 0]) hc3; have hbw3 : Below w.heap.size w w3 := bel_step hbw2 E3; have hz3 := hbw3.size; obtain ⟨⟨k3_f_0, g3_f_0⟩, ⟨k3_f_1, g3_f_1⟩, ⟨k3_f_2, g3_f_2⟩, ⟨k3_f_3, g3_f_3⟩, x3_f, y3_f, q3_f⟩ := id P3_f.x4; obtain ⟨⟨k3_g_0, g3_g_0⟩, ⟨k3_g_1, g3_g_1⟩, ⟨k3_g_2, g3_g_2⟩, ⟨k3_g_3, g3_g_3⟩, x3_g, y3_g, q3_g⟩ := id P3_g.x4; have f3r := f3.rws; have hhx3 : Rw w3 (γ3 0).1 U := (f3r 0 _ rfl).2; have cap_hx : U.length ≤ (γ3 0).2 := (f3r 0 _ rfl).1; have hhy3 : Rw w3 (γ3 1).1 V := (f3r 1 _ rfl).2; have cap_hy : V.length ≤ (γ3 1).2 := (f3r 1 _ rfl).1; clear P2_f q2_f k2_f_0 g2_f_0 k2_f_1 g2_f_1 k2_f_2 g2_f_2 k2_f_3 g2_f_3 x2_f y2_f E3))
  refine wp_region_go0 (fun W => Bx W w1.heap.size [.bool false, .slice none 0 0, .bool false, .slice none 0 0] ∧ Bx W w2.heap.size [.bool false, .slice none 0 0, .bool false, .slice none 0 0] ∧ Bx W w3.heap.size [.bool sU, .slice (γ3 0).1 U.length (γ3 0).2, .bool false, .slice (γ3 1).1 V.length (γ3 1).2] ∧ Rw W (γ3 0).1 U ∧ Rw W (γ3 1).1 V ∧ Below w.heap.size w W) 36 60 [kv (.agg #[.bool false, .slice none 0 0, .bool false, .slice none 0 0]), kv (.agg #[.bool false, .slice none 0 0, .bool false, .slice none 0 0]), km (.bool true), kv (.bool true), kv (.int .i64 9), kv (.int .i64 9), kv (.bool true), kv (.bool true), kv (.bool true), kv (.int .i64 9), kv (.bool false), kv (.int .i64 y), kv (.bool false), kv (.bool true), kv (.bool true), kv (.bool true), kv (.int .i64 9), kv (.bool true), kv (.bool true), .skip, .skip, kv (.bool true), kv (.bool true), kv (.bool true), kv (.agg #[.bool sU, .slice (γ3 0).1 U.length (γ3 0).2, .bool false, .slice (γ3 1).1 V.length (γ3 1).2]), kv (.int .i64 x), .made (fun γ => .agg #[.bool sU, .slice (γ 0).1 U.length (γ 0).2, .bool false, .slice (γ 1).1 V.length (γ 1).2]) (RwnP [U, V]), km (.bool true), kv (.bool true), kv (.bool true), kv (.agg #[.bool sU, .slice (γ3 0).1 U.length (γ3 0).2, .bool false, .slice (γ3 1).1 V.length (γ3 1).2]), km (.bool true), kv (.bool true), kv (.bool true), km (.bool true), kv (.bool true)] [[], [], [], [], [], [], [], [], [], [], [], [], [], [], [], [], [], [], [], [], [], [], [], [], [], [], [], [26], [], [], [], [], [], [], [], []] [2, 26, 27, 31, 34] (by kernel_rfl) (by kernel_rfl) rfl (by kernel_rfl) (by kernel_rfl) (by kernel_rfl) rfl (by repeat' first | exact fits_nil | refine fits_cons ?_ ?_ | exact fit_const _ | exact trueP_fit _ | exact owP_fit _ _ | exact rwsP_fit _ _ | exact rwnP_fit _ _ | exact fit_fresh _ | exact fit_skip) (by rintro w1 w2 ⟨p_f, p_g, p_h, r_hx, r_hy, bel⟩ hc; exact ⟨p_f.below hc, p_g.below hc, p_h.below hc, r_hx.below hc, r_hy.below hc, bel_step bel hc⟩) ⟨(P3_f.below (by (with_reducible repeat' first | exact Below.refl _ _ | assumption | apply belA | apply Below.drew | apply below_drewN | refine belS ?_ (by first | omega | (simp; done) | (simp; omega))))), (P3_g.below (by (with_reducible repeat' first | exact Below.refl _ _ | assumption | apply belA | apply Below.drew | apply below_drewN | refine belS ?_ (by first | omega | (simp; done) | (simp; omega))))), (Bx.of4 (by first | with_reducible assumption | go_simp) (by first | with_reducible assumption | go_simp) (by first | with_reducible assumption | go_simp) (by first | with_reducible assumption | go_simp) (by first | with_reducible assumption | go_simp) (by first | with_reducible assumption | go_simp) (by first | with_reducible assumption | go_simp) (by first | with_reducible assumption | go_simp) : Bx _ w3.heap.size [.bool sU, .slice (γ3 0).1 U.length (γ3 0).2, .bool false, .slice (γ3 1).1 V.length (γ3 1).2]), (hhx3.below (by (with_reducible repeat' first | exact Below.refl _ _ | assumption | apply belA | apply Below.drew | apply below_drewN | refine belS ?_ (by first | omega | (simp; done) | (simp; omega))))), (hhy3.below (by (with_reducible repeat' first | exact Below.refl _ _ | assumption | apply belA | apply Below.drew | apply below_drewN | refine belS ?_ (by first | omega | (simp; done) | (simp; omega))))), (show Below w.heap.size w _ from (by (with_reducible repeat' first | exact Below.refl _ _ | assumption | apply belA | apply Below.drew | apply below_drewN | refine belS ?_ (by first | omega | (simp; done) | (simp; omega)))))⟩ ?_
  rintro w4 ⟨P4_f, P4_g, P4_h, hhx4, hhy4, hbw4⟩ G1 lo1 hi1
  clear P3_f q3_f k3_f_0 g3_f_0 k3_f_1 g3_f_1 k3_f_2 g3_f_2 k3_f_3 g3_f_3 x3_f y3_f P3_g q3_g k3_g_0 g3_g_0 k3_g_1 g3_g_1 k3_g_2 g3_g_2 k3_g_3 g3_g_3 x3_g y3_g hhx3 hhy3
  have hz4 := hbw4.size
  simp only [List.take_succ_cons, List.take_zero, List.drop_succ_cons, List.drop_zero, List.cons_append, List.nil_append, List.append_nil]
  refine oge_val (by rfl) ?_ ?_
  · exact fun f hf w' h _ => ldR rfl (by rw [← hf]; rfl) h.1
  refine oge_val (by rfl) ?_ ?_
  · exact fun f hf w' h _ => ldR rfl (by rw [← hf]; rfl) h.2.1
  refine oge_call 14 #[.agg #[.bool false, .slice none 0 0, .bool false, .slice none 0 0], .agg #[.bool false, .slice none 0 0, .bool false, .slice none 0 0]] (by rfl) ?_ ?_ ?_
  · exact fun f hf w' h _ => cl2 rfl (by rw [← hf]; rfl) (by rw [← hf]; rfl) (by go_simp)
  · rintro w' ⟨p_f, p_g, p_h, r_hx, r_hy, bel⟩ hF; exact Calls.mono (HS.out _) (fun _ _ h => AnsR.fix h)
  refine oge_val (by rfl) ?_ ?_
  · exact fun f hf w' h _ => mv rfl (by rw [← hf]; rfl)
  refine oge_val (by rfl) ?_ ?_
  · exact fun f hf w' h _ => mv rfl (by rw [← hf]; rfl)
  refine oge_val (by rfl) ?_ ?_
  · exact fun f hf w' h _ => mv rfl (by rw [← hf]; rfl)
  refine oge_val (by rfl) ?_ ?_
  · intro f hf; have u28 : f 28 = (.int .i64 9) := (by rw [← hf]; rfl); have u29 : f 29 = (.int .i64 9) := (by rw [← hf]; rfl); clear hf; intro w' h _; clear h; go_simp
  refine oge_val (by rfl) ?_ ?_
  · exact fun f hf w' h _ => pkT rfl (by rw [← hf]; rfl) (by rw [← hf]; rfl)
  refine oge_val (by rfl) ?_ ?_
  · exact fun f hf w' h _ => mv rfl (by rw [← hf]; rfl)
  refine oge_val (by rfl) ?_ ?_
  · exact fun f hf w' h _ => mv rfl (by rw [← hf]; rfl)
  refine oge_val (by rfl) ?_ ?_
  · intro f hf; have u33 : f 33 = (.int .i64 9) := (by rw [← hf]; rfl); clear hf; intro w' h _; clear h; go_simp
  refine oge_val (by rfl) ?_ ?_
  · exact fun f hf w' h _ => mv rfl (by rw [← hf]; rfl)
  refine oge_val (by rfl) ?_ ?_
  · intro f hf; have u35 : f 35 = (.int .i64 y) := (by rw [← hf]; rfl); clear hf; intro w' h _; clear h; go_simp
  refine oge_val (by rfl) ?_ ?_
  · intro f hf; have u34 : f 34 = (.bool false) := (by rw [← hf]; rfl); have u36 : f 36 = (.bool false) := (by rw [← hf]; rfl); clear hf; intro w' h _; clear h; go_simp
  refine oge_val (by rfl) ?_ ?_
  · exact fun f hf w' h _ => pkT rfl (by rw [← hf]; rfl) (by rw [← hf]; rfl)
  refine oge_val (by rfl) ?_ ?_
  · exact fun f hf w' h _ => mv rfl (by rw [← hf]; rfl)
  refine oge_val (by rfl) ?_ ?_
  · exact fun f hf w' h _ => mv rfl (by rw [← hf]; rfl)
  refine oge_val (by rfl) ?_ ?_
  · intro f hf; have u40 : f 40 = (.int .i64 9) := (by rw [← hf]; rfl); clear hf; intro w' h _; clear h; go_simp
  refine oge_val (by rfl) ?_ ?_
  · exact fun f hf w' h _ => mv rfl (by rw [← hf]; rfl)
  refine oge_skip (by rfl) ?_
  refine oge_skip (by rfl) ?_
  refine oge_val (by rfl) ?_ ?_
  · exact fun f hf w' h _ => pkT rfl (by rw [← hf]; rfl) (by rw [← hf]; rfl)
  refine oge_val (by rfl) ?_ ?_
  · exact fun f hf w' h _ => pkT rfl (by rw [← hf]; rfl) (by rw [← hf]; rfl)
  refine oge_val (by rfl) ?_ ?_
  · exact fun f hf w' h _ => mv rfl (by rw [← hf]; rfl)
  refine oge_val (by rfl) ?_ ?_
  · exact fun f hf w' h _ => ldR rfl (by rw [← hf]; rfl) h.2.2.1
  refine oge_val (by rfl) ?_ ?_
  · exact fun f hf w' h _ => mv rfl (by rw [← hf]; rfl)
  refine oge_call 24 #[.int .i64 x] (by rfl) ?_ ?_ ?_
  · exact fun f hf w' h _ => cl1 rfl (by rw [← hf]; rfl) (by go_simp)
  · rintro w' ⟨p_f, p_g, p_h, r_hx, r_hy, bel⟩ hF; exact HD.out _
  refine oge_call 14 #[.agg #[.bool sU, .slice (γ3 0).1 U.length (γ3 0).2, .bool false, .slice (γ3 1).1 V.length (γ3 1).2], .agg #[.bool sU, .slice (G1 26 0).1 U.length (G1 26 0).2, .bool false, .slice (G1 26 1).1 V.length (G1 26 1).2]] (by rfl) ?_ ?_ ?_
  · exact fun f hf w' h _ => cl2 rfl (by rw [← hf]; rfl) (by rw [← hf]; rfl) (by go_simp)
  · rintro w' ⟨p_f, p_g, p_h, r_hx, r_hy, bel⟩ hF; have ff26 : RwnP [U, V] (G1 26) (lo1 26) (hi1 26) w' := (hF 26 (List.mem_of_elem_eq_true rfl)).1; exact Calls.mono (HT.out _ _ _ _ _ _ _ _ _ r_hx r_hy (ff26 0 _ rfl) (ff26 1 _ rfl)) (fun _ _ h => AnsR.fix h)
  refine oge_val (by rfl) ?_ ?_
  · exact fun f hf w' h _ => pkT rfl (by rw [← hf]; rfl) (by rw [← hf]; rfl)
  refine oge_val (by rfl) ?_ ?_
  · exact fun f hf w' h _ => mv rfl (by rw [← hf]; rfl)
  refine oge_val (by rfl) ?_ ?_
  · exact fun f hf w' h _ => ldR rfl (by rw [← hf]; rfl) h.2.2.1
  refine oge_call 16 #[.agg #[.bool sU, .slice (γ3 0).1 U.length (γ3 0).2, .bool false, .slice (γ3 1).1 V.length (γ3 1).2]] (by rfl) ?_ ?_ ?_
  · exact fun f hf w' h _ => cl1 rfl (by rw [← hf]; rfl) (by go_simp)
  · rintro w' ⟨p_f, p_g, p_h, r_hx, r_hy, bel⟩ hF; exact Calls.mono (HM.out _ _ _ _ _ cap_hx cap_hy r_hx r_hy) (fun _ _ h => AnsR.fix h)
  refine oge_val (by rfl) ?_ ?_
  · exact fun f hf w' h _ => pkT rfl (by rw [← hf]; rfl) (by rw [← hf]; rfl)
  refine oge_val (by rfl) ?_ ?_
  · exact fun f hf w' h _ => mv rfl (by rw [← hf]; rfl)
  refine oge_call 9 #[] (by rfl) ?_ ?_ ?_
  · exact fun f hf w' h _ => cl0 rfl (by go_simp)
  · rintro w' ⟨p_f, p_g, p_h, r_hx, r_hy, bel⟩ hF; exact Calls.mono (ex_any _) (fun _ _ h => AnsR.fix h)
  refine oge_val (by rfl) ?_ ?_
  · exact fun f hf w' h _ => pkT rfl (by rw [← hf]; rfl) (by rw [← hf]; rfl)
  refine oge_nil ?_
  rintro w5 ⟨P5_f, P5_g, P5_h, hhx5, hhy5, hbw5⟩ hd5 hA
  have hz5 := hbw5.size
  obtain ⟨⟨la2, lb2, lc2, fw2⟩, ld2, ⟨⟨la26, lb26, lc26, fw26⟩, ld26, ⟨⟨la27, lb27, lc27, fw27⟩, ld27, ⟨⟨la31, lb31, lc31, fw31⟩, ld31, ⟨⟨la34, lb34, lc34, fw34⟩, ld34, -⟩⟩⟩⟩⟩ := hA
  have fa26 : RwnP [U, V] (G1 26) (lo1 26) (hi1 26) w5 := fw26
  have hi5 : Rw w5 (G1 26 0).1 U := fa26 0 _ rfl
  have hj5 : Rw w5 (G1 26 1).1 V := fa26 1 _ rfl
  have qq4_f : w1.heap.size < w4.heap.size := P4_f.2
  have qq4_g : w2.heap.size < w4.heap.size := P4_g.2
  have qq4_h : w3.heap.size < w4.heap.size := P4_h.2
  clear P4_f P4_g P4_h hhx4 hhy4 ld2 fw2 ld26 fw26 ld27 fw27 ld31 fw31 ld34 fw34 hd5
  obtain ⟨⟨k5_f_0, g5_f_0⟩, ⟨k5_f_1, g5_f_1⟩, ⟨k5_f_2, g5_f_2⟩, ⟨k5_f_3, g5_f_3⟩, x5_f, y5_f, q5_f⟩ := id P5_f.x4
  obtain ⟨⟨k5_g_0, g5_g_0⟩, ⟨k5_g_1, g5_g_1⟩, ⟨k5_g_2, g5_g_2⟩, ⟨k5_g_3, g5_g_3⟩, x5_g, y5_g, q5_g⟩ := id P5_g.x4
  obtain ⟨⟨k5_h_0, g5_h_0⟩, ⟨k5_h_1, g5_h_1⟩, ⟨k5_h_2, g5_h_2⟩, ⟨k5_h_3, g5_h_3⟩, x5_h, y5_h, q5_h⟩ := id P5_h.x4
  simp only [puts, putD, Act.put, List.setIfInBounds_toArray, List.set_cons_zero, List.set_cons_succ]
  go_wp2
  go_ret
  exact ⟨rfl, by (with_reducible repeat' first | exact Below.refl _ _ | assumption | apply belA | apply Below.drew | apply below_drewN | refine belS ?_ (by first | omega | (simp; done) | (simp; omega)))⟩
theorem sz_int (x y : Int) (hx : x.natAbs < pw 3) (hy : y.natAbs < pw 3) : Sz (Rat.divInt x y) 3 := sz_of hx hy (by omega)
theorem pw3 : (18446744073709551616 : Nat) ≤ pw 3 := by rw [show (18446744073709551616 : Nat) = pw 2 from rfl]; exact pw_mono (by omega)
theorem sz_cast (x : Int) (hx : x.natAbs < pw 3) : Sz (x : Rat) 3 := by
  rw [← Rat.num_divInt_den (x : Rat)]
  exact sz_of hx (by show ((1 : Nat) : Int).natAbs < pw 3; have := pw3; omega) (by omega)
theorem same_self (q : Rat) (n : Nat) (hn : n ≤ 1000000) (h : Sz q n) : ∀ W (a b a2 b2 : Option Addr) (c d c2 d2 : Nat), Rw W a (qX q) → Rw W b (qY q) → Rw W a2 (qX q) → Rw W b2 (qY q) → Calls Try.prog 14 #[.agg #[.bool (qS q), .slice a (qX q).length c, .bool false, .slice b (qY q).length d], .agg #[.bool (qS q), .slice a2 (qX q).length c2, .bool false, .slice b2 (qY q).length d2]] W fun e w' => e = .returned (.bool true) ∧ Below W.heap.size W w' := fun W a b a2 b2 c d c2 d2 p q' r z => by
  obtain ⟨l1, l2⟩ := sz_len h
  exact srat_yes (qS q) false a b a2 b2 c d c2 d2 _ _ W (by omega) (by omega) p q' r z
theorem isn_self (q : Rat) (n : Nat) (hn : n ≤ 300000) (h : Sz q n) : ∀ W (a b : Option Addr) (c d : Nat), (qX q).length ≤ c → (qY q).length ≤ d → Rw W a (qX q) → Rw W b (qY q) → Calls Try.prog 16 #[.agg #[.bool (qS q), .slice a (qX q).length c, .bool false, .slice b (qY q).length d]] W fun e w' => e = .returned (.bool true) ∧ Below W.heap.size W w' := fun W a b c d g1 g2 p q' => by
  obtain ⟨l1, l2⟩ := sz_len h
  have := isn_q (qS q) false a b c d _ _ W (by omega) (by omega) g1 g2 p q'
  rw [rnB_q] at this
  exact this
theorem lfi_w (x y : Int) (w : World) (x0 : -9223372036854775808 ≤ x) (x1 : x ≤ 9223372036854775807) (y0 : -9223372036854775808 ≤ y) (y1 : y ≤ 9223372036854775807) : Calls Try.prog 4 #[.int .i64 x, .int .i64 y] w fun e w' => e = .returned (.bool true) ∧ Below w.heap.size w w' := by
  have hp := pw3
  have hx : x.natAbs < pw 3 := by omega
  have hy : y.natAbs < pw 3 := by omega
  have z1 := sz_int x y hx hy
  have z2 := sz_cast x hx
  by_cases h : y = 0
  · refine lfi_no x y w _ _ _ (by rw [h]; rfl) (fun W => fri_z x y W x0 x1 y0 y1 h) (fun W => rfri_z x y W x0 x1 y0 y1 h) (fun W => ?_) (fun W => fromI_q x W x0 x1) (fun W => rfromI_q x W x0 x1) (same_self _ 3 (by omega) z2) (isn_self _ 3 (by omega) z2)
    exact srat_yes false false none none none none 0 0 0 0 [] [] W (by decide) (by decide) (Rw.nil _ _) (Rw.nil _ _) (Rw.nil _ _) (Rw.nil _ _)
  · exact lfi_ok x y w _ _ _ _ _ _ (by rw [bne_iff_ne]; exact h) (fun W => fri_q x y W x0 x1 y0 y1 h) (fun W => rfri_q x y W x0 x1 y0 y1 h) (same_self _ 3 (by omega) z1) (isn_self _ 3 (by omega) z1) (fun W => fromI_q x W x0 x1) (fun W => rfromI_q x W x0 x1) (same_self _ 3 (by omega) z2) (isn_self _ 3 (by omega) z2)
end Go.Proofs.Ytcofiekfhnfjpaa
