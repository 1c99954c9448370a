
import Derived.Test.YtcofiekfhnfjpaaSC
import Derived.Deep.CutRange
namespace Go.Proofs.Ytcofiekfhnfjpaa
open Go.RowKit
set_option linter.unusedVariables false
set_option linter.unusedSimpArgs false
attribute [local go_sem ↓] Go.wp_at_zero Go.wp_at_succ
attribute [local go_sem] rhoF_tmp rhoF_const rhoF_global rhoF_func
attribute [local go_sem] qV iV
attribute [local go_sem] qE
theorem Rw.new1 (W : World) (n : Nat) : Rw (W.alloc (.cells #[.int .u32 ((BitVec.ofNat 32 n).toNat : Int)] 49)) (some ⟨W.heap.size, 0, none⟩) [BitVec.ofNat 32 n] := Rw.of_cells (heap_alloc_new W _) (by simp [bv32])
theorem Rw.lit (W : World) (n : Nat) (z : Int) {g : Nat} (hz : z = ((BitVec.ofNat 32 n).toNat : Int)) (hg : g = W.heap.size) : Rw (W.alloc (.cells #[.int .u32 z] 49)) (some ⟨g, 0, none⟩) [BitVec.ofNat 32 n] := by
  subst hz hg
  exact Rw.new1 W n
set_option maxRecDepth 50000 in
set_option maxHeartbeats 4000000 in
theorem ex_w (w : World) (sf su sd sZ : Bool) (Xf Yf Xu Yu Xd Yd XZ YZ : List (BitVec 32))
    (hF : ∀ W, Calls Try.prog 21 #[.int .i64 6, .int .i64 (-4)] W (AnsR (qE sf Xf false Yf) (OwP [Xf, Yf]) W)) (hU : ∀ W, Calls Try.prog 21 #[.int .i64 1, .int .i64 2] W (AnsR (qE su Xu false Yu) (OwP [Xu, Yu]) W)) (hD : ∀ W, Calls Try.prog 21 #[.int .i64 (-1), .int .i64 2] W (AnsR (qE sd Xd false Yd) (OwP [Xd, Yd]) W))
    (hS : ∀ W (a b a2 b2 : Option Addr) (c d c2 d2 : Nat), Rw W a Xf → Rw W b Yf → Rw W a2 [3#32] → Rw W b2 [2#32] → Calls Try.prog 14 #[.agg #[.bool sf, .slice a Xf.length c, .bool false, .slice b Yf.length d], .agg #[.bool true, .slice a2 1 c2, .bool false, .slice b2 1 d2]] W fun e w' => e = .returned (.bool true) ∧ Below W.heap.size W w')
    (hR : ∀ W (a b : Option Addr) (c d : Nat), Xu.length ≤ c → Yu.length ≤ d → Rw W a Xu → Rw W b Yu → Calls Try.prog 27 #[.agg #[.bool su, .slice a Xu.length c, .bool false, .slice b Yu.length d]] W (AnsR (iV false [1#32]) (OwP [[1#32]]) W))
    (hE : ∀ W (a b : Option Addr) (c d : Nat), Xd.length ≤ c → Yd.length ≤ d → Rw W a Xd → Rw W b Yd → Calls Try.prog 27 #[.agg #[.bool sd, .slice a Xd.length c, .bool false, .slice b Yd.length d]] W (AnsR (iV true [1#32]) (OwP [[1#32]]) W))
    (hI : ∀ W (s : Bool) (a b : Option Addr) (c d : Nat), Rw W a [1#32] → Rw W b [1#32] → Calls Try.prog 28 #[.agg #[.bool s, .slice a [1#32].length c], .agg #[.bool s, .slice b 1 d]] W fun e w' => e = .returned (.bool true) ∧ Below W.heap.size W w')
    (hZ : ∀ W, Calls Try.prog 23 #[.int .i64 0] W (AnsR (qV sZ XZ false YZ) (OwP [XZ, YZ]) W))
    (hC : ∀ W (a b : Option Addr) (c d : Nat), XZ.length ≤ c → YZ.length ≤ d → Rw W a XZ → Rw W b YZ → Calls Try.prog 34 #[.agg #[.bool false, .slice none 0 0, .bool false, .slice none 0 0], .agg #[.bool sZ, .slice a XZ.length c, .bool false, .slice b YZ.length d]] W fun e w' => e = .returned (.int .i64 0) ∧ Below W.heap.size W w')
    (hN : ∀ W, Calls Try.prog 16 #[.agg #[.bool false, .slice none 0 0, .bool false, .slice none 0 0]] W fun e w' => e = .returned (.bool false) ∧ Below W.heap.size W w')
    (hB : ∀ W (a b : Option Addr), Rw W a [3#32] → Rw W b [2#32] → Calls Try.prog 18 #[.agg #[.bool true, .slice a 1 1, .bool false, .slice b 1 1]] W fun e w' => e = .returned (.int .i64 2) ∧ Below W.heap.size W w') :
    Calls Try.prog 9 #[] w fun e w' => e = .returned (.bool true) ∧ Below w.heap.size w w' := by
  have HF := Lib.hid hF
  have HU := Lib.hid hU
  have HD := Lib.hid hD
  have HS := Lib.hid hS
  have HR := Lib.hid hR
  have HE := Lib.hid hE
  have HI := Lib.hid hI
  have HZ := Lib.hid hZ
  have HC := Lib.hid hC
  have HN := Lib.hid hN
  have HB := Lib.hid hB
  clear hF hU hD hS hR hE hI hZ hC hN hB
  go_enter Try.func9, Try.ntmps9
  go_wp2_with (go_at_call 21; go_loud ((with_reducible refine (HF.out _).mono ?_); rintro e w1 ⟨γ1, rfl, f1, hc1⟩; have hbw1 : Below w.heap.size w w1 := bel_step (show Below w.heap.size w _ from (by (with_reducible repeat' first | exact Below.refl _ _ | assumption | apply belA | apply Below.drew | apply below_drewN | refine belS ?_ (by first | omega | (simp; done) | (simp; omega))))) hc1; have hz1 := hbw1.size; have f1r := f1.rws; have hfx1 : Rw w1 (γ1 0).1 Xf := (f1r 0 _ rfl).2; have cap_fx : Xf.length ≤ (γ1 0).2 := (f1r 0 _ rfl).1; have hfy1 : Rw w1 (γ1 1).1 Yf := (f1r 1 _ rfl).2; have cap_fy : Yf.length ≤ (γ1 1).2 := (f1r 1 _ rfl).1))
  go_wp2_with (go_at_call 21; go_loud ((with_reducible refine (HU.out _).mono ?_); rintro e w2 ⟨γ2, rfl, f2, hc2⟩; have P2_f : Bx w2 w1.heap.size [.bool sf, .slice (γ1 0).1 Xf.length (γ1 0).2, .bool false, .slice (γ1 1).1 Yf.length (γ1 1).2] := Bx.below (Bx.of4 (by first | with_reducible assumption | go_simp) (by first | with_reducible assumption | go_simp) (by first | with_reducible assumption | go_simp) (by first | with_reducible assumption | go_simp) (by first | with_reducible assumption | go_simp) (by first | with_reducible assumption | go_simp) (by first | with_reducible assumption | go_simp) (by first | with_reducible assumption | go_simp) : Bx _ w1.heap.size [.bool sf, .slice (γ1 0).1 Xf.length (γ1 0).2, .bool false, .slice (γ1 1).1 Yf.length (γ1 1).2]) hc2; have hfx2 : Rw w2 (γ1 0).1 Xf := Rw.below (by (repeat' first | with_reducible assumption | (refine Rw.lit _ _ _ (by rfl) ?_; simp; done) | with_reducible apply Rw.dr | with_reducible apply Rw.drN | with_reducible apply Rw.al | refine Rw.sb ?_ (by first | with_reducible assumption | go_simp) | refine Rw.ss ?_ (by first | with_reducible assumption | go_simp) | refine Rw.si ?_ (by first | with_reducible assumption | go_simp))) hc2; have hfy2 : Rw w2 (γ1 1).1 Yf := Rw.below (by (repeat' first | with_reducible assumption | (refine Rw.lit _ _ _ (by rfl) ?_; simp; done) | with_reducible apply Rw.dr | with_reducible apply Rw.drN | with_reducible apply Rw.al | refine Rw.sb ?_ (by first | with_reducible assumption | go_simp) | refine Rw.ss ?_ (by first | with_reducible assumption | go_simp) | refine Rw.si ?_ (by first | with_reducible assumption | go_simp))) hc2; have hbw2 : Below w.heap.size w w2 := bel_step (show Below w.heap.size w _ from (by (with_reducible repeat' first | exact Below.refl _ _ | assumption | apply belA | apply Below.drew | apply below_drewN | refine belS ?_ (by first | omega | (simp; done) | (simp; omega))))) hc2; have hz2 := hbw2.size; obtain ⟨⟨k2_f_0, g2_f_0⟩, ⟨k2_f_1, g2_f_1⟩, ⟨k2_f_2, g2_f_2⟩, ⟨k2_f_3, g2_f_3⟩, x2_f, y2_f, q2_f⟩ := id P2_f.x4; have f2r := f2.rws; have hux2 : Rw w2 (γ2 0).1 Xu := (f2r 0 _ rfl).2; have cap_ux : Xu.length ≤ (γ2 0).2 := (f2r 0 _ rfl).1; have huy2 : Rw w2 (γ2 1).1 Yu := (f2r 1 _ rfl).2; have cap_uy : Yu.length ≤ (γ2 1).2 := (f2r 1 _ rfl).1; clear hfx1 hfy1))
  go_wp2_with (go_at_call 21; go_loud ((with_reducible refine (HD.out _).mono ?_); rintro e w3 ⟨γ3, rfl, f3, hc3⟩; have P3_f : Bx w3 w1.heap.size [.bool sf, .slice (γ1 0).1 Xf.length (γ1 0).2, .bool false, .slice (γ1 1).1 Yf.length (γ1 1).2] := Bx.below (P2_f.below (by (with_reducible repeat' first | exact Below.refl _ _ | assumption | apply belA | apply Below.drew | apply below_drewN | refine belS ?_ (by first | omega | (simp; done) | (simp; omega))))) hc3; have P3_u : Bx w3 w2.heap.size [.bool su, .slice (γ2 0).1 Xu.length (γ2 0).2, .bool false, .slice (γ2 1).1 Yu.length (γ2 1).2] := Bx.below (Bx.of4 (by first | with_reducible assumption | go_simp) (by first | with_reducible assumption | go_simp) (by first | with_reducible assumption | go_simp) (by first | with_reducible assumption | go_simp) (by first | with_reducible assumption | go_simp) (by first | with_reducible assumption | go_simp) (by first | with_reducible assumption | go_simp) (by first | with_reducible assumption | go_simp) : Bx _ w2.heap.size [.bool su, .slice (γ2 0).1 Xu.length (γ2 0).2, .bool false, .slice (γ2 1).1 Yu.length (γ2 1).2]) hc3; have hfx3 : Rw w3 (γ1 0).1 Xf := Rw.below (by (repeat' first | with_reducible assumption | (refine Rw.lit _ _ _ (by rfl) ?_; simp; done) | with_reducible apply Rw.dr | with_reducible apply Rw.drN | with_reducible apply Rw.al | refine Rw.sb ?_ (by first | with_reducible assumption | go_simp) | refine Rw.ss ?_ (by first | with_reducible assumption | go_simp) | refine Rw.si ?_ (by first | with_reducible assumption | go_simp))) hc3; have hfy3 : Rw w3 (γ1 1).1 Yf := Rw.below (by (repeat' first | with_reducible assumption | (refine Rw.lit _ _ _ (by rfl) ?_; simp; done) | with_reducible apply Rw.dr | with_reducible apply Rw.drN | with_reducible apply Rw.al | refine Rw.sb ?_ (by first | with_reducible assumption | go_simp) | refine Rw.ss ?_ (by first | with_reducible assumption | go_simp) | refine Rw.si ?_ (by first | with_reducible assumption | go_simp))) hc3; have hux3 : Rw w3 (γ2 0).1 Xu := Rw.below (by (repeat' first | with_reducible assumption | (refine Rw.lit _ _ _ (by rfl) ?_; simp; done) | with_reducible apply Rw.dr | with_reducible apply Rw.drN | with_reducible apply Rw.al | refine Rw.sb ?_ (by first | with_reducible assumption | go_simp) | refine Rw.ss ?_ (by first | with_reducible assumption | go_simp) | refine Rw.si ?_ (by first | with_reducible assumption | go_simp))) hc3; have huy3 : Rw w3 (γ2 1).1 Yu := Rw.below (by (repeat' first | with_reducible assumption | (refine Rw.lit _ _ _ (by rfl) ?_; simp; done) | with_reducible apply Rw.dr | with_reducible apply Rw.drN | with_reducible apply Rw.al | refine Rw.sb ?_ (by first | with_reducible assumption | go_simp) | refine Rw.ss ?_ (by first | with_reducible assumption | go_simp) | refine Rw.si ?_ (by first | with_reducible assumption | go_simp))) hc3; have hbw3 : Below w.heap.size w w3 := bel_step (show Below w.heap.size w _ from (by (with_reducible repeat' first | exact Below.refl _ _ | assumption | apply belA | apply Below.drew | apply below_drewN | refine belS ?_ (by first | omega | (simp; done) | (simp; omega))))) hc3; have hz3 := hbw3.size; obtain ⟨⟨k3_f_0, g3_f_0⟩, ⟨k3_f_1, g3_f_1⟩, ⟨k3_f_2, g3_f_2⟩, ⟨k3_f_3, g3_f_3⟩, x3_f, y3_f, q3_f⟩ := id P3_f.x4; obtain ⟨⟨k3_u_0, g3_u_0⟩, ⟨k3_u_1, g3_u_1⟩, ⟨k3_u_2, g3_u_2⟩, ⟨k3_u_3, g3_u_3⟩, x3_u, y3_u, q3_u⟩ := id P3_u.x4; have f3r := f3.rws; have hdx3 : Rw w3 (γ3 0).1 Xd := (f3r 0 _ rfl).2; have cap_dx : Xd.length ≤ (γ3 0).2 := (f3r 0 _ rfl).1; have hdy3 : Rw w3 (γ3 1).1 Yd := (f3r 1 _ rfl).2; have cap_dy : Yd.length ≤ (γ3 1).2 := (f3r 1 _ rfl).1; clear P2_f q2_f k2_f_0 g2_f_0 k2_f_1 g2_f_1 k2_f_2 g2_f_2 k2_f_3 g2_f_3 x2_f y2_f hfx2 hfy2 hux2 huy2))
  refine wp_region_go0 (fun W => Bx W w1.heap.size [.bool sf, .slice (γ1 0).1 Xf.length (γ1 0).2, .bool false, .slice (γ1 1).1 Yf.length (γ1 1).2] ∧ Bx W w2.heap.size [.bool su, .slice (γ2 0).1 Xu.length (γ2 0).2, .bool false, .slice (γ2 1).1 Yu.length (γ2 1).2] ∧ Bx W w3.heap.size [.bool sd, .slice (γ3 0).1 Xd.length (γ3 0).2, .bool false, .slice (γ3 1).1 Yd.length (γ3 1).2] ∧ Bx W (w3.heap.size + 1 + 1 + 1) [.bool true, .slice (some ⟨w3.heap.size + 1, 0, none⟩) 1 1, .bool false, .slice (some ⟨w3.heap.size + 1 + 1, 0, none⟩) 1 1] ∧ Bx W (w3.heap.size + 1 + 1 + 1 + 1 + 1) [.bool false, .slice (some ⟨w3.heap.size + 1 + 1 + 1 + 1, 0, none⟩) 1 1] ∧ Bx W (w3.heap.size + 1 + 1 + 1 + 1 + 1 + 1 + 1) [.bool true, .slice (some ⟨w3.heap.size + 1 + 1 + 1 + 1 + 1 + 1, 0, none⟩) 1 1] ∧ Rw W (γ1 0).1 Xf ∧ Rw W (γ1 1).1 Yf ∧ Rw W (γ2 0).1 Xu ∧ Rw W (γ2 1).1 Yu ∧ Rw W (γ3 0).1 Xd ∧ Rw W (γ3 1).1 Yd ∧ Rw W (some ⟨w3.heap.size + 1, 0, none⟩) [3#32] ∧ Rw W (some ⟨w3.heap.size + 1 + 1, 0, none⟩) [2#32] ∧ Rw W (some ⟨w3.heap.size + 1 + 1 + 1 + 1, 0, none⟩) [1#32] ∧ Rw W (some ⟨w3.heap.size + 1 + 1 + 1 + 1 + 1 + 1, 0, none⟩) [1#32] ∧ Below w.heap.size w W) 35 66 [kv (.int .i64 0), kv (.bool true), kv (.bool true), kv (.agg #[.bool sf, .slice (γ1 0).1 Xf.length (γ1 0).2, .bool false, .slice (γ1 1).1 Yf.length (γ1 1).2]), kv (.agg #[.bool true, .slice (some ⟨w3.heap.size + 1, 0, none⟩) 1 1, .bool false, .slice (some ⟨w3.heap.size + 1 + 1, 0, none⟩) 1 1]), km (.bool true), kv (.bool true), kv (.bool true), kv (.agg #[.bool su, .slice (γ2 0).1 Xu.length (γ2 0).2, .bool false, .slice (γ2 1).1 Yu.length (γ2 1).2]), .made (fun γ => .agg #[.bool false, .slice (γ 0).1 [1#32].length (γ 0).2]) (OwP [[1#32]]), kv (.agg #[.bool false, .slice (some ⟨w3.heap.size + 1 + 1 + 1 + 1, 0, none⟩) 1 1]), km (.bool true), kv (.bool true), kv (.bool true), kv (.agg #[.bool sd, .slice (γ3 0).1 Xd.length (γ3 0).2, .bool false, .slice (γ3 1).1 Yd.length (γ3 1).2]), .made (fun γ => .agg #[.bool true, .slice (γ 0).1 [1#32].length (γ 0).2]) (OwP [[1#32]]), kv (.agg #[.bool true, .slice (some ⟨w3.heap.size + 1 + 1 + 1 + 1 + 1 + 1, 0, none⟩) 1 1]), km (.bool true), kv (.bool true), kv (.bool true), kv (.agg #[.bool false, .slice none 0 0, .bool false, .slice none 0 0]), .made (fun γ => .agg #[.bool sZ, .slice (γ 0).1 XZ.length (γ 0).2, .bool false, .slice (γ 1).1 YZ.length (γ 1).2]) (OwP [XZ, YZ]), km (.int .i64 0), kv (.bool true), kv (.bool true), kv (.bool true), kv (.agg #[.bool false, .slice none 0 0, .bool false, .slice none 0 0]), km (.bool false), kv (.bool true), kv (.bool true), kv (.bool true), kv (.agg #[.bool true, .slice (some ⟨w3.heap.size + 1, 0, none⟩) 1 1, .bool false, .slice (some ⟨w3.heap.size + 1 + 1, 0, none⟩) 1 1]), km (.int .i64 2), kv (.bool true), kv (.bool true)] [[], [], [], [], [], [], [], [], [], [], [], [9], [], [], [], [], [], [15], [], [], [], [], [21], [], [], [], [], [], [], [], [], [], [], [], []] [5, 9, 11, 15, 17, 21, 22, 27, 32] (by kernel_rfl) (by kernel_rfl) rfl (by kernel_rfl) (by kernel_rfl) (by kernel_rfl) rfl (by repeat' first | exact fits_nil | refine fits_cons ?_ ?_ | exact fit_const _ | exact trueP_fit _ | exact owP_fit _ _ | exact rwsP_fit _ _ | exact rwnP_fit _ _ | exact fit_fresh _ | exact fit_skip) (by rintro w1 w2 ⟨p_f, p_u, p_d, p_w, p_o, p_b, r_fx, r_fy, r_ux, r_uy, r_dx, r_dy, r_wa, r_wb, r_oa, r_ba, bel⟩ hc; exact ⟨p_f.below hc, p_u.below hc, p_d.below hc, p_w.below hc, p_o.below hc, p_b.below hc, r_fx.below hc, r_fy.below hc, r_ux.below hc, r_uy.below hc, r_dx.below hc, r_dy.below hc, r_wa.below hc, r_wb.below hc, r_oa.below hc, r_ba.below hc, bel_step bel hc⟩) ⟨(P3_f.below (by (with_reducible repeat' first | exact Below.refl _ _ | assumption | apply belA | apply Below.drew | apply below_drewN | refine belS ?_ (by first | omega | (simp; done) | (simp; omega))))), (P3_u.below (by (with_reducible repeat' first | exact Below.refl _ _ | assumption | apply belA | apply Below.drew | apply below_drewN | refine belS ?_ (by first | omega | (simp; done) | (simp; omega))))), (Bx.of4 (by first | with_reducible assumption | go_simp) (by first | with_reducible assumption | go_simp) (by first | with_reducible assumption | go_simp) (by first | with_reducible assumption | go_simp) (by first | with_reducible assumption | go_simp) (by first | with_reducible assumption | go_simp) (by first | with_reducible assumption | go_simp) (by first | with_reducible assumption | go_simp) : Bx _ w3.heap.size [.bool sd, .slice (γ3 0).1 Xd.length (γ3 0).2, .bool false, .slice (γ3 1).1 Yd.length (γ3 1).2]), (Bx.of4 (by first | with_reducible assumption | go_simp) (by first | with_reducible assumption | go_simp) (by first | with_reducible assumption | go_simp) (by first | with_reducible assumption | go_simp) (by first | with_reducible assumption | go_simp) (by first | with_reducible assumption | go_simp) (by first | with_reducible assumption | go_simp) (by first | with_reducible assumption | go_simp) : Bx _ (w3.heap.size + 1 + 1 + 1) [.bool true, .slice (some ⟨w3.heap.size + 1, 0, none⟩) 1 1, .bool false, .slice (some ⟨w3.heap.size + 1 + 1, 0, none⟩) 1 1]), (Bx.of2 (by first | with_reducible assumption | go_simp) (by first | with_reducible assumption | go_simp) (by first | with_reducible assumption | go_simp) (by first | with_reducible assumption | go_simp) : Bx _ (w3.heap.size + 1 + 1 + 1 + 1 + 1) [.bool false, .slice (some ⟨w3.heap.size + 1 + 1 + 1 + 1, 0, none⟩) 1 1]), (Bx.of2 (by first | with_reducible assumption | go_simp) (by first | with_reducible assumption | go_simp) (by first | with_reducible assumption | go_simp) (by first | with_reducible assumption | go_simp) : Bx _ (w3.heap.size + 1 + 1 + 1 + 1 + 1 + 1 + 1) [.bool true, .slice (some ⟨w3.heap.size + 1 + 1 + 1 + 1 + 1 + 1, 0, none⟩) 1 1]), (show Rw _ (γ1 0).1 Xf from (by (repeat' first | with_reducible assumption | (refine Rw.lit _ _ _ (by rfl) ?_; simp; done) | with_reducible apply Rw.dr | with_reducible apply Rw.drN | with_reducible apply Rw.al | refine Rw.sb ?_ (by first | with_reducible assumption | go_simp) | refine Rw.ss ?_ (by first | with_reducible assumption | go_simp) | refine Rw.si ?_ (by first | with_reducible assumption | go_simp)))), (show Rw _ (γ1 1).1 Yf from (by (repeat' first | with_reducible assumption | (refine Rw.lit _ _ _ (by rfl) ?_; simp; done) | with_reducible apply Rw.dr | with_reducible apply Rw.drN | with_reducible apply Rw.al | refine Rw.sb ?_ (by first | with_reducible assumption | go_simp) | refine Rw.ss ?_ (by first | with_reducible assumption | go_simp) | refine Rw.si ?_ (by first | with_reducible assumption | go_simp)))), (show Rw _ (γ2 0).1 Xu from (by (repeat' first | with_reducible assumption | (refine Rw.lit _ _ _ (by rfl) ?_; simp; done) | with_reducible apply Rw.dr | with_reducible apply Rw.drN | with_reducible apply Rw.al | refine Rw.sb ?_ (by first | with_reducible assumption | go_simp) | refine Rw.ss ?_ (by first | with_reducible assumption | go_simp) | refine Rw.si ?_ (by first | with_reducible assumption | go_simp)))), (show Rw _ (γ2 1).1 Yu from (by (repeat' first | with_reducible assumption | (refine Rw.lit _ _ _ (by rfl) ?_; simp; done) | with_reducible apply Rw.dr | with_reducible apply Rw.drN | with_reducible apply Rw.al | refine Rw.sb ?_ (by first | with_reducible assumption | go_simp) | refine Rw.ss ?_ (by first | with_reducible assumption | go_simp) | refine Rw.si ?_ (by first | with_reducible assumption | go_simp)))), (show Rw _ (γ3 0).1 Xd from (by (repeat' first | with_reducible assumption | (refine Rw.lit _ _ _ (by rfl) ?_; simp; done) | with_reducible apply Rw.dr | with_reducible apply Rw.drN | with_reducible apply Rw.al | refine Rw.sb ?_ (by first | with_reducible assumption | go_simp) | refine Rw.ss ?_ (by first | with_reducible assumption | go_simp) | refine Rw.si ?_ (by first | with_reducible assumption | go_simp)))), (show Rw _ (γ3 1).1 Yd from (by (repeat' first | with_reducible assumption | (refine Rw.lit _ _ _ (by rfl) ?_; simp; done) | with_reducible apply Rw.dr | with_reducible apply Rw.drN | with_reducible apply Rw.al | refine Rw.sb ?_ (by first | with_reducible assumption | go_simp) | refine Rw.ss ?_ (by first | with_reducible assumption | go_simp) | refine Rw.si ?_ (by first | with_reducible assumption | go_simp)))), (show Rw _ (some ⟨w3.heap.size + 1, 0, none⟩) [3#32] from (by (repeat' first | with_reducible assumption | (refine Rw.lit _ _ _ (by rfl) ?_; simp; done) | with_reducible apply Rw.dr | with_reducible apply Rw.drN | with_reducible apply Rw.al | refine Rw.sb ?_ (by first | with_reducible assumption | go_simp) | refine Rw.ss ?_ (by first | with_reducible assumption | go_simp) | refine Rw.si ?_ (by first | with_reducible assumption | go_simp)))), (show Rw _ (some ⟨w3.heap.size + 1 + 1, 0, none⟩) [2#32] from (by (repeat' first | with_reducible assumption | (refine Rw.lit _ _ _ (by rfl) ?_; simp; done) | with_reducible apply Rw.dr | with_reducible apply Rw.drN | with_reducible apply Rw.al | refine Rw.sb ?_ (by first | with_reducible assumption | go_simp) | refine Rw.ss ?_ (by first | with_reducible assumption | go_simp) | refine Rw.si ?_ (by first | with_reducible assumption | go_simp)))), (show Rw _ (some ⟨w3.heap.size + 1 + 1 + 1 + 1, 0, none⟩) [1#32] from (by (repeat' first | with_reducible assumption | (refine Rw.lit _ _ _ (by rfl) ?_; simp; done) | with_reducible apply Rw.dr | with_reducible apply Rw.drN | with_reducible apply Rw.al | refine Rw.sb ?_ (by first | with_reducible assumption | go_simp) | refine Rw.ss ?_ (by first | with_reducible assumption | go_simp) | refine Rw.si ?_ (by first | with_reducible assumption | go_simp)))), (show Rw _ (some ⟨w3.heap.size + 1 + 1 + 1 + 1 + 1 + 1, 0, none⟩) [1#32] from (by (repeat' first | with_reducible assumption | (refine Rw.lit _ _ _ (by rfl) ?_; simp; done) | with_reducible apply Rw.dr | with_reducible apply Rw.drN | with_reducible apply Rw.al | refine Rw.sb ?_ (by first | with_reducible assumption | go_simp) | refine Rw.ss ?_ (by first | with_reducible assumption | go_simp) | refine Rw.si ?_ (by first | with_reducible assumption | go_simp)))), (show Below w.heap.size w _ from (by (with_reducible repeat' first | exact Below.refl _ _ | assumption | apply belA | apply Below.drew | apply below_drewN | refine belS ?_ (by first | omega | (simp; done) | (simp; omega)))))⟩ ?_
  rintro w4 ⟨P4_f, P4_u, P4_d, P4_w, P4_o, P4_b, hfx4, hfy4, hux4, huy4, hdx4, hdy4, hwa4, hwb4, hoa4, hba4, hbw4⟩ G1 lo1 hi1
  clear P3_f q3_f k3_f_0 g3_f_0 k3_f_1 g3_f_1 k3_f_2 g3_f_2 k3_f_3 g3_f_3 x3_f y3_f P3_u q3_u k3_u_0 g3_u_0 k3_u_1 g3_u_1 k3_u_2 g3_u_2 k3_u_3 g3_u_3 x3_u y3_u hfx3 hfy3 hux3 huy3 hdx3 hdy3
  have hz4 := hbw4.size
  simp only [List.take_succ_cons, List.take_zero, List.drop_succ_cons, List.drop_zero, List.cons_append, List.nil_append, List.append_nil]
  refine oge_val (by rfl) ?_ ?_
  · exact fun f hf w' h _ => mv rfl (by rw [← hf]; rfl)
  refine oge_val (by rfl) ?_ ?_
  · intro f hf; have u31 : f 31 = (.int .i64 0) := (by rw [← hf]; rfl); clear hf; intro w' h _; clear h; go_simp
  refine oge_val (by rfl) ?_ ?_
  · exact fun f hf w' h _ => mv rfl (by rw [← hf]; rfl)
  refine oge_val (by rfl) ?_ ?_
  · exact fun f hf w' h _ => ldR rfl (by rw [← hf]; rfl) h.1
  refine oge_val (by rfl) ?_ ?_
  · exact fun f hf w' h _ => ldR rfl (by rw [← hf]; rfl) h.2.2.2.1
  refine oge_call 14 #[.agg #[.bool sf, .slice (γ1 0).1 Xf.length (γ1 0).2, .bool false, .slice (γ1 1).1 Yf.length (γ1 1).2], .agg #[.bool true, .slice (some ⟨w3.heap.size + 1, 0, none⟩) 1 1, .bool false, .slice (some ⟨w3.heap.size + 1 + 1, 0, none⟩) 1 1]] (by rfl) ?_ ?_ ?_
  · exact fun f hf w' h _ => cl2 rfl (by rw [← hf]; rfl) (by rw [← hf]; rfl) (by go_simp)
  · rintro w' ⟨p_f, p_u, p_d, p_w, p_o, p_b, r_fx, r_fy, r_ux, r_uy, r_dx, r_dy, r_wa, r_wb, r_oa, r_ba, bel⟩ hF; exact Calls.mono (HS.out _ _ _ _ _ _ _ _ _ r_fx r_fy r_wa r_wb) (fun _ _ h => AnsR.fix h)
  refine oge_val (by rfl) ?_ ?_
  · exact fun f hf w' h _ => pkT rfl (by rw [← hf]; rfl) (by rw [← hf]; rfl)
  refine oge_val (by rfl) ?_ ?_
  · exact fun f hf w' h _ => mv rfl (by rw [← hf]; rfl)
  refine oge_val (by rfl) ?_ ?_
  · exact fun f hf w' h _ => ldR rfl (by rw [← hf]; rfl) h.2.1
  refine oge_call 27 #[.agg #[.bool su, .slice (γ2 0).1 Xu.length (γ2 0).2, .bool false, .slice (γ2 1).1 Yu.length (γ2 1).2]] (by rfl) ?_ ?_ ?_
  · exact fun f hf w' h _ => cl1 rfl (by rw [← hf]; rfl) (by go_simp)
  · rintro w' ⟨p_f, p_u, p_d, p_w, p_o, p_b, r_fx, r_fy, r_ux, r_uy, r_dx, r_dy, r_wa, r_wb, r_oa, r_ba, bel⟩ hF; exact HR.out _ _ _ _ _ cap_ux cap_uy r_ux r_uy
  refine oge_val (by rfl) ?_ ?_
  · exact fun f hf w' h _ => ldI (off := 0) rfl (by rw [← hf]; rfl) (h.2.2.2.2.1) rfl rfl
  refine oge_call 28 #[.agg #[.bool false, .slice (G1 9 0).1 [1#32].length (G1 9 0).2], .agg #[.bool false, .slice (some ⟨w3.heap.size + 1 + 1 + 1 + 1, 0, none⟩) 1 1]] (by rfl) ?_ ?_ ?_
  · exact fun f hf w' h _ => cl2 rfl (by rw [← hf]; rfl) (by rw [← hf]; rfl) (by go_simp)
  · rintro w' ⟨p_f, p_u, p_d, p_w, p_o, p_b, r_fx, r_fy, r_ux, r_uy, r_dx, r_dy, r_wa, r_wb, r_oa, r_ba, bel⟩ hF; have ff9 : OwP [[1#32]] (G1 9) (lo1 9) (hi1 9) w' := (hF 9 (List.mem_of_elem_eq_true rfl)).1; have ff9 := ff9.rws; exact Calls.mono (HI.out _ _ _ _ _ _ (ff9 0 _ rfl).2 r_oa) (fun _ _ h => AnsR.fix h)
  refine oge_val (by rfl) ?_ ?_
  · exact fun f hf w' h _ => pkT rfl (by rw [← hf]; rfl) (by rw [← hf]; rfl)
  refine oge_val (by rfl) ?_ ?_
  · exact fun f hf w' h _ => mv rfl (by rw [← hf]; rfl)
  refine oge_val (by rfl) ?_ ?_
  · exact fun f hf w' h _ => ldR rfl (by rw [← hf]; rfl) h.2.2.1
  refine oge_call 27 #[.agg #[.bool sd, .slice (γ3 0).1 Xd.length (γ3 0).2, .bool false, .slice (γ3 1).1 Yd.length (γ3 1).2]] (by rfl) ?_ ?_ ?_
  · exact fun f hf w' h _ => cl1 rfl (by rw [← hf]; rfl) (by go_simp)
  · rintro w' ⟨p_f, p_u, p_d, p_w, p_o, p_b, r_fx, r_fy, r_ux, r_uy, r_dx, r_dy, r_wa, r_wb, r_oa, r_ba, bel⟩ hF; exact HE.out _ _ _ _ _ cap_dx cap_dy r_dx r_dy
  refine oge_val (by rfl) ?_ ?_
  · exact fun f hf w' h _ => ldI (off := 0) rfl (by rw [← hf]; rfl) (h.2.2.2.2.2.1) rfl rfl
  refine oge_call 28 #[.agg #[.bool true, .slice (G1 15 0).1 [1#32].length (G1 15 0).2], .agg #[.bool true, .slice (some ⟨w3.heap.size + 1 + 1 + 1 + 1 + 1 + 1, 0, none⟩) 1 1]] (by rfl) ?_ ?_ ?_
  · exact fun f hf w' h _ => cl2 rfl (by rw [← hf]; rfl) (by rw [← hf]; rfl) (by go_simp)
  · rintro w' ⟨p_f, p_u, p_d, p_w, p_o, p_b, r_fx, r_fy, r_ux, r_uy, r_dx, r_dy, r_wa, r_wb, r_oa, r_ba, bel⟩ hF; have ff15 : OwP [[1#32]] (G1 15) (lo1 15) (hi1 15) w' := (hF 15 (List.mem_of_elem_eq_true rfl)).1; have ff15 := ff15.rws; exact Calls.mono (HI.out _ _ _ _ _ _ (ff15 0 _ rfl).2 r_ba) (fun _ _ h => AnsR.fix h)
  refine oge_val (by rfl) ?_ ?_
  · exact fun f hf w' h _ => pkT rfl (by rw [← hf]; rfl) (by rw [← hf]; rfl)
  refine oge_val (by rfl) ?_ ?_
  · exact fun f hf w' h _ => mv rfl (by rw [← hf]; rfl)
  refine oge_val (by rfl) ?_ ?_
  · intro f hf; clear hf; intro w' h _; clear h; go_simp
  refine oge_call 23 #[.int .i64 0] (by rfl) ?_ ?_ ?_
  · exact fun f hf w' h _ => cl1 rfl (by rw [← hf]; rfl) (by go_simp)
  · rintro w' ⟨p_f, p_u, p_d, p_w, p_o, p_b, r_fx, r_fy, r_ux, r_uy, r_dx, r_dy, r_wa, r_wb, r_oa, r_ba, bel⟩ hF; exact HZ.out _
  refine oge_call 34 #[.agg #[.bool false, .slice none 0 0, .bool false, .slice none 0 0], .agg #[.bool sZ, .slice (G1 21 0).1 XZ.length (G1 21 0).2, .bool false, .slice (G1 21 1).1 YZ.length (G1 21 1).2]] (by rfl) ?_ ?_ ?_
  · exact fun f hf w' h _ => cl2 rfl (by rw [← hf]; rfl) (by rw [← hf]; rfl) (by go_simp)
  · rintro w' ⟨p_f, p_u, p_d, p_w, p_o, p_b, r_fx, r_fy, r_ux, r_uy, r_dx, r_dy, r_wa, r_wb, r_oa, r_ba, bel⟩ hF; have ff21 : OwP [XZ, YZ] (G1 21) (lo1 21) (hi1 21) w' := (hF 21 (List.mem_of_elem_eq_true rfl)).1; have ff21 := ff21.rws; exact Calls.mono (HC.out _ _ _ _ _ (ff21 0 _ rfl).1 (ff21 1 _ rfl).1 (ff21 0 _ rfl).2 (ff21 1 _ rfl).2) (fun _ _ h => AnsR.fix h)
  refine oge_val (by rfl) ?_ ?_
  · intro f hf; have u53 : f 53 = (.int .i64 0) := (by rw [← hf]; rfl); clear hf; intro w' h _; clear h; go_simp
  refine oge_val (by rfl) ?_ ?_
  · exact fun f hf w' h _ => pkT rfl (by rw [← hf]; rfl) (by rw [← hf]; rfl)
  refine oge_val (by rfl) ?_ ?_
  · exact fun f hf w' h _ => mv rfl (by rw [← hf]; rfl)
  refine oge_val (by rfl) ?_ ?_
  · intro f hf; clear hf; intro w' h _; clear h; go_simp
  refine oge_call 16 #[.agg #[.bool false, .slice none 0 0, .bool false, .slice none 0 0]] (by rfl) ?_ ?_ ?_
  · exact fun f hf w' h _ => cl1 rfl (by rw [← hf]; rfl) (by go_simp)
  · rintro w' ⟨p_f, p_u, p_d, p_w, p_o, p_b, r_fx, r_fy, r_ux, r_uy, r_dx, r_dy, r_wa, r_wb, r_oa, r_ba, bel⟩ hF; exact Calls.mono (HN.out _) (fun _ _ h => AnsR.fix h)
  refine oge_val (by rfl) ?_ ?_
  · intro f hf; have u58 : f 58 = (.bool false) := (by rw [← hf]; rfl); clear hf; intro w' h _; clear h; go_simp
  refine oge_val (by rfl) ?_ ?_
  · exact fun f hf w' h _ => pkT rfl (by rw [← hf]; rfl) (by rw [← hf]; rfl)
  refine oge_val (by rfl) ?_ ?_
  · exact fun f hf w' h _ => mv rfl (by rw [← hf]; rfl)
  refine oge_val (by rfl) ?_ ?_
  · exact fun f hf w' h _ => ldR rfl (by rw [← hf]; rfl) h.2.2.2.1
  refine oge_call 18 #[.agg #[.bool true, .slice (some ⟨w3.heap.size + 1, 0, none⟩) 1 1, .bool false, .slice (some ⟨w3.heap.size + 1 + 1, 0, none⟩) 1 1]] (by rfl) ?_ ?_ ?_
  · exact fun f hf w' h _ => cl1 rfl (by rw [← hf]; rfl) (by go_simp)
  · rintro w' ⟨p_f, p_u, p_d, p_w, p_o, p_b, r_fx, r_fy, r_ux, r_uy, r_dx, r_dy, r_wa, r_wb, r_oa, r_ba, bel⟩ hF; exact Calls.mono (HB.out _ _ _ r_wa r_wb) (fun _ _ h => AnsR.fix h)
  refine oge_val (by rfl) ?_ ?_
  · intro f hf; have u63 : f 63 = (.int .i64 2) := (by rw [← hf]; rfl); clear hf; intro w' h _; clear h; go_simp
  refine oge_val (by rfl) ?_ ?_
  · exact fun f hf w' h _ => pkT rfl (by rw [← hf]; rfl) (by rw [← hf]; rfl)
  refine oge_nil ?_
  rintro w5 ⟨P5_f, P5_u, P5_d, P5_w, P5_o, P5_b, hfx5, hfy5, hux5, huy5, hdx5, hdy5, hwa5, hwb5, hoa5, hba5, hbw5⟩ hd5 hA
  have hz5 := hbw5.size
  obtain ⟨⟨la5, lb5, lc5, fw5⟩, ld5, ⟨⟨la9, lb9, lc9, fw9⟩, ld9, ⟨⟨la11, lb11, lc11, fw11⟩, ld11, ⟨⟨la15, lb15, lc15, fw15⟩, ld15, ⟨⟨la17, lb17, lc17, fw17⟩, ld17, ⟨⟨la21, lb21, lc21, fw21⟩, ld21, ⟨⟨la22, lb22, lc22, fw22⟩, ld22, ⟨⟨la27, lb27, lc27, fw27⟩, ld27, ⟨⟨la32, lb32, lc32, fw32⟩, ld32, -⟩⟩⟩⟩⟩⟩⟩⟩⟩ := hA
  have fo9 : OwP [[1#32]] (G1 9) (lo1 9) (hi1 9) w5 := fw9
  have fa9 := fo9.rws
  have hp5 : Rw w5 (G1 9 0).1 [1#32] := (fa9 0 _ rfl).2
  have cap_p : [1#32].length ≤ (G1 9 0).2 := (fa9 0 _ rfl).1
  have fo15 : OwP [[1#32]] (G1 15) (lo1 15) (hi1 15) w5 := fw15
  have fa15 := fo15.rws
  have hm5 : Rw w5 (G1 15 0).1 [1#32] := (fa15 0 _ rfl).2
  have cap_m : [1#32].length ≤ (G1 15 0).2 := (fa15 0 _ rfl).1
  have fo21 : OwP [XZ, YZ] (G1 21) (lo1 21) (hi1 21) w5 := fw21
  have fa21 := fo21.rws
  have hz5 : Rw w5 (G1 21 0).1 XZ := (fa21 0 _ rfl).2
  have cap_z : XZ.length ≤ (G1 21 0).2 := (fa21 0 _ rfl).1
  have hi5 : Rw w5 (G1 21 1).1 YZ := (fa21 1 _ rfl).2
  have cap_i : YZ.length ≤ (G1 21 1).2 := (fa21 1 _ rfl).1
  have qq4_f : w1.heap.size < w4.heap.size := P4_f.2
  have qq4_u : w2.heap.size < w4.heap.size := P4_u.2
  have qq4_d : w3.heap.size < w4.heap.size := P4_d.2
  have qq4_w : (w3.heap.size + 1 + 1 + 1) < w4.heap.size := P4_w.2
  have qq4_o : (w3.heap.size + 1 + 1 + 1 + 1 + 1) < w4.heap.size := P4_o.2
  have qq4_b : (w3.heap.size + 1 + 1 + 1 + 1 + 1 + 1 + 1) < w4.heap.size := P4_b.2
  clear P4_f P4_u P4_d P4_w P4_o P4_b hfx4 hfy4 hux4 huy4 hdx4 hdy4 hwa4 hwb4 hoa4 hba4 ld5 fw5 ld9 fw9 ld11 fw11 ld15 fw15 ld17 fw17 ld21 fw21 ld22 fw22 ld27 fw27 ld32 fw32 hd5
  obtain ⟨⟨k5_f_0, g5_f_0⟩, ⟨k5_f_1, g5_f_1⟩, ⟨k5_f_2, g5_f_2⟩, ⟨k5_f_3, g5_f_3⟩, x5_f, y5_f, q5_f⟩ := id P5_f.x4
  obtain ⟨⟨k5_u_0, g5_u_0⟩, ⟨k5_u_1, g5_u_1⟩, ⟨k5_u_2, g5_u_2⟩, ⟨k5_u_3, g5_u_3⟩, x5_u, y5_u, q5_u⟩ := id P5_u.x4
  obtain ⟨⟨k5_d_0, g5_d_0⟩, ⟨k5_d_1, g5_d_1⟩, ⟨k5_d_2, g5_d_2⟩, ⟨k5_d_3, g5_d_3⟩, x5_d, y5_d, q5_d⟩ := id P5_d.x4
  obtain ⟨⟨k5_w_0, g5_w_0⟩, ⟨k5_w_1, g5_w_1⟩, ⟨k5_w_2, g5_w_2⟩, ⟨k5_w_3, g5_w_3⟩, x5_w, y5_w, q5_w⟩ := id P5_w.x4
  obtain ⟨⟨k5_o_0, g5_o_0⟩, ⟨k5_o_1, g5_o_1⟩, x5_o, y5_o, q5_o⟩ := id P5_o.x2
  obtain ⟨⟨k5_b_0, g5_b_0⟩, ⟨k5_b_1, g5_b_1⟩, x5_b, y5_b, q5_b⟩ := id P5_b.x2
  simp only [puts, putD, Act.put, List.setIfInBounds_toArray, List.set_cons_zero, List.set_cons_succ]
  go_wp2
  go_ret
  exact ⟨rfl, by (with_reducible repeat' first | exact Below.refl _ _ | assumption | apply belA | apply Below.drew | apply below_drewN | refine belS ?_ (by first | omega | (simp; done) | (simp; omega)))⟩
end Go.Proofs.Ytcofiekfhnfjpaa
