
import Derived.Test.YtcofiekfhnfjpaaSH
import Derived.Test.YtcofiekfhnfjpaaGs
import Derived.Deep.CutRange
namespace Go.Proofs.Ytcofiekfhnfjpaa
open Go.RowKit
set_option linter.unusedVariables false
set_option linter.unusedSimpArgs false
attribute [local go_sem ↓] Go.wp_at_zero Go.wp_at_succ
attribute [local go_sem] rhoF_tmp rhoF_const rhoF_global rhoF_func
attribute [local go_sem] qV iV
attribute [local go_sem] qE
set_option maxRecDepth 50000 in
set_option maxHeartbeats 4000000 in
theorem lr_no (s t : Bool) (a b : Option Addr) (c d : Nat) (l k : List (BitVec 32)) (w : World) (hS0 : ∀ W, Calls Try.prog 8 #[.agg #[.bool s, .slice a l.length c, .bool t, .slice b k.length d]] W fun e w' => e = .returned (.bool false) ∧ Below W.heap.size W w') :
    Calls Try.prog 5 #[.agg #[.bool s, .slice a l.length c, .bool t, .slice b k.length d]] w fun e w' => e = .returned (.bool true) ∧ Below w.heap.size w w' := by
  have HS0 := Lib.hid hS0
  clear hS0
  go_enter Try.func5, Try.ntmps5
  go_wp2_with (go_at_call 8; go_loud ((with_reducible refine (HS0.out _).mono ?_); rintro e w1 ⟨rfl, hc1⟩; have E1 : Below w.heap.size w w1 := bel_step (by (with_reducible repeat' first | exact Below.refl _ _ | assumption | apply belA | apply Below.drew | apply below_drewN | refine belS ?_ (by first | omega | (simp; done) | (simp; omega)))) hc1; have P1_p : Bx w1 w.heap.size [.bool s, .slice a l.length c, .bool t, .slice b k.length d] := Bx.below (show Bx _ w.heap.size [.bool s, .slice a l.length c, .bool t, .slice b k.length d] from (by (with_reducible repeat' first | assumption | exact Bx.new _ _ _ | refine Bx.newAt _ _ _ (by simp; done) | apply Bx.dr | apply Bx.drN | apply Bx.al | refine Bx.st ?_ (by first | assumption | omega | (simp; done) | (simp; omega))))) hc1; have hbw1 : Below w.heap.size w w1 := E1; have hz1 := hbw1.size; obtain ⟨⟨k1_p_0, g1_p_0⟩, ⟨k1_p_1, g1_p_1⟩, ⟨k1_p_2, g1_p_2⟩, ⟨k1_p_3, g1_p_3⟩, x1_p, y1_p, q1_p⟩ := id P1_p.x4; clear E1))
  go_wp2_with (go_at_call 9; go_loud ((with_reducible refine (ex_any _).mono ?_); rintro e w2 ⟨rfl, hc2⟩; have E2 : Below w1.heap.size w1 w2 := bel_step (by (with_reducible repeat' first | exact Below.refl _ _ | assumption | apply belA | apply Below.drew | apply below_drewN | refine belS ?_ (by first | omega | (simp; done) | (simp; omega)))) hc2; have P2_p := P1_p.below E2; have hbw2 : Below w.heap.size w w2 := bel_step hbw1 E2; have hz2 := hbw2.size; obtain ⟨⟨k2_p_0, g2_p_0⟩, ⟨k2_p_1, g2_p_1⟩, ⟨k2_p_2, g2_p_2⟩, ⟨k2_p_3, g2_p_3⟩, x2_p, y2_p, q2_p⟩ := id P2_p.x4; clear P1_p q1_p k1_p_0 g1_p_0 k1_p_1 g1_p_1 k1_p_2 g1_p_2 k1_p_3 g1_p_3 x1_p y1_p E2))
  go_ret
  exact ⟨rfl, by (with_reducible repeat' first | exact Below.refl _ _ | assumption | apply belA | apply Below.drew | apply below_drewN | refine belS ?_ (by first | omega | (simp; done) | (simp; omega)))⟩
set_option maxRecDepth 50000 in
set_option maxHeartbeats 4000000 in
theorem lr_w (s t : Bool) (a b : Option Addr) (c d : Nat) (l k : List (BitVec 32)) (w : World) (ha : Rw w a l) (hb : Rw w b k) (cap_a : l.length ≤ c) (cap_b : k.length ≤ d) (sF sC sR sA sB sD sE sN : Bool) (F C R U XA YA XB YB XD YD XE YE XN YN : List (BitVec 32)) (z1 z2 z3 z4 z5 : Int) (f1 : decide (z1 ≤ 0) = true) (f2 : decide (0 ≤ z2) = true) (f3 : decide (z3 ≤ 0) = true) (f4 : decide (z4 ≤ 0) = true) (f5 : decide (0 ≤ z5) = true) (lF : F.length ≤ 1000000) (lC : C.length ≤ 1000000) (lR : R.length ≤ 1000000)
    (hS0 : ∀ W, Calls Try.prog 8 #[.agg #[.bool s, .slice a l.length c, .bool t, .slice b k.length d]] W fun e w' => e = .returned (.bool true) ∧ Below W.heap.size W w')
    (hF : ∀ (W : World), Rw W a l → Rw W b k → Calls Try.prog 25 #[.agg #[.bool s, .slice a l.length c, .bool t, .slice b k.length d]] W (AnsR (iV sF F) (OwP [F]) W))
    (hC : ∀ (W : World), Rw W a l → Rw W b k → Calls Try.prog 26 #[.agg #[.bool s, .slice a l.length c, .bool t, .slice b k.length d]] W (AnsR (iV sC C) (OwP [C]) W))
    (hR : ∀ (W : World), Rw W a l → Rw W b k → Calls Try.prog 27 #[.agg #[.bool s, .slice a l.length c, .bool t, .slice b k.length d]] W (AnsR (iV sR R) (OwP [R]) W))
    (gF : ∀ (W : World), Rw W a l → Rw W b k → Calls Try.prog 29 #[.agg #[.bool s, .slice a l.length c, .bool t, .slice b k.length d]] W (AnsR (iV sF F) (RwnP [F]) W))
    (gC : ∀ (W : World), Rw W a l → Rw W b k → Calls Try.prog 30 #[.agg #[.bool s, .slice a l.length c, .bool t, .slice b k.length d]] W (AnsR (iV sC C) (RwnP [C]) W))
    (gR : ∀ (W : World), Rw W a l → Rw W b k → Calls Try.prog 31 #[.agg #[.bool s, .slice a l.length c, .bool t, .slice b k.length d]] W (AnsR (iV sR R) (RwnP [R]) W))
    (hO : ∀ (W : World), Calls Try.prog 24 #[.int .i64 1] W (AnsR (qV false U false U) (OwP [U, U]) W))
    (hN0 : ∀ (W : World) (W0 : World) (v0 v1 v2 v3 : Option Addr) (n0 n1 n2 n3 : Nat), Below W0.heap.size W0 W → l.length ≤ n0 → k.length ≤ n1 → l.length ≤ n2 → k.length ≤ n3 → Rw W0 v0 l → Rw W0 v1 k → Rw W0 v2 l → Rw W0 v3 k → Calls Try.prog 33 #[.agg #[.bool s, .slice v0 l.length n0, .bool t, .slice v1 k.length n1], .agg #[.bool s, .slice v2 l.length n2, .bool t, .slice v3 k.length n3]] W (AnsR (qV sA XA false YA) (OwP [XA, YA]) W))
    (hN1 : ∀ (W : World) (W0 : World) (v0 v1 v2 v3 : Option Addr) (n0 n1 n2 n3 : Nat), Below W0.heap.size W0 W → R.length ≤ n0 → U.length ≤ n1 → R.length ≤ n2 → U.length ≤ n3 → Rw W0 v0 R → Rw W0 v1 U → Rw W0 v2 R → Rw W0 v3 U → Calls Try.prog 33 #[.agg #[.bool sR, .slice v0 R.length n0, .bool false, .slice v1 U.length n1], .agg #[.bool sR, .slice v2 R.length n2, .bool false, .slice v3 U.length n3]] W (AnsR (qV sB XB false YB) (OwP [XB, YB]) W))
    (hN2 : ∀ (W : World) (W0 : World) (v0 v1 v2 v3 : Option Addr) (n0 n1 n2 n3 : Nat), Below W0.heap.size W0 W → XA.length ≤ n0 → YA.length ≤ n1 → XB.length ≤ n2 → YB.length ≤ n3 → Rw W0 v0 XA → Rw W0 v1 YA → Rw W0 v2 XB → Rw W0 v3 YB → Calls Try.prog 32 #[.agg #[.bool sA, .slice v0 XA.length n0, .bool false, .slice v1 YA.length n1], .agg #[.bool sB, .slice v2 XB.length n2, .bool false, .slice v3 YB.length n3]] W (AnsR (qV sD XD false YD) (OwP [XD, YD]) W))
    (hN3 : ∀ (W : World) (W0 : World) (v0 v1 v2 v3 : Option Addr) (n0 n1 n2 n3 : Nat), Below W0.heap.size W0 W → F.length ≤ n0 → U.length ≤ n1 → l.length ≤ n2 → k.length ≤ n3 → Rw W0 v0 F → Rw W0 v1 U → Rw W0 v2 l → Rw W0 v3 k → Calls Try.prog 34 #[.agg #[.bool sF, .slice v0 F.length n0, .bool false, .slice v1 U.length n1], .agg #[.bool s, .slice v2 l.length n2, .bool t, .slice v3 k.length n3]] W fun e w' => e = .returned (.int .i64 z1) ∧ Below W.heap.size W w')
    (hN4 : ∀ (W : World) (W0 : World) (v0 v1 v2 v3 : Option Addr) (n0 n1 n2 n3 : Nat), Below W0.heap.size W0 W → C.length ≤ n0 → U.length ≤ n1 → l.length ≤ n2 → k.length ≤ n3 → Rw W0 v0 C → Rw W0 v1 U → Rw W0 v2 l → Rw W0 v3 k → Calls Try.prog 34 #[.agg #[.bool sC, .slice v0 C.length n0, .bool false, .slice v1 U.length n1], .agg #[.bool s, .slice v2 l.length n2, .bool t, .slice v3 k.length n3]] W fun e w' => e = .returned (.int .i64 z2) ∧ Below W.heap.size W w')
    (hN5 : ∀ (W : World) (W0 : World) (v0 v1 v2 v3 : Option Addr) (n0 n1 n2 n3 : Nat), Below W0.heap.size W0 W → C.length ≤ n0 → U.length ≤ n1 → F.length ≤ n2 → U.length ≤ n3 → Rw W0 v0 C → Rw W0 v1 U → Rw W0 v2 F → Rw W0 v3 U → Calls Try.prog 32 #[.agg #[.bool sC, .slice v0 C.length n0, .bool false, .slice v1 U.length n1], .agg #[.bool sF, .slice v2 F.length n2, .bool false, .slice v3 U.length n3]] W (AnsR (qV sE XE false YE) (OwP [XE, YE]) W))
    (hN6 : ∀ (W : World) (W0 : World) (v0 v1 v2 v3 : Option Addr) (n0 n1 n2 n3 : Nat), Below W0.heap.size W0 W → XE.length ≤ n0 → YE.length ≤ n1 → U.length ≤ n2 → U.length ≤ n3 → Rw W0 v0 XE → Rw W0 v1 YE → Rw W0 v2 U → Rw W0 v3 U → Calls Try.prog 34 #[.agg #[.bool sE, .slice v0 XE.length n0, .bool false, .slice v1 YE.length n1], .agg #[.bool false, .slice v2 U.length n2, .bool false, .slice v3 U.length n3]] W fun e w' => e = .returned (.int .i64 z3) ∧ Below W.heap.size W w')
    (hN7 : ∀ (W : World) (W0 : World) (v0 v1 v2 v3 : Option Addr) (n0 n1 n2 n3 : Nat), Below W0.heap.size W0 W → XD.length ≤ n0 → YD.length ≤ n1 → U.length ≤ n2 → U.length ≤ n3 → Rw W0 v0 XD → Rw W0 v1 YD → Rw W0 v2 U → Rw W0 v3 U → Calls Try.prog 34 #[.agg #[.bool sD, .slice v0 XD.length n0, .bool false, .slice v1 YD.length n1], .agg #[.bool false, .slice v2 U.length n2, .bool false, .slice v3 U.length n3]] W fun e w' => e = .returned (.int .i64 z4) ∧ Below W.heap.size W w')
    (hN8 : ∀ (W : World) (W0 : World) (v0 v1 : Option Addr) (n0 n1 : Nat), Below W0.heap.size W0 W → U.length ≤ n0 → U.length ≤ n1 → Rw W0 v0 U → Rw W0 v1 U → Calls Try.prog 35 #[.agg #[.bool false, .slice v0 U.length n0, .bool false, .slice v1 U.length n1]] W (AnsR (qV sN XN false YN) (OwP [XN, YN]) W))
    (hN9 : ∀ (W : World) (W0 : World) (v0 v1 v2 v3 : Option Addr) (n0 n1 n2 n3 : Nat), Below W0.heap.size W0 W → XD.length ≤ n0 → YD.length ≤ n1 → XN.length ≤ n2 → YN.length ≤ n3 → Rw W0 v0 XD → Rw W0 v1 YD → Rw W0 v2 XN → Rw W0 v3 YN → Calls Try.prog 34 #[.agg #[.bool sD, .slice v0 XD.length n0, .bool false, .slice v1 YD.length n1], .agg #[.bool sN, .slice v2 XN.length n2, .bool false, .slice v3 YN.length n3]] W fun e w' => e = .returned (.int .i64 z5) ∧ Below W.heap.size W w') :
    Calls Try.prog 5 #[.agg #[.bool s, .slice a l.length c, .bool t, .slice b k.length d]] w fun e w' => e = .returned (.bool true) ∧ Below w.heap.size w w' := by
  have HS0 := Lib.hid hS0
  have HF := Lib.hid hF
  have HC := Lib.hid hC
  have HR := Lib.hid hR
  have HO := Lib.hid hO
  clear hS0 hF hC hR hO
  have GF := Lib.hid gF
  have GC := Lib.hid gC
  have GR := Lib.hid gR
  clear gF gC gR
  have HN0 := Lib.hid hN0
  have HN1 := Lib.hid hN1
  have HN2 := Lib.hid hN2
  have HN3 := Lib.hid hN3
  have HN4 := Lib.hid hN4
  have HN5 := Lib.hid hN5
  have HN6 := Lib.hid hN6
  have HN7 := Lib.hid hN7
  have HN8 := Lib.hid hN8
  have HN9 := Lib.hid hN9
  clear hN0 hN1 hN2 hN3 hN4 hN5 hN6 hN7 hN8 hN9
  go_enter Try.func5, Try.ntmps5
  go_wp2_with (go_at_call 8; go_loud ((with_reducible refine (HS0.out _).mono ?_); rintro e w1 ⟨rfl, hc1⟩; have E1 : Below w.heap.size w w1 := bel_step (by (with_reducible repeat' first | exact Below.refl _ _ | assumption | apply belA | apply Below.drew | apply below_drewN | refine belS ?_ (by first | omega | (simp; done) | (simp; omega)))) hc1; have P1_p : Bx w1 w.heap.size [.bool s, .slice a l.length c, .bool t, .slice b k.length d] := Bx.below (show Bx _ w.heap.size [.bool s, .slice a l.length c, .bool t, .slice b k.length d] from (by (with_reducible repeat' first | assumption | exact Bx.new _ _ _ | refine Bx.newAt _ _ _ (by simp; done) | apply Bx.dr | apply Bx.drN | apply Bx.al | refine Bx.st ?_ (by first | assumption | omega | (simp; done) | (simp; omega))))) hc1; have ha1 := ha.below E1; have hb1 := hb.below E1; have hbw1 : Below w.heap.size w w1 := E1; have hz1 := hbw1.size; obtain ⟨⟨k1_p_0, g1_p_0⟩, ⟨k1_p_1, g1_p_1⟩, ⟨k1_p_2, g1_p_2⟩, ⟨k1_p_3, g1_p_3⟩, x1_p, y1_p, q1_p⟩ := id P1_p.x4; clear E1))
  refine wp_region_go1 (fun W => Bx W w.heap.size [.bool s, .slice a l.length c, .bool t, .slice b k.length d] ∧ Rw W a l ∧ Rw W b k ∧ Below w.heap.size w W) 9 94 [kv (.agg #[.bool s, .slice a l.length c, .bool t, .slice b k.length d]), .made (fun γ => .agg #[.bool sF, .slice (γ 0).1 F.length (γ 0).2]) (OwP [F]), kv (.agg #[.bool s, .slice a l.length c, .bool t, .slice b k.length d]), .made (fun γ => .agg #[.bool sC, .slice (γ 0).1 C.length (γ 0).2]) (OwP [C]), kv (.agg #[.bool s, .slice a l.length c, .bool t, .slice b k.length d]), .made (fun γ => .agg #[.bool sR, .slice (γ 0).1 R.length (γ 0).2]) (OwP [R]), .fresh (.cells #[Value.bool false, Value.slice none 0 0] 24), .fresh (.cells #[Value.bool false, Value.slice none 0 0] 24), .fresh (.cells #[Value.bool false, Value.slice none 0 0] 24)] [[], [], [], [], [], [], [], [], []] [1, 3, 5, 6, 7, 8] (by kernel_rfl) (by kernel_rfl) rfl (by kernel_rfl) (by kernel_rfl) (by kernel_rfl) rfl (by repeat' first | exact fits_nil | refine fits_cons ?_ ?_ | exact fit_const _ | exact trueP_fit _ | exact owP_fit _ _ | exact rwsP_fit _ _ | exact rwnP_fit _ _ | exact fit_fresh _ | exact fit_skip) (by rintro w1 w2 ⟨p_p, r_a, r_b, bel⟩ hc; exact ⟨p_p.below hc, r_a.below hc, r_b.below hc, bel_step bel hc⟩) (⟨P1_p, ha1, hb1, hbw1⟩) (by (with_reducible repeat' first | exact Below.refl _ _ | assumption | apply belA | apply Below.drew | apply below_drewN | refine belS ?_ (by first | omega | (simp; done) | (simp; omega)))) ?_
  rintro w2 ⟨P2_p, ha2, hb2, hbw2⟩ G1 lo1 hi1
  clear P1_p q1_p k1_p_0 g1_p_0 k1_p_1 g1_p_1 k1_p_2 g1_p_2 k1_p_3 g1_p_3 x1_p y1_p ha1 hb1
  have hz2 := hbw2.size
  simp only [List.take_succ_cons, List.take_zero, List.drop_succ_cons, List.drop_zero, List.cons_append, List.nil_append, List.append_nil]
  refine oge_val (by rfl) ?_ ?_
  · exact fun f hf w' h _ => ldR rfl (by rw [← hf]; rfl) h.1
  refine oge_call 25 #[.agg #[.bool s, .slice a l.length c, .bool t, .slice b k.length d]] (by rfl) ?_ ?_ ?_
  · exact fun f hf w' h _ => cl1 rfl (by rw [← hf]; rfl) (by go_simp)
  · rintro w' ⟨p_p, r_a, r_b, bel⟩ hF; exact HF.out _ r_a r_b
  refine oge_val (by rfl) ?_ ?_
  · exact fun f hf w' h _ => ldR rfl (by rw [← hf]; rfl) h.1
  refine oge_call 26 #[.agg #[.bool s, .slice a l.length c, .bool t, .slice b k.length d]] (by rfl) ?_ ?_ ?_
  · exact fun f hf w' h _ => cl1 rfl (by rw [← hf]; rfl) (by go_simp)
  · rintro w' ⟨p_p, r_a, r_b, bel⟩ hF; exact HC.out _ r_a r_b
  refine oge_val (by rfl) ?_ ?_
  · exact fun f hf w' h _ => ldR rfl (by rw [← hf]; rfl) h.1
  refine oge_call 27 #[.agg #[.bool s, .slice a l.length c, .bool t, .slice b k.length d]] (by rfl) ?_ ?_ ?_
  · exact fun f hf w' h _ => cl1 rfl (by rw [← hf]; rfl) (by go_simp)
  · rintro w' ⟨p_p, r_a, r_b, bel⟩ hF; exact HR.out _ r_a r_b
  refine oge_fresh (by rfl) ?_ ?_
  · intro f hf; clear hf; intro w' _; go_simp
  refine oge_fresh (by rfl) ?_ ?_
  · intro f hf; clear hf; intro w' _; go_simp
  refine oge_fresh (by rfl) ?_ ?_
  · intro f hf; clear hf; intro w' _; go_simp
  refine oge_nil ?_
  rintro w3 ⟨P3_p, ha3, hb3, hbw3⟩ hd3 hA
  have hz3 := hbw3.size
  obtain ⟨⟨la1, lb1, lc1, fw1⟩, ld1, ⟨⟨la3, lb3, lc3, fw3⟩, ld3, ⟨⟨la5, lb5, lc5, fw5⟩, ld5, ⟨⟨la6, lb6, lc6, fw6⟩, ld6, ⟨⟨la7, lb7, lc7, fw7⟩, ld7, ⟨⟨la8, lb8, lc8, fw8⟩, ld8, -⟩⟩⟩⟩⟩⟩ := hA
  obtain ⟨fa6, fh6⟩ := fw6
  obtain ⟨fa7, fh7⟩ := fw7
  obtain ⟨fa8, fh8⟩ := fw8
  have P3_fl : Bx w3 (lo1 6) [.bool false, .slice none 0 0] := Bx.row fa6
  have v6_p : ¬ (lo1 6) = w.heap.size := by have := P2_p.2; omega
  have vp_6 : ¬ w.heap.size = (lo1 6) := by have := P2_p.2; omega
  have v6_7 : ¬ (lo1 6) = (lo1 7) := by have := ld6 7 (by simp); omega
  have v7_6 : ¬ (lo1 7) = (lo1 6) := by have := ld6 7 (by simp); omega
  have v6_8 : ¬ (lo1 6) = (lo1 8) := by have := ld6 8 (by simp); omega
  have v8_6 : ¬ (lo1 8) = (lo1 6) := by have := ld6 8 (by simp); omega
  have vl6 : w.heap.size ≤ lo1 6 := by omega
  have P3_ce : Bx w3 (lo1 7) [.bool false, .slice none 0 0] := Bx.row fa7
  have v7_p : ¬ (lo1 7) = w.heap.size := by have := P2_p.2; omega
  have vp_7 : ¬ w.heap.size = (lo1 7) := by have := P2_p.2; omega
  have v7_8 : ¬ (lo1 7) = (lo1 8) := by have := ld7 8 (by simp); omega
  have v8_7 : ¬ (lo1 8) = (lo1 7) := by have := ld7 8 (by simp); omega
  have vl7 : w.heap.size ≤ lo1 7 := by omega
  have P3_ro : Bx w3 (lo1 8) [.bool false, .slice none 0 0] := Bx.row fa8
  have v8_p : ¬ (lo1 8) = w.heap.size := by have := P2_p.2; omega
  have vp_8 : ¬ w.heap.size = (lo1 8) := by have := P2_p.2; omega
  have vl8 : w.heap.size ≤ lo1 8 := by omega
  have fo1 : OwP [F] (G1 1) (lo1 1) (hi1 1) w3 := fw1
  have fa1 := fo1.rws
  have hfx3 : Rw w3 (G1 1 0).1 F := (fa1 0 _ rfl).2
  have cap_fx : F.length ≤ (G1 1 0).2 := (fa1 0 _ rfl).1
  have fo3 : OwP [C] (G1 3) (lo1 3) (hi1 3) w3 := fw3
  have fa3 := fo3.rws
  have hcx3 : Rw w3 (G1 3 0).1 C := (fa3 0 _ rfl).2
  have cap_cx : C.length ≤ (G1 3 0).2 := (fa3 0 _ rfl).1
  have fo5 : OwP [R] (G1 5) (lo1 5) (hi1 5) w3 := fw5
  have fa5 := fo5.rws
  have hrx3 : Rw w3 (G1 5 0).1 R := (fa5 0 _ rfl).2
  have cap_rx : R.length ≤ (G1 5 0).2 := (fa5 0 _ rfl).1
  have qq2_p : w.heap.size < w2.heap.size := P2_p.2
  clear P2_p ha2 hb2 ld1 fw1 ld3 fw3 ld5 fw5 ld6 lb6 ld7 lb7 ld8 lb8 hd3
  obtain ⟨⟨k3_p_0, g3_p_0⟩, ⟨k3_p_1, g3_p_1⟩, ⟨k3_p_2, g3_p_2⟩, ⟨k3_p_3, g3_p_3⟩, x3_p, y3_p, q3_p⟩ := id P3_p.x4
  obtain ⟨⟨k3_fl_0, g3_fl_0⟩, ⟨k3_fl_1, g3_fl_1⟩, x3_fl, y3_fl, q3_fl⟩ := id P3_fl.x2
  obtain ⟨⟨k3_ce_0, g3_ce_0⟩, ⟨k3_ce_1, g3_ce_1⟩, x3_ce, y3_ce, q3_ce⟩ := id P3_ce.x2
  obtain ⟨⟨k3_ro_0, g3_ro_0⟩, ⟨k3_ro_1, g3_ro_1⟩, x3_ro, y3_ro, q3_ro⟩ := id P3_ro.x2
  simp only [puts, putD, Act.put, List.setIfInBounds_toArray, List.set_cons_zero, List.set_cons_succ]
  go_wp2
  refine wp_region_go0 (fun W => Bx W w.heap.size [.bool s, .slice a l.length c, .bool t, .slice b k.length d] ∧ Bx W (lo1 6) [.bool sF, .slice (G1 1 0).1 F.length (G1 1 0).2] ∧ Bx W (lo1 7) [.bool sC, .slice (G1 3 0).1 C.length (G1 3 0).2] ∧ Bx W (lo1 8) [.bool sR, .slice (G1 5 0).1 R.length (G1 5 0).2] ∧ Rw W a l ∧ Rw W b k ∧ Rw W (G1 1 0).1 F ∧ Rw W (G1 3 0).1 C ∧ Rw W (G1 5 0).1 R ∧ Below w.heap.size w W) 19 94 [kv (.agg #[.bool sF, .slice (G1 1 0).1 F.length (G1 1 0).2]), kv (.agg #[.bool s, .slice a l.length c, .bool t, .slice b k.length d]), .made (fun γ => .agg #[.bool sF, .slice (γ 0).1 F.length (γ 0).2]) (RwnP [F]), km (.bool true), kv (.bool false), kv (.bool false), kv (.agg #[.bool sC, .slice (G1 3 0).1 C.length (G1 3 0).2]), kv (.agg #[.bool s, .slice a l.length c, .bool t, .slice b k.length d]), .made (fun γ => .agg #[.bool sC, .slice (γ 0).1 C.length (γ 0).2]) (RwnP [C]), km (.bool true), kv (.bool false), kv (.bool false), kv (.bool false), kv (.agg #[.bool sR, .slice (G1 5 0).1 R.length (G1 5 0).2]), kv (.agg #[.bool s, .slice a l.length c, .bool t, .slice b k.length d]), .made (fun γ => .agg #[.bool sR, .slice (γ 0).1 R.length (γ 0).2]) (RwnP [R]), km (.bool true), kv (.bool false), kv (.bool false)] [[], [], [], [2], [], [], [], [], [], [8], [], [], [], [], [], [], [15], [], []] [2, 3, 8, 9, 15, 16] (by kernel_rfl) (by kernel_rfl) rfl (by kernel_rfl) (by kernel_rfl) (by kernel_rfl) rfl (by repeat' first | exact fits_nil | refine fits_cons ?_ ?_ | exact fit_const _ | exact trueP_fit _ | exact owP_fit _ _ | exact rwsP_fit _ _ | exact rwnP_fit _ _ | exact fit_fresh _ | exact fit_skip) (by rintro w1 w2 ⟨p_p, p_fl, p_ce, p_ro, r_a, r_b, r_fx, r_cx, r_rx, bel⟩ hc; exact ⟨p_p.below hc, p_fl.below hc, p_ce.below hc, p_ro.below hc, r_a.below hc, r_b.below hc, r_fx.below hc, r_cx.below hc, r_rx.below hc, bel_step bel hc⟩) ⟨(show Bx _ w.heap.size [.bool s, .slice a l.length c, .bool t, .slice b k.length d] from (by (with_reducible repeat' first | assumption | exact Bx.new _ _ _ | refine Bx.newAt _ _ _ (by simp; done) | apply Bx.dr | apply Bx.drN | apply Bx.al | refine Bx.st ?_ (by first | assumption | omega | (simp; done) | (simp; omega))))), (Bx.of2 (by first | with_reducible assumption | go_simp) (by first | with_reducible assumption | go_simp) (by first | with_reducible assumption | go_simp) (by first | with_reducible assumption | go_simp) : Bx _ (lo1 6) [.bool sF, .slice (G1 1 0).1 F.length (G1 1 0).2]), (Bx.of2 (by first | with_reducible assumption | go_simp) (by first | with_reducible assumption | go_simp) (by first | with_reducible assumption | go_simp) (by first | with_reducible assumption | go_simp) : Bx _ (lo1 7) [.bool sC, .slice (G1 3 0).1 C.length (G1 3 0).2]), (Bx.of2 (by first | with_reducible assumption | go_simp) (by first | with_reducible assumption | go_simp) (by first | with_reducible assumption | go_simp) (by first | with_reducible assumption | go_simp) : Bx _ (lo1 8) [.bool sR, .slice (G1 5 0).1 R.length (G1 5 0).2]), (show Rw _ a l from (by (repeat' first | with_reducible assumption | with_reducible apply Rw.dr | with_reducible apply Rw.drN | with_reducible apply Rw.al | exact Rw.sets (W := w3) (by with_reducible assumption) [((lo1 6), 0, .bool sF), ((lo1 6), 1, .slice (G1 1 0).1 F.length (G1 1 0).2), ((lo1 7), 0, .bool sC), ((lo1 7), 1, .slice (G1 3 0).1 C.length (G1 3 0).2), ((lo1 8), 0, .bool sR), ((lo1 8), 1, .slice (G1 5 0).1 R.length (G1 5 0).2)] ⟨⟨_, k3_fl_0, rfl⟩, ⟨_, k3_fl_1, rfl⟩, ⟨_, k3_ce_0, rfl⟩, ⟨_, k3_ce_1, rfl⟩, ⟨_, k3_ro_0, rfl⟩, ⟨_, k3_ro_1, rfl⟩, trivial⟩))), (show Rw _ b k from (by (repeat' first | with_reducible assumption | with_reducible apply Rw.dr | with_reducible apply Rw.drN | with_reducible apply Rw.al | exact Rw.sets (W := w3) (by with_reducible assumption) [((lo1 6), 0, .bool sF), ((lo1 6), 1, .slice (G1 1 0).1 F.length (G1 1 0).2), ((lo1 7), 0, .bool sC), ((lo1 7), 1, .slice (G1 3 0).1 C.length (G1 3 0).2), ((lo1 8), 0, .bool sR), ((lo1 8), 1, .slice (G1 5 0).1 R.length (G1 5 0).2)] ⟨⟨_, k3_fl_0, rfl⟩, ⟨_, k3_fl_1, rfl⟩, ⟨_, k3_ce_0, rfl⟩, ⟨_, k3_ce_1, rfl⟩, ⟨_, k3_ro_0, rfl⟩, ⟨_, k3_ro_1, rfl⟩, trivial⟩))), (show Rw _ (G1 1 0).1 F from (by (repeat' first | with_reducible assumption | with_reducible apply Rw.dr | with_reducible apply Rw.drN | with_reducible apply Rw.al | exact Rw.sets (W := w3) (by with_reducible assumption) [((lo1 6), 0, .bool sF), ((lo1 6), 1, .slice (G1 1 0).1 F.length (G1 1 0).2), ((lo1 7), 0, .bool sC), ((lo1 7), 1, .slice (G1 3 0).1 C.length (G1 3 0).2), ((lo1 8), 0, .bool sR), ((lo1 8), 1, .slice (G1 5 0).1 R.length (G1 5 0).2)] ⟨⟨_, k3_fl_0, rfl⟩, ⟨_, k3_fl_1, rfl⟩, ⟨_, k3_ce_0, rfl⟩, ⟨_, k3_ce_1, rfl⟩, ⟨_, k3_ro_0, rfl⟩, ⟨_, k3_ro_1, rfl⟩, trivial⟩))), (show Rw _ (G1 3 0).1 C from (by (repeat' first | with_reducible assumption | with_reducible apply Rw.dr | with_reducible apply Rw.drN | with_reducible apply Rw.al | exact Rw.sets (W := w3) (by with_reducible assumption) [((lo1 6), 0, .bool sF), ((lo1 6), 1, .slice (G1 1 0).1 F.length (G1 1 0).2), ((lo1 7), 0, .bool sC), ((lo1 7), 1, .slice (G1 3 0).1 C.length (G1 3 0).2), ((lo1 8), 0, .bool sR), ((lo1 8), 1, .slice (G1 5 0).1 R.length (G1 5 0).2)] ⟨⟨_, k3_fl_0, rfl⟩, ⟨_, k3_fl_1, rfl⟩, ⟨_, k3_ce_0, rfl⟩, ⟨_, k3_ce_1, rfl⟩, ⟨_, k3_ro_0, rfl⟩, ⟨_, k3_ro_1, rfl⟩, trivial⟩))), (show Rw _ (G1 5 0).1 R from (by (repeat' first | with_reducible assumption | with_reducible apply Rw.dr | with_reducible apply Rw.drN | with_reducible apply Rw.al | exact Rw.sets (W := w3) (by with_reducible assumption) [((lo1 6), 0, .bool sF), ((lo1 6), 1, .slice (G1 1 0).1 F.length (G1 1 0).2), ((lo1 7), 0, .bool sC), ((lo1 7), 1, .slice (G1 3 0).1 C.length (G1 3 0).2), ((lo1 8), 0, .bool sR), ((lo1 8), 1, .slice (G1 5 0).1 R.length (G1 5 0).2)] ⟨⟨_, k3_fl_0, rfl⟩, ⟨_, k3_fl_1, rfl⟩, ⟨_, k3_ce_0, rfl⟩, ⟨_, k3_ce_1, rfl⟩, ⟨_, k3_ro_0, rfl⟩, ⟨_, k3_ro_1, rfl⟩, trivial⟩))), (show Below w.heap.size w _ from (by (with_reducible repeat' first | exact Below.refl _ _ | assumption | apply belA | apply Below.drew | apply below_drewN | refine belS ?_ (by first | omega | (simp; done) | (simp; omega)))))⟩ ?_
  rintro w4 ⟨P4_p, P4_fl, P4_ce, P4_ro, ha4, hb4, hfx4, hcx4, hrx4, hbw4⟩ G2 lo2 hi2
  clear P3_p q3_p k3_p_0 g3_p_0 k3_p_1 g3_p_1 k3_p_2 g3_p_2 k3_p_3 g3_p_3 x3_p y3_p P3_fl q3_fl k3_fl_0 g3_fl_0 k3_fl_1 g3_fl_1 x3_fl y3_fl P3_ce q3_ce k3_ce_0 g3_ce_0 k3_ce_1 g3_ce_1 x3_ce y3_ce P3_ro q3_ro k3_ro_0 g3_ro_0 k3_ro_1 g3_ro_1 x3_ro y3_ro ha3 hb3 hfx3 hcx3 hrx3
  have hz4 := hbw4.size
  simp only [List.take_succ_cons, List.take_zero, List.drop_succ_cons, List.drop_zero, List.cons_append, List.nil_append, List.append_nil]
  refine oge_val (by rfl) ?_ ?_
  · exact fun f hf w' h _ => ldI (off := 0) rfl (by rw [← hf]; rfl) (h.2.1) rfl rfl
  refine oge_val (by rfl) ?_ ?_
  · exact fun f hf w' h _ => ldR rfl (by rw [← hf]; rfl) h.1
  refine oge_call 29 #[.agg #[.bool s, .slice a l.length c, .bool t, .slice b k.length d]] (by rfl) ?_ ?_ ?_
  · exact fun f hf w' h _ => cl1 rfl (by rw [← hf]; rfl) (by go_simp)
  · rintro w' ⟨p_p, p_fl, p_ce, p_ro, r_a, r_b, r_fx, r_cx, r_rx, bel⟩ hF; exact GF.out _ r_a r_b
  refine oge_call 28 #[.agg #[.bool sF, .slice (G1 1 0).1 F.length (G1 1 0).2], .agg #[.bool sF, .slice (G2 2 0).1 F.length (G2 2 0).2]] (by rfl) ?_ ?_ ?_
  · exact fun f hf w' h _ => cl2 rfl (by rw [← hf]; rfl) (by rw [← hf]; rfl) (by go_simp)
  · rintro w' ⟨p_p, p_fl, p_ce, p_ro, r_a, r_b, r_fx, r_cx, r_rx, bel⟩ hF; have ff2 : RwnP [F] (G2 2) (lo2 2) (hi2 2) w' := (hF 2 (List.mem_of_elem_eq_true rfl)).1; exact Calls.mono (sint_yes sF _ _ _ _ _ F _ rfl lF r_fx (ff2 0 _ rfl)) (fun _ _ h => AnsR.fix h)
  refine oge_val (by rfl) ?_ ?_
  · intro f hf; have u24 : f 24 = (.bool true) := (by rw [← hf]; rfl); clear hf; intro w' h _; clear h; go_simp
  refine oge_val (by rfl) ?_ ?_
  · exact fun f hf w' h _ => mv rfl (by rw [← hf]; rfl)
  refine oge_val (by rfl) ?_ ?_
  · exact fun f hf w' h _ => ldI (off := 0) rfl (by rw [← hf]; rfl) (h.2.2.1) rfl rfl
  refine oge_val (by rfl) ?_ ?_
  · exact fun f hf w' h _ => ldR rfl (by rw [← hf]; rfl) h.1
  refine oge_call 30 #[.agg #[.bool s, .slice a l.length c, .bool t, .slice b k.length d]] (by rfl) ?_ ?_ ?_
  · exact fun f hf w' h _ => cl1 rfl (by rw [← hf]; rfl) (by go_simp)
  · rintro w' ⟨p_p, p_fl, p_ce, p_ro, r_a, r_b, r_fx, r_cx, r_rx, bel⟩ hF; exact GC.out _ r_a r_b
  refine oge_call 28 #[.agg #[.bool sC, .slice (G1 3 0).1 C.length (G1 3 0).2], .agg #[.bool sC, .slice (G2 8 0).1 C.length (G2 8 0).2]] (by rfl) ?_ ?_ ?_
  · exact fun f hf w' h _ => cl2 rfl (by rw [← hf]; rfl) (by rw [← hf]; rfl) (by go_simp)
  · rintro w' ⟨p_p, p_fl, p_ce, p_ro, r_a, r_b, r_fx, r_cx, r_rx, bel⟩ hF; have ff8 : RwnP [C] (G2 8) (lo2 8) (hi2 8) w' := (hF 8 (List.mem_of_elem_eq_true rfl)).1; exact Calls.mono (sint_yes sC _ _ _ _ _ C _ rfl lC r_cx (ff8 0 _ rfl)) (fun _ _ h => AnsR.fix h)
  refine oge_val (by rfl) ?_ ?_
  · intro f hf; have u30 : f 30 = (.bool true) := (by rw [← hf]; rfl); clear hf; intro w' h _; clear h; go_simp
  refine oge_val (by rfl) ?_ ?_
  · exact fun f hf w' h _ => pkF rfl (by rw [← hf]; rfl) (by rw [← hf]; rfl)
  refine oge_val (by rfl) ?_ ?_
  · exact fun f hf w' h _ => mv rfl (by rw [← hf]; rfl)
  refine oge_val (by rfl) ?_ ?_
  · exact fun f hf w' h _ => ldI (off := 0) rfl (by rw [← hf]; rfl) (h.2.2.2.1) rfl rfl
  refine oge_val (by rfl) ?_ ?_
  · exact fun f hf w' h _ => ldR rfl (by rw [← hf]; rfl) h.1
  refine oge_call 31 #[.agg #[.bool s, .slice a l.length c, .bool t, .slice b k.length d]] (by rfl) ?_ ?_ ?_
  · exact fun f hf w' h _ => cl1 rfl (by rw [← hf]; rfl) (by go_simp)
  · rintro w' ⟨p_p, p_fl, p_ce, p_ro, r_a, r_b, r_fx, r_cx, r_rx, bel⟩ hF; exact GR.out _ r_a r_b
  refine oge_call 28 #[.agg #[.bool sR, .slice (G1 5 0).1 R.length (G1 5 0).2], .agg #[.bool sR, .slice (G2 15 0).1 R.length (G2 15 0).2]] (by rfl) ?_ ?_ ?_
  · exact fun f hf w' h _ => cl2 rfl (by rw [← hf]; rfl) (by rw [← hf]; rfl) (by go_simp)
  · rintro w' ⟨p_p, p_fl, p_ce, p_ro, r_a, r_b, r_fx, r_cx, r_rx, bel⟩ hF; have ff15 : RwnP [R] (G2 15) (lo2 15) (hi2 15) w' := (hF 15 (List.mem_of_elem_eq_true rfl)).1; exact Calls.mono (sint_yes sR _ _ _ _ _ R _ rfl lR r_rx (ff15 0 _ rfl)) (fun _ _ h => AnsR.fix h)
  refine oge_val (by rfl) ?_ ?_
  · intro f hf; have u37 : f 37 = (.bool true) := (by rw [← hf]; rfl); clear hf; intro w' h _; clear h; go_simp
  refine oge_val (by rfl) ?_ ?_
  · exact fun f hf w' h _ => pkF rfl (by rw [← hf]; rfl) (by rw [← hf]; rfl)
  refine oge_nil ?_
  rintro w5 ⟨P5_p, P5_fl, P5_ce, P5_ro, ha5, hb5, hfx5, hcx5, hrx5, hbw5⟩ hd5 hA
  have hz5 := hbw5.size
  obtain ⟨⟨la2, lb2, lc2, fw2⟩, ld2, ⟨⟨la3, lb3, lc3, fw3⟩, ld3, ⟨⟨la8, lb8, lc8, fw8⟩, ld8, ⟨⟨la9, lb9, lc9, fw9⟩, ld9, ⟨⟨la15, lb15, lc15, fw15⟩, ld15, ⟨⟨la16, lb16, lc16, fw16⟩, ld16, -⟩⟩⟩⟩⟩⟩ := hA
  have fa2 : RwnP [F] (G2 2) (lo2 2) (hi2 2) w5 := fw2
  have hi5 : Rw w5 (G2 2 0).1 F := fa2 0 _ rfl
  have fa8 : RwnP [C] (G2 8) (lo2 8) (hi2 8) w5 := fw8
  have hj5 : Rw w5 (G2 8 0).1 C := fa8 0 _ rfl
  have fa15 : RwnP [R] (G2 15) (lo2 15) (hi2 15) w5 := fw15
  have hm5 : Rw w5 (G2 15 0).1 R := fa15 0 _ rfl
  have qq4_p : w.heap.size < w4.heap.size := P4_p.2
  have qq4_fl : (lo1 6) < w4.heap.size := P4_fl.2
  have qq4_ce : (lo1 7) < w4.heap.size := P4_ce.2
  have qq4_ro : (lo1 8) < w4.heap.size := P4_ro.2
  clear P4_p P4_fl P4_ce P4_ro ha4 hb4 hfx4 hcx4 hrx4 ld2 fw2 ld3 fw3 ld8 fw8 ld9 fw9 ld15 fw15 ld16 fw16 hd5
  have q5_p := P5_p.2
  have q5_fl := P5_fl.2
  have q5_ce := P5_ce.2
  have q5_ro := P5_ro.2
  simp only [puts, putD, Act.put, List.setIfInBounds_toArray, List.set_cons_zero, List.set_cons_succ]
  go_wp2_with (go_at_call 24; go_loud ((with_reducible refine (HO.out _).mono ?_); rintro e w6 ⟨γ6, rfl, f6, hc6⟩; have E6 : Below w5.heap.size w5 w6 := bel_step (by (with_reducible repeat' first | exact Below.refl _ _ | assumption | apply belA | apply Below.drew | apply below_drewN | refine belS ?_ (by first | omega | (simp; done) | (simp; omega)))) hc6; have P6_p := P5_p.below E6; have P6_fl := P5_fl.below E6; have P6_ce := P5_ce.below E6; have P6_ro := P5_ro.below E6; have ha6 := ha5.below E6; have hb6 := hb5.below E6; have hfx6 := hfx5.below E6; have hcx6 := hcx5.below E6; have hrx6 := hrx5.below E6; have hbw6 : Below w.heap.size w w6 := bel_step hbw5 E6; have hz6 := hbw6.size; obtain ⟨⟨k6_p_0, g6_p_0⟩, ⟨k6_p_1, g6_p_1⟩, ⟨k6_p_2, g6_p_2⟩, ⟨k6_p_3, g6_p_3⟩, x6_p, y6_p, q6_p⟩ := id P6_p.x4; obtain ⟨⟨k6_fl_0, g6_fl_0⟩, ⟨k6_fl_1, g6_fl_1⟩, x6_fl, y6_fl, q6_fl⟩ := id P6_fl.x2; obtain ⟨⟨k6_ce_0, g6_ce_0⟩, ⟨k6_ce_1, g6_ce_1⟩, x6_ce, y6_ce, q6_ce⟩ := id P6_ce.x2; obtain ⟨⟨k6_ro_0, g6_ro_0⟩, ⟨k6_ro_1, g6_ro_1⟩, x6_ro, y6_ro, q6_ro⟩ := id P6_ro.x2; have f6r := f6.rws; have hox6 : Rw w6 (γ6 0).1 U := (f6r 0 _ rfl).2; have cap_ox : U.length ≤ (γ6 0).2 := (f6r 0 _ rfl).1; have hoy6 : Rw w6 (γ6 1).1 U := (f6r 1 _ rfl).2; have cap_oy : U.length ≤ (γ6 1).2 := (f6r 1 _ rfl).1; clear P5_p q5_p P5_fl q5_fl P5_ce q5_ce P5_ro q5_ro ha5 hb5 hfx5 hcx5 hrx5 E6))
  refine Late.wp_region_late (fun W => Bx W w.heap.size [.bool s, .slice a l.length c, .bool t, .slice b k.length d] ∧ Bx W (lo1 6) [.bool sF, .slice (G1 1 0).1 F.length (G1 1 0).2] ∧ Bx W (lo1 7) [.bool sC, .slice (G1 3 0).1 C.length (G1 3 0).2] ∧ Bx W (lo1 8) [.bool sR, .slice (G1 5 0).1 R.length (G1 5 0).2] ∧ Bx W w6.heap.size [.bool false, .slice (γ6 0).1 U.length (γ6 0).2, .bool false, .slice (γ6 1).1 U.length (γ6 1).2] ∧ Rw W a l ∧ Rw W b k ∧ Rw W (G1 1 0).1 F ∧ Rw W (G1 3 0).1 C ∧ Rw W (G1 5 0).1 R ∧ Rw W (γ6 0).1 U ∧ Rw W (γ6 1).1 U ∧ Below w.heap.size w W) 18 94 [.val [] (fun lo3 => .agg #[.bool sF, .slice (G1 1 0).1 F.length (G1 1 0).2]), .val [] (fun lo3 => .pointer (some ⟨w6.heap.size, 0, none⟩)), .val [] (fun lo3 => .agg #[.bool false, .slice (γ6 0).1 U.length (γ6 0).2]), .val [] (fun lo3 => .agg #[.bool sF, .slice (G1 1 0).1 F.length (G1 1 0).2, .bool false, .slice (γ6 0).1 U.length (γ6 0).2]), .val [] (fun lo3 => .agg #[.bool sC, .slice (G1 3 0).1 C.length (G1 3 0).2]), .val [] (fun lo3 => .pointer (some ⟨w6.heap.size, 0, none⟩)), .val [] (fun lo3 => .agg #[.bool false, .slice (γ6 0).1 U.length (γ6 0).2]), .val [] (fun lo3 => .agg #[.bool sC, .slice (G1 3 0).1 C.length (G1 3 0).2, .bool false, .slice (γ6 0).1 U.length (γ6 0).2]), .val [] (fun lo3 => .agg #[.bool sR, .slice (G1 5 0).1 R.length (G1 5 0).2]), .val [] (fun lo3 => .pointer (some ⟨w6.heap.size, 0, none⟩)), .val [] (fun lo3 => .agg #[.bool false, .slice (γ6 0).1 U.length (γ6 0).2]), .val [] (fun lo3 => .agg #[.bool sR, .slice (G1 5 0).1 R.length (G1 5 0).2, .bool false, .slice (γ6 0).1 U.length (γ6 0).2]), .late (.cells ([Value.bool false, Value.slice none 0 0, Value.bool false, Value.slice none 0 0] : List Value).toArray 26) 4, .late (.cells ([Value.bool false, Value.slice none 0 0, Value.bool false, Value.slice none 0 0] : List Value).toArray 26) 4, .late (.cells ([Value.bool false, Value.slice none 0 0, Value.bool false, Value.slice none 0 0] : List Value).toArray 26) 4, .store 12 [12] (fun lo3 => [.bool sF, .slice (G1 1 0).1 F.length (G1 1 0).2, .bool false, .slice (γ6 0).1 U.length (γ6 0).2]), .store 13 [13] (fun lo3 => [.bool sC, .slice (G1 3 0).1 C.length (G1 3 0).2, .bool false, .slice (γ6 0).1 U.length (γ6 0).2]), .store 14 [14] (fun lo3 => [.bool sR, .slice (G1 5 0).1 R.length (G1 5 0).2, .bool false, .slice (γ6 0).1 U.length (γ6 0).2])] [[], [], [], [], [], [], [], [], [], [], [], [], [], [], [], [12], [13], [14]] [12, 13, 14] [15, 16, 17] (by kernel_rfl) (by kernel_rfl) rfl (by kernel_rfl) (by kernel_rfl) (by kernel_rfl) (by kernel_rfl) (by kernel_rfl) rfl ⟨fun _ _ _ => rfl, fun _ _ _ => rfl, fun _ _ _ => rfl, fun _ _ _ => rfl, fun _ _ _ => rfl, fun _ _ _ => rfl, fun _ _ _ => rfl, fun _ _ _ => rfl, fun _ _ _ => rfl, fun _ _ _ => rfl, fun _ _ _ => rfl, fun _ _ _ => rfl, trivial, trivial, trivial, ⟨by simp, fun _ _ _ => rfl⟩, ⟨by simp, fun _ _ _ => rfl⟩, ⟨by simp, fun _ _ _ => rfl⟩, trivial⟩ ⟨fun _ => rfl, fun _ => rfl, fun _ => rfl, trivial⟩ (by rintro w1 w2 ⟨p_p, p_fl, p_ce, p_ro, p_one, r_a, r_b, r_fx, r_cx, r_rx, r_ox, r_oy, bel⟩ hc; exact ⟨p_p.below hc, p_fl.below hc, p_ce.below hc, p_ro.below hc, p_one.below hc, r_a.below hc, r_b.below hc, r_fx.below hc, r_cx.below hc, r_rx.below hc, r_ox.below hc, r_oy.below hc, bel_step bel hc⟩) ⟨(P6_p.below (by (with_reducible repeat' first | exact Below.refl _ _ | assumption | apply belA | apply Below.drew | apply below_drewN | refine belS ?_ (by first | omega | (simp; done) | (simp; omega))))), (P6_fl.below (by (with_reducible repeat' first | exact Below.refl _ _ | assumption | apply belA | apply Below.drew | apply below_drewN | refine belS ?_ (by first | omega | (simp; done) | (simp; omega))))), (P6_ce.below (by (with_reducible repeat' first | exact Below.refl _ _ | assumption | apply belA | apply Below.drew | apply below_drewN | refine belS ?_ (by first | omega | (simp; done) | (simp; omega))))), (P6_ro.below (by (with_reducible repeat' first | exact Below.refl _ _ | assumption | apply belA | apply Below.drew | apply below_drewN | refine belS ?_ (by first | omega | (simp; done) | (simp; omega))))), (Bx.of4 (by first | with_reducible assumption | go_simp) (by first | with_reducible assumption | go_simp) (by first | with_reducible assumption | go_simp) (by first | with_reducible assumption | go_simp) (by first | with_reducible assumption | go_simp) (by first | with_reducible assumption | go_simp) (by first | with_reducible assumption | go_simp) (by first | with_reducible assumption | go_simp) : Bx _ w6.heap.size [.bool false, .slice (γ6 0).1 U.length (γ6 0).2, .bool false, .slice (γ6 1).1 U.length (γ6 1).2]), (ha6.below (by (with_reducible repeat' first | exact Below.refl _ _ | assumption | apply belA | apply Below.drew | apply below_drewN | refine belS ?_ (by first | omega | (simp; done) | (simp; omega))))), (hb6.below (by (with_reducible repeat' first | exact Below.refl _ _ | assumption | apply belA | apply Below.drew | apply below_drewN | refine belS ?_ (by first | omega | (simp; done) | (simp; omega))))), (hfx6.below (by (with_reducible repeat' first | exact Below.refl _ _ | assumption | apply belA | apply Below.drew | apply below_drewN | refine belS ?_ (by first | omega | (simp; done) | (simp; omega))))), (hcx6.below (by (with_reducible repeat' first | exact Below.refl _ _ | assumption | apply belA | apply Below.drew | apply below_drewN | refine belS ?_ (by first | omega | (simp; done) | (simp; omega))))), (hrx6.below (by (with_reducible repeat' first | exact Below.refl _ _ | assumption | apply belA | apply Below.drew | apply below_drewN | refine belS ?_ (by first | omega | (simp; done) | (simp; omega))))), (hox6.below (by (with_reducible repeat' first | exact Below.refl _ _ | assumption | apply belA | apply Below.drew | apply below_drewN | refine belS ?_ (by first | omega | (simp; done) | (simp; omega))))), (hoy6.below (by (with_reducible repeat' first | exact Below.refl _ _ | assumption | apply belA | apply Below.drew | apply below_drewN | refine belS ?_ (by first | omega | (simp; done) | (simp; omega))))), (show Below w.heap.size w _ from (by (with_reducible repeat' first | exact Below.refl _ _ | assumption | apply belA | apply Below.drew | apply below_drewN | refine belS ?_ (by first | omega | (simp; done) | (simp; omega)))))⟩ (Below.refl _ _) ?_
  rintro w7 ⟨P7_p, P7_fl, P7_ce, P7_ro, P7_one, ha7, hb7, hfx7, hcx7, hrx7, hox7, hoy7, hbw7⟩ lo3
  clear P6_p q6_p k6_p_0 g6_p_0 k6_p_1 g6_p_1 k6_p_2 g6_p_2 k6_p_3 g6_p_3 x6_p y6_p P6_fl q6_fl k6_fl_0 g6_fl_0 k6_fl_1 g6_fl_1 x6_fl y6_fl P6_ce q6_ce k6_ce_0 g6_ce_0 k6_ce_1 g6_ce_1 x6_ce y6_ce P6_ro q6_ro k6_ro_0 g6_ro_0 k6_ro_1 g6_ro_1 x6_ro y6_ro ha6 hb6 hfx6 hcx6 hrx6 hox6 hoy6
  have hz7 := hbw7.size
  simp only [List.take_succ_cons, List.take_zero, List.drop_succ_cons, List.drop_zero, List.cons_append, List.nil_append, List.append_nil]
  refine Late.oge_val (by rfl) ?_ ?_
  · exact fun f hf w' h _ => ldI (off := 0) rfl (by rw [← hf]; rfl) (h.2.1) rfl rfl
  refine Late.oge_val (by rfl) ?_ ?_
  · intro f hf; have u6 : f 6 = (.pointer (some ⟨w6.heap.size, 0, none⟩)) := (by rw [← hf]; rfl); clear hf; intro w' h _; clear h; go_simp
  refine Late.oge_val (by rfl) ?_ ?_
  · exact fun f hf w' h _ => ldI (off := 0) rfl (by rw [← hf]; rfl) (h.2.2.2.2.1) rfl rfl
  refine Late.oge_val (by rfl) ?_ ?_
  · intro f hf; have u41 : f 41 = (.agg #[.bool sF, .slice (G1 1 0).1 F.length (G1 1 0).2]) := (by rw [← hf]; rfl); have u43 : f 43 = (.agg #[.bool false, .slice (γ6 0).1 U.length (γ6 0).2]) := (by rw [← hf]; rfl); clear hf; intro w' h _; clear h; go_simp
  refine Late.oge_val (by rfl) ?_ ?_
  · exact fun f hf w' h _ => ldI (off := 0) rfl (by rw [← hf]; rfl) (h.2.2.1) rfl rfl
  refine Late.oge_val (by rfl) ?_ ?_
  · intro f hf; have u6 : f 6 = (.pointer (some ⟨w6.heap.size, 0, none⟩)) := (by rw [← hf]; rfl); clear hf; intro w' h _; clear h; go_simp
  refine Late.oge_val (by rfl) ?_ ?_
  · exact fun f hf w' h _ => ldI (off := 0) rfl (by rw [← hf]; rfl) (h.2.2.2.2.1) rfl rfl
  refine Late.oge_val (by rfl) ?_ ?_
  · intro f hf; have u45 : f 45 = (.agg #[.bool sC, .slice (G1 3 0).1 C.length (G1 3 0).2]) := (by rw [← hf]; rfl); have u47 : f 47 = (.agg #[.bool false, .slice (γ6 0).1 U.length (γ6 0).2]) := (by rw [← hf]; rfl); clear hf; intro w' h _; clear h; go_simp
  refine Late.oge_val (by rfl) ?_ ?_
  · exact fun f hf w' h _ => ldI (off := 0) rfl (by rw [← hf]; rfl) (h.2.2.2.1) rfl rfl
  refine Late.oge_val (by rfl) ?_ ?_
  · intro f hf; have u6 : f 6 = (.pointer (some ⟨w6.heap.size, 0, none⟩)) := (by rw [← hf]; rfl); clear hf; intro w' h _; clear h; go_simp
  refine Late.oge_val (by rfl) ?_ ?_
  · exact fun f hf w' h _ => ldI (off := 0) rfl (by rw [← hf]; rfl) (h.2.2.2.2.1) rfl rfl
  refine Late.oge_val (by rfl) ?_ ?_
  · intro f hf; have u49 : f 49 = (.agg #[.bool sR, .slice (G1 5 0).1 R.length (G1 5 0).2]) := (by rw [← hf]; rfl); have u51 : f 51 = (.agg #[.bool false, .slice (γ6 0).1 U.length (γ6 0).2]) := (by rw [← hf]; rfl); clear hf; intro w' h _; clear h; go_simp
  refine Late.oge_late rfl (by rfl) ?_ ?_
  · intro f hf; clear hf; intro w' _; go_simp
  refine Late.oge_late rfl (by rfl) ?_ ?_
  · intro f hf; clear hf; intro w' _; go_simp
  refine Late.oge_late rfl (by rfl) ?_ ?_
  · intro f hf; clear hf; intro w' _; go_simp
  refine Late.oge_store (by rfl) rfl ?_ ?_
  · exact fun f hf w' h hF => st4 rfl (by rw [← hf]; rfl) (by rw [← hf]; rfl) (hF 12 (List.mem_of_elem_eq_true rfl))
  refine Late.oge_store (by rfl) rfl ?_ ?_
  · exact fun f hf w' h hF => st4 rfl (by rw [← hf]; rfl) (by rw [← hf]; rfl) (hF 13 (List.mem_of_elem_eq_true rfl))
  refine Late.oge_store (by rfl) rfl ?_ ?_
  · exact fun f hf w' h hF => st4 rfl (by rw [← hf]; rfl) (by rw [← hf]; rfl) (hF 14 (List.mem_of_elem_eq_true rfl))
  refine Late.oge_nil ?_
  rintro w8 ⟨P8_p, P8_fl, P8_ce, P8_ro, P8_one, ha8, hb8, hfx8, hcx8, hrx8, hox8, hoy8, hbw8⟩ hd8 hA hT
  have hz8 := hbw8.size
  obtain ⟨la12, ld12, la13, ld13, la14, ld14, -⟩ := hA
  obtain ⟨tt15, tt16, tt17, -⟩ := hT
  have P8_f : Bx w8 (lo3 12) [.bool sF, .slice (G1 1 0).1 F.length (G1 1 0).2, .bool false, .slice (γ6 0).1 U.length (γ6 0).2] := tt15
  have v12_p : ¬ (lo3 12) = w.heap.size := by have := P7_p.2; omega
  have vp_12 : ¬ w.heap.size = (lo3 12) := by have := P7_p.2; omega
  have v12_fl : ¬ (lo3 12) = (lo1 6) := by have := P7_fl.2; omega
  have vfl_12 : ¬ (lo1 6) = (lo3 12) := by have := P7_fl.2; omega
  have v12_ce : ¬ (lo3 12) = (lo1 7) := by have := P7_ce.2; omega
  have vce_12 : ¬ (lo1 7) = (lo3 12) := by have := P7_ce.2; omega
  have v12_ro : ¬ (lo3 12) = (lo1 8) := by have := P7_ro.2; omega
  have vro_12 : ¬ (lo1 8) = (lo3 12) := by have := P7_ro.2; omega
  have v12_one : ¬ (lo3 12) = w6.heap.size := by have := P7_one.2; omega
  have vone_12 : ¬ w6.heap.size = (lo3 12) := by have := P7_one.2; omega
  have v12_13 : ¬ (lo3 12) = (lo3 13) := ld12 13 (by simp)
  have v13_12 : ¬ (lo3 13) = (lo3 12) := fun h => v12_13 h.symm
  have v12_14 : ¬ (lo3 12) = (lo3 14) := ld12 14 (by simp)
  have v14_12 : ¬ (lo3 14) = (lo3 12) := fun h => v12_14 h.symm
  have vl12 : w.heap.size ≤ lo3 12 := by omega
  have P8_g : Bx w8 (lo3 13) [.bool sC, .slice (G1 3 0).1 C.length (G1 3 0).2, .bool false, .slice (γ6 0).1 U.length (γ6 0).2] := tt16
  have v13_p : ¬ (lo3 13) = w.heap.size := by have := P7_p.2; omega
  have vp_13 : ¬ w.heap.size = (lo3 13) := by have := P7_p.2; omega
  have v13_fl : ¬ (lo3 13) = (lo1 6) := by have := P7_fl.2; omega
  have vfl_13 : ¬ (lo1 6) = (lo3 13) := by have := P7_fl.2; omega
  have v13_ce : ¬ (lo3 13) = (lo1 7) := by have := P7_ce.2; omega
  have vce_13 : ¬ (lo1 7) = (lo3 13) := by have := P7_ce.2; omega
  have v13_ro : ¬ (lo3 13) = (lo1 8) := by have := P7_ro.2; omega
  have vro_13 : ¬ (lo1 8) = (lo3 13) := by have := P7_ro.2; omega
  have v13_one : ¬ (lo3 13) = w6.heap.size := by have := P7_one.2; omega
  have vone_13 : ¬ w6.heap.size = (lo3 13) := by have := P7_one.2; omega
  have v13_14 : ¬ (lo3 13) = (lo3 14) := ld13 14 (by simp)
  have v14_13 : ¬ (lo3 14) = (lo3 13) := fun h => v13_14 h.symm
  have vl13 : w.heap.size ≤ lo3 13 := by omega
  have P8_h : Bx w8 (lo3 14) [.bool sR, .slice (G1 5 0).1 R.length (G1 5 0).2, .bool false, .slice (γ6 0).1 U.length (γ6 0).2] := tt17
  have v14_p : ¬ (lo3 14) = w.heap.size := by have := P7_p.2; omega
  have vp_14 : ¬ w.heap.size = (lo3 14) := by have := P7_p.2; omega
  have v14_fl : ¬ (lo3 14) = (lo1 6) := by have := P7_fl.2; omega
  have vfl_14 : ¬ (lo1 6) = (lo3 14) := by have := P7_fl.2; omega
  have v14_ce : ¬ (lo3 14) = (lo1 7) := by have := P7_ce.2; omega
  have vce_14 : ¬ (lo1 7) = (lo3 14) := by have := P7_ce.2; omega
  have v14_ro : ¬ (lo3 14) = (lo1 8) := by have := P7_ro.2; omega
  have vro_14 : ¬ (lo1 8) = (lo3 14) := by have := P7_ro.2; omega
  have v14_one : ¬ (lo3 14) = w6.heap.size := by have := P7_one.2; omega
  have vone_14 : ¬ w6.heap.size = (lo3 14) := by have := P7_one.2; omega
  have vl14 : w.heap.size ≤ lo3 14 := by omega
  have qq7_p : w.heap.size < w7.heap.size := P7_p.2
  have qq7_fl : (lo1 6) < w7.heap.size := P7_fl.2
  have qq7_ce : (lo1 7) < w7.heap.size := P7_ce.2
  have qq7_ro : (lo1 8) < w7.heap.size := P7_ro.2
  have qq7_one : w6.heap.size < w7.heap.size := P7_one.2
  clear P7_p P7_fl P7_ce P7_ro P7_one ha7 hb7 hfx7 hcx7 hrx7 hox7 hoy7 ld12 ld13 ld14 tt15 tt16 tt17 hd8
  have q8_p := P8_p.2
  have q8_fl := P8_fl.2
  have q8_ce := P8_ce.2
  have q8_ro := P8_ro.2
  have q8_one := P8_one.2
  have q8_f := P8_f.2
  have q8_g := P8_g.2
  have q8_h := P8_h.2
  simp only [puts, putD, Act.put, List.setIfInBounds_toArray, List.set_cons_zero, List.set_cons_succ]
  go_wp2
  refine wp_region_go1 (fun W => Bx W w.heap.size [.bool s, .slice a l.length c, .bool t, .slice b k.length d] ∧ Bx W w6.heap.size [.bool false, .slice (γ6 0).1 U.length (γ6 0).2, .bool false, .slice (γ6 1).1 U.length (γ6 1).2] ∧ Bx W (lo3 12) [.bool sF, .slice (G1 1 0).1 F.length (G1 1 0).2, .bool false, .slice (γ6 0).1 U.length (γ6 0).2] ∧ Bx W (lo3 13) [.bool sC, .slice (G1 3 0).1 C.length (G1 3 0).2, .bool false, .slice (γ6 0).1 U.length (γ6 0).2] ∧ Bx W (lo3 14) [.bool sR, .slice (G1 5 0).1 R.length (G1 5 0).2, .bool false, .slice (γ6 0).1 U.length (γ6 0).2] ∧ Rw W a l ∧ Rw W b k ∧ Rw W (G1 1 0).1 F ∧ Rw W (G1 3 0).1 C ∧ Rw W (G1 5 0).1 R ∧ Rw W (γ6 0).1 U ∧ Rw W (γ6 1).1 U ∧ Below w.heap.size w W) 8 94 [kv (.agg #[.bool s, .slice a l.length c, .bool t, .slice b k.length d]), kv (.agg #[.bool s, .slice a l.length c, .bool t, .slice b k.length d]), .made (fun γ => .agg #[.bool sA, .slice (γ 0).1 XA.length (γ 0).2, .bool false, .slice (γ 1).1 YA.length (γ 1).2]) (OwP [XA, YA]), kv (.agg #[.bool sR, .slice (G1 5 0).1 R.length (G1 5 0).2, .bool false, .slice (γ6 0).1 U.length (γ6 0).2]), kv (.agg #[.bool sR, .slice (G1 5 0).1 R.length (G1 5 0).2, .bool false, .slice (γ6 0).1 U.length (γ6 0).2]), .made (fun γ => .agg #[.bool sB, .slice (γ 0).1 XB.length (γ 0).2, .bool false, .slice (γ 1).1 YB.length (γ 1).2]) (OwP [XB, YB]), .made (fun γ => .agg #[.bool sD, .slice (γ 0).1 XD.length (γ 0).2, .bool false, .slice (γ 1).1 YD.length (γ 1).2]) (OwP [XD, YD]), .fresh (.cells #[Value.bool false, Value.slice none 0 0, Value.bool false, Value.slice none 0 0] 26)] [[], [], [], [], [], [], [2, 5], []] [2, 5, 6, 7] (by kernel_rfl) (by kernel_rfl) rfl (by kernel_rfl) (by kernel_rfl) (by kernel_rfl) rfl (by repeat' first | exact fits_nil | refine fits_cons ?_ ?_ | exact fit_const _ | exact trueP_fit _ | exact owP_fit _ _ | exact rwsP_fit _ _ | exact rwnP_fit _ _ | exact fit_fresh _ | exact fit_skip) (by rintro w1 w2 ⟨p_p, p_one, p_f, p_g, p_h, r_a, r_b, r_fx, r_cx, r_rx, r_ox, r_oy, bel⟩ hc; exact ⟨p_p.below hc, p_one.below hc, p_f.below hc, p_g.below hc, p_h.below hc, r_a.below hc, r_b.below hc, r_fx.below hc, r_cx.below hc, r_rx.below hc, r_ox.below hc, r_oy.below hc, bel_step bel hc⟩) (⟨P8_p, P8_one, P8_f, P8_g, P8_h, ha8, hb8, hfx8, hcx8, hrx8, hox8, hoy8, hbw8⟩) (by (with_reducible repeat' first | exact Below.refl _ _ | assumption | apply belA | apply Below.drew | apply below_drewN | refine belS ?_ (by first | omega | (simp; done) | (simp; omega)))) ?_
  rintro w9 ⟨P9_p, P9_one, P9_f, P9_g, P9_h, ha9, hb9, hfx9, hcx9, hrx9, hox9, hoy9, hbw9⟩ G4 lo4 hi4
  clear P8_p q8_p P8_one q8_one P8_f q8_f P8_g q8_g P8_h q8_h ha8 hb8 hfx8 hcx8 hrx8 hox8 hoy8
  have hz9 := hbw9.size
  simp only [List.take_succ_cons, List.take_zero, List.drop_succ_cons, List.drop_zero, List.cons_append, List.nil_append, List.append_nil]
  refine oge_val (by rfl) ?_ ?_
  · exact fun f hf w' h _ => ldR rfl (by rw [← hf]; rfl) h.1
  refine oge_val (by rfl) ?_ ?_
  · exact fun f hf w' h _ => ldR rfl (by rw [← hf]; rfl) h.1
  refine oge_call 33 #[.agg #[.bool s, .slice a l.length c, .bool t, .slice b k.length d], .agg #[.bool s, .slice a l.length c, .bool t, .slice b k.length d]] (by rfl) ?_ ?_ ?_
  · exact fun f hf w' h _ => cl2 rfl (by rw [← hf]; rfl) (by rw [← hf]; rfl) (by go_simp)
  · rintro w' ⟨p_p, p_one, p_f, p_g, p_h, r_a, r_b, r_fx, r_cx, r_rx, r_ox, r_oy, bel⟩ hF; exact HN0.out _ _ _ _ _ _ _ _ _ _ (Below.refl _ _) cap_a cap_b cap_a cap_b r_a r_b r_a r_b
  refine oge_val (by rfl) ?_ ?_
  · exact fun f hf w' h _ => ldR rfl (by rw [← hf]; rfl) h.2.2.2.2.1
  refine oge_val (by rfl) ?_ ?_
  · exact fun f hf w' h _ => ldR rfl (by rw [← hf]; rfl) h.2.2.2.2.1
  refine oge_call 33 #[.agg #[.bool sR, .slice (G1 5 0).1 R.length (G1 5 0).2, .bool false, .slice (γ6 0).1 U.length (γ6 0).2], .agg #[.bool sR, .slice (G1 5 0).1 R.length (G1 5 0).2, .bool false, .slice (γ6 0).1 U.length (γ6 0).2]] (by rfl) ?_ ?_ ?_
  · exact fun f hf w' h _ => cl2 rfl (by rw [← hf]; rfl) (by rw [← hf]; rfl) (by go_simp)
  · rintro w' ⟨p_p, p_one, p_f, p_g, p_h, r_a, r_b, r_fx, r_cx, r_rx, r_ox, r_oy, bel⟩ hF; exact HN1.out _ _ _ _ _ _ _ _ _ _ (Below.refl _ _) cap_rx cap_ox cap_rx cap_ox r_rx r_ox r_rx r_ox
  refine oge_call 32 #[.agg #[.bool sA, .slice (G4 2 0).1 XA.length (G4 2 0).2, .bool false, .slice (G4 2 1).1 YA.length (G4 2 1).2], .agg #[.bool sB, .slice (G4 5 0).1 XB.length (G4 5 0).2, .bool false, .slice (G4 5 1).1 YB.length (G4 5 1).2]] (by rfl) ?_ ?_ ?_
  · exact fun f hf w' h _ => cl2 rfl (by rw [← hf]; rfl) (by rw [← hf]; rfl) (by go_simp)
  · rintro w' ⟨p_p, p_one, p_f, p_g, p_h, r_a, r_b, r_fx, r_cx, r_rx, r_ox, r_oy, bel⟩ hF; have ff2 : OwP [XA, YA] (G4 2) (lo4 2) (hi4 2) w' := (hF 2 (List.mem_of_elem_eq_true rfl)).1; have ff2 := ff2.rws; have ff5 : OwP [XB, YB] (G4 5) (lo4 5) (hi4 5) w' := (hF 5 (List.mem_of_elem_eq_true rfl)).1; have ff5 := ff5.rws; exact HN2.out _ _ _ _ _ _ _ _ _ _ (Below.refl _ _) (ff2 0 _ rfl).1 (ff2 1 _ rfl).1 (ff5 0 _ rfl).1 (ff5 1 _ rfl).1 (ff2 0 _ rfl).2 (ff2 1 _ rfl).2 (ff5 0 _ rfl).2 (ff5 1 _ rfl).2
  refine oge_fresh (by rfl) ?_ ?_
  · intro f hf; clear hf; intro w' _; go_simp
  refine oge_nil ?_
  rintro w10 ⟨P10_p, P10_one, P10_f, P10_g, P10_h, ha10, hb10, hfx10, hcx10, hrx10, hox10, hoy10, hbw10⟩ hd10 hA
  have hz10 := hbw10.size
  obtain ⟨⟨la2, lb2, lc2, fw2⟩, ld2, ⟨⟨la5, lb5, lc5, fw5⟩, ld5, ⟨⟨la6, lb6, lc6, fw6⟩, ld6, ⟨⟨la7, lb7, lc7, fw7⟩, ld7, -⟩⟩⟩⟩ := hA
  obtain ⟨fa7, fh7⟩ := fw7
  have P10_off : Bx w10 (lo4 7) [.bool false, .slice none 0 0, .bool false, .slice none 0 0] := Bx.row fa7
  have v7_p : ¬ (lo4 7) = w.heap.size := by have := P9_p.2; omega
  have vp_7 : ¬ w.heap.size = (lo4 7) := by have := P9_p.2; omega
  have v7_one : ¬ (lo4 7) = w6.heap.size := by have := P9_one.2; omega
  have vone_7 : ¬ w6.heap.size = (lo4 7) := by have := P9_one.2; omega
  have v7_f : ¬ (lo4 7) = (lo3 12) := by have := P9_f.2; omega
  have vf_7 : ¬ (lo3 12) = (lo4 7) := by have := P9_f.2; omega
  have v7_g : ¬ (lo4 7) = (lo3 13) := by have := P9_g.2; omega
  have vg_7 : ¬ (lo3 13) = (lo4 7) := by have := P9_g.2; omega
  have v7_h : ¬ (lo4 7) = (lo3 14) := by have := P9_h.2; omega
  have vh_7 : ¬ (lo3 14) = (lo4 7) := by have := P9_h.2; omega
  have vl7 : w.heap.size ≤ lo4 7 := by omega
  have fo2 : OwP [XA, YA] (G4 2) (lo4 2) (hi4 2) w10 := fw2
  have fa2 := fo2.rws
  have fo5 : OwP [XB, YB] (G4 5) (lo4 5) (hi4 5) w10 := fw5
  have fa5 := fo5.rws
  have fo6 : OwP [XD, YD] (G4 6) (lo4 6) (hi4 6) w10 := fw6
  have fa6 := fo6.rws
  have hdx10 : Rw w10 (G4 6 0).1 XD := (fa6 0 _ rfl).2
  have cap_dx : XD.length ≤ (G4 6 0).2 := (fa6 0 _ rfl).1
  have hdy10 : Rw w10 (G4 6 1).1 YD := (fa6 1 _ rfl).2
  have cap_dy : YD.length ≤ (G4 6 1).2 := (fa6 1 _ rfl).1
  have qq9_p : w.heap.size < w9.heap.size := P9_p.2
  have qq9_one : w6.heap.size < w9.heap.size := P9_one.2
  have qq9_f : (lo3 12) < w9.heap.size := P9_f.2
  have qq9_g : (lo3 13) < w9.heap.size := P9_g.2
  have qq9_h : (lo3 14) < w9.heap.size := P9_h.2
  clear P9_p P9_one P9_f P9_g P9_h ha9 hb9 hfx9 hcx9 hrx9 hox9 hoy9 ld2 fw2 ld5 fw5 ld6 fw6 ld7 lb7 hd10
  have q10_p := P10_p.2
  have q10_one := P10_one.2
  have q10_f := P10_f.2
  have q10_g := P10_g.2
  have q10_h := P10_h.2
  obtain ⟨⟨k10_off_0, g10_off_0⟩, ⟨k10_off_1, g10_off_1⟩, ⟨k10_off_2, g10_off_2⟩, ⟨k10_off_3, g10_off_3⟩, x10_off, y10_off, q10_off⟩ := id P10_off.x4
  simp only [puts, putD, Act.put, List.setIfInBounds_toArray, List.set_cons_zero, List.set_cons_succ]
  go_wp2
  refine wp_region_go0 (fun W => Bx W w.heap.size [.bool s, .slice a l.length c, .bool t, .slice b k.length d] ∧ Bx W w6.heap.size [.bool false, .slice (γ6 0).1 U.length (γ6 0).2, .bool false, .slice (γ6 1).1 U.length (γ6 1).2] ∧ Bx W (lo3 12) [.bool sF, .slice (G1 1 0).1 F.length (G1 1 0).2, .bool false, .slice (γ6 0).1 U.length (γ6 0).2] ∧ Bx W (lo3 13) [.bool sC, .slice (G1 3 0).1 C.length (G1 3 0).2, .bool false, .slice (γ6 0).1 U.length (γ6 0).2] ∧ Bx W (lo4 7) [.bool sD, .slice (G4 6 0).1 XD.length (G4 6 0).2, .bool false, .slice (G4 6 1).1 YD.length (G4 6 1).2] ∧ Rw W a l ∧ Rw W b k ∧ Rw W (G1 1 0).1 F ∧ Rw W (G1 3 0).1 C ∧ Rw W (G1 5 0).1 R ∧ Rw W (γ6 0).1 U ∧ Rw W (γ6 1).1 U ∧ Rw W (G4 6 0).1 XD ∧ Rw W (G4 6 1).1 YD ∧ Below w.heap.size w W) 34 94 [kv (.agg #[.bool sF, .slice (G1 1 0).1 F.length (G1 1 0).2, .bool false, .slice (γ6 0).1 U.length (γ6 0).2]), kv (.agg #[.bool s, .slice a l.length c, .bool t, .slice b k.length d]), km (.int .i64 z1), kv (.bool true), kv (.bool true), kv (.agg #[.bool sC, .slice (G1 3 0).1 C.length (G1 3 0).2, .bool false, .slice (γ6 0).1 U.length (γ6 0).2]), kv (.agg #[.bool s, .slice a l.length c, .bool t, .slice b k.length d]), km (.int .i64 z2), kv (.bool true), kv (.bool true), kv (.bool true), kv (.agg #[.bool sC, .slice (G1 3 0).1 C.length (G1 3 0).2, .bool false, .slice (γ6 0).1 U.length (γ6 0).2]), kv (.agg #[.bool sF, .slice (G1 1 0).1 F.length (G1 1 0).2, .bool false, .slice (γ6 0).1 U.length (γ6 0).2]), .made (fun γ => .agg #[.bool sE, .slice (γ 0).1 XE.length (γ 0).2, .bool false, .slice (γ 1).1 YE.length (γ 1).2]) (OwP [XE, YE]), kv (.agg #[.bool false, .slice (γ6 0).1 U.length (γ6 0).2, .bool false, .slice (γ6 1).1 U.length (γ6 1).2]), km (.int .i64 z3), kv (.bool true), kv (.bool true), kv (.bool true), kv (.agg #[.bool sD, .slice (G4 6 0).1 XD.length (G4 6 0).2, .bool false, .slice (G4 6 1).1 YD.length (G4 6 1).2]), kv (.agg #[.bool false, .slice (γ6 0).1 U.length (γ6 0).2, .bool false, .slice (γ6 1).1 U.length (γ6 1).2]), km (.int .i64 z4), kv (.bool true), kv (.bool true), kv (.bool true), kv (.agg #[.bool sD, .slice (G4 6 0).1 XD.length (G4 6 0).2, .bool false, .slice (G4 6 1).1 YD.length (G4 6 1).2]), kv (.agg #[.bool false, .slice (γ6 0).1 U.length (γ6 0).2, .bool false, .slice (γ6 1).1 U.length (γ6 1).2]), .made (fun γ => .agg #[.bool sN, .slice (γ 0).1 XN.length (γ 0).2, .bool false, .slice (γ 1).1 YN.length (γ 1).2]) (OwP [XN, YN]), km (.int .i64 z5), kv (.bool true), kv (.bool true), kv (.bool true), km (.bool true), kv (.bool true)] [[], [], [], [], [], [], [], [], [], [], [], [], [], [], [], [13], [], [], [], [], [], [], [], [], [], [], [], [], [27], [], [], [], [], []] [2, 7, 13, 15, 21, 27, 28, 32] (by kernel_rfl) (by kernel_rfl) rfl (by kernel_rfl) (by kernel_rfl) (by kernel_rfl) rfl (by repeat' first | exact fits_nil | refine fits_cons ?_ ?_ | exact fit_const _ | exact trueP_fit _ | exact owP_fit _ _ | exact rwsP_fit _ _ | exact rwnP_fit _ _ | exact fit_fresh _ | exact fit_skip) (by rintro w1 w2 ⟨p_p, p_one, p_f, p_g, p_off, r_a, r_b, r_fx, r_cx, r_rx, r_ox, r_oy, r_dx, r_dy, bel⟩ hc; exact ⟨p_p.below hc, p_one.below hc, p_f.below hc, p_g.below hc, p_off.below hc, r_a.below hc, r_b.below hc, r_fx.below hc, r_cx.below hc, r_rx.below hc, r_ox.below hc, r_oy.below hc, r_dx.below hc, r_dy.below hc, bel_step bel hc⟩) ⟨(show Bx _ w.heap.size [.bool s, .slice a l.length c, .bool t, .slice b k.length d] from (by (with_reducible repeat' first | assumption | exact Bx.new _ _ _ | refine Bx.newAt _ _ _ (by simp; done) | apply Bx.dr | apply Bx.drN | apply Bx.al | refine Bx.st ?_ (by first | assumption | omega | (simp; done) | (simp; omega))))), (show Bx _ w6.heap.size [.bool false, .slice (γ6 0).1 U.length (γ6 0).2, .bool false, .slice (γ6 1).1 U.length (γ6 1).2] from (by (with_reducible repeat' first | assumption | exact Bx.new _ _ _ | refine Bx.newAt _ _ _ (by simp; done) | apply Bx.dr | apply Bx.drN | apply Bx.al | refine Bx.st ?_ (by first | assumption | omega | (simp; done) | (simp; omega))))), (show Bx _ (lo3 12) [.bool sF, .slice (G1 1 0).1 F.length (G1 1 0).2, .bool false, .slice (γ6 0).1 U.length (γ6 0).2] from (by (with_reducible repeat' first | assumption | exact Bx.new _ _ _ | refine Bx.newAt _ _ _ (by simp; done) | apply Bx.dr | apply Bx.drN | apply Bx.al | refine Bx.st ?_ (by first | assumption | omega | (simp; done) | (simp; omega))))), (show Bx _ (lo3 13) [.bool sC, .slice (G1 3 0).1 C.length (G1 3 0).2, .bool false, .slice (γ6 0).1 U.length (γ6 0).2] from (by (with_reducible repeat' first | assumption | exact Bx.new _ _ _ | refine Bx.newAt _ _ _ (by simp; done) | apply Bx.dr | apply Bx.drN | apply Bx.al | refine Bx.st ?_ (by first | assumption | omega | (simp; done) | (simp; omega))))), (Bx.of4 (by first | with_reducible assumption | go_simp) (by first | with_reducible assumption | go_simp) (by first | with_reducible assumption | go_simp) (by first | with_reducible assumption | go_simp) (by first | with_reducible assumption | go_simp) (by first | with_reducible assumption | go_simp) (by first | with_reducible assumption | go_simp) (by first | with_reducible assumption | go_simp) : Bx _ (lo4 7) [.bool sD, .slice (G4 6 0).1 XD.length (G4 6 0).2, .bool false, .slice (G4 6 1).1 YD.length (G4 6 1).2]), (show Rw _ a l from (by (repeat' first | with_reducible assumption | with_reducible apply Rw.dr | with_reducible apply Rw.drN | with_reducible apply Rw.al | exact Rw.sets (W := w10) (by with_reducible assumption) [((lo4 7), 0, .bool sD), ((lo4 7), 1, .slice (G4 6 0).1 XD.length (G4 6 0).2), ((lo4 7), 2, .bool false), ((lo4 7), 3, .slice (G4 6 1).1 YD.length (G4 6 1).2)] ⟨⟨_, k10_off_0, rfl⟩, ⟨_, k10_off_1, rfl⟩, ⟨_, k10_off_2, rfl⟩, ⟨_, k10_off_3, rfl⟩, trivial⟩))), (show Rw _ b k from (by (repeat' first | with_reducible assumption | with_reducible apply Rw.dr | with_reducible apply Rw.drN | with_reducible apply Rw.al | exact Rw.sets (W := w10) (by with_reducible assumption) [((lo4 7), 0, .bool sD), ((lo4 7), 1, .slice (G4 6 0).1 XD.length (G4 6 0).2), ((lo4 7), 2, .bool false), ((lo4 7), 3, .slice (G4 6 1).1 YD.length (G4 6 1).2)] ⟨⟨_, k10_off_0, rfl⟩, ⟨_, k10_off_1, rfl⟩, ⟨_, k10_off_2, rfl⟩, ⟨_, k10_off_3, rfl⟩, trivial⟩))), (show Rw _ (G1 1 0).1 F from (by (repeat' first | with_reducible assumption | with_reducible apply Rw.dr | with_reducible apply Rw.drN | with_reducible apply Rw.al | exact Rw.sets (W := w10) (by with_reducible assumption) [((lo4 7), 0, .bool sD), ((lo4 7), 1, .slice (G4 6 0).1 XD.length (G4 6 0).2), ((lo4 7), 2, .bool false), ((lo4 7), 3, .slice (G4 6 1).1 YD.length (G4 6 1).2)] ⟨⟨_, k10_off_0, rfl⟩, ⟨_, k10_off_1, rfl⟩, ⟨_, k10_off_2, rfl⟩, ⟨_, k10_off_3, rfl⟩, trivial⟩))), (show Rw _ (G1 3 0).1 C from (by (repeat' first | with_reducible assumption | with_reducible apply Rw.dr | with_reducible apply Rw.drN | with_reducible apply Rw.al | exact Rw.sets (W := w10) (by with_reducible assumption) [((lo4 7), 0, .bool sD), ((lo4 7), 1, .slice (G4 6 0).1 XD.length (G4 6 0).2), ((lo4 7), 2, .bool false), ((lo4 7), 3, .slice (G4 6 1).1 YD.length (G4 6 1).2)] ⟨⟨_, k10_off_0, rfl⟩, ⟨_, k10_off_1, rfl⟩, ⟨_, k10_off_2, rfl⟩, ⟨_, k10_off_3, rfl⟩, trivial⟩))), (show Rw _ (G1 5 0).1 R from (by (repeat' first | with_reducible assumption | with_reducible apply Rw.dr | with_reducible apply Rw.drN | with_reducible apply Rw.al | exact Rw.sets (W := w10) (by with_reducible assumption) [((lo4 7), 0, .bool sD), ((lo4 7), 1, .slice (G4 6 0).1 XD.length (G4 6 0).2), ((lo4 7), 2, .bool false), ((lo4 7), 3, .slice (G4 6 1).1 YD.length (G4 6 1).2)] ⟨⟨_, k10_off_0, rfl⟩, ⟨_, k10_off_1, rfl⟩, ⟨_, k10_off_2, rfl⟩, ⟨_, k10_off_3, rfl⟩, trivial⟩))), (show Rw _ (γ6 0).1 U from (by (repeat' first | with_reducible assumption | with_reducible apply Rw.dr | with_reducible apply Rw.drN | with_reducible apply Rw.al | exact Rw.sets (W := w10) (by with_reducible assumption) [((lo4 7), 0, .bool sD), ((lo4 7), 1, .slice (G4 6 0).1 XD.length (G4 6 0).2), ((lo4 7), 2, .bool false), ((lo4 7), 3, .slice (G4 6 1).1 YD.length (G4 6 1).2)] ⟨⟨_, k10_off_0, rfl⟩, ⟨_, k10_off_1, rfl⟩, ⟨_, k10_off_2, rfl⟩, ⟨_, k10_off_3, rfl⟩, trivial⟩))), (show Rw _ (γ6 1).1 U from (by (repeat' first | with_reducible assumption | with_reducible apply Rw.dr | with_reducible apply Rw.drN | with_reducible apply Rw.al | exact Rw.sets (W := w10) (by with_reducible assumption) [((lo4 7), 0, .bool sD), ((lo4 7), 1, .slice (G4 6 0).1 XD.length (G4 6 0).2), ((lo4 7), 2, .bool false), ((lo4 7), 3, .slice (G4 6 1).1 YD.length (G4 6 1).2)] ⟨⟨_, k10_off_0, rfl⟩, ⟨_, k10_off_1, rfl⟩, ⟨_, k10_off_2, rfl⟩, ⟨_, k10_off_3, rfl⟩, trivial⟩))), (show Rw _ (G4 6 0).1 XD from (by (repeat' first | with_reducible assumption | with_reducible apply Rw.dr | with_reducible apply Rw.drN | with_reducible apply Rw.al | exact Rw.sets (W := w10) (by with_reducible assumption) [((lo4 7), 0, .bool sD), ((lo4 7), 1, .slice (G4 6 0).1 XD.length (G4 6 0).2), ((lo4 7), 2, .bool false), ((lo4 7), 3, .slice (G4 6 1).1 YD.length (G4 6 1).2)] ⟨⟨_, k10_off_0, rfl⟩, ⟨_, k10_off_1, rfl⟩, ⟨_, k10_off_2, rfl⟩, ⟨_, k10_off_3, rfl⟩, trivial⟩))), (show Rw _ (G4 6 1).1 YD from (by (repeat' first | with_reducible assumption | with_reducible apply Rw.dr | with_reducible apply Rw.drN | with_reducible apply Rw.al | exact Rw.sets (W := w10) (by with_reducible assumption) [((lo4 7), 0, .bool sD), ((lo4 7), 1, .slice (G4 6 0).1 XD.length (G4 6 0).2), ((lo4 7), 2, .bool false), ((lo4 7), 3, .slice (G4 6 1).1 YD.length (G4 6 1).2)] ⟨⟨_, k10_off_0, rfl⟩, ⟨_, k10_off_1, rfl⟩, ⟨_, k10_off_2, rfl⟩, ⟨_, k10_off_3, rfl⟩, trivial⟩))), (show Below w.heap.size w _ from (by (with_reducible repeat' first | exact Below.refl _ _ | assumption | apply belA | apply Below.drew | apply below_drewN | refine belS ?_ (by first | omega | (simp; done) | (simp; omega)))))⟩ ?_
  rintro w11 ⟨P11_p, P11_one, P11_f, P11_g, P11_off, ha11, hb11, hfx11, hcx11, hrx11, hox11, hoy11, hdx11, hdy11, hbw11⟩ G5 lo5 hi5
  clear P10_p q10_p P10_one q10_one P10_f q10_f P10_g q10_g P10_off q10_off k10_off_0 g10_off_0 k10_off_1 g10_off_1 k10_off_2 g10_off_2 k10_off_3 g10_off_3 x10_off y10_off ha10 hb10 hfx10 hcx10 hrx10 hox10 hoy10 hdx10 hdy10
  have hz11 := hbw11.size
  simp only [List.take_succ_cons, List.take_zero, List.drop_succ_cons, List.drop_zero, List.cons_append, List.nil_append, List.append_nil]
  refine oge_val (by rfl) ?_ ?_
  · exact fun f hf w' h _ => ldR rfl (by rw [← hf]; rfl) h.2.2.1
  refine oge_val (by rfl) ?_ ?_
  · exact fun f hf w' h _ => ldR rfl (by rw [← hf]; rfl) h.1
  refine oge_call 34 #[.agg #[.bool sF, .slice (G1 1 0).1 F.length (G1 1 0).2, .bool false, .slice (γ6 0).1 U.length (γ6 0).2], .agg #[.bool s, .slice a l.length c, .bool t, .slice b k.length d]] (by rfl) ?_ ?_ ?_
  · exact fun f hf w' h _ => cl2 rfl (by rw [← hf]; rfl) (by rw [← hf]; rfl) (by go_simp)
  · rintro w' ⟨p_p, p_one, p_f, p_g, p_off, r_a, r_b, r_fx, r_cx, r_rx, r_ox, r_oy, r_dx, r_dy, bel⟩ hF; exact Calls.mono (HN3.out _ _ _ _ _ _ _ _ _ _ (Below.refl _ _) cap_fx cap_ox cap_a cap_b r_fx r_ox r_a r_b) (fun _ _ h => AnsR.fix h)
  refine oge_val (by rfl) ?_ ?_
  · intro f hf; have u62 : f 62 = (.int .i64 z1) := (by rw [← hf]; rfl); clear hf; intro w' h _; clear h; go_simp
  refine oge_val (by rfl) ?_ ?_
  · exact fun f hf w' h _ => mv rfl (by rw [← hf]; rfl)
  refine oge_val (by rfl) ?_ ?_
  · exact fun f hf w' h _ => ldR rfl (by rw [← hf]; rfl) h.2.2.2.1
  refine oge_val (by rfl) ?_ ?_
  · exact fun f hf w' h _ => ldR rfl (by rw [← hf]; rfl) h.1
  refine oge_call 34 #[.agg #[.bool sC, .slice (G1 3 0).1 C.length (G1 3 0).2, .bool false, .slice (γ6 0).1 U.length (γ6 0).2], .agg #[.bool s, .slice a l.length c, .bool t, .slice b k.length d]] (by rfl) ?_ ?_ ?_
  · exact fun f hf w' h _ => cl2 rfl (by rw [← hf]; rfl) (by rw [← hf]; rfl) (by go_simp)
  · rintro w' ⟨p_p, p_one, p_f, p_g, p_off, r_a, r_b, r_fx, r_cx, r_rx, r_ox, r_oy, r_dx, r_dy, bel⟩ hF; exact Calls.mono (HN4.out _ _ _ _ _ _ _ _ _ _ (Below.refl _ _) cap_cx cap_ox cap_a cap_b r_cx r_ox r_a r_b) (fun _ _ h => AnsR.fix h)
  refine oge_val (by rfl) ?_ ?_
  · intro f hf; have u67 : f 67 = (.int .i64 z2) := (by rw [← hf]; rfl); clear hf; intro w' h _; clear h; go_simp
  refine oge_val (by rfl) ?_ ?_
  · exact fun f hf w' h _ => pkT rfl (by rw [← hf]; rfl) (by rw [← hf]; rfl)
  refine oge_val (by rfl) ?_ ?_
  · exact fun f hf w' h _ => mv rfl (by rw [← hf]; rfl)
  refine oge_val (by rfl) ?_ ?_
  · exact fun f hf w' h _ => ldR rfl (by rw [← hf]; rfl) h.2.2.2.1
  refine oge_val (by rfl) ?_ ?_
  · exact fun f hf w' h _ => ldR rfl (by rw [← hf]; rfl) h.2.2.1
  refine oge_call 32 #[.agg #[.bool sC, .slice (G1 3 0).1 C.length (G1 3 0).2, .bool false, .slice (γ6 0).1 U.length (γ6 0).2], .agg #[.bool sF, .slice (G1 1 0).1 F.length (G1 1 0).2, .bool false, .slice (γ6 0).1 U.length (γ6 0).2]] (by rfl) ?_ ?_ ?_
  · exact fun f hf w' h _ => cl2 rfl (by rw [← hf]; rfl) (by rw [← hf]; rfl) (by go_simp)
  · rintro w' ⟨p_p, p_one, p_f, p_g, p_off, r_a, r_b, r_fx, r_cx, r_rx, r_ox, r_oy, r_dx, r_dy, bel⟩ hF; exact HN5.out _ _ _ _ _ _ _ _ _ _ (Below.refl _ _) cap_cx cap_ox cap_fx cap_ox r_cx r_ox r_fx r_ox
  refine oge_val (by rfl) ?_ ?_
  · exact fun f hf w' h _ => ldR rfl (by rw [← hf]; rfl) h.2.1
  refine oge_call 34 #[.agg #[.bool sE, .slice (G5 13 0).1 XE.length (G5 13 0).2, .bool false, .slice (G5 13 1).1 YE.length (G5 13 1).2], .agg #[.bool false, .slice (γ6 0).1 U.length (γ6 0).2, .bool false, .slice (γ6 1).1 U.length (γ6 1).2]] (by rfl) ?_ ?_ ?_
  · exact fun f hf w' h _ => cl2 rfl (by rw [← hf]; rfl) (by rw [← hf]; rfl) (by go_simp)
  · rintro w' ⟨p_p, p_one, p_f, p_g, p_off, r_a, r_b, r_fx, r_cx, r_rx, r_ox, r_oy, r_dx, r_dy, bel⟩ hF; have ff13 : OwP [XE, YE] (G5 13) (lo5 13) (hi5 13) w' := (hF 13 (List.mem_of_elem_eq_true rfl)).1; have ff13 := ff13.rws; exact Calls.mono (HN6.out _ _ _ _ _ _ _ _ _ _ (Below.refl _ _) (ff13 0 _ rfl).1 (ff13 1 _ rfl).1 cap_ox cap_oy (ff13 0 _ rfl).2 (ff13 1 _ rfl).2 r_ox r_oy) (fun _ _ h => AnsR.fix h)
  refine oge_val (by rfl) ?_ ?_
  · intro f hf; have u75 : f 75 = (.int .i64 z3) := (by rw [← hf]; rfl); clear hf; intro w' h _; clear h; go_simp
  refine oge_val (by rfl) ?_ ?_
  · exact fun f hf w' h _ => pkT rfl (by rw [← hf]; rfl) (by rw [← hf]; rfl)
  refine oge_val (by rfl) ?_ ?_
  · exact fun f hf w' h _ => mv rfl (by rw [← hf]; rfl)
  refine oge_val (by rfl) ?_ ?_
  · exact fun f hf w' h _ => ldR rfl (by rw [← hf]; rfl) h.2.2.2.2.1
  refine oge_val (by rfl) ?_ ?_
  · exact fun f hf w' h _ => ldR rfl (by rw [← hf]; rfl) h.2.1
  refine oge_call 34 #[.agg #[.bool sD, .slice (G4 6 0).1 XD.length (G4 6 0).2, .bool false, .slice (G4 6 1).1 YD.length (G4 6 1).2], .agg #[.bool false, .slice (γ6 0).1 U.length (γ6 0).2, .bool false, .slice (γ6 1).1 U.length (γ6 1).2]] (by rfl) ?_ ?_ ?_
  · exact fun f hf w' h _ => cl2 rfl (by rw [← hf]; rfl) (by rw [← hf]; rfl) (by go_simp)
  · rintro w' ⟨p_p, p_one, p_f, p_g, p_off, r_a, r_b, r_fx, r_cx, r_rx, r_ox, r_oy, r_dx, r_dy, bel⟩ hF; exact Calls.mono (HN7.out _ _ _ _ _ _ _ _ _ _ (Below.refl _ _) cap_dx cap_dy cap_ox cap_oy r_dx r_dy r_ox r_oy) (fun _ _ h => AnsR.fix h)
  refine oge_val (by rfl) ?_ ?_
  · intro f hf; have u81 : f 81 = (.int .i64 z4) := (by rw [← hf]; rfl); clear hf; intro w' h _; clear h; go_simp
  refine oge_val (by rfl) ?_ ?_
  · exact fun f hf w' h _ => pkT rfl (by rw [← hf]; rfl) (by rw [← hf]; rfl)
  refine oge_val (by rfl) ?_ ?_
  · exact fun f hf w' h _ => mv rfl (by rw [← hf]; rfl)
  refine oge_val (by rfl) ?_ ?_
  · exact fun f hf w' h _ => ldR rfl (by rw [← hf]; rfl) h.2.2.2.2.1
  refine oge_val (by rfl) ?_ ?_
  · exact fun f hf w' h _ => ldR rfl (by rw [← hf]; rfl) h.2.1
  refine oge_call 35 #[.agg #[.bool false, .slice (γ6 0).1 U.length (γ6 0).2, .bool false, .slice (γ6 1).1 U.length (γ6 1).2]] (by rfl) ?_ ?_ ?_
  · exact fun f hf w' h _ => cl1 rfl (by rw [← hf]; rfl) (by go_simp)
  · rintro w' ⟨p_p, p_one, p_f, p_g, p_off, r_a, r_b, r_fx, r_cx, r_rx, r_ox, r_oy, r_dx, r_dy, bel⟩ hF; exact HN8.out _ _ _ _ _ _ (Below.refl _ _) cap_ox cap_oy r_ox r_oy
  refine oge_call 34 #[.agg #[.bool sD, .slice (G4 6 0).1 XD.length (G4 6 0).2, .bool false, .slice (G4 6 1).1 YD.length (G4 6 1).2], .agg #[.bool sN, .slice (G5 27 0).1 XN.length (G5 27 0).2, .bool false, .slice (G5 27 1).1 YN.length (G5 27 1).2]] (by rfl) ?_ ?_ ?_
  · exact fun f hf w' h _ => cl2 rfl (by rw [← hf]; rfl) (by rw [← hf]; rfl) (by go_simp)
  · rintro w' ⟨p_p, p_one, p_f, p_g, p_off, r_a, r_b, r_fx, r_cx, r_rx, r_ox, r_oy, r_dx, r_dy, bel⟩ hF; have ff27 : OwP [XN, YN] (G5 27) (lo5 27) (hi5 27) w' := (hF 27 (List.mem_of_elem_eq_true rfl)).1; have ff27 := ff27.rws; exact Calls.mono (HN9.out _ _ _ _ _ _ _ _ _ _ (Below.refl _ _) cap_dx cap_dy (ff27 0 _ rfl).1 (ff27 1 _ rfl).1 r_dx r_dy (ff27 0 _ rfl).2 (ff27 1 _ rfl).2) (fun _ _ h => AnsR.fix h)
  refine oge_val (by rfl) ?_ ?_
  · intro f hf; have u88 : f 88 = (.int .i64 z5) := (by rw [← hf]; rfl); clear hf; intro w' h _; clear h; go_simp
  refine oge_val (by rfl) ?_ ?_
  · exact fun f hf w' h _ => pkT rfl (by rw [← hf]; rfl) (by rw [← hf]; rfl)
  refine oge_val (by rfl) ?_ ?_
  · exact fun f hf w' h _ => mv rfl (by rw [← hf]; rfl)
  refine oge_call 9 #[] (by rfl) ?_ ?_ ?_
  · exact fun f hf w' h _ => cl0 rfl (by go_simp)
  · rintro w' ⟨p_p, p_one, p_f, p_g, p_off, r_a, r_b, r_fx, r_cx, r_rx, r_ox, r_oy, r_dx, r_dy, bel⟩ hF; exact Calls.mono (ex_any _) (fun _ _ h => AnsR.fix h)
  refine oge_val (by rfl) ?_ ?_
  · exact fun f hf w' h _ => pkT rfl (by rw [← hf]; rfl) (by rw [← hf]; rfl)
  refine oge_nil ?_
  rintro w12 ⟨P12_p, P12_one, P12_f, P12_g, P12_off, ha12, hb12, hfx12, hcx12, hrx12, hox12, hoy12, hdx12, hdy12, hbw12⟩ hd12 hA
  have hz12 := hbw12.size
  obtain ⟨⟨la2, lb2, lc2, fw2⟩, ld2, ⟨⟨la7, lb7, lc7, fw7⟩, ld7, ⟨⟨la13, lb13, lc13, fw13⟩, ld13, ⟨⟨la15, lb15, lc15, fw15⟩, ld15, ⟨⟨la21, lb21, lc21, fw21⟩, ld21, ⟨⟨la27, lb27, lc27, fw27⟩, ld27, ⟨⟨la28, lb28, lc28, fw28⟩, ld28, ⟨⟨la32, lb32, lc32, fw32⟩, ld32, -⟩⟩⟩⟩⟩⟩⟩⟩ := hA
  have fo13 : OwP [XE, YE] (G5 13) (lo5 13) (hi5 13) w12 := fw13
  have fa13 := fo13.rws
  have fo27 : OwP [XN, YN] (G5 27) (lo5 27) (hi5 27) w12 := fw27
  have fa27 := fo27.rws
  have qq11_p : w.heap.size < w11.heap.size := P11_p.2
  have qq11_one : w6.heap.size < w11.heap.size := P11_one.2
  have qq11_f : (lo3 12) < w11.heap.size := P11_f.2
  have qq11_g : (lo3 13) < w11.heap.size := P11_g.2
  have qq11_off : (lo4 7) < w11.heap.size := P11_off.2
  clear P11_p P11_one P11_f P11_g P11_off ha11 hb11 hfx11 hcx11 hrx11 hox11 hoy11 hdx11 hdy11 ld2 fw2 ld7 fw7 ld13 fw13 ld15 fw15 ld21 fw21 ld27 fw27 ld28 fw28 ld32 fw32 hd12
  have q12_p := P12_p.2
  have q12_one := P12_one.2
  have q12_f := P12_f.2
  have q12_g := P12_g.2
  have q12_off := P12_off.2
  simp only [puts, putD, Act.put, List.setIfInBounds_toArray, List.set_cons_zero, List.set_cons_succ]
  go_wp2
  go_ret
  exact ⟨rfl, by (with_reducible repeat' first | exact Below.refl _ _ | assumption | apply belA | apply Below.drew | apply below_drewN | refine belS ?_ (by first | omega | (simp; done) | (simp; omega)))⟩
end Go.Proofs.Ytcofiekfhnfjpaa
