
import Derived.Test.YtcofiekfhnfjpaaS7
import Derived.Deep.CutRange
namespace Go.Proofs.Ytcofiekfhnfjpaa
open Go.RowKit
set_option linter.unusedVariables false
set_option linter.unusedSimpArgs false
attribute [local go_sem ↓] Go.wp_at_zero Go.wp_at_succ
attribute [local go_sem] rhoF_tmp rhoF_const rhoF_global rhoF_func
attribute [local go_sem] qV iV
attribute [local go_sem] qE
theorem ansn2 {w W : World} {s t : Bool} {X Y : List (BitVec 32)} (γ : Pick) (hX : Rw W (γ 0).1 X) (hY : Rw W (γ 1).1 Y) (hb : Below w.heap.size w W) : AnsR (qV s X t Y) (RwnP [X, Y]) w (.returned (qV s X t Y γ)) W :=
  ⟨γ, rfl, fun i Z hZ => by
    match i, hZ with
    | 0, hZ => cases hZ; exact hX
    | 1, hZ => cases hZ; exact hY, hb⟩
theorem ansn2e {w W : World} {s t : Bool} {X Y : List (BitVec 32)} {a b : Option Addr} {c d : Nat} (hX : Rw W a X) (hY : Rw W b Y) (hb : Below w.heap.size w W) : AnsR (qE s X t Y) (RwnP [X, Y]) w (.returned (.tuple #[.agg #[.bool s, .slice a X.length c, .bool t, .slice b Y.length d], .int .i64 0])) W := by
  obtain ⟨γ, h1, h2, h3⟩ := ansn2 (s := s) (t := t) (pk2 a c b d) hX hY hb
  exact ⟨pk2 a c b d, rfl, fun i Z hZ => by
    match i, hZ with
    | 0, hZ => cases hZ; exact hX
    | 1, hZ => cases hZ; exact hY, hb⟩
theorem qbl2_any (s : Bool) (a : Option Addr) (n c : Nat) (l : List (BitVec 32)) (w : World) (hn : l.length = n) (hl : n ≤ 1000000) (hr : Rw w a l) :
    Calls Try.prog 53 #[.agg #[.bool s, .slice a n c]] w fun e w' => ∃ b : Nat, e = .returned (.int .i64 b) ∧ IsBl (valD l) b ∧ Below w.heap.size w w' := by
  subst hn
  have hb0 := Below.alloc (Below.refl w.heap.size w) (Nat.le_refl _) (.cells #[Value.bool s, Value.slice a l.length c] 24)
  go_enter Try.func53, Try.ntmps53
  go_wp2_with (go_at_call 88; (with_reducible refine (rbl_any a _ c l _ rfl hl (hr.below hb0)).mono ?_); rintro e w1 ⟨b, rfl, hbl, hle, hc1⟩; have hbw := hb0.trans (hc1.mono hb0.size))
  go_ret
  exact ⟨b, rfl, hbl, hbw⟩
set_option maxRecDepth 50000 in
set_option maxHeartbeats 4000000 in
theorem rnew_w (s t : Bool) (a b : Option Addr) (c d : Nat) (l k : List (BitVec 32)) (w : World) (ha : Rw w a l) (hb : Rw w b k) (z : Int) (hz : (z == 0) = false) (sX sY : Bool) (X Y : List (BitVec 32)) (hS : ∀ W, Rw W b k → Calls Try.prog 43 #[.agg #[.bool t, .slice b k.length d]] W fun e w' => e = .returned (.int .i64 z) ∧ Below W.heap.size W w') (hR : ∀ W, Rw W a l → Rw W b k → Calls Try.prog 44 #[.agg #[.bool s, .slice a l.length c], .agg #[.bool t, .slice b k.length d]] W (AnsR (qV sX X sY Y) (RwnP [X, Y]) W)) :
    Calls Try.prog 12 #[.agg #[.bool s, .slice a l.length c], .agg #[.bool t, .slice b k.length d]] w (AnsR (qE sX X sY Y) (RwnP [X, Y]) w) := by
  have HS := Lib.hid hS
  have HR := Lib.hid hR
  clear hS hR
  go_enter Try.func12, Try.ntmps12
  go_wp2_with (go_at_call 43; go_loud ((with_reducible refine (HS.out _ (hb.below (by (with_reducible repeat' first | exact Below.refl _ _ | assumption | apply belA | apply Below.drew | apply below_drewN | refine belS ?_ (by first | omega | (simp; done) | (simp; omega)))))).mono ?_); rintro e w1 ⟨rfl, hc1⟩; have E1 : Below w.heap.size w w1 := bel_step (by (with_reducible repeat' first | exact Below.refl _ _ | assumption | apply belA | apply Below.drew | apply below_drewN | refine belS ?_ (by first | omega | (simp; done) | (simp; omega)))) hc1; have P1_p : Bx w1 w.heap.size [.bool s, .slice a l.length c] := Bx.below (show Bx _ w.heap.size [.bool s, .slice a l.length c] from (by (with_reducible repeat' first | assumption | exact Bx.new _ _ _ | refine Bx.newAt _ _ _ (by simp; done) | apply Bx.dr | apply Bx.drN | apply Bx.al | refine Bx.st ?_ (by first | assumption | omega | (simp; done) | (simp; omega))))) hc1; have P1_q : Bx w1 (w.heap.size + 1) [.bool t, .slice b k.length d] := Bx.below (show Bx _ (w.heap.size + 1) [.bool t, .slice b k.length d] from (by (with_reducible repeat' first | assumption | exact Bx.new _ _ _ | refine Bx.newAt _ _ _ (by simp; done) | apply Bx.dr | apply Bx.drN | apply Bx.al | refine Bx.st ?_ (by first | assumption | omega | (simp; done) | (simp; omega))))) hc1; have P1_r : Bx w1 (w.heap.size + 1 + 1) [.bool false, .slice none 0 0, .bool false, .slice none 0 0] := Bx.below (show Bx _ (w.heap.size + 1 + 1) [.bool false, .slice none 0 0, .bool false, .slice none 0 0] from (by (with_reducible repeat' first | assumption | exact Bx.new _ _ _ | refine Bx.newAt _ _ _ (by simp; done) | apply Bx.dr | apply Bx.drN | apply Bx.al | refine Bx.st ?_ (by first | assumption | omega | (simp; done) | (simp; omega))))) hc1; have ha1 := ha.below E1; have hb1 := hb.below E1; have hbw1 : Below w.heap.size w w1 := E1; have hz1 := hbw1.size; obtain ⟨⟨k1_p_0, g1_p_0⟩, ⟨k1_p_1, g1_p_1⟩, x1_p, y1_p, q1_p⟩ := id P1_p.x2; obtain ⟨⟨k1_q_0, g1_q_0⟩, ⟨k1_q_1, g1_q_1⟩, x1_q, y1_q, q1_q⟩ := id P1_q.x2; obtain ⟨⟨k1_r_0, g1_r_0⟩, ⟨k1_r_1, g1_r_1⟩, ⟨k1_r_2, g1_r_2⟩, ⟨k1_r_3, g1_r_3⟩, x1_r, y1_r, q1_r⟩ := id P1_r.x4; have qq1_r := q1_r; clear E1))
  go_wp2_with (go_at_call 44; go_loud ((with_reducible refine (HR.out _ (ha1.below (by (with_reducible repeat' first | exact Below.refl _ _ | assumption | apply belA | apply Below.drew | apply below_drewN | refine belS ?_ (by first | omega | (simp; done) | (simp; omega))))) (hb1.below (by (with_reducible repeat' first | exact Below.refl _ _ | assumption | apply belA | apply Below.drew | apply below_drewN | refine belS ?_ (by first | omega | (simp; done) | (simp; omega)))))).mono ?_); rintro e w2 ⟨γ2, rfl, f2, hc2⟩; have E2 : Below w1.heap.size w1 w2 := bel_step (by (with_reducible repeat' first | exact Below.refl _ _ | assumption | apply belA | apply Below.drew | apply below_drewN | refine belS ?_ (by first | omega | (simp; done) | (simp; omega)))) hc2; have P2_p := P1_p.below E2; have P2_q := P1_q.below E2; have P2_r := P1_r.below E2; have ha2 := ha1.below E2; have hb2 := hb1.below E2; have hbw2 : Below w.heap.size w w2 := bel_step hbw1 E2; have hz2 := hbw2.size; obtain ⟨⟨k2_p_0, g2_p_0⟩, ⟨k2_p_1, g2_p_1⟩, x2_p, y2_p, q2_p⟩ := id P2_p.x2; obtain ⟨⟨k2_q_0, g2_q_0⟩, ⟨k2_q_1, g2_q_1⟩, x2_q, y2_q, q2_q⟩ := id P2_q.x2; obtain ⟨⟨k2_r_0, g2_r_0⟩, ⟨k2_r_1, g2_r_1⟩, ⟨k2_r_2, g2_r_2⟩, ⟨k2_r_3, g2_r_3⟩, x2_r, y2_r, q2_r⟩ := id P2_r.x4; have qq2_r := q2_r; have hx2 : Rw w2 (γ2 0).1 X := f2 0 _ rfl; have hy2 : Rw w2 (γ2 1).1 Y := f2 1 _ rfl; clear P1_p q1_p k1_p_0 g1_p_0 k1_p_1 g1_p_1 x1_p y1_p P1_q q1_q k1_q_0 g1_q_0 k1_q_1 g1_q_1 x1_q y1_q P1_r q1_r k1_r_0 g1_r_0 k1_r_1 g1_r_1 k1_r_2 g1_r_2 k1_r_3 g1_r_3 x1_r y1_r ha1 hb1 E2))
  refine bodyPost_ret (v := .tuple #[.agg #[.bool sX, .slice (γ2 0).1 X.length (γ2 0).2, .bool sY, .slice (γ2 1).1 Y.length (γ2 1).2], .int .i64 0]) (by simp [results, Try.results12, go_sem, *]) rfl ?_
  exact ansn2e (show Rw _ (γ2 0).1 X from (by (repeat' first | with_reducible assumption | with_reducible apply Rw.dr | with_reducible apply Rw.drN | with_reducible apply Rw.al | exact Rw.sets (W := w2) (by with_reducible assumption) [((w.heap.size + 1 + 1), 0, .bool sX), ((w.heap.size + 1 + 1), 1, .slice (γ2 0).1 X.length (γ2 0).2), ((w.heap.size + 1 + 1), 2, .bool sY), ((w.heap.size + 1 + 1), 3, .slice (γ2 1).1 Y.length (γ2 1).2)] ⟨⟨_, k2_r_0, rfl⟩, ⟨_, k2_r_1, rfl⟩, ⟨_, k2_r_2, rfl⟩, ⟨_, k2_r_3, rfl⟩, trivial⟩))) (show Rw _ (γ2 1).1 Y from (by (repeat' first | with_reducible assumption | with_reducible apply Rw.dr | with_reducible apply Rw.drN | with_reducible apply Rw.al | exact Rw.sets (W := w2) (by with_reducible assumption) [((w.heap.size + 1 + 1), 0, .bool sX), ((w.heap.size + 1 + 1), 1, .slice (γ2 0).1 X.length (γ2 0).2), ((w.heap.size + 1 + 1), 2, .bool sY), ((w.heap.size + 1 + 1), 3, .slice (γ2 1).1 Y.length (γ2 1).2)] ⟨⟨_, k2_r_0, rfl⟩, ⟨_, k2_r_1, rfl⟩, ⟨_, k2_r_2, rfl⟩, ⟨_, k2_r_3, rfl⟩, trivial⟩))) (by (with_reducible repeat' first | exact Below.refl _ _ | assumption | apply belA | apply Below.drew | apply below_drewN | refine belS ?_ (by first | omega | (simp; done) | (simp; omega))))
set_option maxRecDepth 50000 in
set_option maxHeartbeats 4000000 in
theorem rbl_w (s t : Bool) (a b : Option Addr) (c d : Nat) (l k : List (BitVec 32)) (w : World) (ha : Rw w a l) (hb : Rw w b k) (sX sY : Bool) (X Y : List (BitVec 32)) (A B C : Nat) (hC : (if B ≤ A then A else B) = C) (hC1 : max (A : Int) (B : Int) = (C : Int)) (hC2 : (if (A : Int) < (B : Int) then (B : Int) else (A : Int)) = (C : Int)) (hC3 : (if (B : Int) ≤ (A : Int) then (A : Int) else (B : Int)) = (C : Int))
    (hN : ∀ W, Rw W a l → Rw W b k → Calls Try.prog 15 #[.agg #[.bool s, .slice a l.length c, .bool t, .slice b k.length d]] W (AnsR (qV sX X sY Y) (RwnP [X, Y]) W))
    (hA : ∀ W (v : Option Addr) (n : Nat), Rw W v X → Calls Try.prog 53 #[.agg #[.bool sX, .slice v X.length n]] W fun e w' => e = .returned (.int .i64 (A : Int)) ∧ Below W.heap.size W w') (hB : ∀ W (v : Option Addr) (n : Nat), Rw W v Y → Calls Try.prog 53 #[.agg #[.bool sY, .slice v Y.length n]] W fun e w' => e = .returned (.int .i64 (B : Int)) ∧ Below W.heap.size W w') :
    Calls Try.prog 19 #[.agg #[.bool s, .slice a l.length c, .bool t, .slice b k.length d]] w fun e w' => e = .returned (.int .i64 (C : Int)) ∧ Below w.heap.size w w' := by
  have HN := Lib.hid hN
  have HA := Lib.hid hA
  have HB := Lib.hid hB
  clear hN hA hB
  go_enter Try.func19, Try.ntmps19
  go_wp2_with (go_at_call 15; go_loud ((with_reducible refine (HN.out _ (ha.below (by (with_reducible repeat' first | exact Below.refl _ _ | assumption | apply belA | apply Below.drew | apply below_drewN | refine belS ?_ (by first | omega | (simp; done) | (simp; omega))))) (hb.below (by (with_reducible repeat' first | exact Below.refl _ _ | assumption | apply belA | apply Below.drew | apply below_drewN | refine belS ?_ (by first | omega | (simp; done) | (simp; omega)))))).mono ?_); rintro e w1 ⟨γ1, rfl, f1, hc1⟩; have E1 : Below w.heap.size w w1 := bel_step (by (with_reducible repeat' first | exact Below.refl _ _ | assumption | apply belA | apply Below.drew | apply below_drewN | refine belS ?_ (by first | omega | (simp; done) | (simp; omega)))) hc1; have P1_p : Bx w1 w.heap.size [.bool s, .slice a l.length c, .bool t, .slice b k.length d] := Bx.below (show Bx _ w.heap.size [.bool s, .slice a l.length c, .bool t, .slice b k.length d] from (by (with_reducible repeat' first | assumption | exact Bx.new _ _ _ | refine Bx.newAt _ _ _ (by simp; done) | apply Bx.dr | apply Bx.drN | apply Bx.al | refine Bx.st ?_ (by first | assumption | omega | (simp; done) | (simp; omega))))) hc1; have ha1 := ha.below E1; have hb1 := hb.below E1; have hbw1 : Below w.heap.size w w1 := E1; have hz1 := hbw1.size; obtain ⟨⟨k1_p_0, g1_p_0⟩, ⟨k1_p_1, g1_p_1⟩, ⟨k1_p_2, g1_p_2⟩, ⟨k1_p_3, g1_p_3⟩, x1_p, y1_p, q1_p⟩ := id P1_p.x4; have hx1 : Rw w1 (γ1 0).1 X := f1 0 _ rfl; have hy1 : Rw w1 (γ1 1).1 Y := f1 1 _ rfl; clear E1))
  refine wp_region_go0 (fun W => Bx W w.heap.size [.bool s, .slice a l.length c, .bool t, .slice b k.length d] ∧ Bx W w1.heap.size [.bool sX, .slice (γ1 0).1 X.length (γ1 0).2, .bool sY, .slice (γ1 1).1 Y.length (γ1 1).2] ∧ Rw W a l ∧ Rw W b k ∧ Rw W (γ1 0).1 X ∧ Rw W (γ1 1).1 Y ∧ Below w.heap.size w W) 7 13 [kv (.pointer (some ⟨w1.heap.size, 0, none⟩)), kv (.agg #[.bool sX, .slice (γ1 0).1 X.length (γ1 0).2]), km (.int .i64 (A : Int)), kv (.pointer (some ⟨w1.heap.size, 2, none⟩)), kv (.agg #[.bool sY, .slice (γ1 1).1 Y.length (γ1 1).2]), km (.int .i64 (B : Int)), kv (.int .i64 (C : Int))] [[], [], [], [], [], [], []] [2, 5] (by kernel_rfl) (by kernel_rfl) rfl (by kernel_rfl) (by kernel_rfl) (by kernel_rfl) rfl (by repeat' first | exact fits_nil | refine fits_cons ?_ ?_ | exact fit_const _ | exact trueP_fit _ | exact owP_fit _ _ | exact rwsP_fit _ _ | exact rwnP_fit _ _ | exact fit_fresh _ | exact fit_skip) (by rintro w1 w2 ⟨p_p, p_n, r_a, r_b, r_x, r_y, bel⟩ hc; exact ⟨p_p.below hc, p_n.below hc, r_a.below hc, r_b.below hc, r_x.below hc, r_y.below hc, bel_step bel hc⟩) ⟨(P1_p.below (by (with_reducible repeat' first | exact Below.refl _ _ | assumption | apply belA | apply Below.drew | apply below_drewN | refine belS ?_ (by first | omega | (simp; done) | (simp; omega))))), (Bx.of4 (by first | with_reducible assumption | go_simp) (by first | with_reducible assumption | go_simp) (by first | with_reducible assumption | go_simp) (by first | with_reducible assumption | go_simp) (by first | with_reducible assumption | go_simp) (by first | with_reducible assumption | go_simp) (by first | with_reducible assumption | go_simp) (by first | with_reducible assumption | go_simp) : Bx _ w1.heap.size [.bool sX, .slice (γ1 0).1 X.length (γ1 0).2, .bool sY, .slice (γ1 1).1 Y.length (γ1 1).2]), (ha1.below (by (with_reducible repeat' first | exact Below.refl _ _ | assumption | apply belA | apply Below.drew | apply below_drewN | refine belS ?_ (by first | omega | (simp; done) | (simp; omega))))), (hb1.below (by (with_reducible repeat' first | exact Below.refl _ _ | assumption | apply belA | apply Below.drew | apply below_drewN | refine belS ?_ (by first | omega | (simp; done) | (simp; omega))))), (hx1.below (by (with_reducible repeat' first | exact Below.refl _ _ | assumption | apply belA | apply Below.drew | apply below_drewN | refine belS ?_ (by first | omega | (simp; done) | (simp; omega))))), (hy1.below (by (with_reducible repeat' first | exact Below.refl _ _ | assumption | apply belA | apply Below.drew | apply below_drewN | refine belS ?_ (by first | omega | (simp; done) | (simp; omega))))), (show Below w.heap.size w _ from (by (with_reducible repeat' first | exact Below.refl _ _ | assumption | apply belA | apply Below.drew | apply below_drewN | refine belS ?_ (by first | omega | (simp; done) | (simp; omega)))))⟩ ?_
  rintro w2 ⟨P2_p, P2_n, ha2, hb2, hx2, hy2, hbw2⟩ G1 lo1 hi1
  clear P1_p q1_p k1_p_0 g1_p_0 k1_p_1 g1_p_1 k1_p_2 g1_p_2 k1_p_3 g1_p_3 x1_p y1_p ha1 hb1 hx1 hy1
  have hz2 := hbw2.size
  simp only [List.take_succ_cons, List.take_zero, List.drop_succ_cons, List.drop_zero, List.cons_append, List.nil_append, List.append_nil]
  refine oge_val (by rfl) ?_ ?_
  · intro f hf; have u3 : f 3 = (.pointer (some ⟨w1.heap.size, 0, none⟩)) := (by rw [← hf]; rfl); clear hf; intro w' h _; clear h; go_simp
  refine oge_val (by rfl) ?_ ?_
  · exact fun f hf w' h _ => ldI (off := 0) rfl (by rw [← hf]; rfl) (h.2.1) rfl rfl
  refine oge_call 53 #[.agg #[.bool sX, .slice (γ1 0).1 X.length (γ1 0).2]] (by rfl) ?_ ?_ ?_
  · exact fun f hf w' h _ => cl1 rfl (by rw [← hf]; rfl) (by go_simp)
  · rintro w' ⟨p_p, p_n, r_a, r_b, r_x, r_y, bel⟩ hF; exact Calls.mono (HA.out _ _ _ r_x) (fun _ _ h => AnsR.fix h)
  refine oge_val (by rfl) ?_ ?_
  · intro f hf; have u3 : f 3 = (.pointer (some ⟨w1.heap.size, 0, none⟩)) := (by rw [← hf]; rfl); clear hf; intro w' h _; clear h; go_simp
  refine oge_val (by rfl) ?_ ?_
  · exact fun f hf w' h _ => ldI (off := 2) rfl (by rw [← hf]; rfl) (h.2.1) rfl rfl
  refine oge_call 53 #[.agg #[.bool sY, .slice (γ1 1).1 Y.length (γ1 1).2]] (by rfl) ?_ ?_ ?_
  · exact fun f hf w' h _ => cl1 rfl (by rw [← hf]; rfl) (by go_simp)
  · rintro w' ⟨p_p, p_n, r_a, r_b, r_x, r_y, bel⟩ hF; exact Calls.mono (HB.out _ _ _ r_y) (fun _ _ h => AnsR.fix h)
  refine oge_val (by rfl) ?_ ?_
  · intro f hf; have u8 : f 8 = (.int .i64 (A : Int)) := (by rw [← hf]; rfl); have u11 : f 11 = (.int .i64 (B : Int)) := (by rw [← hf]; rfl); clear hf; intro w' h _; clear h; go_simp
  refine oge_nil ?_
  rintro w3 ⟨P3_p, P3_n, ha3, hb3, hx3, hy3, hbw3⟩ hd3 hA
  have hz3 := hbw3.size
  obtain ⟨⟨la2, lb2, lc2, fw2⟩, ld2, ⟨⟨la5, lb5, lc5, fw5⟩, ld5, -⟩⟩ := hA
  have qq2_p : w.heap.size < w2.heap.size := P2_p.2
  have qq2_n : w1.heap.size < w2.heap.size := P2_n.2
  clear P2_p P2_n ha2 hb2 hx2 hy2 ld2 fw2 ld5 fw5 hd3
  obtain ⟨⟨k3_p_0, g3_p_0⟩, ⟨k3_p_1, g3_p_1⟩, ⟨k3_p_2, g3_p_2⟩, ⟨k3_p_3, g3_p_3⟩, x3_p, y3_p, q3_p⟩ := id P3_p.x4
  obtain ⟨⟨k3_n_0, g3_n_0⟩, ⟨k3_n_1, g3_n_1⟩, ⟨k3_n_2, g3_n_2⟩, ⟨k3_n_3, g3_n_3⟩, x3_n, y3_n, q3_n⟩ := id P3_n.x4
  simp only [puts, putD, Act.put, List.setIfInBounds_toArray, List.set_cons_zero, List.set_cons_succ]
  go_wp2
  go_ret
  exact ⟨rfl, by (with_reducible repeat' first | exact Below.refl _ _ | assumption | apply belA | apply Below.drew | apply below_drewN | refine belS ?_ (by first | omega | (simp; done) | (simp; omega)))⟩
end Go.Proofs.Ytcofiekfhnfjpaa
