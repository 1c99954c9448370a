
import Derived.Test.YtcofiekfhnfjpaaS3
import Derived.Deep.CutRange
namespace Go.Proofs.Ytcofiekfhnfjpaa
open Go.RowKit
set_option linter.unusedVariables false
set_option linter.unusedSimpArgs false
attribute [local go_sem ↓] Go.wp_at_zero Go.wp_at_succ
attribute [local go_sem] rhoF_tmp rhoF_const rhoF_global rhoF_func
attribute [local go_sem] qV iV
/-- with no error beside it -/
def qE (s : Bool) (X : List (BitVec 32)) (t : Bool) (Y : List (BitVec 32)) (γ : Pick) : Value := .tuple #[.agg #[.bool s, .slice (γ 0).1 X.length (γ 0).2, .bool t, .slice (γ 1).1 Y.length (γ 1).2], .int .i64 0]
set_option maxRecDepth 50000 in
set_option maxHeartbeats 4000000 in
theorem neg_w (s t : Bool) (a b : Option Addr) (c d : Nat) (l k : List (BitVec 32)) (w : World) (ha : Rw w a l) (hb : Rw w b k) (sN : Bool) (N : List (BitVec 32)) (sX sY : Bool) (X Y : List (BitVec 32))
    (hN : ∀ W, Rw W a l → Calls Try.prog 57 #[.agg #[.bool s, .slice a l.length c]] W (AnsR (iV sN N) (OwP [N]) W))
    (hR : ∀ W (v : Option Addr) (n : Nat), N.length ≤ n → Rw W v N → Rw W b k → Calls Try.prog 42 #[.agg #[.bool sN, .slice v N.length n], .agg #[.bool t, .slice b k.length d]] W (AnsR (qV sX X sY Y) (OwP [X, Y]) W)) :
    Calls Try.prog 35 #[.agg #[.bool s, .slice a l.length c, .bool t, .slice b k.length d]] w (AnsR (qV sX X sY Y) (OwP [X, Y]) w) := by
  have HN := Lib.hid hN
  have HR := Lib.hid hR
  clear hN hR
  go_enter Try.func35, Try.ntmps35
  go_wp2
  refine wp_region_go0 (fun W => Bx W w.heap.size [.bool s, .slice a l.length c, .bool t, .slice b k.length d] ∧ Bx W (w.heap.size + 1) [.bool false, .slice none 0 0, .bool false, .slice none 0 0] ∧ Rw W a l ∧ Rw W b k ∧ Below w.heap.size w W) 6 9 [kv (.pointer (some ⟨w.heap.size, 0, none⟩)), kv (.agg #[.bool s, .slice a l.length c]), .made (fun γ => .agg #[.bool sN, .slice (γ 0).1 N.length (γ 0).2]) (OwP [N]), kv (.pointer (some ⟨w.heap.size, 2, none⟩)), kv (.agg #[.bool t, .slice b k.length d]), .made (fun γ => .agg #[.bool sX, .slice (γ 0).1 X.length (γ 0).2, .bool sY, .slice (γ 1).1 Y.length (γ 1).2]) (OwP [X, Y])] [[], [], [], [], [], [2]] [2, 5] (by kernel_rfl) (by kernel_rfl) rfl (by kernel_rfl) (by kernel_rfl) (by kernel_rfl) rfl (by repeat' first | exact fits_nil | refine fits_cons ?_ ?_ | exact fit_const _ | exact trueP_fit _ | exact owP_fit _ _ | exact rwsP_fit _ _ | exact rwnP_fit _ _ | exact fit_fresh _ | exact fit_skip) (by rintro w1 w2 ⟨p_p, p_r, r_a, r_b, bel⟩ hc; exact ⟨p_p.below hc, p_r.below hc, r_a.below hc, r_b.below hc, bel_step bel hc⟩) ⟨(show Bx _ w.heap.size [.bool s, .slice a l.length c, .bool t, .slice b k.length d] from (by (with_reducible repeat' first | assumption | exact Bx.new _ _ _ | refine Bx.newAt _ _ _ (by simp; done) | apply Bx.dr | apply Bx.drN | apply Bx.al | refine Bx.st ?_ (by first | assumption | omega | (simp; done) | (simp; omega))))), (show Bx _ (w.heap.size + 1) [.bool false, .slice none 0 0, .bool false, .slice none 0 0] from (by (with_reducible repeat' first | assumption | exact Bx.new _ _ _ | refine Bx.newAt _ _ _ (by simp; done) | apply Bx.dr | apply Bx.drN | apply Bx.al | refine Bx.st ?_ (by first | assumption | omega | (simp; done) | (simp; omega))))), (ha.below (by (with_reducible repeat' first | exact Below.refl _ _ | assumption | apply belA | apply Below.drew | apply below_drewN | refine belS ?_ (by first | omega | (simp; done) | (simp; omega))))), (hb.below (by (with_reducible repeat' first | exact Below.refl _ _ | assumption | apply belA | apply Below.drew | apply below_drewN | refine belS ?_ (by first | omega | (simp; done) | (simp; omega))))), (show Below w.heap.size w _ from (by (with_reducible repeat' first | exact Below.refl _ _ | assumption | apply belA | apply Below.drew | apply below_drewN | refine belS ?_ (by first | omega | (simp; done) | (simp; omega)))))⟩ ?_
  rintro w1 ⟨P1_p, P1_r, ha1, hb1, hbw1⟩ G1 lo1 hi1
  have hz1 := hbw1.size
  simp only [List.take_succ_cons, List.take_zero, List.drop_succ_cons, List.drop_zero, List.cons_append, List.nil_append, List.append_nil]
  refine oge_val (by rfl) ?_ ?_
  · intro f hf; have u1 : f 1 = (.pointer (some ⟨w.heap.size, 0, none⟩)) := (by rw [← hf]; rfl); clear hf; intro w' h _; clear h; go_simp
  refine oge_val (by rfl) ?_ ?_
  · exact fun f hf w' h _ => ldI (off := 0) rfl (by rw [← hf]; rfl) (h.1) rfl rfl
  refine oge_call 57 #[.agg #[.bool s, .slice a l.length c]] (by rfl) ?_ ?_ ?_
  · exact fun f hf w' h _ => cl1 rfl (by rw [← hf]; rfl) (by go_simp)
  · rintro w' ⟨p_p, p_r, r_a, r_b, bel⟩ hF; exact HN.out _ r_a
  refine oge_val (by rfl) ?_ ?_
  · intro f hf; have u1 : f 1 = (.pointer (some ⟨w.heap.size, 0, none⟩)) := (by rw [← hf]; rfl); clear hf; intro w' h _; clear h; go_simp
  refine oge_val (by rfl) ?_ ?_
  · exact fun f hf w' h _ => ldI (off := 2) rfl (by rw [← hf]; rfl) (h.1) rfl rfl
  refine oge_call 42 #[.agg #[.bool sN, .slice (G1 2 0).1 N.length (G1 2 0).2], .agg #[.bool t, .slice b k.length d]] (by rfl) ?_ ?_ ?_
  · exact fun f hf w' h _ => cl2 rfl (by rw [← hf]; rfl) (by rw [← hf]; rfl) (by go_simp)
  · rintro w' ⟨p_p, p_r, r_a, r_b, bel⟩ hF; have ff2 : OwP [N] (G1 2) (lo1 2) (hi1 2) w' := (hF 2 (List.mem_of_elem_eq_true rfl)).1; have ff2 := ff2.rws; exact HR.out _ _ _ (ff2 0 _ rfl).1 (ff2 0 _ rfl).2 r_b
  refine oge_nil ?_
  rintro w2 ⟨P2_p, P2_r, ha2, hb2, hbw2⟩ hd2 hA
  have hz2 := hbw2.size
  obtain ⟨⟨la2, lb2, lc2, fw2⟩, ld2, ⟨⟨la5, lb5, lc5, fw5⟩, ld5, -⟩⟩ := hA
  have fo2 : OwP [N] (G1 2) (lo1 2) (hi1 2) w2 := fw2
  have fa2 := fo2.rws
  have hn2 : Rw w2 (G1 2 0).1 N := (fa2 0 _ rfl).2
  have cap_n : N.length ≤ (G1 2 0).2 := (fa2 0 _ rfl).1
  have fo5 : OwP [X, Y] (G1 5) (lo1 5) (hi1 5) w2 := fw5
  have fa5 := fo5.rws
  have hx2 : Rw w2 (G1 5 0).1 X := (fa5 0 _ rfl).2
  have cap_x : X.length ≤ (G1 5 0).2 := (fa5 0 _ rfl).1
  have hy2 : Rw w2 (G1 5 1).1 Y := (fa5 1 _ rfl).2
  have cap_y : Y.length ≤ (G1 5 1).2 := (fa5 1 _ rfl).1
  have qq1_p : w.heap.size < w1.heap.size := P1_p.2
  have qq1_r : (w.heap.size + 1) < w1.heap.size := P1_r.2
  clear P1_p P1_r ha1 hb1 ld2 fw2 ld5 fw5 hd2
  obtain ⟨⟨k2_p_0, g2_p_0⟩, ⟨k2_p_1, g2_p_1⟩, ⟨k2_p_2, g2_p_2⟩, ⟨k2_p_3, g2_p_3⟩, x2_p, y2_p, q2_p⟩ := id P2_p.x4
  obtain ⟨⟨k2_r_0, g2_r_0⟩, ⟨k2_r_1, g2_r_1⟩, ⟨k2_r_2, g2_r_2⟩, ⟨k2_r_3, g2_r_3⟩, x2_r, y2_r, q2_r⟩ := id P2_r.x4
  simp only [puts, putD, Act.put, List.setIfInBounds_toArray, List.set_cons_zero, List.set_cons_succ]
  go_wp2
  refine bodyPost_ret (v := .agg #[.bool sX, .slice (G1 5 0).1 X.length (G1 5 0).2, .bool sY, .slice (G1 5 1).1 Y.length (G1 5 1).2]) (by simp [results, Try.results35, go_sem, *]) rfl ?_
  exact ans_fin fo5 (fun hh => by (with_reducible repeat' first | assumption | apply OwP.dr | apply OwP.al | refine OwP.stH ?_ (by first | omega | (simp; done) | (simp; omega)) | refine OwP.st ?_ (by first | omega | (simp; done) | (simp; omega)))) (by first | omega | (simp; done) | (simp; omega)) (by first | omega | (simp; done) | (simp; omega)) (by (with_reducible repeat' first | exact Below.refl _ _ | assumption | apply belA | apply Below.drew | apply below_drewN | refine belS ?_ (by first | omega | (simp; done) | (simp; omega)))) rfl
set_option maxRecDepth 50000 in
set_option maxHeartbeats 4000000 in
theorem sub_w (s t s2 t2 : Bool) (a b a2 b2 : Option Addr) (c d c2 d2 : Nat) (l k l2 m2 : List (BitVec 32)) (w : World) (ha : Rw w a l) (hb : Rw w b k) (hu : Rw w a2 l2) (hv : Rw w b2 m2) (sN : Bool) (N : List (BitVec 32)) (sX sY : Bool) (X Y : List (BitVec 32))
    (hN : ∀ W, Rw W a2 l2 → Calls Try.prog 57 #[.agg #[.bool s2, .slice a2 l2.length c2]] W (AnsR (iV sN N) (OwP [N]) W))
    (hR : ∀ W (v : Option Addr) (n : Nat), N.length ≤ n → Rw W a l → Rw W b k → Rw W v N → Rw W b2 m2 → Calls Try.prog 33 #[.agg #[.bool s, .slice a l.length c, .bool t, .slice b k.length d], .agg #[.bool sN, .slice v N.length n, .bool t2, .slice b2 m2.length d2]] W (AnsR (qV sX X sY Y) (OwP [X, Y]) W)) :
    Calls Try.prog 32 #[.agg #[.bool s, .slice a l.length c, .bool t, .slice b k.length d], .agg #[.bool s2, .slice a2 l2.length c2, .bool t2, .slice b2 m2.length d2]] w (AnsR (qV sX X sY Y) (OwP [X, Y]) w) := by
  have HN := Lib.hid hN
  have HR := Lib.hid hR
  clear hN hR
  go_enter Try.func32, Try.ntmps32
  go_wp2
  refine wp_region_go0 (fun W => Bx W w.heap.size [.bool s, .slice a l.length c, .bool t, .slice b k.length d] ∧ Bx W (w.heap.size + 1) [.bool s2, .slice a2 l2.length c2, .bool t2, .slice b2 m2.length d2] ∧ Bx W (w.heap.size + 1 + 1) [.bool false, .slice none 0 0, .bool false, .slice none 0 0] ∧ Rw W a l ∧ Rw W b k ∧ Rw W a2 l2 ∧ Rw W b2 m2 ∧ Below w.heap.size w W) 8 13 [kv (.agg #[.bool s, .slice a l.length c, .bool t, .slice b k.length d]), kv (.pointer (some ⟨(w.heap.size + 1), 0, none⟩)), kv (.agg #[.bool s2, .slice a2 l2.length c2]), .made (fun γ => .agg #[.bool sN, .slice (γ 0).1 N.length (γ 0).2]) (OwP [N]), kv (.pointer (some ⟨(w.heap.size + 1), 2, none⟩)), kv (.agg #[.bool t2, .slice b2 m2.length d2]), .val [3] (fun G1 lo1 => .agg #[.bool sN, .slice (G1 3 0).1 N.length (G1 3 0).2, .bool t2, .slice b2 m2.length d2]), .made (fun γ => .agg #[.bool sX, .slice (γ 0).1 X.length (γ 0).2, .bool sY, .slice (γ 1).1 Y.length (γ 1).2]) (OwP [X, Y])] [[], [], [], [], [], [], [3], [3]] [3, 7] (by kernel_rfl) (by kernel_rfl) rfl (by kernel_rfl) (by kernel_rfl) (by kernel_rfl) rfl (by repeat' first | exact fits_nil | refine fits_cons ?_ ?_ | exact fit_const _ | exact trueP_fit _ | exact owP_fit _ _ | exact rwsP_fit _ _ | exact rwnP_fit _ _ | exact fit_fresh _ | exact fit_skip | exact fit_val (fun Ga Gb la lb hh => by simp only [(hh 3 (by simp)).1, (hh 3 (by simp)).2])) (by rintro w1 w2 ⟨p_p, p_q, p_r, r_a, r_b, r_u, r_v, bel⟩ hc; exact ⟨p_p.below hc, p_q.below hc, p_r.below hc, r_a.below hc, r_b.below hc, r_u.below hc, r_v.below hc, bel_step bel hc⟩) ⟨(show Bx _ w.heap.size [.bool s, .slice a l.length c, .bool t, .slice b k.length d] from (by (with_reducible repeat' first | assumption | exact Bx.new _ _ _ | refine Bx.newAt _ _ _ (by simp; done) | apply Bx.dr | apply Bx.drN | apply Bx.al | refine Bx.st ?_ (by first | assumption | omega | (simp; done) | (simp; omega))))), (show Bx _ (w.heap.size + 1) [.bool s2, .slice a2 l2.length c2, .bool t2, .slice b2 m2.length d2] from (by (with_reducible repeat' first | assumption | exact Bx.new _ _ _ | refine Bx.newAt _ _ _ (by simp; done) | apply Bx.dr | apply Bx.drN | apply Bx.al | refine Bx.st ?_ (by first | assumption | omega | (simp; done) | (simp; omega))))), (show Bx _ (w.heap.size + 1 + 1) [.bool false, .slice none 0 0, .bool false, .slice none 0 0] from (by (with_reducible repeat' first | assumption | exact Bx.new _ _ _ | refine Bx.newAt _ _ _ (by simp; done) | apply Bx.dr | apply Bx.drN | apply Bx.al | refine Bx.st ?_ (by first | assumption | omega | (simp; done) | (simp; omega))))), (ha.below (by (with_reducible repeat' first | exact Below.refl _ _ | assumption | apply belA | apply Below.drew | apply below_drewN | refine belS ?_ (by first | omega | (simp; done) | (simp; omega))))), (hb.below (by (with_reducible repeat' first | exact Below.refl _ _ | assumption | apply belA | apply Below.drew | apply below_drewN | refine belS ?_ (by first | omega | (simp; done) | (simp; omega))))), (hu.below (by (with_reducible repeat' first | exact Below.refl _ _ | assumption | apply belA | apply Below.drew | apply below_drewN | refine belS ?_ (by first | omega | (simp; done) | (simp; omega))))), (hv.below (by (with_reducible repeat' first | exact Below.refl _ _ | assumption | apply belA | apply Below.drew | apply below_drewN | refine belS ?_ (by first | omega | (simp; done) | (simp; omega))))), (show Below w.heap.size w _ from (by (with_reducible repeat' first | exact Below.refl _ _ | assumption | apply belA | apply Below.drew | apply below_drewN | refine belS ?_ (by first | omega | (simp; done) | (simp; omega)))))⟩ ?_
  rintro w1 ⟨P1_p, P1_q, P1_r, ha1, hb1, hu1, hv1, hbw1⟩ G1 lo1 hi1
  have hz1 := hbw1.size
  simp only [List.take_succ_cons, List.take_zero, List.drop_succ_cons, List.drop_zero, List.cons_append, List.nil_append, List.append_nil]
  refine oge_val (by rfl) ?_ ?_
  · exact fun f hf w' h _ => ldR rfl (by rw [← hf]; rfl) h.1
  refine oge_val (by rfl) ?_ ?_
  · intro f hf; have u3 : f 3 = (.pointer (some ⟨(w.heap.size + 1), 0, none⟩)) := (by rw [← hf]; rfl); clear hf; intro w' h _; clear h; go_simp
  refine oge_val (by rfl) ?_ ?_
  · exact fun f hf w' h _ => ldI (off := 0) rfl (by rw [← hf]; rfl) (h.2.1) rfl rfl
  refine oge_call 57 #[.agg #[.bool s2, .slice a2 l2.length c2]] (by rfl) ?_ ?_ ?_
  · exact fun f hf w' h _ => cl1 rfl (by rw [← hf]; rfl) (by go_simp)
  · rintro w' ⟨p_p, p_q, p_r, r_a, r_b, r_u, r_v, bel⟩ hF; exact HN.out _ r_u
  refine oge_val (by rfl) ?_ ?_
  · intro f hf; have u3 : f 3 = (.pointer (some ⟨(w.heap.size + 1), 0, none⟩)) := (by rw [← hf]; rfl); clear hf; intro w' h _; clear h; go_simp
  refine oge_val (by rfl) ?_ ?_
  · exact fun f hf w' h _ => ldI (off := 2) rfl (by rw [← hf]; rfl) (h.2.1) rfl rfl
  refine oge_val (by rfl) ?_ ?_
  · intro f hf; have u8 : f 8 = (.agg #[.bool sN, .slice (G1 3 0).1 N.length (G1 3 0).2]) := (by rw [← hf]; rfl); have u10 : f 10 = (.agg #[.bool t2, .slice b2 m2.length d2]) := (by rw [← hf]; rfl); clear hf; intro w' h _; clear h; go_simp
  refine oge_call 33 #[.agg #[.bool s, .slice a l.length c, .bool t, .slice b k.length d], .agg #[.bool sN, .slice (G1 3 0).1 N.length (G1 3 0).2, .bool t2, .slice b2 m2.length d2]] (by rfl) ?_ ?_ ?_
  · exact fun f hf w' h _ => cl2 rfl (by rw [← hf]; rfl) (by rw [← hf]; rfl) (by go_simp)
  · rintro w' ⟨p_p, p_q, p_r, r_a, r_b, r_u, r_v, bel⟩ hF; have ff3 : OwP [N] (G1 3) (lo1 3) (hi1 3) w' := (hF 3 (List.mem_of_elem_eq_true rfl)).1; have ff3 := ff3.rws; exact HR.out _ _ _ (ff3 0 _ rfl).1 r_a r_b (ff3 0 _ rfl).2 r_v
  refine oge_nil ?_
  rintro w2 ⟨P2_p, P2_q, P2_r, ha2, hb2, hu2, hv2, hbw2⟩ hd2 hA
  have hz2 := hbw2.size
  obtain ⟨⟨la3, lb3, lc3, fw3⟩, ld3, ⟨⟨la7, lb7, lc7, fw7⟩, ld7, -⟩⟩ := hA
  have fo3 : OwP [N] (G1 3) (lo1 3) (hi1 3) w2 := fw3
  have fa3 := fo3.rws
  have hn2 : Rw w2 (G1 3 0).1 N := (fa3 0 _ rfl).2
  have cap_n : N.length ≤ (G1 3 0).2 := (fa3 0 _ rfl).1
  have fo7 : OwP [X, Y] (G1 7) (lo1 7) (hi1 7) w2 := fw7
  have fa7 := fo7.rws
  have hx2 : Rw w2 (G1 7 0).1 X := (fa7 0 _ rfl).2
  have cap_x : X.length ≤ (G1 7 0).2 := (fa7 0 _ rfl).1
  have hy2 : Rw w2 (G1 7 1).1 Y := (fa7 1 _ rfl).2
  have cap_y : Y.length ≤ (G1 7 1).2 := (fa7 1 _ rfl).1
  have qq1_p : w.heap.size < w1.heap.size := P1_p.2
  have qq1_q : (w.heap.size + 1) < w1.heap.size := P1_q.2
  have qq1_r : (w.heap.size + 1 + 1) < w1.heap.size := P1_r.2
  clear P1_p P1_q P1_r ha1 hb1 hu1 hv1 ld3 fw3 ld7 fw7 hd2
  obtain ⟨⟨k2_p_0, g2_p_0⟩, ⟨k2_p_1, g2_p_1⟩, ⟨k2_p_2, g2_p_2⟩, ⟨k2_p_3, g2_p_3⟩, x2_p, y2_p, q2_p⟩ := id P2_p.x4
  obtain ⟨⟨k2_q_0, g2_q_0⟩, ⟨k2_q_1, g2_q_1⟩, ⟨k2_q_2, g2_q_2⟩, ⟨k2_q_3, g2_q_3⟩, x2_q, y2_q, q2_q⟩ := id P2_q.x4
  obtain ⟨⟨k2_r_0, g2_r_0⟩, ⟨k2_r_1, g2_r_1⟩, ⟨k2_r_2, g2_r_2⟩, ⟨k2_r_3, g2_r_3⟩, x2_r, y2_r, q2_r⟩ := id P2_r.x4
  simp only [puts, putD, Act.put, List.setIfInBounds_toArray, List.set_cons_zero, List.set_cons_succ]
  go_wp2
  refine bodyPost_ret (v := .agg #[.bool sX, .slice (G1 7 0).1 X.length (G1 7 0).2, .bool sY, .slice (G1 7 1).1 Y.length (G1 7 1).2]) (by simp [results, Try.results32, go_sem, *]) rfl ?_
  exact ans_fin fo7 (fun hh => by (with_reducible repeat' first | assumption | apply OwP.dr | apply OwP.al | refine OwP.stH ?_ (by first | omega | (simp; done) | (simp; omega)) | refine OwP.st ?_ (by first | omega | (simp; done) | (simp; omega)))) (by first | omega | (simp; done) | (simp; omega)) (by first | omega | (simp; done) | (simp; omega)) (by (with_reducible repeat' first | exact Below.refl _ _ | assumption | apply belA | apply Below.drew | apply below_drewN | refine belS ?_ (by first | omega | (simp; done) | (simp; omega)))) rfl
set_option maxRecDepth 50000 in
set_option maxHeartbeats 4000000 in
theorem add_small (s t s2 t2 : Bool) (a b a2 b2 : Option Addr) (c d c2 d2 : Nat) (l k l2 m2 : List (BitVec 32)) (w : World) (ha : Rw w a l) (hb : Rw w b k) (hu : Rw w a2 l2) (hv : Rw w b2 m2) (x y : Int) (sX sY : Bool) (X Y : List (BitVec 32))
    (hS : ∀ W, Rw W a l → Rw W b k → Rw W a2 l2 → Rw W b2 m2 → Calls Try.prog 63 #[.agg #[.bool s, .slice a l.length c, .bool t, .slice b k.length d], .agg #[.bool s2, .slice a2 l2.length c2, .bool t2, .slice b2 m2.length d2]] W fun e w' => e = .returned (.tuple #[.agg #[.int .i64 x, .int .i64 y], .bool true]) ∧ Below W.heap.size W w')
    (hT : ∀ W, Calls Try.prog 64 #[.agg #[.int .i64 x, .int .i64 y]] W (AnsR (qV sX X sY Y) (OwP [X, Y]) W)) :
    Calls Try.prog 33 #[.agg #[.bool s, .slice a l.length c, .bool t, .slice b k.length d], .agg #[.bool s2, .slice a2 l2.length c2, .bool t2, .slice b2 m2.length d2]] w (AnsR (qV sX X sY Y) (OwP [X, Y]) w) := by
  have HS := Lib.hid hS
  have HT := Lib.hid hT
  clear hS hT
  go_enter Try.func33, Try.ntmps33
  go_wp2_with (go_at_call 63; go_loud ((with_reducible refine (HS.out _ (ha.below (by (with_reducible repeat' first | exact Below.refl _ _ | assumption | apply belA | apply Below.drew | apply below_drewN | refine belS ?_ (by first | omega | (simp; done) | (simp; omega))))) (hb.below (by (with_reducible repeat' first | exact Below.refl _ _ | assumption | apply belA | apply Below.drew | apply below_drewN | refine belS ?_ (by first | omega | (simp; done) | (simp; omega))))) (hu.below (by (with_reducible repeat' first | exact Below.refl _ _ | assumption | apply belA | apply Below.drew | apply below_drewN | refine belS ?_ (by first | omega | (simp; done) | (simp; omega))))) (hv.below (by (with_reducible repeat' first | exact Below.refl _ _ | assumption | apply belA | apply Below.drew | apply below_drewN | refine belS ?_ (by first | omega | (simp; done) | (simp; omega)))))).mono ?_); rintro e w1 ⟨rfl, hc1⟩; have E1 : Below w.heap.size w w1 := bel_step (by (with_reducible repeat' first | exact Below.refl _ _ | assumption | apply belA | apply Below.drew | apply below_drewN | refine belS ?_ (by first | omega | (simp; done) | (simp; omega)))) hc1; have P1_p : Bx w1 w.heap.size [.bool s, .slice a l.length c, .bool t, .slice b k.length d] := Bx.below (show Bx _ w.heap.size [.bool s, .slice a l.length c, .bool t, .slice b k.length d] from (by (with_reducible repeat' first | assumption | exact Bx.new _ _ _ | refine Bx.newAt _ _ _ (by simp; done) | apply Bx.dr | apply Bx.drN | apply Bx.al | refine Bx.st ?_ (by first | assumption | omega | (simp; done) | (simp; omega))))) hc1; have P1_q : Bx w1 (w.heap.size + 1) [.bool s2, .slice a2 l2.length c2, .bool t2, .slice b2 m2.length d2] := Bx.below (show Bx _ (w.heap.size + 1) [.bool s2, .slice a2 l2.length c2, .bool t2, .slice b2 m2.length d2] from (by (with_reducible repeat' first | assumption | exact Bx.new _ _ _ | refine Bx.newAt _ _ _ (by simp; done) | apply Bx.dr | apply Bx.drN | apply Bx.al | refine Bx.st ?_ (by first | assumption | omega | (simp; done) | (simp; omega))))) hc1; have P1_r : Bx w1 (w.heap.size + 1 + 1) [.bool false, .slice none 0 0, .bool false, .slice none 0 0] := Bx.below (show Bx _ (w.heap.size + 1 + 1) [.bool false, .slice none 0 0, .bool false, .slice none 0 0] from (by (with_reducible repeat' first | assumption | exact Bx.new _ _ _ | refine Bx.newAt _ _ _ (by simp; done) | apply Bx.dr | apply Bx.drN | apply Bx.al | refine Bx.st ?_ (by first | assumption | omega | (simp; done) | (simp; omega))))) hc1; have ha1 := ha.below E1; have hb1 := hb.below E1; have hu1 := hu.below E1; have hv1 := hv.below E1; have hbw1 : Below w.heap.size w w1 := E1; have hz1 := hbw1.size; obtain ⟨⟨k1_p_0, g1_p_0⟩, ⟨k1_p_1, g1_p_1⟩, ⟨k1_p_2, g1_p_2⟩, ⟨k1_p_3, g1_p_3⟩, x1_p, y1_p, q1_p⟩ := id P1_p.x4; obtain ⟨⟨k1_q_0, g1_q_0⟩, ⟨k1_q_1, g1_q_1⟩, ⟨k1_q_2, g1_q_2⟩, ⟨k1_q_3, g1_q_3⟩, x1_q, y1_q, q1_q⟩ := id P1_q.x4; obtain ⟨⟨k1_r_0, g1_r_0⟩, ⟨k1_r_1, g1_r_1⟩, ⟨k1_r_2, g1_r_2⟩, ⟨k1_r_3, g1_r_3⟩, x1_r, y1_r, q1_r⟩ := id P1_r.x4; have qq1_r := q1_r; clear E1))
  go_wp2_with (go_at_call 64; go_loud ((with_reducible refine (HT.out _).mono ?_); rintro e w2 ⟨γ2, rfl, f2, hc2⟩; have E2 : Below w1.heap.size w1 w2 := bel_step (by (with_reducible repeat' first | exact Below.refl _ _ | assumption | apply belA | apply Below.drew | apply below_drewN | refine belS ?_ (by first | omega | (simp; done) | (simp; omega)))) hc2; have P2_p := P1_p.below E2; have P2_q := P1_q.below E2; have P2_r := P1_r.below E2; have ha2 := ha1.below E2; have hb2 := hb1.below E2; have hu2 := hu1.below E2; have hv2 := hv1.below E2; have hbw2 : Below w.heap.size w w2 := bel_step hbw1 E2; have hz2 := hbw2.size; obtain ⟨⟨k2_p_0, g2_p_0⟩, ⟨k2_p_1, g2_p_1⟩, ⟨k2_p_2, g2_p_2⟩, ⟨k2_p_3, g2_p_3⟩, x2_p, y2_p, q2_p⟩ := id P2_p.x4; obtain ⟨⟨k2_q_0, g2_q_0⟩, ⟨k2_q_1, g2_q_1⟩, ⟨k2_q_2, g2_q_2⟩, ⟨k2_q_3, g2_q_3⟩, x2_q, y2_q, q2_q⟩ := id P2_q.x4; obtain ⟨⟨k2_r_0, g2_r_0⟩, ⟨k2_r_1, g2_r_1⟩, ⟨k2_r_2, g2_r_2⟩, ⟨k2_r_3, g2_r_3⟩, x2_r, y2_r, q2_r⟩ := id P2_r.x4; have qq2_r := q2_r; clear P1_p q1_p k1_p_0 g1_p_0 k1_p_1 g1_p_1 k1_p_2 g1_p_2 k1_p_3 g1_p_3 x1_p y1_p P1_q q1_q k1_q_0 g1_q_0 k1_q_1 g1_q_1 k1_q_2 g1_q_2 k1_q_3 g1_q_3 x1_q y1_q P1_r q1_r k1_r_0 g1_r_0 k1_r_1 g1_r_1 k1_r_2 g1_r_2 k1_r_3 g1_r_3 x1_r y1_r ha1 hb1 hu1 hv1 E2))
  refine bodyPost_ret (v := .agg #[.bool sX, .slice (γ2 0).1 X.length (γ2 0).2, .bool sY, .slice (γ2 1).1 Y.length (γ2 1).2]) (by simp [results, Try.results33, go_sem, *]) rfl ?_
  exact ans_fin f2 (fun hh => by (with_reducible repeat' first | assumption | apply OwP.dr | apply OwP.al | refine OwP.stH ?_ (by first | omega | (simp; done) | (simp; omega)) | refine OwP.st ?_ (by first | omega | (simp; done) | (simp; omega)))) (by first | omega | (simp; done) | (simp; omega)) (by first | omega | (simp; done) | (simp; omega)) (by (with_reducible repeat' first | exact Below.refl _ _ | assumption | apply belA | apply Below.drew | apply below_drewN | refine belS ?_ (by first | omega | (simp; done) | (simp; omega)))) rfl
attribute [local go_sem] qE
set_option maxRecDepth 50000 in
set_option maxHeartbeats 4000000 in
theorem floor_w (s t : Bool) (a b : Option Addr) (c d : Nat) (l k : List (BitVec 32)) (w : World) (ha : Rw w a l) (hb : Rw w b k) (sX : Bool) (X : List (BitVec 32)) (hD : ∀ W, Rw W a l → Rw W b k → Calls Try.prog 56 #[.agg #[.bool s, .slice a l.length c], .agg #[.bool t, .slice b k.length d]] W fun e w' => ∃ γ : Pick, ∃ (sR : Bool) (ra : Option Addr) (R : List (BitVec 32)) (rc : Nat) (E : Int), e = .returned (.tuple #[.agg #[.bool sX, .slice (γ 0).1 X.length (γ 0).2], .agg #[.bool sR, .slice ra R.length rc], .int .i64 E]) ∧ OwP [X] γ W.heap.size w'.heap.size w' ∧ Below W.heap.size W w') :
    Calls Try.prog 25 #[.agg #[.bool s, .slice a l.length c, .bool t, .slice b k.length d]] w (AnsR (iV sX X) (OwP [X]) w) := by
  have HD := Lib.hid hD
  clear hD
  go_enter Try.func25, Try.ntmps25
  go_wp2_with (go_at_call 56; go_loud ((with_reducible refine (HD.out _ (ha.below (by (with_reducible repeat' first | exact Below.refl _ _ | assumption | apply belA | apply Below.drew | apply below_drewN | refine belS ?_ (by first | omega | (simp; done) | (simp; omega))))) (hb.below (by (with_reducible repeat' first | exact Below.refl _ _ | assumption | apply belA | apply Below.drew | apply below_drewN | refine belS ?_ (by first | omega | (simp; done) | (simp; omega)))))).mono ?_); rintro e w1 ⟨γ1, sR, ra, R, rc, E, rfl, f1, hc1⟩; have E1 : Below w.heap.size w w1 := bel_step (by (with_reducible repeat' first | exact Below.refl _ _ | assumption | apply belA | apply Below.drew | apply below_drewN | refine belS ?_ (by first | omega | (simp; done) | (simp; omega)))) hc1; have P1_p : Bx w1 w.heap.size [.bool s, .slice a l.length c, .bool t, .slice b k.length d] := Bx.below (show Bx _ w.heap.size [.bool s, .slice a l.length c, .bool t, .slice b k.length d] from (by (with_reducible repeat' first | assumption | exact Bx.new _ _ _ | refine Bx.newAt _ _ _ (by simp; done) | apply Bx.dr | apply Bx.drN | apply Bx.al | refine Bx.st ?_ (by first | assumption | omega | (simp; done) | (simp; omega))))) hc1; have P1_r : Bx w1 (w.heap.size + 1) [.bool false, .slice none 0 0] := Bx.below (show Bx _ (w.heap.size + 1) [.bool false, .slice none 0 0] from (by (with_reducible repeat' first | assumption | exact Bx.new _ _ _ | refine Bx.newAt _ _ _ (by simp; done) | apply Bx.dr | apply Bx.drN | apply Bx.al | refine Bx.st ?_ (by first | assumption | omega | (simp; done) | (simp; omega))))) hc1; have ha1 := ha.below E1; have hb1 := hb.below E1; have hbw1 : Below w.heap.size w w1 := E1; have hz1 := hbw1.size; obtain ⟨⟨k1_p_0, g1_p_0⟩, ⟨k1_p_1, g1_p_1⟩, ⟨k1_p_2, g1_p_2⟩, ⟨k1_p_3, g1_p_3⟩, x1_p, y1_p, q1_p⟩ := id P1_p.x4; obtain ⟨⟨k1_r_0, g1_r_0⟩, ⟨k1_r_1, g1_r_1⟩, x1_r, y1_r, q1_r⟩ := id P1_r.x2; have qq1_r := q1_r; clear E1))
  refine bodyPost_ret (v := .agg #[.bool sX, .slice (γ1 0).1 X.length (γ1 0).2]) (by simp [results, Try.results25, go_sem, *]) rfl ?_
  exact ans_fin f1 (fun hh => by (with_reducible repeat' first | assumption | apply OwP.dr | apply OwP.al | refine OwP.stH ?_ (by first | omega | (simp; done) | (simp; omega)) | refine OwP.st ?_ (by first | omega | (simp; done) | (simp; omega)))) (by first | omega | (simp; done) | (simp; omega)) (by first | omega | (simp; done) | (simp; omega)) (by (with_reducible repeat' first | exact Below.refl _ _ | assumption | apply belA | apply Below.drew | apply below_drewN | refine belS ?_ (by first | omega | (simp; done) | (simp; omega)))) rfl
set_option maxRecDepth 50000 in
set_option maxHeartbeats 4000000 in
theorem round_w (s t : Bool) (a b : Option Addr) (c d : Nat) (l k : List (BitVec 32)) (w : World) (ha : Rw w a l) (hb : Rw w b k) (sX : Bool) (X : List (BitVec 32)) (E : Int) (hD : ∀ W, Rw W a l → Rw W b k → Calls Try.prog 58 #[.agg #[.bool s, .slice a l.length c], .agg #[.bool t, .slice b k.length d]] W fun e w' => ∃ γ : Pick, e = .returned (.tuple #[.agg #[.bool sX, .slice (γ 0).1 X.length (γ 0).2], .int .i64 E]) ∧ OwP [X] γ W.heap.size w'.heap.size w' ∧ Below W.heap.size W w') :
    Calls Try.prog 27 #[.agg #[.bool s, .slice a l.length c, .bool t, .slice b k.length d]] w (AnsR (iV sX X) (OwP [X]) w) := by
  have HD := Lib.hid hD
  clear hD
  go_enter Try.func27, Try.ntmps27
  go_wp2_with (go_at_call 58; go_loud ((with_reducible refine (HD.out _ (ha.below (by (with_reducible repeat' first | exact Below.refl _ _ | assumption | apply belA | apply Below.drew | apply below_drewN | refine belS ?_ (by first | omega | (simp; done) | (simp; omega))))) (hb.below (by (with_reducible repeat' first | exact Below.refl _ _ | assumption | apply belA | apply Below.drew | apply below_drewN | refine belS ?_ (by first | omega | (simp; done) | (simp; omega)))))).mono ?_); rintro e w1 ⟨γ1, rfl, f1, hc1⟩; have E1 : Below w.heap.size w w1 := bel_step (by (with_reducible repeat' first | exact Below.refl _ _ | assumption | apply belA | apply Below.drew | apply below_drewN | refine belS ?_ (by first | omega | (simp; done) | (simp; omega)))) hc1; have P1_p : Bx w1 w.heap.size [.bool s, .slice a l.length c, .bool t, .slice b k.length d] := Bx.below (show Bx _ w.heap.size [.bool s, .slice a l.length c, .bool t, .slice b k.length d] from (by (with_reducible repeat' first | assumption | exact Bx.new _ _ _ | refine Bx.newAt _ _ _ (by simp; done) | apply Bx.dr | apply Bx.drN | apply Bx.al | refine Bx.st ?_ (by first | assumption | omega | (simp; done) | (simp; omega))))) hc1; have P1_r : Bx w1 (w.heap.size + 1) [.bool false, .slice none 0 0] := Bx.below (show Bx _ (w.heap.size + 1) [.bool false, .slice none 0 0] from (by (with_reducible repeat' first | assumption | exact Bx.new _ _ _ | refine Bx.newAt _ _ _ (by simp; done) | apply Bx.dr | apply Bx.drN | apply Bx.al | refine Bx.st ?_ (by first | assumption | omega | (simp; done) | (simp; omega))))) hc1; have ha1 := ha.below E1; have hb1 := hb.below E1; have hbw1 : Below w.heap.size w w1 := E1; have hz1 := hbw1.size; obtain ⟨⟨k1_p_0, g1_p_0⟩, ⟨k1_p_1, g1_p_1⟩, ⟨k1_p_2, g1_p_2⟩, ⟨k1_p_3, g1_p_3⟩, x1_p, y1_p, q1_p⟩ := id P1_p.x4; obtain ⟨⟨k1_r_0, g1_r_0⟩, ⟨k1_r_1, g1_r_1⟩, x1_r, y1_r, q1_r⟩ := id P1_r.x2; have qq1_r := q1_r; clear E1))
  refine bodyPost_ret (v := .agg #[.bool sX, .slice (γ1 0).1 X.length (γ1 0).2]) (by simp [results, Try.results27, go_sem, *]) rfl ?_
  exact ans_fin f1 (fun hh => by (with_reducible repeat' first | assumption | apply OwP.dr | apply OwP.al | refine OwP.stH ?_ (by first | omega | (simp; done) | (simp; omega)) | refine OwP.st ?_ (by first | omega | (simp; done) | (simp; omega)))) (by first | omega | (simp; done) | (simp; omega)) (by first | omega | (simp; done) | (simp; omega)) (by (with_reducible repeat' first | exact Below.refl _ _ | assumption | apply belA | apply Below.drew | apply below_drewN | refine belS ?_ (by first | omega | (simp; done) | (simp; omega)))) rfl
set_option maxRecDepth 50000 in
set_option maxHeartbeats 4000000 in
theorem ceil_w (s t : Bool) (a b : Option Addr) (c d : Nat) (l k : List (BitVec 32)) (w : World) (ha : Rw w a l) (hb : Rw w b k) (sN sM sX : Bool) (N M X : List (BitVec 32))
    (hN : ∀ W, Rw W a l → Calls Try.prog 57 #[.agg #[.bool s, .slice a l.length c]] W (AnsR (iV sN N) (OwP [N]) W))
    (hM : ∀ W (v : Option Addr) (n : Nat), N.length ≤ n → Rw W v N → Rw W b k → Calls Try.prog 25 #[.agg #[.bool sN, .slice v N.length n, .bool t, .slice b k.length d]] W (AnsR (iV sM M) (OwP [M]) W))
    (hX : ∀ W (v : Option Addr) (n : Nat), M.length ≤ n → Rw W v M → Calls Try.prog 57 #[.agg #[.bool sM, .slice v M.length n]] W (AnsR (iV sX X) (OwP [X]) W)) :
    Calls Try.prog 26 #[.agg #[.bool s, .slice a l.length c, .bool t, .slice b k.length d]] w (AnsR (iV sX X) (OwP [X]) w) := by
  have HN := Lib.hid hN
  have HM := Lib.hid hM
  have HX := Lib.hid hX
  clear hN hM hX
  go_enter Try.func26, Try.ntmps26
  go_wp2
  refine wp_region_go0 (fun W => Bx W w.heap.size [.bool s, .slice a l.length c, .bool t, .slice b k.length d] ∧ Bx W (w.heap.size + 1) [.bool false, .slice none 0 0] ∧ Rw W a l ∧ Rw W b k ∧ Below w.heap.size w W) 8 11 [kv (.pointer (some ⟨w.heap.size, 0, none⟩)), kv (.agg #[.bool s, .slice a l.length c]), .made (fun γ => .agg #[.bool sN, .slice (γ 0).1 N.length (γ 0).2]) (OwP [N]), kv (.pointer (some ⟨w.heap.size, 2, none⟩)), kv (.agg #[.bool t, .slice b k.length d]), .val [2] (fun G1 lo1 => .agg #[.bool sN, .slice (G1 2 0).1 N.length (G1 2 0).2, .bool t, .slice b k.length d]), .made (fun γ => .agg #[.bool sM, .slice (γ 0).1 M.length (γ 0).2]) (OwP [M]), .made (fun γ => .agg #[.bool sX, .slice (γ 0).1 X.length (γ 0).2]) (OwP [X])] [[], [], [], [], [], [2], [2], [6]] [2, 6, 7] (by kernel_rfl) (by kernel_rfl) rfl (by kernel_rfl) (by kernel_rfl) (by kernel_rfl) rfl (by repeat' first | exact fits_nil | refine fits_cons ?_ ?_ | exact fit_const _ | exact trueP_fit _ | exact owP_fit _ _ | exact rwsP_fit _ _ | exact rwnP_fit _ _ | exact fit_fresh _ | exact fit_skip | exact fit_val (fun Ga Gb la lb hh => by simp only [(hh 2 (by simp)).1, (hh 2 (by simp)).2])) (by rintro w1 w2 ⟨p_p, p_r, r_a, r_b, bel⟩ hc; exact ⟨p_p.below hc, p_r.below hc, r_a.below hc, r_b.below hc, bel_step bel hc⟩) ⟨(show Bx _ w.heap.size [.bool s, .slice a l.length c, .bool t, .slice b k.length d] from (by (with_reducible repeat' first | assumption | exact Bx.new _ _ _ | refine Bx.newAt _ _ _ (by simp; done) | apply Bx.dr | apply Bx.drN | apply Bx.al | refine Bx.st ?_ (by first | assumption | omega | (simp; done) | (simp; omega))))), (show Bx _ (w.heap.size + 1) [.bool false, .slice none 0 0] from (by (with_reducible repeat' first | assumption | exact Bx.new _ _ _ | refine Bx.newAt _ _ _ (by simp; done) | apply Bx.dr | apply Bx.drN | apply Bx.al | refine Bx.st ?_ (by first | assumption | omega | (simp; done) | (simp; omega))))), (ha.below (by (with_reducible repeat' first | exact Below.refl _ _ | assumption | apply belA | apply Below.drew | apply below_drewN | refine belS ?_ (by first | omega | (simp; done) | (simp; omega))))), (hb.below (by (with_reducible repeat' first | exact Below.refl _ _ | assumption | apply belA | apply Below.drew | apply below_drewN | refine belS ?_ (by first | omega | (simp; done) | (simp; omega))))), (show Below w.heap.size w _ from (by (with_reducible repeat' first | exact Below.refl _ _ | assumption | apply belA | apply Below.drew | apply below_drewN | refine belS ?_ (by first | omega | (simp; done) | (simp; omega)))))⟩ ?_
  rintro w1 ⟨P1_p, P1_r, ha1, hb1, hbw1⟩ G1 lo1 hi1
  have hz1 := hbw1.size
  simp only [List.take_succ_cons, List.take_zero, List.drop_succ_cons, List.drop_zero, List.cons_append, List.nil_append, List.append_nil]
  refine oge_val (by rfl) ?_ ?_
  · intro f hf; have u1 : f 1 = (.pointer (some ⟨w.heap.size, 0, none⟩)) := (by rw [← hf]; rfl); clear hf; intro w' h _; clear h; go_simp
  refine oge_val (by rfl) ?_ ?_
  · exact fun f hf w' h _ => ldI (off := 0) rfl (by rw [← hf]; rfl) (h.1) rfl rfl
  refine oge_call 57 #[.agg #[.bool s, .slice a l.length c]] (by rfl) ?_ ?_ ?_
  · exact fun f hf w' h _ => cl1 rfl (by rw [← hf]; rfl) (by go_simp)
  · rintro w' ⟨p_p, p_r, r_a, r_b, bel⟩ hF; exact HN.out _ r_a
  refine oge_val (by rfl) ?_ ?_
  · intro f hf; have u1 : f 1 = (.pointer (some ⟨w.heap.size, 0, none⟩)) := (by rw [← hf]; rfl); clear hf; intro w' h _; clear h; go_simp
  refine oge_val (by rfl) ?_ ?_
  · exact fun f hf w' h _ => ldI (off := 2) rfl (by rw [← hf]; rfl) (h.1) rfl rfl
  refine oge_val (by rfl) ?_ ?_
  · intro f hf; have u5 : f 5 = (.agg #[.bool sN, .slice (G1 2 0).1 N.length (G1 2 0).2]) := (by rw [← hf]; rfl); have u7 : f 7 = (.agg #[.bool t, .slice b k.length d]) := (by rw [← hf]; rfl); clear hf; intro w' h _; clear h; go_simp
  refine oge_call 25 #[.agg #[.bool sN, .slice (G1 2 0).1 N.length (G1 2 0).2, .bool t, .slice b k.length d]] (by rfl) ?_ ?_ ?_
  · exact fun f hf w' h _ => cl1 rfl (by rw [← hf]; rfl) (by go_simp)
  · rintro w' ⟨p_p, p_r, r_a, r_b, bel⟩ hF; have ff2 : OwP [N] (G1 2) (lo1 2) (hi1 2) w' := (hF 2 (List.mem_of_elem_eq_true rfl)).1; have ff2 := ff2.rws; exact HM.out _ _ _ (ff2 0 _ rfl).1 (ff2 0 _ rfl).2 r_b
  refine oge_call 57 #[.agg #[.bool sM, .slice (G1 6 0).1 M.length (G1 6 0).2]] (by rfl) ?_ ?_ ?_
  · exact fun f hf w' h _ => cl1 rfl (by rw [← hf]; rfl) (by go_simp)
  · rintro w' ⟨p_p, p_r, r_a, r_b, bel⟩ hF; have ff6 : OwP [M] (G1 6) (lo1 6) (hi1 6) w' := (hF 6 (List.mem_of_elem_eq_true rfl)).1; have ff6 := ff6.rws; exact HX.out _ _ _ (ff6 0 _ rfl).1 (ff6 0 _ rfl).2
  refine oge_nil ?_
  rintro w2 ⟨P2_p, P2_r, ha2, hb2, hbw2⟩ hd2 hA
  have hz2 := hbw2.size
  obtain ⟨⟨la2, lb2, lc2, fw2⟩, ld2, ⟨⟨la6, lb6, lc6, fw6⟩, ld6, ⟨⟨la7, lb7, lc7, fw7⟩, ld7, -⟩⟩⟩ := hA
  have fo2 : OwP [N] (G1 2) (lo1 2) (hi1 2) w2 := fw2
  have fa2 := fo2.rws
  have hn2 : Rw w2 (G1 2 0).1 N := (fa2 0 _ rfl).2
  have cap_n : N.length ≤ (G1 2 0).2 := (fa2 0 _ rfl).1
  have fo6 : OwP [M] (G1 6) (lo1 6) (hi1 6) w2 := fw6
  have fa6 := fo6.rws
  have hm2 : Rw w2 (G1 6 0).1 M := (fa6 0 _ rfl).2
  have cap_m : M.length ≤ (G1 6 0).2 := (fa6 0 _ rfl).1
  have fo7 : OwP [X] (G1 7) (lo1 7) (hi1 7) w2 := fw7
  have fa7 := fo7.rws
  have hx2 : Rw w2 (G1 7 0).1 X := (fa7 0 _ rfl).2
  have cap_x : X.length ≤ (G1 7 0).2 := (fa7 0 _ rfl).1
  have qq1_p : w.heap.size < w1.heap.size := P1_p.2
  have qq1_r : (w.heap.size + 1) < w1.heap.size := P1_r.2
  clear P1_p P1_r ha1 hb1 ld2 fw2 ld6 fw6 ld7 fw7 hd2
  obtain ⟨⟨k2_p_0, g2_p_0⟩, ⟨k2_p_1, g2_p_1⟩, ⟨k2_p_2, g2_p_2⟩, ⟨k2_p_3, g2_p_3⟩, x2_p, y2_p, q2_p⟩ := id P2_p.x4
  obtain ⟨⟨k2_r_0, g2_r_0⟩, ⟨k2_r_1, g2_r_1⟩, x2_r, y2_r, q2_r⟩ := id P2_r.x2
  simp only [puts, putD, Act.put, List.setIfInBounds_toArray, List.set_cons_zero, List.set_cons_succ]
  go_wp2
  refine bodyPost_ret (v := .agg #[.bool sX, .slice (G1 7 0).1 X.length (G1 7 0).2]) (by simp [results, Try.results26, go_sem, *]) rfl ?_
  exact ans_fin fo7 (fun hh => by (with_reducible repeat' first | assumption | apply OwP.dr | apply OwP.al | refine OwP.stH ?_ (by first | omega | (simp; done) | (simp; omega)) | refine OwP.st ?_ (by first | omega | (simp; done) | (simp; omega)))) (by first | omega | (simp; done) | (simp; omega)) (by first | omega | (simp; done) | (simp; omega)) (by (with_reducible repeat' first | exact Below.refl _ _ | assumption | apply belA | apply Below.drew | apply below_drewN | refine belS ?_ (by first | omega | (simp; done) | (simp; omega)))) rfl
end Go.Proofs.Ytcofiekfhnfjpaa
