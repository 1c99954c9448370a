
import Derived.Test.YtcofiekfhnfjpaaSJ
import Derived.Deep.CutRange
namespace Go.Proofs.Ytcofiekfhnfjpaa
open Go.RowKit
set_option linter.unusedVariables false
set_option linter.unusedSimpArgs false
attribute [local go_sem ↓] Go.wp_at_zero Go.wp_at_succ
attribute [local go_sem] rhoF_tmp rhoF_const rhoF_global rhoF_func
attribute [local go_sem] qV iV
attribute [local go_sem] qE
set_option maxRecDepth 50000 in
set_option maxHeartbeats 4000000 in
theorem onew_w (a : Option Addr) (c : Nat) (l : List (BitVec 32)) (w : World) (ha : Rw w a l) (X : List (BitVec 32)) (hN : ∀ (W : World), Rw W a l → Calls Try.prog 86 #[.slice a l.length c] W (AnsR (fun γ => .slice (γ 0).1 X.length (γ 0).2) (OwP [X]) W)) :
    Calls Try.prog 77 #[.bool false, .slice a l.length c] w (AnsR (iV false X) (OwP [X]) w) := by
  have HN := Lib.hid hN
  clear hN
  go_enter Try.func77, Try.ntmps77
  go_wp2_with (go_at_call 86; go_loud ((with_reducible refine (HN.out _ (ha.below (by (with_reducible repeat' first | exact Below.refl _ _ | assumption | apply belA | apply Below.drew | apply below_drewN | refine belS ?_ (by first | omega | (simp; done) | (simp; omega)))))).mono ?_); rintro e w1 ⟨γ1, rfl, f1, hc1⟩; have E1 : Below w.heap.size w w1 := bel_step (by (with_reducible repeat' first | exact Below.refl _ _ | assumption | apply belA | apply Below.drew | apply below_drewN | refine belS ?_ (by first | omega | (simp; done) | (simp; omega)))) hc1; have P1_r : Bx w1 w.heap.size [.bool false, .slice none 0 0] := Bx.below (show Bx _ w.heap.size [.bool false, .slice none 0 0] from (by (with_reducible repeat' first | assumption | exact Bx.new _ _ _ | refine Bx.newAt _ _ _ (by simp; done) | apply Bx.dr | apply Bx.drN | apply Bx.al | refine Bx.st ?_ (by first | assumption | omega | (simp; done) | (simp; omega))))) hc1; have ha1 := ha.below E1; have hbw1 : Below w.heap.size w w1 := E1; have hz1 := hbw1.size; obtain ⟨⟨k1_r_0, g1_r_0⟩, ⟨k1_r_1, g1_r_1⟩, x1_r, y1_r, q1_r⟩ := id P1_r.x2; have qq1_r := q1_r; have f1r := f1.rws; have hn1 : Rw w1 (γ1 0).1 X := (f1r 0 _ rfl).2; have cap_n : X.length ≤ (γ1 0).2 := (f1r 0 _ rfl).1; clear E1))
  go_wp2
  refine bodyPost_ret (v := .agg #[.bool false, .slice (γ1 0).1 X.length (γ1 0).2]) (by simp [results, Try.results77, go_sem, *]) rfl ?_
  exact ans_fin f1 (fun hh => by (with_reducible repeat' first | assumption | apply OwP.dr | apply OwP.al | refine OwP.stH ?_ (by first | omega | (simp; done) | (simp; omega)) | refine OwP.st ?_ (by first | omega | (simp; done) | (simp; omega)))) (by first | omega | (simp; done) | (simp; omega)) (by first | omega | (simp; done) | (simp; omega)) (by (with_reducible repeat' first | exact Below.refl _ _ | assumption | apply belA | apply Below.drew | apply below_drewN | refine belS ?_ (by first | omega | (simp; done) | (simp; omega)))) rfl
theorem onew_q (a : Option Addr) (c : Nat) (l : List (BitVec 32)) (w : World) (hl : l.length ≤ 1000000) (ha : Rw w a l) :
    Calls Try.prog 77 #[.bool false, .slice a l.length c] w (AnsR (iV false (canon (valD l))) (OwP [canon (valD l)]) w) := by
  rw [canon_val]
  refine onew_w a c l w ha _ (fun W h => (norm_any a _ c l W rfl (by omega) h).mono fun e w' h => ?_)
  obtain ⟨a1, c1, rfl, ho, hb⟩ := h
  exact ⟨pk1 a1 c1, rfl, OwP.one ho, hb⟩
set_option maxRecDepth 50000 in
set_option maxHeartbeats 4000000 in
theorem ofri_w (w : World) (X : List (BitVec 32)) (hN : ∀ (W : World) (a : Option Addr), Rw W a [1#32, 0#32] → Calls Try.prog 77 #[.bool false, .slice a 2 2] W (AnsR (iV false X) (OwP [X]) W)) :
    Calls Try.prog 55 #[.int .i64 1] w (AnsR (iV false X) (OwP [X]) w) := by
  have HN := Lib.hid (fun W => hN W (some ⟨w.heap.size + 1, 0, none⟩))
  clear hN
  have hrow : Rw ((w.alloc (.cells #[Value.bool false, Value.slice none 0 0] 24)).alloc (.cells #[Value.int IntKind.u32 1, Value.int IntKind.u32 0] 49)) (some ⟨w.heap.size + 1, 0, none⟩) [1#32, 0#32] := Rw.of_alloc (by simp) (by rfl)
  go_enter Try.func55, Try.ntmps55
  go_wp2_with (go_at_call 77; go_loud ((with_reducible refine (HN.out _ hrow).mono ?_); rintro e w1 ⟨γ1, rfl, f1, hc1⟩; have E1 : Below w.heap.size w w1 := bel_step (by (with_reducible repeat' first | exact Below.refl _ _ | assumption | apply belA | apply Below.drew | apply below_drewN | refine belS ?_ (by first | omega | (simp; done) | (simp; omega)))) hc1; have P1_r : Bx w1 w.heap.size [.bool false, .slice none 0 0] := Bx.below (show Bx _ w.heap.size [.bool false, .slice none 0 0] from (by (with_reducible repeat' first | assumption | exact Bx.new _ _ _ | refine Bx.newAt _ _ _ (by simp; done) | apply Bx.dr | apply Bx.drN | apply Bx.al | refine Bx.st ?_ (by first | assumption | omega | (simp; done) | (simp; omega))))) hc1; have hbw1 : Below w.heap.size w w1 := E1; have hz1 := hbw1.size; obtain ⟨⟨k1_r_0, g1_r_0⟩, ⟨k1_r_1, g1_r_1⟩, x1_r, y1_r, q1_r⟩ := id P1_r.x2; have qq1_r := q1_r; have f1r := f1.rws; have hn1 : Rw w1 (γ1 0).1 X := (f1r 0 _ rfl).2; have cap_n : X.length ≤ (γ1 0).2 := (f1r 0 _ rfl).1; clear E1))
  go_wp2
  refine bodyPost_ret (v := .agg #[.bool false, .slice (γ1 0).1 X.length (γ1 0).2]) (by simp [results, Try.results55, go_sem, *]) rfl ?_
  exact ans_fin f1 (fun hh => by (with_reducible repeat' first | assumption | apply OwP.dr | apply OwP.al | refine OwP.stH ?_ (by first | omega | (simp; done) | (simp; omega)) | refine OwP.st ?_ (by first | omega | (simp; done) | (simp; omega)))) (by first | omega | (simp; done) | (simp; omega)) (by first | omega | (simp; done) | (simp; omega)) (by (with_reducible repeat' first | exact Below.refl _ _ | assumption | apply belA | apply Below.drew | apply below_drewN | refine belS ?_ (by first | omega | (simp; done) | (simp; omega)))) rfl
set_option maxRecDepth 50000 in
set_option maxHeartbeats 4000000 in
theorem orfri_w (w : World) (X : List (BitVec 32)) (hN : ∀ (W : World), Calls Try.prog 55 #[.int .i64 1] W (AnsR (iV false X) (OwP [X]) W)) :
    Calls Try.prog 24 #[.int .i64 1] w (AnsR (qV false X false X) (OwP [X, X]) w) := by
  have HN := Lib.hid hN
  clear hN
  go_enter Try.func24, Try.ntmps24
  go_wp2_with (go_at_call 55; go_loud (first
        | ((with_reducible refine (HN.out _).mono ?_); rintro e w2 ⟨γ2, rfl, f2, hc2⟩; have E2 : Below w1.heap.size w1 w2 := bel_step (by (with_reducible repeat' first | exact Below.refl _ _ | assumption | apply belA | apply Below.drew | apply below_drewN | refine belS ?_ (by first | omega | (simp; done) | (simp; omega)))) hc2; have P2_r := P1_r.below E2; have hn2 := hn1.below E2; have hbw2 : Below w.heap.size w w2 := bel_step hbw1 E2; have hz2 := hbw2.size; obtain ⟨⟨k2_r_0, g2_r_0⟩, ⟨k2_r_1, g2_r_1⟩, ⟨k2_r_2, g2_r_2⟩, ⟨k2_r_3, g2_r_3⟩, x2_r, y2_r, q2_r⟩ := id P2_r.x4; have qq2_r := q2_r; have f2r := f2.rws; have hm2 : Rw w2 (γ2 0).1 X := (f2r 0 _ rfl).2; have cap_m : X.length ≤ (γ2 0).2 := (f2r 0 _ rfl).1; clear P1_r q1_r k1_r_0 g1_r_0 k1_r_1 g1_r_1 k1_r_2 g1_r_2 k1_r_3 g1_r_3 x1_r y1_r hn1 E2)
        | ((with_reducible refine (HN.out _).mono ?_); rintro e w1 ⟨γ1, rfl, f1, hc1⟩; have E1 : Below w.heap.size w w1 := bel_step (by (with_reducible repeat' first | exact Below.refl _ _ | assumption | apply belA | apply Below.drew | apply below_drewN | refine belS ?_ (by first | omega | (simp; done) | (simp; omega)))) hc1; have P1_r : Bx w1 w.heap.size [.bool false, .slice none 0 0, .bool false, .slice none 0 0] := Bx.below (show Bx _ w.heap.size [.bool false, .slice none 0 0, .bool false, .slice none 0 0] from (by (with_reducible repeat' first | assumption | exact Bx.new _ _ _ | refine Bx.newAt _ _ _ (by simp; done) | apply Bx.dr | apply Bx.drN | apply Bx.al | refine Bx.st ?_ (by first | assumption | omega | (simp; done) | (simp; omega))))) hc1; have hbw1 : Below w.heap.size w w1 := E1; have hz1 := hbw1.size; obtain ⟨⟨k1_r_0, g1_r_0⟩, ⟨k1_r_1, g1_r_1⟩, ⟨k1_r_2, g1_r_2⟩, ⟨k1_r_3, g1_r_3⟩, x1_r, y1_r, q1_r⟩ := id P1_r.x4; have qq1_r := q1_r; have f1r := f1.rws; have hn1 : Rw w1 (γ1 0).1 X := (f1r 0 _ rfl).2; have cap_n : X.length ≤ (γ1 0).2 := (f1r 0 _ rfl).1; clear E1)))
  go_wp2
  refine bodyPost_ret (v := .agg #[.bool false, .slice (γ1 0).1 X.length (γ1 0).2, .bool false, .slice (γ2 0).1 X.length (γ2 0).2]) (by simp [results, Try.results24, go_sem, *]) rfl ?_
  have o1 := (own_set_other (own_set_other (own_set_other (own_set_other (own_below (f1.1 0 _ rfl).1 hc2) (b := w.heap.size) (by first | omega | (simp; done) | (simp; omega)) 0 (.bool false)) (b := w.heap.size) (by first | omega | (simp; done) | (simp; omega)) 1 (.slice (γ1 0).1 X.length (γ1 0).2)) (b := w.heap.size) (by first | omega | (simp; done) | (simp; omega)) 2 (.bool false)) (b := w.heap.size) (by first | omega | (simp; done) | (simp; omega)) 3 (.slice (γ2 0).1 X.length (γ2 0).2))
  have o2 := (own_set_other (own_set_other (own_set_other (own_set_other (f2.1 0 _ rfl).1 (b := w.heap.size) (by first | omega | (simp; done) | (simp; omega)) 0 (.bool false)) (b := w.heap.size) (by first | omega | (simp; done) | (simp; omega)) 1 (.slice (γ1 0).1 X.length (γ1 0).2)) (b := w.heap.size) (by first | omega | (simp; done) | (simp; omega)) 2 (.bool false)) (b := w.heap.size) (by first | omega | (simp; done) | (simp; omega)) 3 (.slice (γ2 0).1 X.length (γ2 0).2))
  unfold AnsR
  refine ⟨pk2 (γ1 0).1 (γ1 0).2 (γ2 0).1 (γ2 0).2, rfl, OwP.two (own_mono o1 (by first | omega | (simp; done) | (simp; omega))) (own_mono o2 (by first | omega | (simp; done) | (simp; omega))) (Nat.le_refl _) ?_, ?_⟩
  · intro p q hp hq
    have h5 := (f1.1 0 _ rfl).2 p hp
    have h6 := (own_blk (f2.1 0 _ rfl).1 q hq).1
    omega
  · (with_reducible repeat' first | exact Below.refl _ _ | assumption | apply belA | apply Below.drew | apply below_drewN | refine belS ?_ (by first | omega | (simp; done) | (simp; omega)))
theorem two_one : ([1#32, 0#32] : List (BitVec 32)).length ≤ 1000000 := by decide
theorem val_one2 : valD [1#32, 0#32] = 1 := by decide
theorem orfri_q (w : World) : Calls Try.prog 24 #[.int .i64 1] w (AnsR (qV false (canon 1) false (canon 1)) (OwP [canon 1, canon 1]) w) := by
  refine orfri_w w _ (fun W => ofri_w W _ (fun W a h => ?_))
  have := onew_q a 2 [1#32, 0#32] W two_one h
  rw [val_one2] at this
  exact this
end Go.Proofs.Ytcofiekfhnfjpaa
