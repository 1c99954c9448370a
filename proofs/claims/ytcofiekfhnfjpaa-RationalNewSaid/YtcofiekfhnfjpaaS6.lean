
import Derived.Test.YtcofiekfhnfjpaaS3
import Derived.Deep.CutRange
namespace Go.Proofs.Ytcofiekfhnfjpaa
open Go.RowKit
set_option linter.unusedVariables false
set_option linter.unusedSimpArgs false
attribute [local go_sem ↓] Go.wp_at_zero Go.wp_at_succ
attribute [local go_sem] rhoF_tmp rhoF_const rhoF_global rhoF_func
attribute [local go_sem] qV iV
/-- with no error beside it -/
def qE (s : Bool) (X : List (BitVec 32)) (t : Bool) (Y : List (BitVec 32)) (γ : Pick) : Value := .tuple #[.agg #[.bool s, .slice (γ 0).1 X.length (γ 0).2, .bool t, .slice (γ 1).1 Y.length (γ 1).2], .int .i64 0]
attribute [local go_sem] qE
set_option maxRecDepth 50000 in
set_option maxHeartbeats 4000000 in
theorem round_w (s t : Bool) (a b : Option Addr) (c d : Nat) (l k : List (BitVec 32)) (w : World) (ha : Rw w a l) (hb : Rw w b k) (sX : Bool) (X : List (BitVec 32)) (E : Int) (hD : ∀ W, Rw W a l → Rw W b k → Calls Try.prog 58 #[.agg #[.bool s, .slice a l.length c], .agg #[.bool t, .slice b k.length d]] W fun e w' => ∃ γ : Pick, e = .returned (.tuple #[.agg #[.bool sX, .slice (γ 0).1 X.length (γ 0).2], .int .i64 E]) ∧ OwP [X] γ W.heap.size w'.heap.size w' ∧ Below W.heap.size W w') :
    Calls Try.prog 27 #[.agg #[.bool s, .slice a l.length c, .bool t, .slice b k.length d]] w (AnsR (iV sX X) (OwP [X]) w) := by
  have HD := Lib.hid hD
  clear hD
  go_enter Try.func27, Try.ntmps27
  go_wp2_with (go_at_call 58; go_loud ((with_reducible refine (HD.out _ (ha.below (by (with_reducible repeat' first | exact Below.refl _ _ | assumption | apply belA | apply Below.drew | apply below_drewN | refine belS ?_ (by first | omega | (simp; done) | (simp; omega))))) (hb.below (by (with_reducible repeat' first | exact Below.refl _ _ | assumption | apply belA | apply Below.drew | apply below_drewN | refine belS ?_ (by first | omega | (simp; done) | (simp; omega)))))).mono ?_); rintro e w1 ⟨γ1, rfl, f1, hc1⟩; have E1 : Below w.heap.size w w1 := bel_step (by (with_reducible repeat' first | exact Below.refl _ _ | assumption | apply belA | apply Below.drew | apply below_drewN | refine belS ?_ (by first | omega | (simp; done) | (simp; omega)))) hc1; have P1_p : Bx w1 w.heap.size [.bool s, .slice a l.length c, .bool t, .slice b k.length d] := Bx.below (show Bx _ w.heap.size [.bool s, .slice a l.length c, .bool t, .slice b k.length d] from (by (with_reducible repeat' first | assumption | exact Bx.new _ _ _ | refine Bx.newAt _ _ _ (by simp; done) | apply Bx.dr | apply Bx.drN | apply Bx.al | refine Bx.st ?_ (by first | assumption | omega | (simp; done) | (simp; omega))))) hc1; have P1_r : Bx w1 (w.heap.size + 1) [.bool false, .slice none 0 0] := Bx.below (show Bx _ (w.heap.size + 1) [.bool false, .slice none 0 0] from (by (with_reducible repeat' first | assumption | exact Bx.new _ _ _ | refine Bx.newAt _ _ _ (by simp; done) | apply Bx.dr | apply Bx.drN | apply Bx.al | refine Bx.st ?_ (by first | assumption | omega | (simp; done) | (simp; omega))))) hc1; have ha1 := ha.below E1; have hb1 := hb.below E1; have hbw1 : Below w.heap.size w w1 := E1; have hz1 := hbw1.size; obtain ⟨⟨k1_p_0, g1_p_0⟩, ⟨k1_p_1, g1_p_1⟩, ⟨k1_p_2, g1_p_2⟩, ⟨k1_p_3, g1_p_3⟩, x1_p, y1_p, q1_p⟩ := id P1_p.x4; obtain ⟨⟨k1_r_0, g1_r_0⟩, ⟨k1_r_1, g1_r_1⟩, x1_r, y1_r, q1_r⟩ := id P1_r.x2; have qq1_r := q1_r; clear E1))
  refine bodyPost_ret (v := .agg #[.bool sX, .slice (γ1 0).1 X.length (γ1 0).2]) (by simp [results, Try.results27, go_sem, *]) rfl ?_
  exact ans_fin f1 (fun hh => by (with_reducible repeat' first | assumption | apply OwP.dr | apply OwP.al | refine OwP.stH ?_ (by first | omega | (simp; done) | (simp; omega)) | refine OwP.st ?_ (by first | omega | (simp; done) | (simp; omega)))) (by first | omega | (simp; done) | (simp; omega)) (by first | omega | (simp; done) | (simp; omega)) (by (with_reducible repeat' first | exact Below.refl _ _ | assumption | apply belA | apply Below.drew | apply below_drewN | refine belS ?_ (by first | omega | (simp; done) | (simp; omega)))) rfl
end Go.Proofs.Ytcofiekfhnfjpaa
