import Derived.Test.YtfbgfnebodabpaaMs
import Derived.Test.YtfbgfnebodabpaaOpn
import Derived.WalkKit
import Derived.WalkSpells
import Derived.WalkLawsBesides
import Derived.Lib.Hide
import Derived.Below
import Derived.Deep.QuietTactic
import Derived.BigQuiet
import Derived.StillTailTactics
import Derived.Deep.RegionHeld3
import Derived.IntWalk
namespace Go.Proofs.Ytfbgfnebodabpaa
open Go.RowKit
set_option linter.unusedVariables false
set_option linter.unusedSimpArgs false
theorem IsRow.mask {w : World} {a : Option Addr} {n c : Nat} {z : List Int} (h : IsRow .u8 w a n c z) : ∃ l : List Int, l.length = n ∧ n ≤ c ∧ RS 1 u8V w a l ∧ BB l := by
  rcases h with ⟨rfl, rfl, rfl, rfl⟩ | ⟨ad, rfl, hl, hm, hz, hc, hw⟩
  · exact ⟨[], rfl, Nat.le_refl _, RS.nil _ _, by intro x hx; simp at hx⟩
  · refine ⟨z.take n, by rw [List.length_take]; omega, hl, ?_, ?_⟩
    · intro i hi
      have hi2 : i < z.length := by rw [List.length_take] at hi; omega
      refine ⟨ad, rfl, fun j u hu => ?_⟩
      obtain rfl : j = 0 := by
        have := (List.getElem?_eq_some_iff.1 hu).1
        simp [u8V] at this
        exact this
      simp [u8V] at hu
      rw [add_addr, Nat.mul_one, Nat.add_zero, hc i hi2, ← hu]
      simp [List.getD, hi2]
    · intro x hx
      have := hw x (List.mem_of_mem_take hx)
      simp [Lit.wf, IntKind.min, IntKind.max, IntKind.signed, IntKind.bits] at this
      omega
theorem eqM_self (a b c d : Int) (l : List Int) : eqM a b c d a b c d l l = true := by simp [eqM, rEq]
theorem req_same (a b c d : Int) (l : List Int) (hl : l.length ≤ 1000000) (p p2 : Option Addr) (q q2 : Nat) (W : World) (h1 : RS 1 u8V W p l) (h2 : RS 1 u8V W p2 l) :
    Calls Try.prog 23 #[.agg #[.int .i64 a, .int .i64 b, .int .i64 c, .int .i64 d, .slice p l.length q], .agg #[.int .i64 a, .int .i64 b, .int .i64 c, .int .i64 d, .slice p2 l.length q2]] W fun e w' => e = .returned (.bool true) ∧ Below W.heap.size W w' := by
  have h := requal_any a b c d a b c d p p2 l.length q l.length q2 l l W rfl rfl h1 h2 hl hl
  rw [eqM_self] at h
  exact h
theorem AnsM.take {w : World} {a b c d : Int} {l : List Int} {k : Int} {e : Ending} {w' : World} (h : AnsM w a b c d l k e w') : ∃ p q, e = .returned (.tuple #[.agg #[.int .i64 a, .int .i64 b, .int .i64 c, .int .i64 d, .slice p l.length q], .int .i64 k]) ∧ NM w.heap.size w' p l ∧ RS 1 u8V w' p l ∧ Below w.heap.size w w' := by
  obtain ⟨p, q, h1, h2, h3⟩ := h
  exact ⟨p, q, h1, h2, h2.rs, h3⟩
theorem gridL_le {f : Int → Int → Int} {a b c d : Int} (h : caR a b c d = true) (hA : arR a b c d ≤ 65536) : (gridL f a b c d).length ≤ 65536 := by
  have := gridL_len (f := f) h
  omega
theorem gridL_vM {f : Int → Int → Int} {a b c d : Int} (h : caR a b c d = true) (hA : arR a b c d ≤ 65536) : vM a b c d (gridL f a b c d).length = true := vM_mk h hA (gridL_len h)
set_option maxRecDepth 50000 in
set_option maxHeartbeats 4000000 in
theorem munif_w (a b c d v : Int) (x0 x1 x2 x3 : Int) (L : List Int) (er : Int) (hL : L.length ≤ 1000000) (w : World)
    (hup : ∀ W, Calls Try.prog 24 #[.agg #[.int .i64 a, .int .i64 b, .int .i64 c, .int .i64 d], .int .u8 v] W (AnsM W x0 x1 x2 x3 L er))
    (hur : ∀ W, Calls Try.prog 25 #[.agg #[.int .i64 a, .int .i64 b, .int .i64 c, .int .i64 d], .int .u8 v] W (AnsM W x0 x1 x2 x3 L er)) :
    Calls Try.prog 4 #[.agg #[.int .i64 a, .int .i64 b, .int .i64 c, .int .i64 d], .int .u8 v] w fun e w' => e = .returned (.bool true) ∧ Below w.heap.size w w' := by
  have heq := req_same x0 x1 x2 x3 L hL
  have hex := fun W => ex_any W
  go_enter Try.func4, Try.ntmps4
  go_wp2_with (first
    | (go_at_call 24; go_loud ((with_reducible refine (hup _).mono ?_); rintro e w1 ⟨p1, q1, rfl, hm1, hb1⟩; have hB1 : Below w.heap.size w w1 := B.bel_step (show Below w.heap.size w _ from (by (with_reducible repeat' first | exact Below.refl _ _ | assumption | apply B.belA | apply Below.drew | apply below_drewN | refine B.belS ?_ (by first | assumption | omega | (simp; done) | (simp; omega))))) hb1; have P1_r : B.Bx w1 w.heap.size [.int .i64 a, .int .i64 b, .int .i64 c, .int .i64 d] := B.Bx.below (show B.Bx _ w.heap.size [.int .i64 a, .int .i64 b, .int .i64 c, .int .i64 d] from (by (with_reducible repeat' first | assumption | exact B.Bx.new _ _ _ | refine B.Bx.newAt _ _ _ (by first | rfl | (simp; done)) | apply B.Bx.dr | apply B.Bx.drN | apply B.Bx.al | refine B.Bx.st ?_ (by first | assumption | omega | (simp; done) | (simp; omega))))) hb1; have r1_m := NM.rs hm1; obtain ⟨⟨k1_r_0, g1_r_0⟩, ⟨k1_r_1, g1_r_1⟩, ⟨k1_r_2, g1_r_2⟩, ⟨k1_r_3, g1_r_3⟩, x1_r, y1_r, q1_r⟩ := id P1_r.x4; have hz1 := hB1.size))
    | (go_at_call 25; go_loud ((with_reducible refine (hur _).mono ?_); rintro e w2 ⟨p2, q2, rfl, hm2, hb2⟩; have hB2 : Below w.heap.size w w2 := B.bel_step (show Below w.heap.size w _ from (by (with_reducible repeat' first | exact Below.refl _ _ | assumption | apply B.belA | apply Below.drew | apply below_drewN | refine B.belS ?_ (by first | assumption | omega | (simp; done) | (simp; omega))))) hb2; have P2_r : B.Bx w2 w.heap.size [.int .i64 a, .int .i64 b, .int .i64 c, .int .i64 d] := B.Bx.below (show B.Bx _ w.heap.size [.int .i64 a, .int .i64 b, .int .i64 c, .int .i64 d] from (by (with_reducible repeat' first | assumption | exact B.Bx.new _ _ _ | refine B.Bx.newAt _ _ _ (by first | rfl | (simp; done)) | apply B.Bx.dr | apply B.Bx.drN | apply B.Bx.al | refine B.Bx.st ?_ (by first | assumption | omega | (simp; done) | (simp; omega))))) hb2; have P2_m : B.Bx w2 w1.heap.size [.int .i64 x0, .int .i64 x1, .int .i64 x2, .int .i64 x3, .slice p1 L.length q1] := B.Bx.below (show B.Bx _ w1.heap.size [.int .i64 x0, .int .i64 x1, .int .i64 x2, .int .i64 x3, .slice p1 L.length q1] from (by (with_reducible repeat' first | assumption | exact B.Bx.new _ _ _ | refine B.Bx.newAt _ _ _ (by first | rfl | (simp; done)) | apply B.Bx.dr | apply B.Bx.drN | apply B.Bx.al | refine B.Bx.st ?_ (by first | assumption | omega | (simp; done) | (simp; omega))))) hb2; have r2_m : RS 1 u8V w2 p1 L := RS.below (show RS 1 u8V _ p1 L from (by (with_reducible repeat' first | assumption | apply B.rs_al | apply B.rs_drN | apply RS.drewN | apply B.rs_dr))) hb2; have r2_n := NM.rs hm2; clear P1_r k1_r_0 g1_r_0 k1_r_1 g1_r_1 k1_r_2 g1_r_2 k1_r_3 g1_r_3 x1_r y1_r q1_r; obtain ⟨⟨k2_r_0, g2_r_0⟩, ⟨k2_r_1, g2_r_1⟩, ⟨k2_r_2, g2_r_2⟩, ⟨k2_r_3, g2_r_3⟩, x2_r, y2_r, q2_r⟩ := id P2_r.x4; obtain ⟨⟨k2_m_0, g2_m_0⟩, ⟨k2_m_1, g2_m_1⟩, ⟨k2_m_2, g2_m_2⟩, ⟨k2_m_3, g2_m_3⟩, ⟨k2_m_4, g2_m_4⟩, x2_m, y2_m, q2_m⟩ := id P2_m.x5; have hz2 := hB2.size))
    | (go_at_call 23; go_loud ((with_reducible refine (heq _ _ _ _ _ (by (with_reducible repeat' first | assumption | apply B.rs_al | apply B.rs_drN | apply RS.drewN | apply B.rs_dr)) (by (with_reducible repeat' first | assumption | apply B.rs_al | apply B.rs_drN | apply RS.drewN | apply B.rs_dr))).mono ?_); rintro e w3 ⟨rfl, hb3⟩; have hB3 : Below w.heap.size w w3 := B.bel_step (show Below w.heap.size w _ from (by (with_reducible repeat' first | exact Below.refl _ _ | assumption | apply B.belA | apply Below.drew | apply below_drewN | refine B.belS ?_ (by first | assumption | omega | (simp; done) | (simp; omega))))) hb3; have P3_r : B.Bx w3 w.heap.size [.int .i64 a, .int .i64 b, .int .i64 c, .int .i64 d] := B.Bx.below (show B.Bx _ w.heap.size [.int .i64 a, .int .i64 b, .int .i64 c, .int .i64 d] from (by (with_reducible repeat' first | assumption | exact B.Bx.new _ _ _ | refine B.Bx.newAt _ _ _ (by first | rfl | (simp; done)) | apply B.Bx.dr | apply B.Bx.drN | apply B.Bx.al | refine B.Bx.st ?_ (by first | assumption | omega | (simp; done) | (simp; omega))))) hb3; have P3_m : B.Bx w3 w1.heap.size [.int .i64 x0, .int .i64 x1, .int .i64 x2, .int .i64 x3, .slice p1 L.length q1] := B.Bx.below (show B.Bx _ w1.heap.size [.int .i64 x0, .int .i64 x1, .int .i64 x2, .int .i64 x3, .slice p1 L.length q1] from (by (with_reducible repeat' first | assumption | exact B.Bx.new _ _ _ | refine B.Bx.newAt _ _ _ (by first | rfl | (simp; done)) | apply B.Bx.dr | apply B.Bx.drN | apply B.Bx.al | refine B.Bx.st ?_ (by first | assumption | omega | (simp; done) | (simp; omega))))) hb3; have P3_n : B.Bx w3 w2.heap.size [.int .i64 x0, .int .i64 x1, .int .i64 x2, .int .i64 x3, .slice p2 L.length q2] := B.Bx.below (show B.Bx _ w2.heap.size [.int .i64 x0, .int .i64 x1, .int .i64 x2, .int .i64 x3, .slice p2 L.length q2] from (by (with_reducible repeat' first | assumption | exact B.Bx.new _ _ _ | refine B.Bx.newAt _ _ _ (by first | rfl | (simp; done)) | apply B.Bx.dr | apply B.Bx.drN | apply B.Bx.al | refine B.Bx.st ?_ (by first | assumption | omega | (simp; done) | (simp; omega))))) hb3; have r3_m : RS 1 u8V w3 p1 L := RS.below (show RS 1 u8V _ p1 L from (by (with_reducible repeat' first | assumption | apply B.rs_al | apply B.rs_drN | apply RS.drewN | apply B.rs_dr))) hb3; have r3_n : RS 1 u8V w3 p2 L := RS.below (show RS 1 u8V _ p2 L from (by (with_reducible repeat' first | assumption | apply B.rs_al | apply B.rs_drN | apply RS.drewN | apply B.rs_dr))) hb3; clear P2_r k2_r_0 g2_r_0 k2_r_1 g2_r_1 k2_r_2 g2_r_2 k2_r_3 g2_r_3 x2_r y2_r q2_r P2_m k2_m_0 g2_m_0 k2_m_1 g2_m_1 k2_m_2 g2_m_2 k2_m_3 g2_m_3 k2_m_4 g2_m_4 x2_m y2_m q2_m; obtain ⟨⟨k3_r_0, g3_r_0⟩, ⟨k3_r_1, g3_r_1⟩, ⟨k3_r_2, g3_r_2⟩, ⟨k3_r_3, g3_r_3⟩, x3_r, y3_r, q3_r⟩ := id P3_r.x4; obtain ⟨⟨k3_m_0, g3_m_0⟩, ⟨k3_m_1, g3_m_1⟩, ⟨k3_m_2, g3_m_2⟩, ⟨k3_m_3, g3_m_3⟩, ⟨k3_m_4, g3_m_4⟩, x3_m, y3_m, q3_m⟩ := id P3_m.x5; obtain ⟨⟨k3_n_0, g3_n_0⟩, ⟨k3_n_1, g3_n_1⟩, ⟨k3_n_2, g3_n_2⟩, ⟨k3_n_3, g3_n_3⟩, ⟨k3_n_4, g3_n_4⟩, x3_n, y3_n, q3_n⟩ := id P3_n.x5; have hz3 := hB3.size))
    | (go_at_call 14; go_loud ((with_reducible refine (hex _).mono ?_); rintro e w4 ⟨rfl, hb4⟩; have hB4 : Below w.heap.size w w4 := B.bel_step (show Below w.heap.size w _ from (by (with_reducible repeat' first | exact Below.refl _ _ | assumption | apply B.belA | apply Below.drew | apply below_drewN | refine B.belS ?_ (by first | assumption | omega | (simp; done) | (simp; omega))))) hb4; have P4_r : B.Bx w4 w.heap.size [.int .i64 a, .int .i64 b, .int .i64 c, .int .i64 d] := B.Bx.below (show B.Bx _ w.heap.size [.int .i64 a, .int .i64 b, .int .i64 c, .int .i64 d] from (by (with_reducible repeat' first | assumption | exact B.Bx.new _ _ _ | refine B.Bx.newAt _ _ _ (by first | rfl | (simp; done)) | apply B.Bx.dr | apply B.Bx.drN | apply B.Bx.al | refine B.Bx.st ?_ (by first | assumption | omega | (simp; done) | (simp; omega))))) hb4; have P4_m : B.Bx w4 w1.heap.size [.int .i64 x0, .int .i64 x1, .int .i64 x2, .int .i64 x3, .slice p1 L.length q1] := B.Bx.below (show B.Bx _ w1.heap.size [.int .i64 x0, .int .i64 x1, .int .i64 x2, .int .i64 x3, .slice p1 L.length q1] from (by (with_reducible repeat' first | assumption | exact B.Bx.new _ _ _ | refine B.Bx.newAt _ _ _ (by first | rfl | (simp; done)) | apply B.Bx.dr | apply B.Bx.drN | apply B.Bx.al | refine B.Bx.st ?_ (by first | assumption | omega | (simp; done) | (simp; omega))))) hb4; have P4_n : B.Bx w4 w2.heap.size [.int .i64 x0, .int .i64 x1, .int .i64 x2, .int .i64 x3, .slice p2 L.length q2] := B.Bx.below (show B.Bx _ w2.heap.size [.int .i64 x0, .int .i64 x1, .int .i64 x2, .int .i64 x3, .slice p2 L.length q2] from (by (with_reducible repeat' first | assumption | exact B.Bx.new _ _ _ | refine B.Bx.newAt _ _ _ (by first | rfl | (simp; done)) | apply B.Bx.dr | apply B.Bx.drN | apply B.Bx.al | refine B.Bx.st ?_ (by first | assumption | omega | (simp; done) | (simp; omega))))) hb4; have r4_m : RS 1 u8V w4 p1 L := RS.below (show RS 1 u8V _ p1 L from (by (with_reducible repeat' first | assumption | apply B.rs_al | apply B.rs_drN | apply RS.drewN | apply B.rs_dr))) hb4; have r4_n : RS 1 u8V w4 p2 L := RS.below (show RS 1 u8V _ p2 L from (by (with_reducible repeat' first | assumption | apply B.rs_al | apply B.rs_drN | apply RS.drewN | apply B.rs_dr))) hb4; clear P3_r k3_r_0 g3_r_0 k3_r_1 g3_r_1 k3_r_2 g3_r_2 k3_r_3 g3_r_3 x3_r y3_r q3_r P3_m k3_m_0 g3_m_0 k3_m_1 g3_m_1 k3_m_2 g3_m_2 k3_m_3 g3_m_3 k3_m_4 g3_m_4 x3_m y3_m q3_m P3_n k3_n_0 g3_n_0 k3_n_1 g3_n_1 k3_n_2 g3_n_2 k3_n_3 g3_n_3 k3_n_4 g3_n_4 x3_n y3_n q3_n; obtain ⟨⟨k4_r_0, g4_r_0⟩, ⟨k4_r_1, g4_r_1⟩, ⟨k4_r_2, g4_r_2⟩, ⟨k4_r_3, g4_r_3⟩, x4_r, y4_r, q4_r⟩ := id P4_r.x4; obtain ⟨⟨k4_m_0, g4_m_0⟩, ⟨k4_m_1, g4_m_1⟩, ⟨k4_m_2, g4_m_2⟩, ⟨k4_m_3, g4_m_3⟩, ⟨k4_m_4, g4_m_4⟩, x4_m, y4_m, q4_m⟩ := id P4_m.x5; obtain ⟨⟨k4_n_0, g4_n_0⟩, ⟨k4_n_1, g4_n_1⟩, ⟨k4_n_2, g4_n_2⟩, ⟨k4_n_3, g4_n_3⟩, ⟨k4_n_4, g4_n_4⟩, x4_n, y4_n, q4_n⟩ := id P4_n.x5; have hz4 := hB4.size)))
  go_ret
  exact ⟨rfl, (by (with_reducible repeat' first | exact Below.refl _ _ | assumption | apply B.belA | apply Below.drew | apply below_drewN | refine B.belS ?_ (by first | assumption | omega | (simp; done) | (simp; omega))))⟩
theorem munif_any (a b c d v : Int) (w : World) : Calls Try.prog 4 #[.agg #[.int .i64 a, .int .i64 b, .int .i64 c, .int .i64 d], .int .u8 v] w fun e w' => e = .returned (.bool true) ∧ Below w.heap.size w w' := by
  cases hv : vR a b c d with
  | false => exact munif_w a b c d v 0 0 0 0 [] 6 (by simp) w (fun W => uniform_bad a b c d v W hv) (fun W => runi_bad a b c d v W hv)
  | true =>
    by_cases hA : arR a b c d ≤ 65536
    · have hl := gridL_le (f := fun _ _ => v) (caR_cn a b c d) (by rw [arR_cn]; exact hA)
      exact munif_w a b c d v _ _ _ _ _ 0 (by omega) w (fun W => uniform_any a b c d v _ _ _ _ W rfl rfl rfl rfl hv hA) (fun W => runi_any a b c d v _ _ _ _ W rfl rfl rfl rfl hv hA)
    · exact munif_w a b c d v 0 0 0 0 [] 5 (by simp) w (fun W => uniform_big a b c d v W hv (by omega)) (fun W => runi_big a b c d v W hv (by omega))
end Go.Proofs.Ytfbgfnebodabpaa
