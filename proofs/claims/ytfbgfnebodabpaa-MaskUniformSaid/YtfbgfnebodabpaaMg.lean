import Derived.Test.YtfbgfnebodabpaaMf
import Derived.Test.YtfbgfnebodabpaaMu
import Derived.WalkKit
import Derived.WalkSpells
import Derived.WalkLawsBesides
import Derived.Lib.Hide
import Derived.Below
import Derived.Deep.QuietTactic
import Derived.BigQuiet
import Derived.StillTailTactics
import Derived.Deep.RegionHeld3
import Derived.IntWalk
namespace Go.Proofs.Ytfbgfnebodabpaa
open Go.RowKit
set_option linter.unusedVariables false
set_option linter.unusedSimpArgs false
set_option maxRecDepth 50000 in
set_option maxHeartbeats 4000000 in
theorem uni1_any (x y v : Int) (g : Nat) (w : World) (hk : w.cell? ⟨g, 0, none⟩ = some (.int .u8 v)) :
    Calls Try.prog 57 #[.int .i64 x, .int .i64 y, .pointer (some ⟨g, 0, none⟩)] w fun e w' => e = .returned (.int .u8 v) ∧ Below w.heap.size w w' := by
  go_enter Try.func57, Try.ntmps57
  go_wp2
  go_ret
  exact ⟨rfl, Below.refl _ _⟩
set_option maxRecDepth 50000 in
set_option maxHeartbeats 4000000 in
theorem cro1_any (a b c d x y : Int) (p : Option Addr) (n q g : Nat) (l : List Int) (w : World) (hn : l.length = n) (hv : vM a b c d n = true) (hr : RS 1 u8V w p l) (hb : B.Bx w g [.int .i64 a, .int .i64 b, .int .i64 c, .int .i64 d, .slice p n q]) :
    Calls Try.prog 70 #[.int .i64 x, .int .i64 y, .pointer (some ⟨g, 0, none⟩)] w fun e w' => e = .returned (.int .u8 (mAt a b c d l x y)) ∧ Below w.heap.size w w' := by
  obtain ⟨⟨k0, g0⟩, ⟨k1, g1⟩, ⟨k2, g2⟩, ⟨k3, g3⟩, ⟨k4, g4⟩, x5, y5, z5⟩ := id hb.x5
  have hat := at_any a b c d x y p n q l w hn hv hr
  go_enter Try.func70, Try.ntmps70
  go_wp2_with (go_at_call 50; go_loud ((with_reducible refine hat.mono ?_); rintro e w1 ⟨rfl, hb1⟩))
  go_ret
  exact ⟨rfl, hb1⟩
set_option maxRecDepth 50000 in
set_option maxHeartbeats 4000000 in
theorem un1_any (a b c d s t u v x y : Int) (p p2 : Option Addr) (n q n2 q2 g h : Nat) (l l2 : List Int) (w : World) (hn : l.length = n) (hn2 : l2.length = n2) (hv : vM a b c d n = true) (hv2 : vM s t u v n2 = true) (hB : BB l) (hB2 : BB l2) (hr : RS 1 u8V w p l) (hr2 : RS 1 u8V w p2 l2) (hb : B.Bx w g [.int .i64 a, .int .i64 b, .int .i64 c, .int .i64 d, .slice p n q]) (hb2 : B.Bx w h [.int .i64 s, .int .i64 t, .int .i64 u, .int .i64 v, .slice p2 n2 q2]) :
    Calls Try.prog 66 #[.int .i64 x, .int .i64 y, .pointer (some ⟨g, 0, none⟩), .pointer (some ⟨h, 0, none⟩)] w fun e w' => e = .returned (.int .u8 (un8 (mAt a b c d l x y) (mAt s t u v l2 x y))) ∧ Below w.heap.size w w' := by
  have hata := fun W hr => at_any a b c d x y p n q l W hn hv hr
  have hatb := fun W hr => at_any s t u v x y p2 n2 q2 l2 W hn2 hv2 hr
  have hA := mAt_bd (a := a) (b := b) (c := c) (d := d) (x := x) (y := y) hB
  have hC := mAt_bd (a := s) (b := t) (c := u) (d := v) (x := x) (y := y) hB2
  obtain ⟨A, hA2⟩ : ∃ A, mAt a b c d l x y = A := ⟨_, rfl⟩
  obtain ⟨C, hC2⟩ : ∃ C, mAt s t u v l2 x y = C := ⟨_, rfl⟩
  rw [hA2] at hA hata ⊢
  rw [hC2] at hC hatb ⊢
  clear hA2 hC2
  have hU := un8_bd A C hA.1 hA.2 hC.1 hC.2
  have hmn := fun W => mulNorm8_any A C hA.1 hA.2 hC.1 hC.2 W
  obtain ⟨M, hM⟩ : ∃ M, mn8 A C = M := ⟨_, rfl⟩
  have hM2 := mn8_bd A C hA.1 hA.2 hC.1 hC.2
  rw [show un8 A C = A + (C - M) by rw [← hM]; rfl] at hU ⊢
  rw [hM] at hmn hU hM2
  clear hM
  have r0_l := hr
  have r0_l2 := hr2
  obtain ⟨⟨k0, g0⟩, ⟨k1, g1⟩, ⟨k2, g2⟩, ⟨k3, g3⟩, ⟨k4, g4⟩, x5, y5, z5⟩ := id hb.x5
  obtain ⟨⟨k0', g0'⟩, ⟨k1', g1'⟩, ⟨k2', g2'⟩, ⟨k3', g3'⟩, ⟨k4', g4'⟩, x5', y5', z5'⟩ := id hb2.x5
  go_enter Try.func66, Try.ntmps66
  go_wp2
  have kp : ∀ W', B.Bx W' g [.int .i64 a, .int .i64 b, .int .i64 c, .int .i64 d, .slice p n q] → B.Bx W' h [.int .i64 s, .int .i64 t, .int .i64 u, .int .i64 v, .slice p2 n2 q2] → (W'.cell? ⟨g, 0, none⟩ = some (.int .i64 a) ∧ W'.cell? ⟨g, 1, none⟩ = some (.int .i64 b) ∧ W'.cell? ⟨g, 2, none⟩ = some (.int .i64 c) ∧ W'.cell? ⟨g, 3, none⟩ = some (.int .i64 d) ∧ W'.cell? ⟨g, 4, none⟩ = some (.slice p n q) ∧ W'.cell? ⟨h, 0, none⟩ = some (.int .i64 s) ∧ W'.cell? ⟨h, 1, none⟩ = some (.int .i64 t) ∧ W'.cell? ⟨h, 2, none⟩ = some (.int .i64 u) ∧ W'.cell? ⟨h, 3, none⟩ = some (.int .i64 v) ∧ W'.cell? ⟨h, 4, none⟩ = some (.slice p2 n2 q2)) := fun W' h1 h2 => ⟨(h1.c 0 rfl).1, (h1.c 1 rfl).1, (h1.c 2 rfl).1, (h1.c 3 rfl).1, (h1.c 4 rfl).1, (h2.c 0 rfl).1, (h2.c 1 rfl).1, (h2.c 2 rfl).1, (h2.c 3 rfl).1, (h2.c 4 rfl).1⟩
  replace kp := fun {W'} => kp W'
  go_region_held3 (fun W' => W'.cell? ⟨g, 0, none⟩ = some (.int .i64 a) ∧ W'.cell? ⟨g, 1, none⟩ = some (.int .i64 b) ∧ W'.cell? ⟨g, 2, none⟩ = some (.int .i64 c) ∧ W'.cell? ⟨g, 3, none⟩ = some (.int .i64 d) ∧ W'.cell? ⟨g, 4, none⟩ = some (.slice p n q) ∧ W'.cell? ⟨h, 0, none⟩ = some (.int .i64 s) ∧ W'.cell? ⟨h, 1, none⟩ = some (.int .i64 t) ∧ W'.cell? ⟨h, 2, none⟩ = some (.int .i64 u) ∧ W'.cell? ⟨h, 3, none⟩ = some (.int .i64 v) ∧ W'.cell? ⟨h, 4, none⟩ = some (.slice p2 n2 q2)) (first | go_keep | (with_reducible exact KP) | fail) ((first
    | ((with_reducible refine (hata _ (by (with_reducible repeat' first | assumption | apply B.rs_al | apply B.rs_drN | apply RS.drewN | apply B.rs_dr))).mono ?_); rintro e w1 ⟨rfl, hb1⟩; have r1_l := RS.below (show RS 1 u8V _ p l from (by (with_reducible repeat' first | assumption | apply B.rs_al | apply B.rs_drN | apply RS.drewN | apply B.rs_dr))) hb1; have r1_l2 := RS.below (show RS 1 u8V _ p2 l2 from (by (with_reducible repeat' first | assumption | apply B.rs_al | apply B.rs_drN | apply RS.drewN | apply B.rs_dr))) hb1; have P1a : B.Bx w1 g [.int .i64 a, .int .i64 b, .int .i64 c, .int .i64 d, .slice p n q] := B.Bx.below (by (with_reducible repeat' first | assumption | exact B.Bx.new _ _ _ | refine B.Bx.newAt _ _ _ (by first | rfl | (simp; done)) | apply B.Bx.dr | apply B.Bx.drN | apply B.Bx.al | refine B.Bx.st ?_ (by first | assumption | omega | (simp; done) | (simp; omega)))) hb1; have P1b : B.Bx w1 h [.int .i64 s, .int .i64 t, .int .i64 u, .int .i64 v, .slice p2 n2 q2] := B.Bx.below (by (with_reducible repeat' first | assumption | exact B.Bx.new _ _ _ | refine B.Bx.newAt _ _ _ (by first | rfl | (simp; done)) | apply B.Bx.dr | apply B.Bx.drN | apply B.Bx.al | refine B.Bx.st ?_ (by first | assumption | omega | (simp; done) | (simp; omega)))) hb1; have hB1 : Below w.heap.size w w1 := B.bel_step (show Below w.heap.size w _ from (by (with_reducible repeat' first | exact Below.refl _ _ | assumption | apply B.belA | apply Below.drew | apply below_drewN | refine B.belS ?_ (by first | assumption | omega | (simp; done) | (simp; omega))))) hb1; have KP := kp P1a P1b)
    | ((with_reducible refine (hatb _ (by (with_reducible repeat' first | assumption | apply B.rs_al | apply B.rs_drN | apply RS.drewN | apply B.rs_dr))).mono ?_); rintro e w2 ⟨rfl, hb2⟩; have r2_l := RS.below (show RS 1 u8V _ p l from (by (with_reducible repeat' first | assumption | apply B.rs_al | apply B.rs_drN | apply RS.drewN | apply B.rs_dr))) hb2; have r2_l2 := RS.below (show RS 1 u8V _ p2 l2 from (by (with_reducible repeat' first | assumption | apply B.rs_al | apply B.rs_drN | apply RS.drewN | apply B.rs_dr))) hb2; have P2a : B.Bx w2 g [.int .i64 a, .int .i64 b, .int .i64 c, .int .i64 d, .slice p n q] := B.Bx.below (by (with_reducible repeat' first | assumption | exact B.Bx.new _ _ _ | refine B.Bx.newAt _ _ _ (by first | rfl | (simp; done)) | apply B.Bx.dr | apply B.Bx.drN | apply B.Bx.al | refine B.Bx.st ?_ (by first | assumption | omega | (simp; done) | (simp; omega)))) hb2; have P2b : B.Bx w2 h [.int .i64 s, .int .i64 t, .int .i64 u, .int .i64 v, .slice p2 n2 q2] := B.Bx.below (by (with_reducible repeat' first | assumption | exact B.Bx.new _ _ _ | refine B.Bx.newAt _ _ _ (by first | rfl | (simp; done)) | apply B.Bx.dr | apply B.Bx.drN | apply B.Bx.al | refine B.Bx.st ?_ (by first | assumption | omega | (simp; done) | (simp; omega)))) hb2; have hB2 : Below w.heap.size w w2 := B.bel_step (show Below w.heap.size w _ from (by (with_reducible repeat' first | exact Below.refl _ _ | assumption | apply B.belA | apply Below.drew | apply below_drewN | refine B.belS ?_ (by first | assumption | omega | (simp; done) | (simp; omega))))) hb2; have KP := kp P2a P2b)))
  go_wp2_with (go_at_call 61; (with_reducible refine (hmn _).mono ?_); rintro e w9 ⟨rfl, rfl⟩)
  go_ret
  exact ⟨rfl, by (with_reducible repeat' first | exact Below.refl _ _ | assumption | apply B.belA | apply Below.drew | apply below_drewN | refine B.belS ?_ (by first | assumption | omega | (simp; done) | (simp; omega)))⟩
end Go.Proofs.Ytfbgfnebodabpaa
