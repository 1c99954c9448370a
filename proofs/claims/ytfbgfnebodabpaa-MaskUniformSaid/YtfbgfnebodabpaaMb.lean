import Derived.Test.YtfbgfnebodabpaaMa
import Derived.WalkKit
import Derived.WalkSpells
import Derived.WalkLawsBesides
import Derived.Lib.Hide
import Derived.Below
import Derived.Deep.QuietTactic
import Derived.BigQuiet
import Derived.StillTailTactics
import Derived.Deep.RegionHeld3
import Derived.IntWalk
namespace Go.Proofs.Ytfbgfnebodabpaa
open Go.RowKit
set_option linter.unusedVariables false
set_option linter.unusedSimpArgs false
attribute [local go_sem ↓] eq_rect
theorem RS.b {w : World} {p : Option Addr} {l : List Int} (h : RS 1 u8V w p l) {k : Nat} (hk : k < l.length) : ∃ ad, p = some ad ∧ w.cell? (ad.add k) = some (.int .u8 l[k]) := by
  obtain ⟨ad, e, hc⟩ := h k hk
  have := hc 0 _ rfl
  rw [Nat.mul_one] at this
  exact ⟨ad, e, this⟩
theorem mAt_in {a b c d x y : Int} {l : List Int} (hc : ctB a b c d x y = true) (hv : vM a b c d l.length = true) : ∃ (k : Nat) (hk : k < l.length), pxV a b c d x y = (k : Int) ∧ mAt a b c d l x y = l[k] := by
  obtain ⟨h0, h1⟩ := ix_bd hc hv
  refine ⟨((y - b) * (c - a) + x - a).toNat, by omega, ?_, ?_⟩
  · rw [pxV, if_pos hc]; omega
  · rw [mAt, if_pos hc, List.getD_eq_getElem?_getD, List.getElem?_eq_getElem (by omega)]; rfl
theorem mAt_out {a b c d x y : Int} {l : List Int} (hc : ctB a b c d x y = false) : pxV a b c d x y = -1 ∧ mAt a b c d l x y = 0 := by
  simp [pxV, mAt, hc]
set_option maxRecDepth 50000 in
set_option maxHeartbeats 4000000 in
theorem at_any (a b c d x y : Int) (p : Option Addr) (n q : Nat) (l : List Int) (w : World) (hn : l.length = n) (hv : vM a b c d n = true) (hr : RS 1 u8V w p l) :
    Calls Try.prog 50 #[.agg #[.int .i64 a, .int .i64 b, .int .i64 c, .int .i64 d, .slice p n q], .int .i64 x, .int .i64 y] w fun e w' => e = .returned (.int .u8 (mAt a b c d l x y)) ∧ Below w.heap.size w w' := by
  subst hn
  have hpx := fun W => pix_any a b c d x y W
  have hct := fun W => contains_any a b c d x y W
  cases hc : ctB a b c d x y with
  | true =>
    obtain ⟨k, hk, e1, e2⟩ := mAt_in hc hv
    obtain ⟨ad, rfl, c0_v⟩ := hr.b hk
    obtain ⟨v, hvv⟩ : ∃ v, l[k] = v := ⟨_, rfl⟩
    rw [e1] at hpx
    rw [hc] at hct
    rw [e2, hvv]
    rw [hvv] at c0_v
    clear e1 e2 hvv hc hv hr
    go_enter Try.func50, Try.ntmps50
    go_wp2_with (go_at_call 79; go_loud ((with_reducible refine (hpx _).mono ?_); rintro e w1 ⟨rfl, hb1⟩; have hB1 : Below w.heap.size w w1 := B.bel_step (show Below w.heap.size w _ from (by (with_reducible repeat' first | exact Below.refl _ _ | assumption | apply B.belA | apply Below.drew | apply below_drewN | refine B.belS ?_ (by first | assumption | omega | (simp; done) | (simp; omega))))) hb1; have P1_m : B.Bx w1 w.heap.size [.int .i64 a, .int .i64 b, .int .i64 c, .int .i64 d, .slice (some ad) l.length q] := B.Bx.below (show B.Bx _ w.heap.size [.int .i64 a, .int .i64 b, .int .i64 c, .int .i64 d, .slice (some ad) l.length q] from (by (with_reducible repeat' first | assumption | exact B.Bx.new _ _ _ | refine B.Bx.newAt _ _ _ (by first | rfl | (simp; done)) | apply B.Bx.dr | apply B.Bx.drN | apply B.Bx.al | refine B.Bx.st ?_ (by first | assumption | omega | (simp; done) | (simp; omega))))) hb1; have c1_v : w1.cell? (ad.add k) = some (.int .u8 v) := B.cs hb1 (by first | exact c0_v | (exact B.cs (show Below w.heap.size w _ from (by (with_reducible repeat' first | exact Below.refl _ _ | assumption | apply B.belA | apply Below.drew | apply below_drewN | refine B.belS ?_ (by first | assumption | omega | (simp; done) | (simp; omega))))) c0_v) | go_simp); obtain ⟨⟨k1_m_0, g1_m_0⟩, ⟨k1_m_1, g1_m_1⟩, ⟨k1_m_2, g1_m_2⟩, ⟨k1_m_3, g1_m_3⟩, ⟨k1_m_4, g1_m_4⟩, x1_m, y1_m, q1_m⟩ := id P1_m.x5; have hz1 := hB1.size))
    go_ret
    exact ⟨rfl, (by (with_reducible repeat' first | exact Below.refl _ _ | assumption | apply B.belA | apply Below.drew | apply below_drewN | refine B.belS ?_ (by first | assumption | omega | (simp; done) | (simp; omega))))⟩
  | false =>
    obtain ⟨e1, e2⟩ := mAt_out (l := l) hc
    rw [e1] at hpx
    rw [hc] at hct
    rw [e2]
    clear e1 e2 hc hv hr
    go_enter Try.func50, Try.ntmps50
    go_wp2_with (go_at_call 79; go_loud ((with_reducible refine (hpx _).mono ?_); rintro e w1 ⟨rfl, hb1⟩; have hB1 : Below w.heap.size w w1 := B.bel_step (show Below w.heap.size w _ from (by (with_reducible repeat' first | exact Below.refl _ _ | assumption | apply B.belA | apply Below.drew | apply below_drewN | refine B.belS ?_ (by first | assumption | omega | (simp; done) | (simp; omega))))) hb1; have P1_m : B.Bx w1 w.heap.size [.int .i64 a, .int .i64 b, .int .i64 c, .int .i64 d, .slice p l.length q] := B.Bx.below (show B.Bx _ w.heap.size [.int .i64 a, .int .i64 b, .int .i64 c, .int .i64 d, .slice p l.length q] from (by (with_reducible repeat' first | assumption | exact B.Bx.new _ _ _ | refine B.Bx.newAt _ _ _ (by first | rfl | (simp; done)) | apply B.Bx.dr | apply B.Bx.drN | apply B.Bx.al | refine B.Bx.st ?_ (by first | assumption | omega | (simp; done) | (simp; omega))))) hb1; obtain ⟨⟨k1_m_0, g1_m_0⟩, ⟨k1_m_1, g1_m_1⟩, ⟨k1_m_2, g1_m_2⟩, ⟨k1_m_3, g1_m_3⟩, ⟨k1_m_4, g1_m_4⟩, x1_m, y1_m, q1_m⟩ := id P1_m.x5; have hz1 := hB1.size))
    go_ret
    exact ⟨rfl, (by (with_reducible repeat' first | exact Below.refl _ _ | assumption | apply B.belA | apply Below.drew | apply below_drewN | refine B.belS ?_ (by first | assumption | omega | (simp; done) | (simp; omega))))⟩
set_option maxRecDepth 50000 in
set_option maxHeartbeats 4000000 in
theorem rval_any (a b c d x y : Int) (p : Option Addr) (n q : Nat) (l : List Int) (w : World) (hn : l.length = n) (hv : vM a b c d n = true) (hr : RS 1 u8V w p l) :
    Calls Try.prog 53 #[.agg #[.int .i64 a, .int .i64 b, .int .i64 c, .int .i64 d, .slice p n q], .int .i64 x, .int .i64 y] w fun e w' => e = .returned (.int .u8 (mAt a b c d l x y)) ∧ Below w.heap.size w w' := by
  subst hn
  have hpx := fun W => rpix_any a b c d x y W
  have hct := fun W => rcontains_any a b c d x y W
  cases hc : ctB a b c d x y with
  | true =>
    obtain ⟨k, hk, e1, e2⟩ := mAt_in hc hv
    obtain ⟨ad, rfl, c0_v⟩ := hr.b hk
    obtain ⟨v, hvv⟩ : ∃ v, l[k] = v := ⟨_, rfl⟩
    rw [e1] at hpx
    rw [hc] at hct
    rw [e2, hvv]
    rw [hvv] at c0_v
    clear e1 e2 hvv hc hv hr
    go_enter Try.func53, Try.ntmps53
    go_wp2_with (go_at_call 40; go_loud ((with_reducible refine (hct _).mono ?_); rintro e w1 ⟨rfl, hb1⟩; have hB1 : Below w.heap.size w w1 := B.bel_step (show Below w.heap.size w _ from (by (with_reducible repeat' first | exact Below.refl _ _ | assumption | apply B.belA | apply Below.drew | apply below_drewN | refine B.belS ?_ (by first | assumption | omega | (simp; done) | (simp; omega))))) hb1; have P1_m : B.Bx w1 w.heap.size [.int .i64 a, .int .i64 b, .int .i64 c, .int .i64 d, .slice (some ad) l.length q] := B.Bx.below (show B.Bx _ w.heap.size [.int .i64 a, .int .i64 b, .int .i64 c, .int .i64 d, .slice (some ad) l.length q] from (by (with_reducible repeat' first | assumption | exact B.Bx.new _ _ _ | refine B.Bx.newAt _ _ _ (by first | rfl | (simp; done)) | apply B.Bx.dr | apply B.Bx.drN | apply B.Bx.al | refine B.Bx.st ?_ (by first | assumption | omega | (simp; done) | (simp; omega))))) hb1; have c1_v : w1.cell? (ad.add k) = some (.int .u8 v) := B.cs hb1 (by first | exact c0_v | (exact B.cs (show Below w.heap.size w _ from (by (with_reducible repeat' first | exact Below.refl _ _ | assumption | apply B.belA | apply Below.drew | apply below_drewN | refine B.belS ?_ (by first | assumption | omega | (simp; done) | (simp; omega))))) c0_v) | go_simp); obtain ⟨⟨k1_m_0, g1_m_0⟩, ⟨k1_m_1, g1_m_1⟩, ⟨k1_m_2, g1_m_2⟩, ⟨k1_m_3, g1_m_3⟩, ⟨k1_m_4, g1_m_4⟩, x1_m, y1_m, q1_m⟩ := id P1_m.x5; have hz1 := hB1.size))
    go_region_held3 (fun W' => W'.cell? ⟨w.heap.size, 0, none⟩ = some (.int .i64 a) ∧ W'.cell? ⟨w.heap.size, 1, none⟩ = some (.int .i64 b) ∧ W'.cell? ⟨w.heap.size, 2, none⟩ = some (.int .i64 c) ∧ W'.cell? ⟨w.heap.size, 3, none⟩ = some (.int .i64 d) ∧ W'.cell? ⟨w.heap.size, 4, none⟩ = some (.slice (some ad) l.length q) ∧ W'.cell? (ad.add k) = some (.int .u8 v)) (first | go_keep | (with_reducible exact KP) | fail) (((with_reducible refine (hpx _).mono ?_); rintro e w2 ⟨rfl, hb2⟩; have hB2 : Below w.heap.size w w2 := B.bel_step (show Below w.heap.size w _ from (by (with_reducible repeat' first | exact Below.refl _ _ | assumption | apply B.belA | apply Below.drew | apply below_drewN | refine B.belS ?_ (by first | assumption | omega | (simp; done) | (simp; omega))))) hb2; have P2_m : B.Bx w2 w.heap.size [.int .i64 a, .int .i64 b, .int .i64 c, .int .i64 d, .slice (some ad) l.length q] := B.Bx.below (show B.Bx _ w.heap.size [.int .i64 a, .int .i64 b, .int .i64 c, .int .i64 d, .slice (some ad) l.length q] from (by (with_reducible repeat' first | assumption | exact B.Bx.new _ _ _ | refine B.Bx.newAt _ _ _ (by first | rfl | (simp; done)) | apply B.Bx.dr | apply B.Bx.drN | apply B.Bx.al | refine B.Bx.st ?_ (by first | assumption | omega | (simp; done) | (simp; omega))))) hb2; have c2_v : w2.cell? (ad.add k) = some (.int .u8 v) := B.cs hb2 (by first | exact c1_v | (exact B.cs (show Below w1.heap.size w1 _ from (by (with_reducible repeat' first | exact Below.refl _ _ | assumption | apply B.belA | apply Below.drew | apply below_drewN | refine B.belS ?_ (by first | assumption | omega | (simp; done) | (simp; omega))))) c1_v) | go_simp); clear P1_m k1_m_0 g1_m_0 k1_m_1 g1_m_1 k1_m_2 g1_m_2 k1_m_3 g1_m_3 k1_m_4 g1_m_4 x1_m y1_m q1_m; obtain ⟨⟨k2_m_0, g2_m_0⟩, ⟨k2_m_1, g2_m_1⟩, ⟨k2_m_2, g2_m_2⟩, ⟨k2_m_3, g2_m_3⟩, ⟨k2_m_4, g2_m_4⟩, x2_m, y2_m, q2_m⟩ := id P2_m.x5; have hz2 := hB2.size; have KP : w2.cell? ⟨w.heap.size, 0, none⟩ = some (.int .i64 a) ∧ w2.cell? ⟨w.heap.size, 1, none⟩ = some (.int .i64 b) ∧ w2.cell? ⟨w.heap.size, 2, none⟩ = some (.int .i64 c) ∧ w2.cell? ⟨w.heap.size, 3, none⟩ = some (.int .i64 d) ∧ w2.cell? ⟨w.heap.size, 4, none⟩ = some (.slice (some ad) l.length q) ∧ w2.cell? (ad.add k) = some (.int .u8 v) := ⟨k2_m_0, k2_m_1, k2_m_2, k2_m_3, k2_m_4, c2_v⟩))
    go_wp2
    go_ret
    exact ⟨rfl, (by (with_reducible repeat' first | exact Below.refl _ _ | assumption | apply B.belA | apply Below.drew | apply below_drewN | refine B.belS ?_ (by first | assumption | omega | (simp; done) | (simp; omega))))⟩
  | false =>
    obtain ⟨e1, e2⟩ := mAt_out (l := l) hc
    rw [e1] at hpx
    rw [hc] at hct
    rw [e2]
    clear e1 e2 hc hv hr
    go_enter Try.func53, Try.ntmps53
    go_wp2_with (go_at_call 40; go_loud ((with_reducible refine (hct _).mono ?_); rintro e w1 ⟨rfl, hb1⟩; have hB1 : Below w.heap.size w w1 := B.bel_step (show Below w.heap.size w _ from (by (with_reducible repeat' first | exact Below.refl _ _ | assumption | apply B.belA | apply Below.drew | apply below_drewN | refine B.belS ?_ (by first | assumption | omega | (simp; done) | (simp; omega))))) hb1; have P1_m : B.Bx w1 w.heap.size [.int .i64 a, .int .i64 b, .int .i64 c, .int .i64 d, .slice p l.length q] := B.Bx.below (show B.Bx _ w.heap.size [.int .i64 a, .int .i64 b, .int .i64 c, .int .i64 d, .slice p l.length q] from (by (with_reducible repeat' first | assumption | exact B.Bx.new _ _ _ | refine B.Bx.newAt _ _ _ (by first | rfl | (simp; done)) | apply B.Bx.dr | apply B.Bx.drN | apply B.Bx.al | refine B.Bx.st ?_ (by first | assumption | omega | (simp; done) | (simp; omega))))) hb1; obtain ⟨⟨k1_m_0, g1_m_0⟩, ⟨k1_m_1, g1_m_1⟩, ⟨k1_m_2, g1_m_2⟩, ⟨k1_m_3, g1_m_3⟩, ⟨k1_m_4, g1_m_4⟩, x1_m, y1_m, q1_m⟩ := id P1_m.x5; have hz1 := hB1.size))
    go_ret
    exact ⟨rfl, (by (with_reducible repeat' first | exact Below.refl _ _ | assumption | apply B.belA | apply Below.drew | apply below_drewN | refine B.belS ?_ (by first | assumption | omega | (simp; done) | (simp; omega))))⟩
end Go.Proofs.Ytfbgfnebodabpaa
