import Derived.Test.YtfbgfnebodabpaaMd
import Derived.StillTailTactics
import Derived.WalkKit
import Derived.WalkSpells
import Derived.WalkLawsBesides
import Derived.Lib.Hide
import Derived.Below
import Derived.Deep.QuietTactic
import Derived.BigQuiet
import Derived.StillTailTactics
import Derived.Deep.RegionHeld3
import Derived.IntWalk
namespace Go.Proofs.Ytfbgfnebodabpaa
open Go.RowKit
set_option linter.unusedVariables false
set_option linter.unusedSimpArgs false
theorem BB_set {l : List Int} (h : BB l) {k : Nat} (y : Int) (hy : 0 ≤ y ∧ y ≤ 255) : BB (l.set k y) := by
  intro x hx
  rcases List.mem_or_eq_of_mem_set hx with h1 | h1
  · exact h x h1
  · exact h1 ▸ hy
theorem grownBy_dr {w w' : World} {row : Option Nat} (h : w.grownBy w' row) : w.grownBy w'.drew row := ⟨h.os, h.tape, h.output, h.size, h.block⟩
theorem below_grown {lo : Nat} {w w' : World} {r : Option Nat} (h : w.grownBy w' r) (hlo : lo ≤ w.heap.size) (hr : ∀ k, r = some k → lo ≤ k) : Below lo w w' :=
  ⟨h.os, h.tape, h.output, h.size, fun k hk => h.block k (Nat.lt_of_lt_of_le hk hlo) (fun e => by have := hr k e.symm; omega)⟩
set_option maxRecDepth 50000 in
set_option maxHeartbeats 4000000 in
theorem copy_any (a b c d : Int) (p : Option Addr) (n q : Nat) (l : List Int) (w : World) (hn : l.length = n) (hr : RS 1 u8V w p l) (hm : n ≤ 1000000) :
    Calls Try.prog 81 #[.agg #[.int .i64 a, .int .i64 b, .int .i64 c, .int .i64 d, .slice p n q]] w fun e w' => ∃ p', e = .returned (.agg #[.int .i64 a, .int .i64 b, .int .i64 c, .int .i64 d, .slice p' n n]) ∧ NM w.heap.size w' p' l ∧ Below w.heap.size w w' := by
  subst hn
  have r0_l := hr
  have hq0 : (0 : Int) ≤ (q : Int) := by omega
  go_enter Try.func81, Try.ntmps81
  go_wp2
  go_region_held3 (fun W' => W'.cell? ⟨w.heap.size, 4, none⟩ = some (.slice p l.length q)) (first | go_keep | (with_reducible exact k1_m_4) | fail) ((refine wp_append_cut _ _ rfl _ rfl _ _ _ l rfl rfl (by (with_reducible repeat' first | assumption | apply B.rs_al | apply B.rs_drN | apply RS.drewN | apply B.rs_dr)) hm ?_; intro p1 q1 w1 hm1 hq1 hb1; have hB1 : Below w.heap.size w w1 := B.bel_step (show Below w.heap.size w _ from (by (with_reducible repeat' first | exact Below.refl _ _ | assumption | apply B.belA | apply Below.drew | apply below_drewN | refine B.belS ?_ (by first | assumption | omega | (simp; done) | (simp; omega))))) hb1; have P1_m : B.Bx w1 w.heap.size [.int .i64 a, .int .i64 b, .int .i64 c, .int .i64 d, .slice p l.length q] := B.Bx.below (show B.Bx _ w.heap.size [.int .i64 a, .int .i64 b, .int .i64 c, .int .i64 d, .slice p l.length q] from (by (with_reducible repeat' first | assumption | exact B.Bx.new _ _ _ | refine B.Bx.newAt _ _ _ (by first | rfl | (simp; done)) | apply B.Bx.dr | apply B.Bx.drN | apply B.Bx.al | refine B.Bx.st ?_ (by first | assumption | omega | (simp; done) | (simp; omega))))) hb1; have P1_o : B.Bx w1 (w.heap.size + 1) [.int .i64 0, .int .i64 0, .int .i64 0, .int .i64 0, .slice none 0 0] := B.Bx.below (show B.Bx _ (w.heap.size + 1) [.int .i64 0, .int .i64 0, .int .i64 0, .int .i64 0, .slice none 0 0] from (by (with_reducible repeat' first | assumption | exact B.Bx.new _ _ _ | refine B.Bx.newAt _ _ _ (by first | rfl | (simp; done)) | apply B.Bx.dr | apply B.Bx.drN | apply B.Bx.al | refine B.Bx.st ?_ (by first | assumption | omega | (simp; done) | (simp; omega))))) hb1; have r1_l : RS 1 u8V w1 p l := RS.below (show RS 1 u8V _ p l from (by (with_reducible repeat' first | assumption | apply B.rs_al | apply B.rs_drN | apply RS.drewN | apply B.rs_dr))) hb1; obtain ⟨⟨k1_m_0, g1_m_0⟩, ⟨k1_m_1, g1_m_1⟩, ⟨k1_m_2, g1_m_2⟩, ⟨k1_m_3, g1_m_3⟩, ⟨k1_m_4, g1_m_4⟩, x1_m, y1_m, q1_m⟩ := id P1_m.x5; obtain ⟨⟨k1_o_0, g1_o_0⟩, ⟨k1_o_1, g1_o_1⟩, ⟨k1_o_2, g1_o_2⟩, ⟨k1_o_3, g1_o_3⟩, ⟨k1_o_4, g1_o_4⟩, x1_o, y1_o, q1_o⟩ := id P1_o.x5; have hz1 := hB1.size))
  have hm3 : NM (w.heap.size + 1 + 1) w1 p1 l := NM.mono hm1 (by simp)
  go_wp2
  go_still_tail 7, (by kernel_rfl)
  go_wp2
  refine bodyPost_ret (v := .agg #[.int .i64 a, .int .i64 b, .int .i64 c, .int .i64 d, .slice p1 l.length l.length]) (by simp [results, Try.results81, go_sem, *]) rfl ⟨p1, rfl, NM.mono (by (with_reducible repeat' first | assumption | apply NM.dr | apply NM.al | refine NM.st ?_ (by first | assumption | omega | (simp; done) | (simp; omega)))) (show w.heap.size ≤ w.heap.size + 1 + 1 by omega), (by (with_reducible repeat' first | exact Below.refl _ _ | assumption | apply B.belA | apply Below.drew | apply below_drewN | refine B.belS ?_ (by first | assumption | omega | (simp; done) | (simp; omega))))⟩
set_option maxRecDepth 50000 in
set_option maxHeartbeats 4000000 in
theorem clone_any (a b c d : Int) (p : Option Addr) (n q : Nat) (l : List Int) (w : World) (hn : l.length = n) (hr : RS 1 u8V w p l) (hm : n ≤ 1000000) :
    Calls Try.prog 26 #[.agg #[.int .i64 a, .int .i64 b, .int .i64 c, .int .i64 d, .slice p n q]] w (AnsC w a b c d l) := by
  subst hn
  have r0_l := hr
  go_enter Try.func26, Try.ntmps26
  go_wp2_with (at_builtin; go_loud (refine wpList_append_cut rfl _ _ rfl _ rfl _ _ _ l rfl rfl (by (with_reducible repeat' first | assumption | apply B.rs_al | apply B.rs_drN | apply RS.drewN | apply B.rs_dr)) hm ?_; intro p1 q1 w1 hm1 hq1 hb1; have hB1 : Below w.heap.size w w1 := B.bel_step (show Below w.heap.size w _ from (by (with_reducible repeat' first | exact Below.refl _ _ | assumption | apply B.belA | apply Below.drew | apply below_drewN | refine B.belS ?_ (by first | assumption | omega | (simp; done) | (simp; omega))))) hb1; have P1_m : B.Bx w1 w.heap.size [.int .i64 a, .int .i64 b, .int .i64 c, .int .i64 d, .slice p l.length q] := B.Bx.below (show B.Bx _ w.heap.size [.int .i64 a, .int .i64 b, .int .i64 c, .int .i64 d, .slice p l.length q] from (by (with_reducible repeat' first | assumption | exact B.Bx.new _ _ _ | refine B.Bx.newAt _ _ _ (by first | rfl | (simp; done)) | apply B.Bx.dr | apply B.Bx.drN | apply B.Bx.al | refine B.Bx.st ?_ (by first | assumption | omega | (simp; done) | (simp; omega))))) hb1; have P1_o : B.Bx w1 (w.heap.size + 1) [.int .i64 0, .int .i64 0, .int .i64 0, .int .i64 0, .slice none 0 0] := B.Bx.below (show B.Bx _ (w.heap.size + 1) [.int .i64 0, .int .i64 0, .int .i64 0, .int .i64 0, .slice none 0 0] from (by (with_reducible repeat' first | assumption | exact B.Bx.new _ _ _ | refine B.Bx.newAt _ _ _ (by first | rfl | (simp; done)) | apply B.Bx.dr | apply B.Bx.drN | apply B.Bx.al | refine B.Bx.st ?_ (by first | assumption | omega | (simp; done) | (simp; omega))))) hb1; have r1_l : RS 1 u8V w1 p l := RS.below (show RS 1 u8V _ p l from (by (with_reducible repeat' first | assumption | apply B.rs_al | apply B.rs_drN | apply RS.drewN | apply B.rs_dr))) hb1; obtain ⟨⟨k1_m_0, g1_m_0⟩, ⟨k1_m_1, g1_m_1⟩, ⟨k1_m_2, g1_m_2⟩, ⟨k1_m_3, g1_m_3⟩, ⟨k1_m_4, g1_m_4⟩, x1_m, y1_m, q1_m⟩ := id P1_m.x5; obtain ⟨⟨k1_o_0, g1_o_0⟩, ⟨k1_o_1, g1_o_1⟩, ⟨k1_o_2, g1_o_2⟩, ⟨k1_o_3, g1_o_3⟩, ⟨k1_o_4, g1_o_4⟩, x1_o, y1_o, q1_o⟩ := id P1_o.x5; have hz1 := hB1.size))
  have hm3 : NM (w.heap.size + 1 + 1) w1 p1 l := NM.mono hm1 (by simp)
  refine bodyPost_ret (v := .agg #[.int .i64 a, .int .i64 b, .int .i64 c, .int .i64 d, .slice p1 l.length q1]) (by simp [results, Try.results26, go_sem, *]) rfl ⟨p1, q1, rfl, NM.mono (by (with_reducible repeat' first | assumption | apply NM.dr | apply NM.al | refine NM.st ?_ (by first | assumption | omega | (simp; done) | (simp; omega)))) (show w.heap.size ≤ w.heap.size + 1 + 1 by omega), (by (with_reducible repeat' first | exact Below.refl _ _ | assumption | apply B.belA | apply Below.drew | apply below_drewN | refine B.belS ?_ (by first | assumption | omega | (simp; done) | (simp; omega))))⟩
set_option maxRecDepth 50000 in
set_option maxHeartbeats 4000000 in
theorem over_any (a b c d : Int) (p : Option Addr) (n q lo : Nat) (l : List Int) (w : World) (hn : l.length = n) (hr : NM lo w p l) (hl : BB l) (hm : n ≤ 1000000) (hlo : lo ≤ w.heap.size) :
    Calls Try.prog 29 #[.agg #[.int .i64 a, .int .i64 b, .int .i64 c, .int .i64 d, .slice p n q]] w fun e w' => e = .returned (.tuple #[]) ∧ Below lo w w' := by
  subst hn
  obtain ⟨r, hr1, hr2⟩ := hr.row
  go_enter Try.func29, Try.ntmps29
  go_wp2
  go_loopw [2, 6] (fun _ i wr => ∃ (k : Nat) (l' : List Int), k ≤ l.length ∧ l'.length = l.length ∧ i = .int .i64 k ∧ NM lo wr p l' ∧ BB l' ∧ w.grownBy wr r ∧ B.Bx wr w.heap.size [.int .i64 a, .int .i64 b, .int .i64 c, .int .i64 d, .slice p l.length q]) (fun _ i _ => l.length - (intOf i).toNat)
  case atStart => exact ⟨0, l, Nat.zero_le _, rfl, by go_num, hr.al _, hl, World.grownBy_alloc _ _ _, B.Bx.new _ _ _⟩
  case round =>
    obtain ⟨k, l', hk, hll, rfl, hnm, hB, hgr, hbx⟩ := hrel
    obtain ⟨⟨k0, g0⟩, ⟨k1, g1⟩, ⟨k2, g2⟩, ⟨k3, g3⟩, ⟨k4, g4⟩, x5, y5, z5⟩ := id hbx.x5
    by_cases hlt : k < l.length
    · obtain ⟨g, rfl, rfl⟩ := hr2 (by omega)
      obtain ⟨h1, h2, h3⟩ := hnm.at (i := k) (by omega)
      have hg := hr1 g rfl
      have hv := hB _ (List.getElem_mem (show k < l'.length by omega))
      obtain ⟨v, hvv⟩ : ∃ v, l'[k]'(by omega) = v := ⟨_, rfl⟩
      rw [hvv] at h2 hv
      have hput := hnm.put k (by omega)
      go_wp2
      go_still_tail 10, (by kernel_rfl)
      go_wp2
      go_roundw
      case rel => exact ⟨k + 1, l'.set k ((v + 1) % 256), by omega, by rw [List.length_set]; exact hll, by go_num, (hnm.put k (by omega) _).dr, BB_set hB _ (by omega), grownBy_dr (hgr.trans (B.set_grown _ _ _ _)), (hbx.st (by omega)).dr⟩
      case measure => (simp [intOf]; try omega)
    · obtain rfl : k = l.length := by omega
      go_wp2
      refine bodyPost_end (v := .tuple #[]) (by simp [results, Try.results29, go_sem, *]) rfl ⟨rfl, below_grown hgr hlo (fun k e => (hr1 k e).1)⟩
end Go.Proofs.Ytfbgfnebodabpaa
