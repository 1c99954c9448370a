import Derived.Test.YtahdnlebokmajaaV4
import Derived.WalkKit
import Derived.WalkSpells
import Derived.WalkLawsBesides
import Derived.Lib.Hide
import Derived.Below
import Derived.Deep.QuietTactic
import Derived.BigQuiet
import Derived.Deep.RegionHeld3
import Derived.Deep.DrawnRows
import Derived.Deep.DeepFit
import Derived.IntWalk
namespace Go.Proofs.Ytahdnlebokmajaa
open Go.RowKit
set_option linter.unusedVariables false
set_option linter.unusedSimpArgs false
attribute [local go_sem ↓] Go.wp_at_zero Go.wp_at_succ
theorem min_if (a b : Int) : min a b = if b < a then b else a := by split <;> omega
theorem max_if (a b : Int) : max a b = if a < b then b else a := by split <;> omega

set_option maxHeartbeats 4000000 in
theorem rons_any (x y u v s t : Int) (w : World) :
    Calls Try.prog 29 #[.agg #[.int .i64 x, .int .i64 y], .agg #[.int .i64 u, .int .i64 v], .agg #[.int .i64 s, .int .i64 t]] w fun e w' => e = .returned (.bool (onsB x y u v s t)) ∧ Below w.heap.size w w' := by
  obtain ⟨bx0, bx1⟩ := hold_bd x
  obtain ⟨by0, by1⟩ := hold_bd y
  obtain ⟨bu0, bu1⟩ := hold_bd u
  obtain ⟨bv0, bv1⟩ := hold_bd v
  obtain ⟨bs0, bs1⟩ := hold_bd s
  obtain ⟨bt0, bt1⟩ := hold_bd t
  have c1 := fun w => rori_any (hold x) (hold y) (hold u) (hold v) (hold s) (hold t) w
  rw [ori_hold] at c1
  by_cases h1 : oriV x y u v s t = 0
  · have e1 : (oriV x y u v s t == 0) = true := by simp [h1]
    have hin := ons_in x y u v s t h1
    have e : onsB x y u v s t = decide ((min (hold x) (hold u) ≤ hold s ∧ hold s ≤ max (hold x) (hold u)) ∧ (min (hold y) (hold v) ≤ hold t ∧ hold t ≤ max (hold y) (hold v))) := by
      unfold onsB
      rw [h1]
      simp only [decide_true, Bool.true_and]
      exact decide_eq_decide.2 hin
    rw [e]; clear e h1 hin
    rw [min_if (hold x), max_if (hold x), min_if (hold y), max_if (hold y)]
    obtain ⟨m1, em1⟩ : ∃ m, (if hold u < hold x then hold u else hold x) = m := ⟨_, rfl⟩
    obtain ⟨m2, em2⟩ : ∃ m, (if hold x < hold u then hold u else hold x) = m := ⟨_, rfl⟩
    obtain ⟨m3, em3⟩ : ∃ m, (if hold v < hold y then hold v else hold y) = m := ⟨_, rfl⟩
    obtain ⟨m4, em4⟩ : ∃ m, (if hold y < hold v then hold v else hold y) = m := ⟨_, rfl⟩
    rw [em1, em2, em3, em4]
    by_cases h2 : m1 ≤ hold s
    · by_cases h3 : hold s ≤ m2
      · by_cases h4 : m3 ≤ hold t
        · by_cases h5 : hold t ≤ m4
          · rw [decide_eq_true ⟨⟨h2, h3⟩, h4, h5⟩]
            go_enter Try.func29, Try.ntmps29
            go_wp2
            refine wp_region_ord (fun w' => w'.cell? ⟨w.heap.size, 0, none⟩ = some (.int .i64 x) ∧ w'.frozen? ⟨w.heap.size, 0, none⟩ = false ∧ w'.cell? ⟨w.heap.size, 1, none⟩ = some (.int .i64 y) ∧ w'.frozen? ⟨w.heap.size, 1, none⟩ = false ∧ w'.cell? ⟨w.heap.size + 1, 0, none⟩ = some (.int .i64 u) ∧ w'.frozen? ⟨w.heap.size + 1, 0, none⟩ = false ∧ w'.cell? ⟨w.heap.size + 1, 1, none⟩ = some (.int .i64 v) ∧ w'.frozen? ⟨w.heap.size + 1, 1, none⟩ = false ∧ w'.cell? ⟨w.heap.size + 1 + 1, 0, none⟩ = some (.int .i64 s) ∧ w'.frozen? ⟨w.heap.size + 1 + 1, 0, none⟩ = false ∧ w'.cell? ⟨w.heap.size + 1 + 1, 1, none⟩ = some (.int .i64 t) ∧ w'.frozen? ⟨w.heap.size + 1 + 1, 1, none⟩ = false) (fun W => W.cell? ⟨w.heap.size, 0, none⟩ = some (.int .i64 x) ∧ W.frozen? ⟨w.heap.size, 0, none⟩ = false ∧ W.cell? ⟨w.heap.size, 1, none⟩ = some (.int .i64 y) ∧ W.frozen? ⟨w.heap.size, 1, none⟩ = false ∧ W.cell? ⟨w.heap.size + 1, 0, none⟩ = some (.int .i64 u) ∧ W.frozen? ⟨w.heap.size + 1, 0, none⟩ = false ∧ W.cell? ⟨w.heap.size + 1, 1, none⟩ = some (.int .i64 v) ∧ W.frozen? ⟨w.heap.size + 1, 1, none⟩ = false ∧ W.cell? ⟨w.heap.size + 1 + 1, 0, none⟩ = some (.int .i64 s) ∧ W.frozen? ⟨w.heap.size + 1 + 1, 0, none⟩ = false ∧ W.cell? ⟨w.heap.size + 1 + 1, 1, none⟩ = some (.int .i64 t) ∧ W.frozen? ⟨w.heap.size + 1 + 1, 1, none⟩ = false ∧ Below w.heap.size w W ∧ w.heap.size + 1 + 1 + 1 ≤ W.heap.size) 9 [.val (.agg #[.int .i64 x, .int .i64 y]), .call 34 #[.agg #[.int .i64 x, .int .i64 y]] (.agg #[.int .i64 (hold x), .int .i64 (hold y)]), .val (.agg #[.int .i64 u, .int .i64 v]), .call 34 #[.agg #[.int .i64 u, .int .i64 v]] (.agg #[.int .i64 (hold u), .int .i64 (hold v)]), .val (.agg #[.int .i64 s, .int .i64 t]), .call 34 #[.agg #[.int .i64 s, .int .i64 t]] (.agg #[.int .i64 (hold s), .int .i64 (hold t)]), .fresh (.cells #[.int .i64 0, .int .i64 0] 23), .fresh (.cells #[.int .i64 0, .int .i64 0] 23), .fresh (.cells #[.int .i64 0, .int .i64 0] 23)] (by kernel_rfl) (by kernel_rfl) (by rintro w1 w2 ⟨h0, h1, h2, h3, h4, h5, h6, h7, h8, h9, h10, h11⟩ hb; exact ⟨bcs hb h0, bfs hb h0 h1, bcs hb h2, bfs hb h2 h3, bcs hb h4, bfs hb h4 h5, bcs hb h6, bfs hb h6 h7, bcs hb h8, bfs hb h8 h9, bcs hb h10, bfs hb h10 h11⟩) ⟨by first | with_reducible assumption | go_simp, by first | with_reducible assumption | go_simp, by first | with_reducible assumption | go_simp, by first | with_reducible assumption | go_simp, by first | with_reducible assumption | go_simp, by first | with_reducible assumption | go_simp, by first | with_reducible assumption | go_simp, by first | with_reducible assumption | go_simp, by first | with_reducible assumption | go_simp, by first | with_reducible assumption | go_simp, by first | with_reducible assumption | go_simp, by first | with_reducible assumption | go_simp, by repeat (first | with_reducible exact Below.refl _ _ | fail | with_reducible apply below_drewN | with_reducible apply Below.drew | (with_reducible refine Below.alloc ?_ (by first | (simp; done) | (simp; omega) | omega) _) | (with_reducible refine Below.setCell ?_ (by first | (simp; done) | (simp; omega) | omega) _)), by first | with_reducible assumption | (simp; done) | (simp; omega)⟩ ?_ ?_
            · rintro W ⟨k1_a_0, g1_a_0, k1_a_1, g1_a_1, k1_b_0, g1_b_0, k1_b_1, g1_b_1, k1_p_0, g1_p_0, k1_p_1, g1_p_1, B1, z1⟩; exact ⟨k1_a_0, g1_a_0, k1_a_1, g1_a_1, k1_b_0, g1_b_0, k1_b_1, g1_b_1, k1_p_0, g1_p_0, k1_p_1, g1_p_1⟩
            rintro w1 ⟨k1_a_0, g1_a_0, k1_a_1, g1_a_1, k1_b_0, g1_b_0, k1_b_1, g1_b_1, k1_p_0, g1_p_0, k1_p_1, g1_p_1, B1, z1⟩ gg
            simp only [List.take_succ_cons, List.take_zero, List.drop_succ_cons, List.drop_zero, Obs, ob, Sp.get, Sp.news, Act.put, List.setIfInBounds_toArray, List.set_cons_zero, List.set_cons_succ, List.nil_append, List.cons_append, List.append_nil]
            refine ⟨⟨rfl, ?_⟩, ⟨rfl, ?_, ?_⟩, ⟨rfl, ?_⟩, ⟨rfl, ?_, ?_⟩, ⟨rfl, ?_⟩, ⟨rfl, ?_, ?_⟩, ⟨rfl, ?_⟩, ⟨rfl, ?_⟩, ⟨rfl, ?_⟩, ?_⟩
            · clear k1_a_0 g1_a_0 k1_a_1 g1_a_1 k1_b_0 g1_b_0 k1_b_1 g1_b_1 k1_p_0 g1_p_0 k1_p_1 g1_p_1 B1 z1; rintro w' ⟨h0, h1, h2, h3, h4, h5, h6, h7, h8, h9, h10, h11⟩; go_simp; try exact IntWalk.i64_in _ (by omega)
            · clear k1_a_0 g1_a_0 k1_a_1 g1_a_1 k1_b_0 g1_b_0 k1_b_1 g1_b_1 k1_p_0 g1_p_0 k1_p_1 g1_p_1 B1 z1; rintro w' ⟨h0, h1, h2, h3, h4, h5, h6, h7, h8, h9, h10, h11⟩; go_simp
            · clear k1_a_0 g1_a_0 k1_a_1 g1_a_1 k1_b_0 g1_b_0 k1_b_1 g1_b_1 k1_p_0 g1_p_0 k1_p_1 g1_p_1 B1 z1; rintro w' ⟨h0, h1, h2, h3, h4, h5, h6, h7, h8, h9, h10, h11⟩; exact hold_any x y _
            · clear k1_a_0 g1_a_0 k1_a_1 g1_a_1 k1_b_0 g1_b_0 k1_b_1 g1_b_1 k1_p_0 g1_p_0 k1_p_1 g1_p_1 B1 z1; rintro w' ⟨h0, h1, h2, h3, h4, h5, h6, h7, h8, h9, h10, h11⟩; go_simp; try exact IntWalk.i64_in _ (by omega)
            · clear k1_a_0 g1_a_0 k1_a_1 g1_a_1 k1_b_0 g1_b_0 k1_b_1 g1_b_1 k1_p_0 g1_p_0 k1_p_1 g1_p_1 B1 z1; rintro w' ⟨h0, h1, h2, h3, h4, h5, h6, h7, h8, h9, h10, h11⟩; go_simp
            · clear k1_a_0 g1_a_0 k1_a_1 g1_a_1 k1_b_0 g1_b_0 k1_b_1 g1_b_1 k1_p_0 g1_p_0 k1_p_1 g1_p_1 B1 z1; rintro w' ⟨h0, h1, h2, h3, h4, h5, h6, h7, h8, h9, h10, h11⟩; exact hold_any u v _
            · clear k1_a_0 g1_a_0 k1_a_1 g1_a_1 k1_b_0 g1_b_0 k1_b_1 g1_b_1 k1_p_0 g1_p_0 k1_p_1 g1_p_1 B1 z1; rintro w' ⟨h0, h1, h2, h3, h4, h5, h6, h7, h8, h9, h10, h11⟩; go_simp; try exact IntWalk.i64_in _ (by omega)
            · clear k1_a_0 g1_a_0 k1_a_1 g1_a_1 k1_b_0 g1_b_0 k1_b_1 g1_b_1 k1_p_0 g1_p_0 k1_p_1 g1_p_1 B1 z1; rintro w' ⟨h0, h1, h2, h3, h4, h5, h6, h7, h8, h9, h10, h11⟩; go_simp
            · clear k1_a_0 g1_a_0 k1_a_1 g1_a_1 k1_b_0 g1_b_0 k1_b_1 g1_b_1 k1_p_0 g1_p_0 k1_p_1 g1_p_1 B1 z1; rintro w' ⟨h0, h1, h2, h3, h4, h5, h6, h7, h8, h9, h10, h11⟩; exact hold_any s t _
            · clear k1_a_0 g1_a_0 k1_a_1 g1_a_1 k1_b_0 g1_b_0 k1_b_1 g1_b_1 k1_p_0 g1_p_0 k1_p_1 g1_p_1 B1 z1; rintro w' ⟨h0, h1, h2, h3, h4, h5, h6, h7, h8, h9, h10, h11⟩; go_simp
            · clear k1_a_0 g1_a_0 k1_a_1 g1_a_1 k1_b_0 g1_b_0 k1_b_1 g1_b_1 k1_p_0 g1_p_0 k1_p_1 g1_p_1 B1 z1; rintro w' ⟨h0, h1, h2, h3, h4, h5, h6, h7, h8, h9, h10, h11⟩; go_simp
            · clear k1_a_0 g1_a_0 k1_a_1 g1_a_1 k1_b_0 g1_b_0 k1_b_1 g1_b_1 k1_p_0 g1_p_0 k1_p_1 g1_p_1 B1 z1; rintro w' ⟨h0, h1, h2, h3, h4, h5, h6, h7, h8, h9, h10, h11⟩; go_simp
            rintro w2 ⟨h0, h1, h2, h3, h4, h5, h6, h7, h8, h9, h10, h11⟩ hb2 hF
            have lga : w1.heap.size ≤ gg 6 := hF.1.1
            have uga : gg 6 < w2.heap.size := hF.1.2.1
            have pga : w2.heap[gg 6]? = some (.cells #[.int .i64 0, .int .i64 0] 23) := hF.1.2.2
            have nga_gb : ¬ gg 6 = gg 7 := hF.2.1 (7, .cells #[.int .i64 0, .int .i64 0] 23) (by simp)
            have nga_gc : ¬ gg 6 = gg 8 := hF.2.1 (8, .cells #[.int .i64 0, .int .i64 0] 23) (by simp)
            have lgb : w1.heap.size ≤ gg 7 := hF.2.2.1.1
            have ugb : gg 7 < w2.heap.size := hF.2.2.1.2.1
            have pgb : w2.heap[gg 7]? = some (.cells #[.int .i64 0, .int .i64 0] 23) := hF.2.2.1.2.2
            have ngb_gc : ¬ gg 7 = gg 8 := hF.2.2.2.1 (8, .cells #[.int .i64 0, .int .i64 0] 23) (by simp)
            have lgc : w1.heap.size ≤ gg 8 := hF.2.2.2.2.1.1
            have ugc : gg 8 < w2.heap.size := hF.2.2.2.2.1.2.1
            have pgc : w2.heap[gg 8]? = some (.cells #[.int .i64 0, .int .i64 0] 23) := hF.2.2.2.2.1.2.2
            clear hF
            obtain ⟨ga, ega⟩ : ∃ x, gg 6 = x := ⟨_, rfl⟩
            rw [ega] at lga uga pga nga_gb nga_gc ⊢
            clear ega
            obtain ⟨gb, egb⟩ : ∃ x, gg 7 = x := ⟨_, rfl⟩
            rw [egb] at lgb ugb pgb nga_gb ngb_gc ⊢
            clear egb
            obtain ⟨gc, egc⟩ : ∃ x, gg 8 = x := ⟨_, rfl⟩
            rw [egc] at lgc ugc pgc nga_gc ngb_gc ⊢
            clear egc
            clear gg
            have k2_a_0 := bcs hb2 k1_a_0
            have g2_a_0 := bfs hb2 k1_a_0 g1_a_0
            have k2_a_1 := bcs hb2 k1_a_1
            have g2_a_1 := bfs hb2 k1_a_1 g1_a_1
            have k2_b_0 := bcs hb2 k1_b_0
            have g2_b_0 := bfs hb2 k1_b_0 g1_b_0
            have k2_b_1 := bcs hb2 k1_b_1
            have g2_b_1 := bfs hb2 k1_b_1 g1_b_1
            have k2_p_0 := bcs hb2 k1_p_0
            have g2_p_0 := bfs hb2 k1_p_0 g1_p_0
            have k2_p_1 := bcs hb2 k1_p_1
            have g2_p_1 := bfs hb2 k1_p_1 g1_p_1
            clear h0 h1 h2 h3 h4 h5 h6 h7 h8 h9 h10 h11
            have B2 := bel_step B1 hb2
            have z2 := Nat.le_trans z1 hb2.size
            have mga : w.heap.size ≤ ga := by omega
            have nga_a : ¬ ga = w.heap.size := by omega
            have na_ga : ¬ w.heap.size = ga := by omega
            have nga_b : ¬ ga = w.heap.size + 1 := by omega
            have nb_ga : ¬ w.heap.size + 1 = ga := by omega
            have nga_p : ¬ ga = w.heap.size + 1 + 1 := by omega
            have np_ga : ¬ w.heap.size + 1 + 1 = ga := by omega
            have k2_ga_0 : w2.cell? ⟨ga, 0, none⟩ = some (.int .i64 0) := cob pga 0 rfl
            have g2_ga_0 : w2.frozen? ⟨ga, 0, none⟩ = false := fob pga 0
            have k2_ga_1 : w2.cell? ⟨ga, 1, none⟩ = some (.int .i64 0) := cob pga 1 rfl
            have g2_ga_1 : w2.frozen? ⟨ga, 1, none⟩ = false := fob pga 1
            have mgb : w.heap.size ≤ gb := by omega
            have ngb_a : ¬ gb = w.heap.size := by omega
            have na_gb : ¬ w.heap.size = gb := by omega
            have ngb_b : ¬ gb = w.heap.size + 1 := by omega
            have nb_gb : ¬ w.heap.size + 1 = gb := by omega
            have ngb_p : ¬ gb = w.heap.size + 1 + 1 := by omega
            have np_gb : ¬ w.heap.size + 1 + 1 = gb := by omega
            have k2_gb_0 : w2.cell? ⟨gb, 0, none⟩ = some (.int .i64 0) := cob pgb 0 rfl
            have g2_gb_0 : w2.frozen? ⟨gb, 0, none⟩ = false := fob pgb 0
            have k2_gb_1 : w2.cell? ⟨gb, 1, none⟩ = some (.int .i64 0) := cob pgb 1 rfl
            have g2_gb_1 : w2.frozen? ⟨gb, 1, none⟩ = false := fob pgb 1
            have mgc : w.heap.size ≤ gc := by omega
            have ngc_a : ¬ gc = w.heap.size := by omega
            have na_gc : ¬ w.heap.size = gc := by omega
            have ngc_b : ¬ gc = w.heap.size + 1 := by omega
            have nb_gc : ¬ w.heap.size + 1 = gc := by omega
            have ngc_p : ¬ gc = w.heap.size + 1 + 1 := by omega
            have np_gc : ¬ w.heap.size + 1 + 1 = gc := by omega
            have k2_gc_0 : w2.cell? ⟨gc, 0, none⟩ = some (.int .i64 0) := cob pgc 0 rfl
            have g2_gc_0 : w2.frozen? ⟨gc, 0, none⟩ = false := fob pgc 0
            have k2_gc_1 : w2.cell? ⟨gc, 1, none⟩ = some (.int .i64 0) := cob pgc 1 rfl
            have g2_gc_1 : w2.frozen? ⟨gc, 1, none⟩ = false := fob pgc 1
            have ngb_ga : ¬ gb = ga := fun h => nga_gb h.symm
            have ngc_ga : ¬ gc = ga := fun h => nga_gc h.symm
            have ngc_gb : ¬ gc = gb := fun h => ngb_gc h.symm
            clear lga uga pga
            clear lgb ugb pgb
            clear lgc ugc pgc
            clear hb2
            (try clear B1)
            (try clear z1)
            (try clear k1_a_0)
            (try clear g1_a_0)
            (try clear k1_a_1)
            (try clear g1_a_1)
            (try clear k1_b_0)
            (try clear g1_b_0)
            (try clear k1_b_1)
            (try clear g1_b_1)
            (try clear k1_p_0)
            (try clear g1_p_0)
            (try clear k1_p_1)
            (try clear g1_p_1)
            (try clear q1_a)
            (try clear x1_a)
            (try clear y1_a)
            (try clear q1_b)
            (try clear x1_b)
            (try clear y1_b)
            (try clear q1_p)
            (try clear x1_p)
            (try clear y1_p)
            have q2_a : w.heap.size < w2.heap.size := qlt k2_a_0
            have x2_a : ¬ w.heap.size = w2.heap.size := qne k2_a_0
            have y2_a : ¬ w2.heap.size = w.heap.size := fun h => qne k2_a_0 h.symm
            have q2_b : w.heap.size + 1 < w2.heap.size := qlt k2_b_0
            have x2_b : ¬ w.heap.size + 1 = w2.heap.size := qne k2_b_0
            have y2_b : ¬ w2.heap.size = w.heap.size + 1 := fun h => qne k2_b_0 h.symm
            have q2_p : w.heap.size + 1 + 1 < w2.heap.size := qlt k2_p_0
            have x2_p : ¬ w.heap.size + 1 + 1 = w2.heap.size := qne k2_p_0
            have y2_p : ¬ w2.heap.size = w.heap.size + 1 + 1 := fun h => qne k2_p_0 h.symm
            have q2_ga : ga < w2.heap.size := qlt k2_ga_0
            have x2_ga : ¬ ga = w2.heap.size := qne k2_ga_0
            have y2_ga : ¬ w2.heap.size = ga := fun h => qne k2_ga_0 h.symm
            have q2_gb : gb < w2.heap.size := qlt k2_gb_0
            have x2_gb : ¬ gb = w2.heap.size := qne k2_gb_0
            have y2_gb : ¬ w2.heap.size = gb := fun h => qne k2_gb_0 h.symm
            have q2_gc : gc < w2.heap.size := qlt k2_gc_0
            have x2_gc : ¬ gc = w2.heap.size := qne k2_gc_0
            have y2_gc : ¬ w2.heap.size = gc := fun h => qne k2_gc_0 h.symm
            go_wp2_with (first | (go_at_call 27; (with_reducible refine (c1 _).mono ?_); rintro e w3 ⟨rfl, hb3⟩; have k3_a_0 : w3.cell? ⟨w.heap.size, 0, none⟩ = some (.int .i64 x) := bcs hb3 (by go_simp); have g3_a_0 : w3.frozen? ⟨w.heap.size, 0, none⟩ = false := bfs hb3 (v := .int .i64 x) (by go_simp) (by go_simp); have k3_a_1 : w3.cell? ⟨w.heap.size, 1, none⟩ = some (.int .i64 y) := bcs hb3 (by go_simp); have g3_a_1 : w3.frozen? ⟨w.heap.size, 1, none⟩ = false := bfs hb3 (v := .int .i64 y) (by go_simp) (by go_simp); have k3_b_0 : w3.cell? ⟨w.heap.size + 1, 0, none⟩ = some (.int .i64 u) := bcs hb3 (by go_simp); have g3_b_0 : w3.frozen? ⟨w.heap.size + 1, 0, none⟩ = false := bfs hb3 (v := .int .i64 u) (by go_simp) (by go_simp); have k3_b_1 : w3.cell? ⟨w.heap.size + 1, 1, none⟩ = some (.int .i64 v) := bcs hb3 (by go_simp); have g3_b_1 : w3.frozen? ⟨w.heap.size + 1, 1, none⟩ = false := bfs hb3 (v := .int .i64 v) (by go_simp) (by go_simp); have k3_p_0 : w3.cell? ⟨w.heap.size + 1 + 1, 0, none⟩ = some (.int .i64 s) := bcs hb3 (by go_simp); have g3_p_0 : w3.frozen? ⟨w.heap.size + 1 + 1, 0, none⟩ = false := bfs hb3 (v := .int .i64 s) (by go_simp) (by go_simp); have k3_p_1 : w3.cell? ⟨w.heap.size + 1 + 1, 1, none⟩ = some (.int .i64 t) := bcs hb3 (by go_simp); have g3_p_1 : w3.frozen? ⟨w.heap.size + 1 + 1, 1, none⟩ = false := bfs hb3 (v := .int .i64 t) (by go_simp) (by go_simp); have k3_ga_0 : w3.cell? ⟨ga, 0, none⟩ = some (.int .i64 (hold x)) := bcs hb3 (by go_simp); have g3_ga_0 : w3.frozen? ⟨ga, 0, none⟩ = false := bfs hb3 (v := .int .i64 (hold x)) (by go_simp) (by go_simp); have k3_ga_1 : w3.cell? ⟨ga, 1, none⟩ = some (.int .i64 (hold y)) := bcs hb3 (by go_simp); have g3_ga_1 : w3.frozen? ⟨ga, 1, none⟩ = false := bfs hb3 (v := .int .i64 (hold y)) (by go_simp) (by go_simp); have k3_gb_0 : w3.cell? ⟨gb, 0, none⟩ = some (.int .i64 (hold u)) := bcs hb3 (by go_simp); have g3_gb_0 : w3.frozen? ⟨gb, 0, none⟩ = false := bfs hb3 (v := .int .i64 (hold u)) (by go_simp) (by go_simp); have k3_gb_1 : w3.cell? ⟨gb, 1, none⟩ = some (.int .i64 (hold v)) := bcs hb3 (by go_simp); have g3_gb_1 : w3.frozen? ⟨gb, 1, none⟩ = false := bfs hb3 (v := .int .i64 (hold v)) (by go_simp) (by go_simp); have k3_gc_0 : w3.cell? ⟨gc, 0, none⟩ = some (.int .i64 (hold s)) := bcs hb3 (by go_simp); have g3_gc_0 : w3.frozen? ⟨gc, 0, none⟩ = false := bfs hb3 (v := .int .i64 (hold s)) (by go_simp) (by go_simp); have k3_gc_1 : w3.cell? ⟨gc, 1, none⟩ = some (.int .i64 (hold t)) := bcs hb3 (by go_simp); have g3_gc_1 : w3.frozen? ⟨gc, 1, none⟩ = false := bfs hb3 (v := .int .i64 (hold t)) (by go_simp) (by go_simp); have q3_a : w.heap.size < w3.heap.size := qlt k3_a_0; have x3_a : ¬ w.heap.size = w3.heap.size := qne k3_a_0; have y3_a : ¬ w3.heap.size = w.heap.size := fun h => qne k3_a_0 h.symm; have q3_b : w.heap.size + 1 < w3.heap.size := qlt k3_b_0; have x3_b : ¬ w.heap.size + 1 = w3.heap.size := qne k3_b_0; have y3_b : ¬ w3.heap.size = w.heap.size + 1 := fun h => qne k3_b_0 h.symm; have q3_p : w.heap.size + 1 + 1 < w3.heap.size := qlt k3_p_0; have x3_p : ¬ w.heap.size + 1 + 1 = w3.heap.size := qne k3_p_0; have y3_p : ¬ w3.heap.size = w.heap.size + 1 + 1 := fun h => qne k3_p_0 h.symm; have q3_ga : ga < w3.heap.size := qlt k3_ga_0; have x3_ga : ¬ ga = w3.heap.size := qne k3_ga_0; have y3_ga : ¬ w3.heap.size = ga := fun h => qne k3_ga_0 h.symm; have q3_gb : gb < w3.heap.size := qlt k3_gb_0; have x3_gb : ¬ gb = w3.heap.size := qne k3_gb_0; have y3_gb : ¬ w3.heap.size = gb := fun h => qne k3_gb_0 h.symm; have q3_gc : gc < w3.heap.size := qlt k3_gc_0; have x3_gc : ¬ gc = w3.heap.size := qne k3_gc_0; have y3_gc : ¬ w3.heap.size = gc := fun h => qne k3_gc_0 h.symm; have B3 : Below w.heap.size w w3 := bel_step (by repeat (first | with_reducible exact Below.refl _ _ | with_reducible exact B2 | with_reducible apply below_drewN | with_reducible apply Below.drew | (with_reducible refine Below.alloc ?_ (by first | (simp; done) | (simp; omega) | omega) _) | (with_reducible refine Below.setCell ?_ (by first | (simp; done) | (simp; omega) | omega) _))) hb3; have z3 : w.heap.size + 1 + 1 + 1 ≤ w3.heap.size := Nat.le_trans (by first | with_reducible assumption | (simp; done) | (simp; omega)) hb3.size; clear hb3; (try clear k2_a_0); (try clear g2_a_0); (try clear k2_a_1); (try clear g2_a_1); (try clear k2_b_0); (try clear g2_b_0); (try clear k2_b_1); (try clear g2_b_1); (try clear k2_p_0); (try clear g2_p_0); (try clear k2_p_1); (try clear g2_p_1); (try clear k2_ga_0); (try clear g2_ga_0); (try clear k2_ga_1); (try clear g2_ga_1); (try clear k2_gb_0); (try clear g2_gb_0); (try clear k2_gb_1); (try clear g2_gb_1); (try clear k2_gc_0); (try clear g2_gc_0); (try clear k2_gc_1); (try clear g2_gc_1); (try clear B2); (try clear z2); (try clear q2_a); (try clear x2_a); (try clear y2_a); (try clear q2_b); (try clear x2_b); (try clear y2_b); (try clear q2_p); (try clear x2_p); (try clear y2_p); (try clear q2_ga); (try clear x2_ga); (try clear y2_ga); (try clear q2_gb); (try clear x2_gb); (try clear y2_gb); (try clear q2_gc); (try clear x2_gc); (try clear y2_gc)))
            go_ret
            refine ⟨rfl, ?_⟩
            repeat (first | with_reducible exact Below.refl _ _ | with_reducible exact B3 | with_reducible apply below_drewN | with_reducible apply Below.drew | (with_reducible refine Below.alloc ?_ (by first | (simp; done) | (simp; omega) | omega) _) | (with_reducible refine Below.setCell ?_ (by first | (simp; done) | (simp; omega) | omega) _))
          · rw [decide_eq_false (fun h => h5 h.2.2)]
            have dd := decide_eq_false h5
            go_enter Try.func29, Try.ntmps29
            go_wp2
            refine wp_region_ord (fun w' => w'.cell? ⟨w.heap.size, 0, none⟩ = some (.int .i64 x) ∧ w'.frozen? ⟨w.heap.size, 0, none⟩ = false ∧ w'.cell? ⟨w.heap.size, 1, none⟩ = some (.int .i64 y) ∧ w'.frozen? ⟨w.heap.size, 1, none⟩ = false ∧ w'.cell? ⟨w.heap.size + 1, 0, none⟩ = some (.int .i64 u) ∧ w'.frozen? ⟨w.heap.size + 1, 0, none⟩ = false ∧ w'.cell? ⟨w.heap.size + 1, 1, none⟩ = some (.int .i64 v) ∧ w'.frozen? ⟨w.heap.size + 1, 1, none⟩ = false ∧ w'.cell? ⟨w.heap.size + 1 + 1, 0, none⟩ = some (.int .i64 s) ∧ w'.frozen? ⟨w.heap.size + 1 + 1, 0, none⟩ = false ∧ w'.cell? ⟨w.heap.size + 1 + 1, 1, none⟩ = some (.int .i64 t) ∧ w'.frozen? ⟨w.heap.size + 1 + 1, 1, none⟩ = false) (fun W => W.cell? ⟨w.heap.size, 0, none⟩ = some (.int .i64 x) ∧ W.frozen? ⟨w.heap.size, 0, none⟩ = false ∧ W.cell? ⟨w.heap.size, 1, none⟩ = some (.int .i64 y) ∧ W.frozen? ⟨w.heap.size, 1, none⟩ = false ∧ W.cell? ⟨w.heap.size + 1, 0, none⟩ = some (.int .i64 u) ∧ W.frozen? ⟨w.heap.size + 1, 0, none⟩ = false ∧ W.cell? ⟨w.heap.size + 1, 1, none⟩ = some (.int .i64 v) ∧ W.frozen? ⟨w.heap.size + 1, 1, none⟩ = false ∧ W.cell? ⟨w.heap.size + 1 + 1, 0, none⟩ = some (.int .i64 s) ∧ W.frozen? ⟨w.heap.size + 1 + 1, 0, none⟩ = false ∧ W.cell? ⟨w.heap.size + 1 + 1, 1, none⟩ = some (.int .i64 t) ∧ W.frozen? ⟨w.heap.size + 1 + 1, 1, none⟩ = false ∧ Below w.heap.size w W ∧ w.heap.size + 1 + 1 + 1 ≤ W.heap.size) 9 [.val (.agg #[.int .i64 x, .int .i64 y]), .call 34 #[.agg #[.int .i64 x, .int .i64 y]] (.agg #[.int .i64 (hold x), .int .i64 (hold y)]), .val (.agg #[.int .i64 u, .int .i64 v]), .call 34 #[.agg #[.int .i64 u, .int .i64 v]] (.agg #[.int .i64 (hold u), .int .i64 (hold v)]), .val (.agg #[.int .i64 s, .int .i64 t]), .call 34 #[.agg #[.int .i64 s, .int .i64 t]] (.agg #[.int .i64 (hold s), .int .i64 (hold t)]), .fresh (.cells #[.int .i64 0, .int .i64 0] 23), .fresh (.cells #[.int .i64 0, .int .i64 0] 23), .fresh (.cells #[.int .i64 0, .int .i64 0] 23)] (by kernel_rfl) (by kernel_rfl) (by rintro w1 w2 ⟨h0, h1, h2, h3, h4, h5, h6, h7, h8, h9, h10, h11⟩ hb; exact ⟨bcs hb h0, bfs hb h0 h1, bcs hb h2, bfs hb h2 h3, bcs hb h4, bfs hb h4 h5, bcs hb h6, bfs hb h6 h7, bcs hb h8, bfs hb h8 h9, bcs hb h10, bfs hb h10 h11⟩) ⟨by first | with_reducible assumption | go_simp, by first | with_reducible assumption | go_simp, by first | with_reducible assumption | go_simp, by first | with_reducible assumption | go_simp, by first | with_reducible assumption | go_simp, by first | with_reducible assumption | go_simp, by first | with_reducible assumption | go_simp, by first | with_reducible assumption | go_simp, by first | with_reducible assumption | go_simp, by first | with_reducible assumption | go_simp, by first | with_reducible assumption | go_simp, by first | with_reducible assumption | go_simp, by repeat (first | with_reducible exact Below.refl _ _ | fail | with_reducible apply below_drewN | with_reducible apply Below.drew | (with_reducible refine Below.alloc ?_ (by first | (simp; done) | (simp; omega) | omega) _) | (with_reducible refine Below.setCell ?_ (by first | (simp; done) | (simp; omega) | omega) _)), by first | with_reducible assumption | (simp; done) | (simp; omega)⟩ ?_ ?_
            · rintro W ⟨k1_a_0, g1_a_0, k1_a_1, g1_a_1, k1_b_0, g1_b_0, k1_b_1, g1_b_1, k1_p_0, g1_p_0, k1_p_1, g1_p_1, B1, z1⟩; exact ⟨k1_a_0, g1_a_0, k1_a_1, g1_a_1, k1_b_0, g1_b_0, k1_b_1, g1_b_1, k1_p_0, g1_p_0, k1_p_1, g1_p_1⟩
            rintro w1 ⟨k1_a_0, g1_a_0, k1_a_1, g1_a_1, k1_b_0, g1_b_0, k1_b_1, g1_b_1, k1_p_0, g1_p_0, k1_p_1, g1_p_1, B1, z1⟩ gg
            simp only [List.take_succ_cons, List.take_zero, List.drop_succ_cons, List.drop_zero, Obs, ob, Sp.get, Sp.news, Act.put, List.setIfInBounds_toArray, List.set_cons_zero, List.set_cons_succ, List.nil_append, List.cons_append, List.append_nil]
            refine ⟨⟨rfl, ?_⟩, ⟨rfl, ?_, ?_⟩, ⟨rfl, ?_⟩, ⟨rfl, ?_, ?_⟩, ⟨rfl, ?_⟩, ⟨rfl, ?_, ?_⟩, ⟨rfl, ?_⟩, ⟨rfl, ?_⟩, ⟨rfl, ?_⟩, ?_⟩
            · clear k1_a_0 g1_a_0 k1_a_1 g1_a_1 k1_b_0 g1_b_0 k1_b_1 g1_b_1 k1_p_0 g1_p_0 k1_p_1 g1_p_1 B1 z1; rintro w' ⟨h0, h1, h2, h3, h4, h5, h6, h7, h8, h9, h10, h11⟩; go_simp; try exact IntWalk.i64_in _ (by omega)
            · clear k1_a_0 g1_a_0 k1_a_1 g1_a_1 k1_b_0 g1_b_0 k1_b_1 g1_b_1 k1_p_0 g1_p_0 k1_p_1 g1_p_1 B1 z1; rintro w' ⟨h0, h1, h2, h3, h4, h5, h6, h7, h8, h9, h10, h11⟩; go_simp
            · clear k1_a_0 g1_a_0 k1_a_1 g1_a_1 k1_b_0 g1_b_0 k1_b_1 g1_b_1 k1_p_0 g1_p_0 k1_p_1 g1_p_1 B1 z1; rintro w' ⟨h0, h1, h2, h3, h4, h5, h6, h7, h8, h9, h10, h11⟩; exact hold_any x y _
            · clear k1_a_0 g1_a_0 k1_a_1 g1_a_1 k1_b_0 g1_b_0 k1_b_1 g1_b_1 k1_p_0 g1_p_0 k1_p_1 g1_p_1 B1 z1; rintro w' ⟨h0, h1, h2, h3, h4, h5, h6, h7, h8, h9, h10, h11⟩; go_simp; try exact IntWalk.i64_in _ (by omega)
            · clear k1_a_0 g1_a_0 k1_a_1 g1_a_1 k1_b_0 g1_b_0 k1_b_1 g1_b_1 k1_p_0 g1_p_0 k1_p_1 g1_p_1 B1 z1; rintro w' ⟨h0, h1, h2, h3, h4, h5, h6, h7, h8, h9, h10, h11⟩; go_simp
            · clear k1_a_0 g1_a_0 k1_a_1 g1_a_1 k1_b_0 g1_b_0 k1_b_1 g1_b_1 k1_p_0 g1_p_0 k1_p_1 g1_p_1 B1 z1; rintro w' ⟨h0, h1, h2, h3, h4, h5, h6, h7, h8, h9, h10, h11⟩; exact hold_any u v _
            · clear k1_a_0 g1_a_0 k1_a_1 g1_a_1 k1_b_0 g1_b_0 k1_b_1 g1_b_1 k1_p_0 g1_p_0 k1_p_1 g1_p_1 B1 z1; rintro w' ⟨h0, h1, h2, h3, h4, h5, h6, h7, h8, h9, h10, h11⟩; go_simp; try exact IntWalk.i64_in _ (by omega)
            · clear k1_a_0 g1_a_0 k1_a_1 g1_a_1 k1_b_0 g1_b_0 k1_b_1 g1_b_1 k1_p_0 g1_p_0 k1_p_1 g1_p_1 B1 z1; rintro w' ⟨h0, h1, h2, h3, h4, h5, h6, h7, h8, h9, h10, h11⟩; go_simp
            · clear k1_a_0 g1_a_0 k1_a_1 g1_a_1 k1_b_0 g1_b_0 k1_b_1 g1_b_1 k1_p_0 g1_p_0 k1_p_1 g1_p_1 B1 z1; rintro w' ⟨h0, h1, h2, h3, h4, h5, h6, h7, h8, h9, h10, h11⟩; exact hold_any s t _
            · clear k1_a_0 g1_a_0 k1_a_1 g1_a_1 k1_b_0 g1_b_0 k1_b_1 g1_b_1 k1_p_0 g1_p_0 k1_p_1 g1_p_1 B1 z1; rintro w' ⟨h0, h1, h2, h3, h4, h5, h6, h7, h8, h9, h10, h11⟩; go_simp
            · clear k1_a_0 g1_a_0 k1_a_1 g1_a_1 k1_b_0 g1_b_0 k1_b_1 g1_b_1 k1_p_0 g1_p_0 k1_p_1 g1_p_1 B1 z1; rintro w' ⟨h0, h1, h2, h3, h4, h5, h6, h7, h8, h9, h10, h11⟩; go_simp
            · clear k1_a_0 g1_a_0 k1_a_1 g1_a_1 k1_b_0 g1_b_0 k1_b_1 g1_b_1 k1_p_0 g1_p_0 k1_p_1 g1_p_1 B1 z1; rintro w' ⟨h0, h1, h2, h3, h4, h5, h6, h7, h8, h9, h10, h11⟩; go_simp
            rintro w2 ⟨h0, h1, h2, h3, h4, h5, h6, h7, h8, h9, h10, h11⟩ hb2 hF
            have lga : w1.heap.size ≤ gg 6 := hF.1.1
            have uga : gg 6 < w2.heap.size := hF.1.2.1
            have pga : w2.heap[gg 6]? = some (.cells #[.int .i64 0, .int .i64 0] 23) := hF.1.2.2
            have nga_gb : ¬ gg 6 = gg 7 := hF.2.1 (7, .cells #[.int .i64 0, .int .i64 0] 23) (by simp)
            have nga_gc : ¬ gg 6 = gg 8 := hF.2.1 (8, .cells #[.int .i64 0, .int .i64 0] 23) (by simp)
            have lgb : w1.heap.size ≤ gg 7 := hF.2.2.1.1
            have ugb : gg 7 < w2.heap.size := hF.2.2.1.2.1
            have pgb : w2.heap[gg 7]? = some (.cells #[.int .i64 0, .int .i64 0] 23) := hF.2.2.1.2.2
            have ngb_gc : ¬ gg 7 = gg 8 := hF.2.2.2.1 (8, .cells #[.int .i64 0, .int .i64 0] 23) (by simp)
            have lgc : w1.heap.size ≤ gg 8 := hF.2.2.2.2.1.1
            have ugc : gg 8 < w2.heap.size := hF.2.2.2.2.1.2.1
            have pgc : w2.heap[gg 8]? = some (.cells #[.int .i64 0, .int .i64 0] 23) := hF.2.2.2.2.1.2.2
            clear hF
            obtain ⟨ga, ega⟩ : ∃ x, gg 6 = x := ⟨_, rfl⟩
            rw [ega] at lga uga pga nga_gb nga_gc ⊢
            clear ega
            obtain ⟨gb, egb⟩ : ∃ x, gg 7 = x := ⟨_, rfl⟩
            rw [egb] at lgb ugb pgb nga_gb ngb_gc ⊢
            clear egb
            obtain ⟨gc, egc⟩ : ∃ x, gg 8 = x := ⟨_, rfl⟩
            rw [egc] at lgc ugc pgc nga_gc ngb_gc ⊢
            clear egc
            clear gg
            have k2_a_0 := bcs hb2 k1_a_0
            have g2_a_0 := bfs hb2 k1_a_0 g1_a_0
            have k2_a_1 := bcs hb2 k1_a_1
            have g2_a_1 := bfs hb2 k1_a_1 g1_a_1
            have k2_b_0 := bcs hb2 k1_b_0
            have g2_b_0 := bfs hb2 k1_b_0 g1_b_0
            have k2_b_1 := bcs hb2 k1_b_1
            have g2_b_1 := bfs hb2 k1_b_1 g1_b_1
            have k2_p_0 := bcs hb2 k1_p_0
            have g2_p_0 := bfs hb2 k1_p_0 g1_p_0
            have k2_p_1 := bcs hb2 k1_p_1
            have g2_p_1 := bfs hb2 k1_p_1 g1_p_1
            clear h0 h1 h2 h3 h4 h5 h6 h7 h8 h9 h10 h11
            have B2 := bel_step B1 hb2
            have z2 := Nat.le_trans z1 hb2.size
            have mga : w.heap.size ≤ ga := by omega
            have nga_a : ¬ ga = w.heap.size := by omega
            have na_ga : ¬ w.heap.size = ga := by omega
            have nga_b : ¬ ga = w.heap.size + 1 := by omega
            have nb_ga : ¬ w.heap.size + 1 = ga := by omega
            have nga_p : ¬ ga = w.heap.size + 1 + 1 := by omega
            have np_ga : ¬ w.heap.size + 1 + 1 = ga := by omega
            have k2_ga_0 : w2.cell? ⟨ga, 0, none⟩ = some (.int .i64 0) := cob pga 0 rfl
            have g2_ga_0 : w2.frozen? ⟨ga, 0, none⟩ = false := fob pga 0
            have k2_ga_1 : w2.cell? ⟨ga, 1, none⟩ = some (.int .i64 0) := cob pga 1 rfl
            have g2_ga_1 : w2.frozen? ⟨ga, 1, none⟩ = false := fob pga 1
            have mgb : w.heap.size ≤ gb := by omega
            have ngb_a : ¬ gb = w.heap.size := by omega
            have na_gb : ¬ w.heap.size = gb := by omega
            have ngb_b : ¬ gb = w.heap.size + 1 := by omega
            have nb_gb : ¬ w.heap.size + 1 = gb := by omega
            have ngb_p : ¬ gb = w.heap.size + 1 + 1 := by omega
            have np_gb : ¬ w.heap.size + 1 + 1 = gb := by omega
            have k2_gb_0 : w2.cell? ⟨gb, 0, none⟩ = some (.int .i64 0) := cob pgb 0 rfl
            have g2_gb_0 : w2.frozen? ⟨gb, 0, none⟩ = false := fob pgb 0
            have k2_gb_1 : w2.cell? ⟨gb, 1, none⟩ = some (.int .i64 0) := cob pgb 1 rfl
            have g2_gb_1 : w2.frozen? ⟨gb, 1, none⟩ = false := fob pgb 1
            have mgc : w.heap.size ≤ gc := by omega
            have ngc_a : ¬ gc = w.heap.size := by omega
            have na_gc : ¬ w.heap.size = gc := by omega
            have ngc_b : ¬ gc = w.heap.size + 1 := by omega
            have nb_gc : ¬ w.heap.size + 1 = gc := by omega
            have ngc_p : ¬ gc = w.heap.size + 1 + 1 := by omega
            have np_gc : ¬ w.heap.size + 1 + 1 = gc := by omega
            have k2_gc_0 : w2.cell? ⟨gc, 0, none⟩ = some (.int .i64 0) := cob pgc 0 rfl
            have g2_gc_0 : w2.frozen? ⟨gc, 0, none⟩ = false := fob pgc 0
            have k2_gc_1 : w2.cell? ⟨gc, 1, none⟩ = some (.int .i64 0) := cob pgc 1 rfl
            have g2_gc_1 : w2.frozen? ⟨gc, 1, none⟩ = false := fob pgc 1
            have ngb_ga : ¬ gb = ga := fun h => nga_gb h.symm
            have ngc_ga : ¬ gc = ga := fun h => nga_gc h.symm
            have ngc_gb : ¬ gc = gb := fun h => ngb_gc h.symm
            clear lga uga pga
            clear lgb ugb pgb
            clear lgc ugc pgc
            clear hb2
            (try clear B1)
            (try clear z1)
            (try clear k1_a_0)
            (try clear g1_a_0)
            (try clear k1_a_1)
            (try clear g1_a_1)
            (try clear k1_b_0)
            (try clear g1_b_0)
            (try clear k1_b_1)
            (try clear g1_b_1)
            (try clear k1_p_0)
            (try clear g1_p_0)
            (try clear k1_p_1)
            (try clear g1_p_1)
            (try clear q1_a)
            (try clear x1_a)
            (try clear y1_a)
            (try clear q1_b)
            (try clear x1_b)
            (try clear y1_b)
            (try clear q1_p)
            (try clear x1_p)
            (try clear y1_p)
            have q2_a : w.heap.size < w2.heap.size := qlt k2_a_0
            have x2_a : ¬ w.heap.size = w2.heap.size := qne k2_a_0
            have y2_a : ¬ w2.heap.size = w.heap.size := fun h => qne k2_a_0 h.symm
            have q2_b : w.heap.size + 1 < w2.heap.size := qlt k2_b_0
            have x2_b : ¬ w.heap.size + 1 = w2.heap.size := qne k2_b_0
            have y2_b : ¬ w2.heap.size = w.heap.size + 1 := fun h => qne k2_b_0 h.symm
            have q2_p : w.heap.size + 1 + 1 < w2.heap.size := qlt k2_p_0
            have x2_p : ¬ w.heap.size + 1 + 1 = w2.heap.size := qne k2_p_0
            have y2_p : ¬ w2.heap.size = w.heap.size + 1 + 1 := fun h => qne k2_p_0 h.symm
            have q2_ga : ga < w2.heap.size := qlt k2_ga_0
            have x2_ga : ¬ ga = w2.heap.size := qne k2_ga_0
            have y2_ga : ¬ w2.heap.size = ga := fun h => qne k2_ga_0 h.symm
            have q2_gb : gb < w2.heap.size := qlt k2_gb_0
            have x2_gb : ¬ gb = w2.heap.size := qne k2_gb_0
            have y2_gb : ¬ w2.heap.size = gb := fun h => qne k2_gb_0 h.symm
            have q2_gc : gc < w2.heap.size := qlt k2_gc_0
            have x2_gc : ¬ gc = w2.heap.size := qne k2_gc_0
            have y2_gc : ¬ w2.heap.size = gc := fun h => qne k2_gc_0 h.symm
            go_wp2_with (first | (go_at_call 27; (with_reducible refine (c1 _).mono ?_); rintro e w3 ⟨rfl, hb3⟩; have k3_a_0 : w3.cell? ⟨w.heap.size, 0, none⟩ = some (.int .i64 x) := bcs hb3 (by go_simp); have g3_a_0 : w3.frozen? ⟨w.heap.size, 0, none⟩ = false := bfs hb3 (v := .int .i64 x) (by go_simp) (by go_simp); have k3_a_1 : w3.cell? ⟨w.heap.size, 1, none⟩ = some (.int .i64 y) := bcs hb3 (by go_simp); have g3_a_1 : w3.frozen? ⟨w.heap.size, 1, none⟩ = false := bfs hb3 (v := .int .i64 y) (by go_simp) (by go_simp); have k3_b_0 : w3.cell? ⟨w.heap.size + 1, 0, none⟩ = some (.int .i64 u) := bcs hb3 (by go_simp); have g3_b_0 : w3.frozen? ⟨w.heap.size + 1, 0, none⟩ = false := bfs hb3 (v := .int .i64 u) (by go_simp) (by go_simp); have k3_b_1 : w3.cell? ⟨w.heap.size + 1, 1, none⟩ = some (.int .i64 v) := bcs hb3 (by go_simp); have g3_b_1 : w3.frozen? ⟨w.heap.size + 1, 1, none⟩ = false := bfs hb3 (v := .int .i64 v) (by go_simp) (by go_simp); have k3_p_0 : w3.cell? ⟨w.heap.size + 1 + 1, 0, none⟩ = some (.int .i64 s) := bcs hb3 (by go_simp); have g3_p_0 : w3.frozen? ⟨w.heap.size + 1 + 1, 0, none⟩ = false := bfs hb3 (v := .int .i64 s) (by go_simp) (by go_simp); have k3_p_1 : w3.cell? ⟨w.heap.size + 1 + 1, 1, none⟩ = some (.int .i64 t) := bcs hb3 (by go_simp); have g3_p_1 : w3.frozen? ⟨w.heap.size + 1 + 1, 1, none⟩ = false := bfs hb3 (v := .int .i64 t) (by go_simp) (by go_simp); have k3_ga_0 : w3.cell? ⟨ga, 0, none⟩ = some (.int .i64 (hold x)) := bcs hb3 (by go_simp); have g3_ga_0 : w3.frozen? ⟨ga, 0, none⟩ = false := bfs hb3 (v := .int .i64 (hold x)) (by go_simp) (by go_simp); have k3_ga_1 : w3.cell? ⟨ga, 1, none⟩ = some (.int .i64 (hold y)) := bcs hb3 (by go_simp); have g3_ga_1 : w3.frozen? ⟨ga, 1, none⟩ = false := bfs hb3 (v := .int .i64 (hold y)) (by go_simp) (by go_simp); have k3_gb_0 : w3.cell? ⟨gb, 0, none⟩ = some (.int .i64 (hold u)) := bcs hb3 (by go_simp); have g3_gb_0 : w3.frozen? ⟨gb, 0, none⟩ = false := bfs hb3 (v := .int .i64 (hold u)) (by go_simp) (by go_simp); have k3_gb_1 : w3.cell? ⟨gb, 1, none⟩ = some (.int .i64 (hold v)) := bcs hb3 (by go_simp); have g3_gb_1 : w3.frozen? ⟨gb, 1, none⟩ = false := bfs hb3 (v := .int .i64 (hold v)) (by go_simp) (by go_simp); have k3_gc_0 : w3.cell? ⟨gc, 0, none⟩ = some (.int .i64 (hold s)) := bcs hb3 (by go_simp); have g3_gc_0 : w3.frozen? ⟨gc, 0, none⟩ = false := bfs hb3 (v := .int .i64 (hold s)) (by go_simp) (by go_simp); have k3_gc_1 : w3.cell? ⟨gc, 1, none⟩ = some (.int .i64 (hold t)) := bcs hb3 (by go_simp); have g3_gc_1 : w3.frozen? ⟨gc, 1, none⟩ = false := bfs hb3 (v := .int .i64 (hold t)) (by go_simp) (by go_simp); have q3_a : w.heap.size < w3.heap.size := qlt k3_a_0; have x3_a : ¬ w.heap.size = w3.heap.size := qne k3_a_0; have y3_a : ¬ w3.heap.size = w.heap.size := fun h => qne k3_a_0 h.symm; have q3_b : w.heap.size + 1 < w3.heap.size := qlt k3_b_0; have x3_b : ¬ w.heap.size + 1 = w3.heap.size := qne k3_b_0; have y3_b : ¬ w3.heap.size = w.heap.size + 1 := fun h => qne k3_b_0 h.symm; have q3_p : w.heap.size + 1 + 1 < w3.heap.size := qlt k3_p_0; have x3_p : ¬ w.heap.size + 1 + 1 = w3.heap.size := qne k3_p_0; have y3_p : ¬ w3.heap.size = w.heap.size + 1 + 1 := fun h => qne k3_p_0 h.symm; have q3_ga : ga < w3.heap.size := qlt k3_ga_0; have x3_ga : ¬ ga = w3.heap.size := qne k3_ga_0; have y3_ga : ¬ w3.heap.size = ga := fun h => qne k3_ga_0 h.symm; have q3_gb : gb < w3.heap.size := qlt k3_gb_0; have x3_gb : ¬ gb = w3.heap.size := qne k3_gb_0; have y3_gb : ¬ w3.heap.size = gb := fun h => qne k3_gb_0 h.symm; have q3_gc : gc < w3.heap.size := qlt k3_gc_0; have x3_gc : ¬ gc = w3.heap.size := qne k3_gc_0; have y3_gc : ¬ w3.heap.size = gc := fun h => qne k3_gc_0 h.symm; have B3 : Below w.heap.size w w3 := bel_step (by repeat (first | with_reducible exact Below.refl _ _ | with_reducible exact B2 | with_reducible apply below_drewN | with_reducible apply Below.drew | (with_reducible refine Below.alloc ?_ (by first | (simp; done) | (simp; omega) | omega) _) | (with_reducible refine Below.setCell ?_ (by first | (simp; done) | (simp; omega) | omega) _))) hb3; have z3 : w.heap.size + 1 + 1 + 1 ≤ w3.heap.size := Nat.le_trans (by first | with_reducible assumption | (simp; done) | (simp; omega)) hb3.size; clear hb3; (try clear k2_a_0); (try clear g2_a_0); (try clear k2_a_1); (try clear g2_a_1); (try clear k2_b_0); (try clear g2_b_0); (try clear k2_b_1); (try clear g2_b_1); (try clear k2_p_0); (try clear g2_p_0); (try clear k2_p_1); (try clear g2_p_1); (try clear k2_ga_0); (try clear g2_ga_0); (try clear k2_ga_1); (try clear g2_ga_1); (try clear k2_gb_0); (try clear g2_gb_0); (try clear k2_gb_1); (try clear g2_gb_1); (try clear k2_gc_0); (try clear g2_gc_0); (try clear k2_gc_1); (try clear g2_gc_1); (try clear B2); (try clear z2); (try clear q2_a); (try clear x2_a); (try clear y2_a); (try clear q2_b); (try clear x2_b); (try clear y2_b); (try clear q2_p); (try clear x2_p); (try clear y2_p); (try clear q2_ga); (try clear x2_ga); (try clear y2_ga); (try clear q2_gb); (try clear x2_gb); (try clear y2_gb); (try clear q2_gc); (try clear x2_gc); (try clear y2_gc)))
            go_ret
            refine ⟨rfl, ?_⟩
            repeat (first | with_reducible exact Below.refl _ _ | with_reducible exact B3 | with_reducible apply below_drewN | with_reducible apply Below.drew | (with_reducible refine Below.alloc ?_ (by first | (simp; done) | (simp; omega) | omega) _) | (with_reducible refine Below.setCell ?_ (by first | (simp; done) | (simp; omega) | omega) _))
        · rw [decide_eq_false (fun h => h4 h.2.1)]
          have dd := decide_eq_false h4
          go_enter Try.func29, Try.ntmps29
          go_wp2
          refine wp_region_ord (fun w' => w'.cell? ⟨w.heap.size, 0, none⟩ = some (.int .i64 x) ∧ w'.frozen? ⟨w.heap.size, 0, none⟩ = false ∧ w'.cell? ⟨w.heap.size, 1, none⟩ = some (.int .i64 y) ∧ w'.frozen? ⟨w.heap.size, 1, none⟩ = false ∧ w'.cell? ⟨w.heap.size + 1, 0, none⟩ = some (.int .i64 u) ∧ w'.frozen? ⟨w.heap.size + 1, 0, none⟩ = false ∧ w'.cell? ⟨w.heap.size + 1, 1, none⟩ = some (.int .i64 v) ∧ w'.frozen? ⟨w.heap.size + 1, 1, none⟩ = false ∧ w'.cell? ⟨w.heap.size + 1 + 1, 0, none⟩ = some (.int .i64 s) ∧ w'.frozen? ⟨w.heap.size + 1 + 1, 0, none⟩ = false ∧ w'.cell? ⟨w.heap.size + 1 + 1, 1, none⟩ = some (.int .i64 t) ∧ w'.frozen? ⟨w.heap.size + 1 + 1, 1, none⟩ = false) (fun W => W.cell? ⟨w.heap.size, 0, none⟩ = some (.int .i64 x) ∧ W.frozen? ⟨w.heap.size, 0, none⟩ = false ∧ W.cell? ⟨w.heap.size, 1, none⟩ = some (.int .i64 y) ∧ W.frozen? ⟨w.heap.size, 1, none⟩ = false ∧ W.cell? ⟨w.heap.size + 1, 0, none⟩ = some (.int .i64 u) ∧ W.frozen? ⟨w.heap.size + 1, 0, none⟩ = false ∧ W.cell? ⟨w.heap.size + 1, 1, none⟩ = some (.int .i64 v) ∧ W.frozen? ⟨w.heap.size + 1, 1, none⟩ = false ∧ W.cell? ⟨w.heap.size + 1 + 1, 0, none⟩ = some (.int .i64 s) ∧ W.frozen? ⟨w.heap.size + 1 + 1, 0, none⟩ = false ∧ W.cell? ⟨w.heap.size + 1 + 1, 1, none⟩ = some (.int .i64 t) ∧ W.frozen? ⟨w.heap.size + 1 + 1, 1, none⟩ = false ∧ Below w.heap.size w W ∧ w.heap.size + 1 + 1 + 1 ≤ W.heap.size) 9 [.val (.agg #[.int .i64 x, .int .i64 y]), .call 34 #[.agg #[.int .i64 x, .int .i64 y]] (.agg #[.int .i64 (hold x), .int .i64 (hold y)]), .val (.agg #[.int .i64 u, .int .i64 v]), .call 34 #[.agg #[.int .i64 u, .int .i64 v]] (.agg #[.int .i64 (hold u), .int .i64 (hold v)]), .val (.agg #[.int .i64 s, .int .i64 t]), .call 34 #[.agg #[.int .i64 s, .int .i64 t]] (.agg #[.int .i64 (hold s), .int .i64 (hold t)]), .fresh (.cells #[.int .i64 0, .int .i64 0] 23), .fresh (.cells #[.int .i64 0, .int .i64 0] 23), .fresh (.cells #[.int .i64 0, .int .i64 0] 23)] (by kernel_rfl) (by kernel_rfl) (by rintro w1 w2 ⟨h0, h1, h2, h3, h4, h5, h6, h7, h8, h9, h10, h11⟩ hb; exact ⟨bcs hb h0, bfs hb h0 h1, bcs hb h2, bfs hb h2 h3, bcs hb h4, bfs hb h4 h5, bcs hb h6, bfs hb h6 h7, bcs hb h8, bfs hb h8 h9, bcs hb h10, bfs hb h10 h11⟩) ⟨by first | with_reducible assumption | go_simp, by first | with_reducible assumption | go_simp, by first | with_reducible assumption | go_simp, by first | with_reducible assumption | go_simp, by first | with_reducible assumption | go_simp, by first | with_reducible assumption | go_simp, by first | with_reducible assumption | go_simp, by first | with_reducible assumption | go_simp, by first | with_reducible assumption | go_simp, by first | with_reducible assumption | go_simp, by first | with_reducible assumption | go_simp, by first | with_reducible assumption | go_simp, by repeat (first | with_reducible exact Below.refl _ _ | fail | with_reducible apply below_drewN | with_reducible apply Below.drew | (with_reducible refine Below.alloc ?_ (by first | (simp; done) | (simp; omega) | omega) _) | (with_reducible refine Below.setCell ?_ (by first | (simp; done) | (simp; omega) | omega) _)), by first | with_reducible assumption | (simp; done) | (simp; omega)⟩ ?_ ?_
          · rintro W ⟨k1_a_0, g1_a_0, k1_a_1, g1_a_1, k1_b_0, g1_b_0, k1_b_1, g1_b_1, k1_p_0, g1_p_0, k1_p_1, g1_p_1, B1, z1⟩; exact ⟨k1_a_0, g1_a_0, k1_a_1, g1_a_1, k1_b_0, g1_b_0, k1_b_1, g1_b_1, k1_p_0, g1_p_0, k1_p_1, g1_p_1⟩
          rintro w1 ⟨k1_a_0, g1_a_0, k1_a_1, g1_a_1, k1_b_0, g1_b_0, k1_b_1, g1_b_1, k1_p_0, g1_p_0, k1_p_1, g1_p_1, B1, z1⟩ gg
          simp only [List.take_succ_cons, List.take_zero, List.drop_succ_cons, List.drop_zero, Obs, ob, Sp.get, Sp.news, Act.put, List.setIfInBounds_toArray, List.set_cons_zero, List.set_cons_succ, List.nil_append, List.cons_append, List.append_nil]
          refine ⟨⟨rfl, ?_⟩, ⟨rfl, ?_, ?_⟩, ⟨rfl, ?_⟩, ⟨rfl, ?_, ?_⟩, ⟨rfl, ?_⟩, ⟨rfl, ?_, ?_⟩, ⟨rfl, ?_⟩, ⟨rfl, ?_⟩, ⟨rfl, ?_⟩, ?_⟩
          · clear k1_a_0 g1_a_0 k1_a_1 g1_a_1 k1_b_0 g1_b_0 k1_b_1 g1_b_1 k1_p_0 g1_p_0 k1_p_1 g1_p_1 B1 z1; rintro w' ⟨h0, h1, h2, h3, h4, h5, h6, h7, h8, h9, h10, h11⟩; go_simp; try exact IntWalk.i64_in _ (by omega)
          · clear k1_a_0 g1_a_0 k1_a_1 g1_a_1 k1_b_0 g1_b_0 k1_b_1 g1_b_1 k1_p_0 g1_p_0 k1_p_1 g1_p_1 B1 z1; rintro w' ⟨h0, h1, h2, h3, h4, h5, h6, h7, h8, h9, h10, h11⟩; go_simp
          · clear k1_a_0 g1_a_0 k1_a_1 g1_a_1 k1_b_0 g1_b_0 k1_b_1 g1_b_1 k1_p_0 g1_p_0 k1_p_1 g1_p_1 B1 z1; rintro w' ⟨h0, h1, h2, h3, h4, h5, h6, h7, h8, h9, h10, h11⟩; exact hold_any x y _
          · clear k1_a_0 g1_a_0 k1_a_1 g1_a_1 k1_b_0 g1_b_0 k1_b_1 g1_b_1 k1_p_0 g1_p_0 k1_p_1 g1_p_1 B1 z1; rintro w' ⟨h0, h1, h2, h3, h4, h5, h6, h7, h8, h9, h10, h11⟩; go_simp; try exact IntWalk.i64_in _ (by omega)
          · clear k1_a_0 g1_a_0 k1_a_1 g1_a_1 k1_b_0 g1_b_0 k1_b_1 g1_b_1 k1_p_0 g1_p_0 k1_p_1 g1_p_1 B1 z1; rintro w' ⟨h0, h1, h2, h3, h4, h5, h6, h7, h8, h9, h10, h11⟩; go_simp
          · clear k1_a_0 g1_a_0 k1_a_1 g1_a_1 k1_b_0 g1_b_0 k1_b_1 g1_b_1 k1_p_0 g1_p_0 k1_p_1 g1_p_1 B1 z1; rintro w' ⟨h0, h1, h2, h3, h4, h5, h6, h7, h8, h9, h10, h11⟩; exact hold_any u v _
          · clear k1_a_0 g1_a_0 k1_a_1 g1_a_1 k1_b_0 g1_b_0 k1_b_1 g1_b_1 k1_p_0 g1_p_0 k1_p_1 g1_p_1 B1 z1; rintro w' ⟨h0, h1, h2, h3, h4, h5, h6, h7, h8, h9, h10, h11⟩; go_simp; try exact IntWalk.i64_in _ (by omega)
          · clear k1_a_0 g1_a_0 k1_a_1 g1_a_1 k1_b_0 g1_b_0 k1_b_1 g1_b_1 k1_p_0 g1_p_0 k1_p_1 g1_p_1 B1 z1; rintro w' ⟨h0, h1, h2, h3, h4, h5, h6, h7, h8, h9, h10, h11⟩; go_simp
          · clear k1_a_0 g1_a_0 k1_a_1 g1_a_1 k1_b_0 g1_b_0 k1_b_1 g1_b_1 k1_p_0 g1_p_0 k1_p_1 g1_p_1 B1 z1; rintro w' ⟨h0, h1, h2, h3, h4, h5, h6, h7, h8, h9, h10, h11⟩; exact hold_any s t _
          · clear k1_a_0 g1_a_0 k1_a_1 g1_a_1 k1_b_0 g1_b_0 k1_b_1 g1_b_1 k1_p_0 g1_p_0 k1_p_1 g1_p_1 B1 z1; rintro w' ⟨h0, h1, h2, h3, h4, h5, h6, h7, h8, h9, h10, h11⟩; go_simp
          · clear k1_a_0 g1_a_0 k1_a_1 g1_a_1 k1_b_0 g1_b_0 k1_b_1 g1_b_1 k1_p_0 g1_p_0 k1_p_1 g1_p_1 B1 z1; rintro w' ⟨h0, h1, h2, h3, h4, h5, h6, h7, h8, h9, h10, h11⟩; go_simp
          · clear k1_a_0 g1_a_0 k1_a_1 g1_a_1 k1_b_0 g1_b_0 k1_b_1 g1_b_1 k1_p_0 g1_p_0 k1_p_1 g1_p_1 B1 z1; rintro w' ⟨h0, h1, h2, h3, h4, h5, h6, h7, h8, h9, h10, h11⟩; go_simp
          rintro w2 ⟨h0, h1, h2, h3, h4, h5, h6, h7, h8, h9, h10, h11⟩ hb2 hF
          have lga : w1.heap.size ≤ gg 6 := hF.1.1
          have uga : gg 6 < w2.heap.size := hF.1.2.1
          have pga : w2.heap[gg 6]? = some (.cells #[.int .i64 0, .int .i64 0] 23) := hF.1.2.2
          have nga_gb : ¬ gg 6 = gg 7 := hF.2.1 (7, .cells #[.int .i64 0, .int .i64 0] 23) (by simp)
          have nga_gc : ¬ gg 6 = gg 8 := hF.2.1 (8, .cells #[.int .i64 0, .int .i64 0] 23) (by simp)
          have lgb : w1.heap.size ≤ gg 7 := hF.2.2.1.1
          have ugb : gg 7 < w2.heap.size := hF.2.2.1.2.1
          have pgb : w2.heap[gg 7]? = some (.cells #[.int .i64 0, .int .i64 0] 23) := hF.2.2.1.2.2
          have ngb_gc : ¬ gg 7 = gg 8 := hF.2.2.2.1 (8, .cells #[.int .i64 0, .int .i64 0] 23) (by simp)
          have lgc : w1.heap.size ≤ gg 8 := hF.2.2.2.2.1.1
          have ugc : gg 8 < w2.heap.size := hF.2.2.2.2.1.2.1
          have pgc : w2.heap[gg 8]? = some (.cells #[.int .i64 0, .int .i64 0] 23) := hF.2.2.2.2.1.2.2
          clear hF
          obtain ⟨ga, ega⟩ : ∃ x, gg 6 = x := ⟨_, rfl⟩
          rw [ega] at lga uga pga nga_gb nga_gc ⊢
          clear ega
          obtain ⟨gb, egb⟩ : ∃ x, gg 7 = x := ⟨_, rfl⟩
          rw [egb] at lgb ugb pgb nga_gb ngb_gc ⊢
          clear egb
          obtain ⟨gc, egc⟩ : ∃ x, gg 8 = x := ⟨_, rfl⟩
          rw [egc] at lgc ugc pgc nga_gc ngb_gc ⊢
          clear egc
          clear gg
          have k2_a_0 := bcs hb2 k1_a_0
          have g2_a_0 := bfs hb2 k1_a_0 g1_a_0
          have k2_a_1 := bcs hb2 k1_a_1
          have g2_a_1 := bfs hb2 k1_a_1 g1_a_1
          have k2_b_0 := bcs hb2 k1_b_0
          have g2_b_0 := bfs hb2 k1_b_0 g1_b_0
          have k2_b_1 := bcs hb2 k1_b_1
          have g2_b_1 := bfs hb2 k1_b_1 g1_b_1
          have k2_p_0 := bcs hb2 k1_p_0
          have g2_p_0 := bfs hb2 k1_p_0 g1_p_0
          have k2_p_1 := bcs hb2 k1_p_1
          have g2_p_1 := bfs hb2 k1_p_1 g1_p_1
          clear h0 h1 h2 h3 h4 h5 h6 h7 h8 h9 h10 h11
          have B2 := bel_step B1 hb2
          have z2 := Nat.le_trans z1 hb2.size
          have mga : w.heap.size ≤ ga := by omega
          have nga_a : ¬ ga = w.heap.size := by omega
          have na_ga : ¬ w.heap.size = ga := by omega
          have nga_b : ¬ ga = w.heap.size + 1 := by omega
          have nb_ga : ¬ w.heap.size + 1 = ga := by omega
          have nga_p : ¬ ga = w.heap.size + 1 + 1 := by omega
          have np_ga : ¬ w.heap.size + 1 + 1 = ga := by omega
          have k2_ga_0 : w2.cell? ⟨ga, 0, none⟩ = some (.int .i64 0) := cob pga 0 rfl
          have g2_ga_0 : w2.frozen? ⟨ga, 0, none⟩ = false := fob pga 0
          have k2_ga_1 : w2.cell? ⟨ga, 1, none⟩ = some (.int .i64 0) := cob pga 1 rfl
          have g2_ga_1 : w2.frozen? ⟨ga, 1, none⟩ = false := fob pga 1
          have mgb : w.heap.size ≤ gb := by omega
          have ngb_a : ¬ gb = w.heap.size := by omega
          have na_gb : ¬ w.heap.size = gb := by omega
          have ngb_b : ¬ gb = w.heap.size + 1 := by omega
          have nb_gb : ¬ w.heap.size + 1 = gb := by omega
          have ngb_p : ¬ gb = w.heap.size + 1 + 1 := by omega
          have np_gb : ¬ w.heap.size + 1 + 1 = gb := by omega
          have k2_gb_0 : w2.cell? ⟨gb, 0, none⟩ = some (.int .i64 0) := cob pgb 0 rfl
          have g2_gb_0 : w2.frozen? ⟨gb, 0, none⟩ = false := fob pgb 0
          have k2_gb_1 : w2.cell? ⟨gb, 1, none⟩ = some (.int .i64 0) := cob pgb 1 rfl
          have g2_gb_1 : w2.frozen? ⟨gb, 1, none⟩ = false := fob pgb 1
          have mgc : w.heap.size ≤ gc := by omega
          have ngc_a : ¬ gc = w.heap.size := by omega
          have na_gc : ¬ w.heap.size = gc := by omega
          have ngc_b : ¬ gc = w.heap.size + 1 := by omega
          have nb_gc : ¬ w.heap.size + 1 = gc := by omega
          have ngc_p : ¬ gc = w.heap.size + 1 + 1 := by omega
          have np_gc : ¬ w.heap.size + 1 + 1 = gc := by omega
          have k2_gc_0 : w2.cell? ⟨gc, 0, none⟩ = some (.int .i64 0) := cob pgc 0 rfl
          have g2_gc_0 : w2.frozen? ⟨gc, 0, none⟩ = false := fob pgc 0
          have k2_gc_1 : w2.cell? ⟨gc, 1, none⟩ = some (.int .i64 0) := cob pgc 1 rfl
          have g2_gc_1 : w2.frozen? ⟨gc, 1, none⟩ = false := fob pgc 1
          have ngb_ga : ¬ gb = ga := fun h => nga_gb h.symm
          have ngc_ga : ¬ gc = ga := fun h => nga_gc h.symm
          have ngc_gb : ¬ gc = gb := fun h => ngb_gc h.symm
          clear lga uga pga
          clear lgb ugb pgb
          clear lgc ugc pgc
          clear hb2
          (try clear B1)
          (try clear z1)
          (try clear k1_a_0)
          (try clear g1_a_0)
          (try clear k1_a_1)
          (try clear g1_a_1)
          (try clear k1_b_0)
          (try clear g1_b_0)
          (try clear k1_b_1)
          (try clear g1_b_1)
          (try clear k1_p_0)
          (try clear g1_p_0)
          (try clear k1_p_1)
          (try clear g1_p_1)
          (try clear q1_a)
          (try clear x1_a)
          (try clear y1_a)
          (try clear q1_b)
          (try clear x1_b)
          (try clear y1_b)
          (try clear q1_p)
          (try clear x1_p)
          (try clear y1_p)
          have q2_a : w.heap.size < w2.heap.size := qlt k2_a_0
          have x2_a : ¬ w.heap.size = w2.heap.size := qne k2_a_0
          have y2_a : ¬ w2.heap.size = w.heap.size := fun h => qne k2_a_0 h.symm
          have q2_b : w.heap.size + 1 < w2.heap.size := qlt k2_b_0
          have x2_b : ¬ w.heap.size + 1 = w2.heap.size := qne k2_b_0
          have y2_b : ¬ w2.heap.size = w.heap.size + 1 := fun h => qne k2_b_0 h.symm
          have q2_p : w.heap.size + 1 + 1 < w2.heap.size := qlt k2_p_0
          have x2_p : ¬ w.heap.size + 1 + 1 = w2.heap.size := qne k2_p_0
          have y2_p : ¬ w2.heap.size = w.heap.size + 1 + 1 := fun h => qne k2_p_0 h.symm
          have q2_ga : ga < w2.heap.size := qlt k2_ga_0
          have x2_ga : ¬ ga = w2.heap.size := qne k2_ga_0
          have y2_ga : ¬ w2.heap.size = ga := fun h => qne k2_ga_0 h.symm
          have q2_gb : gb < w2.heap.size := qlt k2_gb_0
          have x2_gb : ¬ gb = w2.heap.size := qne k2_gb_0
          have y2_gb : ¬ w2.heap.size = gb := fun h => qne k2_gb_0 h.symm
          have q2_gc : gc < w2.heap.size := qlt k2_gc_0
          have x2_gc : ¬ gc = w2.heap.size := qne k2_gc_0
          have y2_gc : ¬ w2.heap.size = gc := fun h => qne k2_gc_0 h.symm
          go_wp2_with (first | (go_at_call 27; (with_reducible refine (c1 _).mono ?_); rintro e w3 ⟨rfl, hb3⟩; have k3_a_0 : w3.cell? ⟨w.heap.size, 0, none⟩ = some (.int .i64 x) := bcs hb3 (by go_simp); have g3_a_0 : w3.frozen? ⟨w.heap.size, 0, none⟩ = false := bfs hb3 (v := .int .i64 x) (by go_simp) (by go_simp); have k3_a_1 : w3.cell? ⟨w.heap.size, 1, none⟩ = some (.int .i64 y) := bcs hb3 (by go_simp); have g3_a_1 : w3.frozen? ⟨w.heap.size, 1, none⟩ = false := bfs hb3 (v := .int .i64 y) (by go_simp) (by go_simp); have k3_b_0 : w3.cell? ⟨w.heap.size + 1, 0, none⟩ = some (.int .i64 u) := bcs hb3 (by go_simp); have g3_b_0 : w3.frozen? ⟨w.heap.size + 1, 0, none⟩ = false := bfs hb3 (v := .int .i64 u) (by go_simp) (by go_simp); have k3_b_1 : w3.cell? ⟨w.heap.size + 1, 1, none⟩ = some (.int .i64 v) := bcs hb3 (by go_simp); have g3_b_1 : w3.frozen? ⟨w.heap.size + 1, 1, none⟩ = false := bfs hb3 (v := .int .i64 v) (by go_simp) (by go_simp); have k3_p_0 : w3.cell? ⟨w.heap.size + 1 + 1, 0, none⟩ = some (.int .i64 s) := bcs hb3 (by go_simp); have g3_p_0 : w3.frozen? ⟨w.heap.size + 1 + 1, 0, none⟩ = false := bfs hb3 (v := .int .i64 s) (by go_simp) (by go_simp); have k3_p_1 : w3.cell? ⟨w.heap.size + 1 + 1, 1, none⟩ = some (.int .i64 t) := bcs hb3 (by go_simp); have g3_p_1 : w3.frozen? ⟨w.heap.size + 1 + 1, 1, none⟩ = false := bfs hb3 (v := .int .i64 t) (by go_simp) (by go_simp); have k3_ga_0 : w3.cell? ⟨ga, 0, none⟩ = some (.int .i64 (hold x)) := bcs hb3 (by go_simp); have g3_ga_0 : w3.frozen? ⟨ga, 0, none⟩ = false := bfs hb3 (v := .int .i64 (hold x)) (by go_simp) (by go_simp); have k3_ga_1 : w3.cell? ⟨ga, 1, none⟩ = some (.int .i64 (hold y)) := bcs hb3 (by go_simp); have g3_ga_1 : w3.frozen? ⟨ga, 1, none⟩ = false := bfs hb3 (v := .int .i64 (hold y)) (by go_simp) (by go_simp); have k3_gb_0 : w3.cell? ⟨gb, 0, none⟩ = some (.int .i64 (hold u)) := bcs hb3 (by go_simp); have g3_gb_0 : w3.frozen? ⟨gb, 0, none⟩ = false := bfs hb3 (v := .int .i64 (hold u)) (by go_simp) (by go_simp); have k3_gb_1 : w3.cell? ⟨gb, 1, none⟩ = some (.int .i64 (hold v)) := bcs hb3 (by go_simp); have g3_gb_1 : w3.frozen? ⟨gb, 1, none⟩ = false := bfs hb3 (v := .int .i64 (hold v)) (by go_simp) (by go_simp); have k3_gc_0 : w3.cell? ⟨gc, 0, none⟩ = some (.int .i64 (hold s)) := bcs hb3 (by go_simp); have g3_gc_0 : w3.frozen? ⟨gc, 0, none⟩ = false := bfs hb3 (v := .int .i64 (hold s)) (by go_simp) (by go_simp); have k3_gc_1 : w3.cell? ⟨gc, 1, none⟩ = some (.int .i64 (hold t)) := bcs hb3 (by go_simp); have g3_gc_1 : w3.frozen? ⟨gc, 1, none⟩ = false := bfs hb3 (v := .int .i64 (hold t)) (by go_simp) (by go_simp); have q3_a : w.heap.size < w3.heap.size := qlt k3_a_0; have x3_a : ¬ w.heap.size = w3.heap.size := qne k3_a_0; have y3_a : ¬ w3.heap.size = w.heap.size := fun h => qne k3_a_0 h.symm; have q3_b : w.heap.size + 1 < w3.heap.size := qlt k3_b_0; have x3_b : ¬ w.heap.size + 1 = w3.heap.size := qne k3_b_0; have y3_b : ¬ w3.heap.size = w.heap.size + 1 := fun h => qne k3_b_0 h.symm; have q3_p : w.heap.size + 1 + 1 < w3.heap.size := qlt k3_p_0; have x3_p : ¬ w.heap.size + 1 + 1 = w3.heap.size := qne k3_p_0; have y3_p : ¬ w3.heap.size = w.heap.size + 1 + 1 := fun h => qne k3_p_0 h.symm; have q3_ga : ga < w3.heap.size := qlt k3_ga_0; have x3_ga : ¬ ga = w3.heap.size := qne k3_ga_0; have y3_ga : ¬ w3.heap.size = ga := fun h => qne k3_ga_0 h.symm; have q3_gb : gb < w3.heap.size := qlt k3_gb_0; have x3_gb : ¬ gb = w3.heap.size := qne k3_gb_0; have y3_gb : ¬ w3.heap.size = gb := fun h => qne k3_gb_0 h.symm; have q3_gc : gc < w3.heap.size := qlt k3_gc_0; have x3_gc : ¬ gc = w3.heap.size := qne k3_gc_0; have y3_gc : ¬ w3.heap.size = gc := fun h => qne k3_gc_0 h.symm; have B3 : Below w.heap.size w w3 := bel_step (by repeat (first | with_reducible exact Below.refl _ _ | with_reducible exact B2 | with_reducible apply below_drewN | with_reducible apply Below.drew | (with_reducible refine Below.alloc ?_ (by first | (simp; done) | (simp; omega) | omega) _) | (with_reducible refine Below.setCell ?_ (by first | (simp; done) | (simp; omega) | omega) _))) hb3; have z3 : w.heap.size + 1 + 1 + 1 ≤ w3.heap.size := Nat.le_trans (by first | with_reducible assumption | (simp; done) | (simp; omega)) hb3.size; clear hb3; (try clear k2_a_0); (try clear g2_a_0); (try clear k2_a_1); (try clear g2_a_1); (try clear k2_b_0); (try clear g2_b_0); (try clear k2_b_1); (try clear g2_b_1); (try clear k2_p_0); (try clear g2_p_0); (try clear k2_p_1); (try clear g2_p_1); (try clear k2_ga_0); (try clear g2_ga_0); (try clear k2_ga_1); (try clear g2_ga_1); (try clear k2_gb_0); (try clear g2_gb_0); (try clear k2_gb_1); (try clear g2_gb_1); (try clear k2_gc_0); (try clear g2_gc_0); (try clear k2_gc_1); (try clear g2_gc_1); (try clear B2); (try clear z2); (try clear q2_a); (try clear x2_a); (try clear y2_a); (try clear q2_b); (try clear x2_b); (try clear y2_b); (try clear q2_p); (try clear x2_p); (try clear y2_p); (try clear q2_ga); (try clear x2_ga); (try clear y2_ga); (try clear q2_gb); (try clear x2_gb); (try clear y2_gb); (try clear q2_gc); (try clear x2_gc); (try clear y2_gc)))
          go_ret
          refine ⟨rfl, ?_⟩
          repeat (first | with_reducible exact Below.refl _ _ | with_reducible exact B3 | with_reducible apply below_drewN | with_reducible apply Below.drew | (with_reducible refine Below.alloc ?_ (by first | (simp; done) | (simp; omega) | omega) _) | (with_reducible refine Below.setCell ?_ (by first | (simp; done) | (simp; omega) | omega) _))
      · rw [decide_eq_false (fun h => h3 h.1.2)]
        have dd := decide_eq_false h3
        go_enter Try.func29, Try.ntmps29
        go_wp2
        refine wp_region_ord (fun w' => w'.cell? ⟨w.heap.size, 0, none⟩ = some (.int .i64 x) ∧ w'.frozen? ⟨w.heap.size, 0, none⟩ = false ∧ w'.cell? ⟨w.heap.size, 1, none⟩ = some (.int .i64 y) ∧ w'.frozen? ⟨w.heap.size, 1, none⟩ = false ∧ w'.cell? ⟨w.heap.size + 1, 0, none⟩ = some (.int .i64 u) ∧ w'.frozen? ⟨w.heap.size + 1, 0, none⟩ = false ∧ w'.cell? ⟨w.heap.size + 1, 1, none⟩ = some (.int .i64 v) ∧ w'.frozen? ⟨w.heap.size + 1, 1, none⟩ = false ∧ w'.cell? ⟨w.heap.size + 1 + 1, 0, none⟩ = some (.int .i64 s) ∧ w'.frozen? ⟨w.heap.size + 1 + 1, 0, none⟩ = false ∧ w'.cell? ⟨w.heap.size + 1 + 1, 1, none⟩ = some (.int .i64 t) ∧ w'.frozen? ⟨w.heap.size + 1 + 1, 1, none⟩ = false) (fun W => W.cell? ⟨w.heap.size, 0, none⟩ = some (.int .i64 x) ∧ W.frozen? ⟨w.heap.size, 0, none⟩ = false ∧ W.cell? ⟨w.heap.size, 1, none⟩ = some (.int .i64 y) ∧ W.frozen? ⟨w.heap.size, 1, none⟩ = false ∧ W.cell? ⟨w.heap.size + 1, 0, none⟩ = some (.int .i64 u) ∧ W.frozen? ⟨w.heap.size + 1, 0, none⟩ = false ∧ W.cell? ⟨w.heap.size + 1, 1, none⟩ = some (.int .i64 v) ∧ W.frozen? ⟨w.heap.size + 1, 1, none⟩ = false ∧ W.cell? ⟨w.heap.size + 1 + 1, 0, none⟩ = some (.int .i64 s) ∧ W.frozen? ⟨w.heap.size + 1 + 1, 0, none⟩ = false ∧ W.cell? ⟨w.heap.size + 1 + 1, 1, none⟩ = some (.int .i64 t) ∧ W.frozen? ⟨w.heap.size + 1 + 1, 1, none⟩ = false ∧ Below w.heap.size w W ∧ w.heap.size + 1 + 1 + 1 ≤ W.heap.size) 9 [.val (.agg #[.int .i64 x, .int .i64 y]), .call 34 #[.agg #[.int .i64 x, .int .i64 y]] (.agg #[.int .i64 (hold x), .int .i64 (hold y)]), .val (.agg #[.int .i64 u, .int .i64 v]), .call 34 #[.agg #[.int .i64 u, .int .i64 v]] (.agg #[.int .i64 (hold u), .int .i64 (hold v)]), .val (.agg #[.int .i64 s, .int .i64 t]), .call 34 #[.agg #[.int .i64 s, .int .i64 t]] (.agg #[.int .i64 (hold s), .int .i64 (hold t)]), .fresh (.cells #[.int .i64 0, .int .i64 0] 23), .fresh (.cells #[.int .i64 0, .int .i64 0] 23), .fresh (.cells #[.int .i64 0, .int .i64 0] 23)] (by kernel_rfl) (by kernel_rfl) (by rintro w1 w2 ⟨h0, h1, h2, h3, h4, h5, h6, h7, h8, h9, h10, h11⟩ hb; exact ⟨bcs hb h0, bfs hb h0 h1, bcs hb h2, bfs hb h2 h3, bcs hb h4, bfs hb h4 h5, bcs hb h6, bfs hb h6 h7, bcs hb h8, bfs hb h8 h9, bcs hb h10, bfs hb h10 h11⟩) ⟨by first | with_reducible assumption | go_simp, by first | with_reducible assumption | go_simp, by first | with_reducible assumption | go_simp, by first | with_reducible assumption | go_simp, by first | with_reducible assumption | go_simp, by first | with_reducible assumption | go_simp, by first | with_reducible assumption | go_simp, by first | with_reducible assumption | go_simp, by first | with_reducible assumption | go_simp, by first | with_reducible assumption | go_simp, by first | with_reducible assumption | go_simp, by first | with_reducible assumption | go_simp, by repeat (first | with_reducible exact Below.refl _ _ | fail | with_reducible apply below_drewN | with_reducible apply Below.drew | (with_reducible refine Below.alloc ?_ (by first | (simp; done) | (simp; omega) | omega) _) | (with_reducible refine Below.setCell ?_ (by first | (simp; done) | (simp; omega) | omega) _)), by first | with_reducible assumption | (simp; done) | (simp; omega)⟩ ?_ ?_
        · rintro W ⟨k1_a_0, g1_a_0, k1_a_1, g1_a_1, k1_b_0, g1_b_0, k1_b_1, g1_b_1, k1_p_0, g1_p_0, k1_p_1, g1_p_1, B1, z1⟩; exact ⟨k1_a_0, g1_a_0, k1_a_1, g1_a_1, k1_b_0, g1_b_0, k1_b_1, g1_b_1, k1_p_0, g1_p_0, k1_p_1, g1_p_1⟩
        rintro w1 ⟨k1_a_0, g1_a_0, k1_a_1, g1_a_1, k1_b_0, g1_b_0, k1_b_1, g1_b_1, k1_p_0, g1_p_0, k1_p_1, g1_p_1, B1, z1⟩ gg
        simp only [List.take_succ_cons, List.take_zero, List.drop_succ_cons, List.drop_zero, Obs, ob, Sp.get, Sp.news, Act.put, List.setIfInBounds_toArray, List.set_cons_zero, List.set_cons_succ, List.nil_append, List.cons_append, List.append_nil]
        refine ⟨⟨rfl, ?_⟩, ⟨rfl, ?_, ?_⟩, ⟨rfl, ?_⟩, ⟨rfl, ?_, ?_⟩, ⟨rfl, ?_⟩, ⟨rfl, ?_, ?_⟩, ⟨rfl, ?_⟩, ⟨rfl, ?_⟩, ⟨rfl, ?_⟩, ?_⟩
        · clear k1_a_0 g1_a_0 k1_a_1 g1_a_1 k1_b_0 g1_b_0 k1_b_1 g1_b_1 k1_p_0 g1_p_0 k1_p_1 g1_p_1 B1 z1; rintro w' ⟨h0, h1, h2, h3, h4, h5, h6, h7, h8, h9, h10, h11⟩; go_simp; try exact IntWalk.i64_in _ (by omega)
        · clear k1_a_0 g1_a_0 k1_a_1 g1_a_1 k1_b_0 g1_b_0 k1_b_1 g1_b_1 k1_p_0 g1_p_0 k1_p_1 g1_p_1 B1 z1; rintro w' ⟨h0, h1, h2, h3, h4, h5, h6, h7, h8, h9, h10, h11⟩; go_simp
        · clear k1_a_0 g1_a_0 k1_a_1 g1_a_1 k1_b_0 g1_b_0 k1_b_1 g1_b_1 k1_p_0 g1_p_0 k1_p_1 g1_p_1 B1 z1; rintro w' ⟨h0, h1, h2, h3, h4, h5, h6, h7, h8, h9, h10, h11⟩; exact hold_any x y _
        · clear k1_a_0 g1_a_0 k1_a_1 g1_a_1 k1_b_0 g1_b_0 k1_b_1 g1_b_1 k1_p_0 g1_p_0 k1_p_1 g1_p_1 B1 z1; rintro w' ⟨h0, h1, h2, h3, h4, h5, h6, h7, h8, h9, h10, h11⟩; go_simp; try exact IntWalk.i64_in _ (by omega)
        · clear k1_a_0 g1_a_0 k1_a_1 g1_a_1 k1_b_0 g1_b_0 k1_b_1 g1_b_1 k1_p_0 g1_p_0 k1_p_1 g1_p_1 B1 z1; rintro w' ⟨h0, h1, h2, h3, h4, h5, h6, h7, h8, h9, h10, h11⟩; go_simp
        · clear k1_a_0 g1_a_0 k1_a_1 g1_a_1 k1_b_0 g1_b_0 k1_b_1 g1_b_1 k1_p_0 g1_p_0 k1_p_1 g1_p_1 B1 z1; rintro w' ⟨h0, h1, h2, h3, h4, h5, h6, h7, h8, h9, h10, h11⟩; exact hold_any u v _
        · clear k1_a_0 g1_a_0 k1_a_1 g1_a_1 k1_b_0 g1_b_0 k1_b_1 g1_b_1 k1_p_0 g1_p_0 k1_p_1 g1_p_1 B1 z1; rintro w' ⟨h0, h1, h2, h3, h4, h5, h6, h7, h8, h9, h10, h11⟩; go_simp; try exact IntWalk.i64_in _ (by omega)
        · clear k1_a_0 g1_a_0 k1_a_1 g1_a_1 k1_b_0 g1_b_0 k1_b_1 g1_b_1 k1_p_0 g1_p_0 k1_p_1 g1_p_1 B1 z1; rintro w' ⟨h0, h1, h2, h3, h4, h5, h6, h7, h8, h9, h10, h11⟩; go_simp
        · clear k1_a_0 g1_a_0 k1_a_1 g1_a_1 k1_b_0 g1_b_0 k1_b_1 g1_b_1 k1_p_0 g1_p_0 k1_p_1 g1_p_1 B1 z1; rintro w' ⟨h0, h1, h2, h3, h4, h5, h6, h7, h8, h9, h10, h11⟩; exact hold_any s t _
        · clear k1_a_0 g1_a_0 k1_a_1 g1_a_1 k1_b_0 g1_b_0 k1_b_1 g1_b_1 k1_p_0 g1_p_0 k1_p_1 g1_p_1 B1 z1; rintro w' ⟨h0, h1, h2, h3, h4, h5, h6, h7, h8, h9, h10, h11⟩; go_simp
        · clear k1_a_0 g1_a_0 k1_a_1 g1_a_1 k1_b_0 g1_b_0 k1_b_1 g1_b_1 k1_p_0 g1_p_0 k1_p_1 g1_p_1 B1 z1; rintro w' ⟨h0, h1, h2, h3, h4, h5, h6, h7, h8, h9, h10, h11⟩; go_simp
        · clear k1_a_0 g1_a_0 k1_a_1 g1_a_1 k1_b_0 g1_b_0 k1_b_1 g1_b_1 k1_p_0 g1_p_0 k1_p_1 g1_p_1 B1 z1; rintro w' ⟨h0, h1, h2, h3, h4, h5, h6, h7, h8, h9, h10, h11⟩; go_simp
        rintro w2 ⟨h0, h1, h2, h3, h4, h5, h6, h7, h8, h9, h10, h11⟩ hb2 hF
        have lga : w1.heap.size ≤ gg 6 := hF.1.1
        have uga : gg 6 < w2.heap.size := hF.1.2.1
        have pga : w2.heap[gg 6]? = some (.cells #[.int .i64 0, .int .i64 0] 23) := hF.1.2.2
        have nga_gb : ¬ gg 6 = gg 7 := hF.2.1 (7, .cells #[.int .i64 0, .int .i64 0] 23) (by simp)
        have nga_gc : ¬ gg 6 = gg 8 := hF.2.1 (8, .cells #[.int .i64 0, .int .i64 0] 23) (by simp)
        have lgb : w1.heap.size ≤ gg 7 := hF.2.2.1.1
        have ugb : gg 7 < w2.heap.size := hF.2.2.1.2.1
        have pgb : w2.heap[gg 7]? = some (.cells #[.int .i64 0, .int .i64 0] 23) := hF.2.2.1.2.2
        have ngb_gc : ¬ gg 7 = gg 8 := hF.2.2.2.1 (8, .cells #[.int .i64 0, .int .i64 0] 23) (by simp)
        have lgc : w1.heap.size ≤ gg 8 := hF.2.2.2.2.1.1
        have ugc : gg 8 < w2.heap.size := hF.2.2.2.2.1.2.1
        have pgc : w2.heap[gg 8]? = some (.cells #[.int .i64 0, .int .i64 0] 23) := hF.2.2.2.2.1.2.2
        clear hF
        obtain ⟨ga, ega⟩ : ∃ x, gg 6 = x := ⟨_, rfl⟩
        rw [ega] at lga uga pga nga_gb nga_gc ⊢
        clear ega
        obtain ⟨gb, egb⟩ : ∃ x, gg 7 = x := ⟨_, rfl⟩
        rw [egb] at lgb ugb pgb nga_gb ngb_gc ⊢
        clear egb
        obtain ⟨gc, egc⟩ : ∃ x, gg 8 = x := ⟨_, rfl⟩
        rw [egc] at lgc ugc pgc nga_gc ngb_gc ⊢
        clear egc
        clear gg
        have k2_a_0 := bcs hb2 k1_a_0
        have g2_a_0 := bfs hb2 k1_a_0 g1_a_0
        have k2_a_1 := bcs hb2 k1_a_1
        have g2_a_1 := bfs hb2 k1_a_1 g1_a_1
        have k2_b_0 := bcs hb2 k1_b_0
        have g2_b_0 := bfs hb2 k1_b_0 g1_b_0
        have k2_b_1 := bcs hb2 k1_b_1
        have g2_b_1 := bfs hb2 k1_b_1 g1_b_1
        have k2_p_0 := bcs hb2 k1_p_0
        have g2_p_0 := bfs hb2 k1_p_0 g1_p_0
        have k2_p_1 := bcs hb2 k1_p_1
        have g2_p_1 := bfs hb2 k1_p_1 g1_p_1
        clear h0 h1 h2 h3 h4 h5 h6 h7 h8 h9 h10 h11
        have B2 := bel_step B1 hb2
        have z2 := Nat.le_trans z1 hb2.size
        have mga : w.heap.size ≤ ga := by omega
        have nga_a : ¬ ga = w.heap.size := by omega
        have na_ga : ¬ w.heap.size = ga := by omega
        have nga_b : ¬ ga = w.heap.size + 1 := by omega
        have nb_ga : ¬ w.heap.size + 1 = ga := by omega
        have nga_p : ¬ ga = w.heap.size + 1 + 1 := by omega
        have np_ga : ¬ w.heap.size + 1 + 1 = ga := by omega
        have k2_ga_0 : w2.cell? ⟨ga, 0, none⟩ = some (.int .i64 0) := cob pga 0 rfl
        have g2_ga_0 : w2.frozen? ⟨ga, 0, none⟩ = false := fob pga 0
        have k2_ga_1 : w2.cell? ⟨ga, 1, none⟩ = some (.int .i64 0) := cob pga 1 rfl
        have g2_ga_1 : w2.frozen? ⟨ga, 1, none⟩ = false := fob pga 1
        have mgb : w.heap.size ≤ gb := by omega
        have ngb_a : ¬ gb = w.heap.size := by omega
        have na_gb : ¬ w.heap.size = gb := by omega
        have ngb_b : ¬ gb = w.heap.size + 1 := by omega
        have nb_gb : ¬ w.heap.size + 1 = gb := by omega
        have ngb_p : ¬ gb = w.heap.size + 1 + 1 := by omega
        have np_gb : ¬ w.heap.size + 1 + 1 = gb := by omega
        have k2_gb_0 : w2.cell? ⟨gb, 0, none⟩ = some (.int .i64 0) := cob pgb 0 rfl
        have g2_gb_0 : w2.frozen? ⟨gb, 0, none⟩ = false := fob pgb 0
        have k2_gb_1 : w2.cell? ⟨gb, 1, none⟩ = some (.int .i64 0) := cob pgb 1 rfl
        have g2_gb_1 : w2.frozen? ⟨gb, 1, none⟩ = false := fob pgb 1
        have mgc : w.heap.size ≤ gc := by omega
        have ngc_a : ¬ gc = w.heap.size := by omega
        have na_gc : ¬ w.heap.size = gc := by omega
        have ngc_b : ¬ gc = w.heap.size + 1 := by omega
        have nb_gc : ¬ w.heap.size + 1 = gc := by omega
        have ngc_p : ¬ gc = w.heap.size + 1 + 1 := by omega
        have np_gc : ¬ w.heap.size + 1 + 1 = gc := by omega
        have k2_gc_0 : w2.cell? ⟨gc, 0, none⟩ = some (.int .i64 0) := cob pgc 0 rfl
        have g2_gc_0 : w2.frozen? ⟨gc, 0, none⟩ = false := fob pgc 0
        have k2_gc_1 : w2.cell? ⟨gc, 1, none⟩ = some (.int .i64 0) := cob pgc 1 rfl
        have g2_gc_1 : w2.frozen? ⟨gc, 1, none⟩ = false := fob pgc 1
        have ngb_ga : ¬ gb = ga := fun h => nga_gb h.symm
        have ngc_ga : ¬ gc = ga := fun h => nga_gc h.symm
        have ngc_gb : ¬ gc = gb := fun h => ngb_gc h.symm
        clear lga uga pga
        clear lgb ugb pgb
        clear lgc ugc pgc
        clear hb2
        (try clear B1)
        (try clear z1)
        (try clear k1_a_0)
        (try clear g1_a_0)
        (try clear k1_a_1)
        (try clear g1_a_1)
        (try clear k1_b_0)
        (try clear g1_b_0)
        (try clear k1_b_1)
        (try clear g1_b_1)
        (try clear k1_p_0)
        (try clear g1_p_0)
        (try clear k1_p_1)
        (try clear g1_p_1)
        (try clear q1_a)
        (try clear x1_a)
        (try clear y1_a)
        (try clear q1_b)
        (try clear x1_b)
        (try clear y1_b)
        (try clear q1_p)
        (try clear x1_p)
        (try clear y1_p)
        have q2_a : w.heap.size < w2.heap.size := qlt k2_a_0
        have x2_a : ¬ w.heap.size = w2.heap.size := qne k2_a_0
        have y2_a : ¬ w2.heap.size = w.heap.size := fun h => qne k2_a_0 h.symm
        have q2_b : w.heap.size + 1 < w2.heap.size := qlt k2_b_0
        have x2_b : ¬ w.heap.size + 1 = w2.heap.size := qne k2_b_0
        have y2_b : ¬ w2.heap.size = w.heap.size + 1 := fun h => qne k2_b_0 h.symm
        have q2_p : w.heap.size + 1 + 1 < w2.heap.size := qlt k2_p_0
        have x2_p : ¬ w.heap.size + 1 + 1 = w2.heap.size := qne k2_p_0
        have y2_p : ¬ w2.heap.size = w.heap.size + 1 + 1 := fun h => qne k2_p_0 h.symm
        have q2_ga : ga < w2.heap.size := qlt k2_ga_0
        have x2_ga : ¬ ga = w2.heap.size := qne k2_ga_0
        have y2_ga : ¬ w2.heap.size = ga := fun h => qne k2_ga_0 h.symm
        have q2_gb : gb < w2.heap.size := qlt k2_gb_0
        have x2_gb : ¬ gb = w2.heap.size := qne k2_gb_0
        have y2_gb : ¬ w2.heap.size = gb := fun h => qne k2_gb_0 h.symm
        have q2_gc : gc < w2.heap.size := qlt k2_gc_0
        have x2_gc : ¬ gc = w2.heap.size := qne k2_gc_0
        have y2_gc : ¬ w2.heap.size = gc := fun h => qne k2_gc_0 h.symm
        go_wp2_with (first | (go_at_call 27; (with_reducible refine (c1 _).mono ?_); rintro e w3 ⟨rfl, hb3⟩; have k3_a_0 : w3.cell? ⟨w.heap.size, 0, none⟩ = some (.int .i64 x) := bcs hb3 (by go_simp); have g3_a_0 : w3.frozen? ⟨w.heap.size, 0, none⟩ = false := bfs hb3 (v := .int .i64 x) (by go_simp) (by go_simp); have k3_a_1 : w3.cell? ⟨w.heap.size, 1, none⟩ = some (.int .i64 y) := bcs hb3 (by go_simp); have g3_a_1 : w3.frozen? ⟨w.heap.size, 1, none⟩ = false := bfs hb3 (v := .int .i64 y) (by go_simp) (by go_simp); have k3_b_0 : w3.cell? ⟨w.heap.size + 1, 0, none⟩ = some (.int .i64 u) := bcs hb3 (by go_simp); have g3_b_0 : w3.frozen? ⟨w.heap.size + 1, 0, none⟩ = false := bfs hb3 (v := .int .i64 u) (by go_simp) (by go_simp); have k3_b_1 : w3.cell? ⟨w.heap.size + 1, 1, none⟩ = some (.int .i64 v) := bcs hb3 (by go_simp); have g3_b_1 : w3.frozen? ⟨w.heap.size + 1, 1, none⟩ = false := bfs hb3 (v := .int .i64 v) (by go_simp) (by go_simp); have k3_p_0 : w3.cell? ⟨w.heap.size + 1 + 1, 0, none⟩ = some (.int .i64 s) := bcs hb3 (by go_simp); have g3_p_0 : w3.frozen? ⟨w.heap.size + 1 + 1, 0, none⟩ = false := bfs hb3 (v := .int .i64 s) (by go_simp) (by go_simp); have k3_p_1 : w3.cell? ⟨w.heap.size + 1 + 1, 1, none⟩ = some (.int .i64 t) := bcs hb3 (by go_simp); have g3_p_1 : w3.frozen? ⟨w.heap.size + 1 + 1, 1, none⟩ = false := bfs hb3 (v := .int .i64 t) (by go_simp) (by go_simp); have k3_ga_0 : w3.cell? ⟨ga, 0, none⟩ = some (.int .i64 (hold x)) := bcs hb3 (by go_simp); have g3_ga_0 : w3.frozen? ⟨ga, 0, none⟩ = false := bfs hb3 (v := .int .i64 (hold x)) (by go_simp) (by go_simp); have k3_ga_1 : w3.cell? ⟨ga, 1, none⟩ = some (.int .i64 (hold y)) := bcs hb3 (by go_simp); have g3_ga_1 : w3.frozen? ⟨ga, 1, none⟩ = false := bfs hb3 (v := .int .i64 (hold y)) (by go_simp) (by go_simp); have k3_gb_0 : w3.cell? ⟨gb, 0, none⟩ = some (.int .i64 (hold u)) := bcs hb3 (by go_simp); have g3_gb_0 : w3.frozen? ⟨gb, 0, none⟩ = false := bfs hb3 (v := .int .i64 (hold u)) (by go_simp) (by go_simp); have k3_gb_1 : w3.cell? ⟨gb, 1, none⟩ = some (.int .i64 (hold v)) := bcs hb3 (by go_simp); have g3_gb_1 : w3.frozen? ⟨gb, 1, none⟩ = false := bfs hb3 (v := .int .i64 (hold v)) (by go_simp) (by go_simp); have k3_gc_0 : w3.cell? ⟨gc, 0, none⟩ = some (.int .i64 (hold s)) := bcs hb3 (by go_simp); have g3_gc_0 : w3.frozen? ⟨gc, 0, none⟩ = false := bfs hb3 (v := .int .i64 (hold s)) (by go_simp) (by go_simp); have k3_gc_1 : w3.cell? ⟨gc, 1, none⟩ = some (.int .i64 (hold t)) := bcs hb3 (by go_simp); have g3_gc_1 : w3.frozen? ⟨gc, 1, none⟩ = false := bfs hb3 (v := .int .i64 (hold t)) (by go_simp) (by go_simp); have q3_a : w.heap.size < w3.heap.size := qlt k3_a_0; have x3_a : ¬ w.heap.size = w3.heap.size := qne k3_a_0; have y3_a : ¬ w3.heap.size = w.heap.size := fun h => qne k3_a_0 h.symm; have q3_b : w.heap.size + 1 < w3.heap.size := qlt k3_b_0; have x3_b : ¬ w.heap.size + 1 = w3.heap.size := qne k3_b_0; have y3_b : ¬ w3.heap.size = w.heap.size + 1 := fun h => qne k3_b_0 h.symm; have q3_p : w.heap.size + 1 + 1 < w3.heap.size := qlt k3_p_0; have x3_p : ¬ w.heap.size + 1 + 1 = w3.heap.size := qne k3_p_0; have y3_p : ¬ w3.heap.size = w.heap.size + 1 + 1 := fun h => qne k3_p_0 h.symm; have q3_ga : ga < w3.heap.size := qlt k3_ga_0; have x3_ga : ¬ ga = w3.heap.size := qne k3_ga_0; have y3_ga : ¬ w3.heap.size = ga := fun h => qne k3_ga_0 h.symm; have q3_gb : gb < w3.heap.size := qlt k3_gb_0; have x3_gb : ¬ gb = w3.heap.size := qne k3_gb_0; have y3_gb : ¬ w3.heap.size = gb := fun h => qne k3_gb_0 h.symm; have q3_gc : gc < w3.heap.size := qlt k3_gc_0; have x3_gc : ¬ gc = w3.heap.size := qne k3_gc_0; have y3_gc : ¬ w3.heap.size = gc := fun h => qne k3_gc_0 h.symm; have B3 : Below w.heap.size w w3 := bel_step (by repeat (first | with_reducible exact Below.refl _ _ | with_reducible exact B2 | with_reducible apply below_drewN | with_reducible apply Below.drew | (with_reducible refine Below.alloc ?_ (by first | (simp; done) | (simp; omega) | omega) _) | (with_reducible refine Below.setCell ?_ (by first | (simp; done) | (simp; omega) | omega) _))) hb3; have z3 : w.heap.size + 1 + 1 + 1 ≤ w3.heap.size := Nat.le_trans (by first | with_reducible assumption | (simp; done) | (simp; omega)) hb3.size; clear hb3; (try clear k2_a_0); (try clear g2_a_0); (try clear k2_a_1); (try clear g2_a_1); (try clear k2_b_0); (try clear g2_b_0); (try clear k2_b_1); (try clear g2_b_1); (try clear k2_p_0); (try clear g2_p_0); (try clear k2_p_1); (try clear g2_p_1); (try clear k2_ga_0); (try clear g2_ga_0); (try clear k2_ga_1); (try clear g2_ga_1); (try clear k2_gb_0); (try clear g2_gb_0); (try clear k2_gb_1); (try clear g2_gb_1); (try clear k2_gc_0); (try clear g2_gc_0); (try clear k2_gc_1); (try clear g2_gc_1); (try clear B2); (try clear z2); (try clear q2_a); (try clear x2_a); (try clear y2_a); (try clear q2_b); (try clear x2_b); (try clear y2_b); (try clear q2_p); (try clear x2_p); (try clear y2_p); (try clear q2_ga); (try clear x2_ga); (try clear y2_ga); (try clear q2_gb); (try clear x2_gb); (try clear y2_gb); (try clear q2_gc); (try clear x2_gc); (try clear y2_gc)))
        go_ret
        refine ⟨rfl, ?_⟩
        repeat (first | with_reducible exact Below.refl _ _ | with_reducible exact B3 | with_reducible apply below_drewN | with_reducible apply Below.drew | (with_reducible refine Below.alloc ?_ (by first | (simp; done) | (simp; omega) | omega) _) | (with_reducible refine Below.setCell ?_ (by first | (simp; done) | (simp; omega) | omega) _))
    · rw [decide_eq_false (fun h => h2 h.1.1)]
      have dd := decide_eq_false h2
      go_enter Try.func29, Try.ntmps29
      go_wp2
      refine wp_region_ord (fun w' => w'.cell? ⟨w.heap.size, 0, none⟩ = some (.int .i64 x) ∧ w'.frozen? ⟨w.heap.size, 0, none⟩ = false ∧ w'.cell? ⟨w.heap.size, 1, none⟩ = some (.int .i64 y) ∧ w'.frozen? ⟨w.heap.size, 1, none⟩ = false ∧ w'.cell? ⟨w.heap.size + 1, 0, none⟩ = some (.int .i64 u) ∧ w'.frozen? ⟨w.heap.size + 1, 0, none⟩ = false ∧ w'.cell? ⟨w.heap.size + 1, 1, none⟩ = some (.int .i64 v) ∧ w'.frozen? ⟨w.heap.size + 1, 1, none⟩ = false ∧ w'.cell? ⟨w.heap.size + 1 + 1, 0, none⟩ = some (.int .i64 s) ∧ w'.frozen? ⟨w.heap.size + 1 + 1, 0, none⟩ = false ∧ w'.cell? ⟨w.heap.size + 1 + 1, 1, none⟩ = some (.int .i64 t) ∧ w'.frozen? ⟨w.heap.size + 1 + 1, 1, none⟩ = false) (fun W => W.cell? ⟨w.heap.size, 0, none⟩ = some (.int .i64 x) ∧ W.frozen? ⟨w.heap.size, 0, none⟩ = false ∧ W.cell? ⟨w.heap.size, 1, none⟩ = some (.int .i64 y) ∧ W.frozen? ⟨w.heap.size, 1, none⟩ = false ∧ W.cell? ⟨w.heap.size + 1, 0, none⟩ = some (.int .i64 u) ∧ W.frozen? ⟨w.heap.size + 1, 0, none⟩ = false ∧ W.cell? ⟨w.heap.size + 1, 1, none⟩ = some (.int .i64 v) ∧ W.frozen? ⟨w.heap.size + 1, 1, none⟩ = false ∧ W.cell? ⟨w.heap.size + 1 + 1, 0, none⟩ = some (.int .i64 s) ∧ W.frozen? ⟨w.heap.size + 1 + 1, 0, none⟩ = false ∧ W.cell? ⟨w.heap.size + 1 + 1, 1, none⟩ = some (.int .i64 t) ∧ W.frozen? ⟨w.heap.size + 1 + 1, 1, none⟩ = false ∧ Below w.heap.size w W ∧ w.heap.size + 1 + 1 + 1 ≤ W.heap.size) 9 [.val (.agg #[.int .i64 x, .int .i64 y]), .call 34 #[.agg #[.int .i64 x, .int .i64 y]] (.agg #[.int .i64 (hold x), .int .i64 (hold y)]), .val (.agg #[.int .i64 u, .int .i64 v]), .call 34 #[.agg #[.int .i64 u, .int .i64 v]] (.agg #[.int .i64 (hold u), .int .i64 (hold v)]), .val (.agg #[.int .i64 s, .int .i64 t]), .call 34 #[.agg #[.int .i64 s, .int .i64 t]] (.agg #[.int .i64 (hold s), .int .i64 (hold t)]), .fresh (.cells #[.int .i64 0, .int .i64 0] 23), .fresh (.cells #[.int .i64 0, .int .i64 0] 23), .fresh (.cells #[.int .i64 0, .int .i64 0] 23)] (by kernel_rfl) (by kernel_rfl) (by rintro w1 w2 ⟨h0, h1, h2, h3, h4, h5, h6, h7, h8, h9, h10, h11⟩ hb; exact ⟨bcs hb h0, bfs hb h0 h1, bcs hb h2, bfs hb h2 h3, bcs hb h4, bfs hb h4 h5, bcs hb h6, bfs hb h6 h7, bcs hb h8, bfs hb h8 h9, bcs hb h10, bfs hb h10 h11⟩) ⟨by first | with_reducible assumption | go_simp, by first | with_reducible assumption | go_simp, by first | with_reducible assumption | go_simp, by first | with_reducible assumption | go_simp, by first | with_reducible assumption | go_simp, by first | with_reducible assumption | go_simp, by first | with_reducible assumption | go_simp, by first | with_reducible assumption | go_simp, by first | with_reducible assumption | go_simp, by first | with_reducible assumption | go_simp, by first | with_reducible assumption | go_simp, by first | with_reducible assumption | go_simp, by repeat (first | with_reducible exact Below.refl _ _ | fail | with_reducible apply below_drewN | with_reducible apply Below.drew | (with_reducible refine Below.alloc ?_ (by first | (simp; done) | (simp; omega) | omega) _) | (with_reducible refine Below.setCell ?_ (by first | (simp; done) | (simp; omega) | omega) _)), by first | with_reducible assumption | (simp; done) | (simp; omega)⟩ ?_ ?_
      · rintro W ⟨k1_a_0, g1_a_0, k1_a_1, g1_a_1, k1_b_0, g1_b_0, k1_b_1, g1_b_1, k1_p_0, g1_p_0, k1_p_1, g1_p_1, B1, z1⟩; exact ⟨k1_a_0, g1_a_0, k1_a_1, g1_a_1, k1_b_0, g1_b_0, k1_b_1, g1_b_1, k1_p_0, g1_p_0, k1_p_1, g1_p_1⟩
      rintro w1 ⟨k1_a_0, g1_a_0, k1_a_1, g1_a_1, k1_b_0, g1_b_0, k1_b_1, g1_b_1, k1_p_0, g1_p_0, k1_p_1, g1_p_1, B1, z1⟩ gg
      simp only [List.take_succ_cons, List.take_zero, List.drop_succ_cons, List.drop_zero, Obs, ob, Sp.get, Sp.news, Act.put, List.setIfInBounds_toArray, List.set_cons_zero, List.set_cons_succ, List.nil_append, List.cons_append, List.append_nil]
      refine ⟨⟨rfl, ?_⟩, ⟨rfl, ?_, ?_⟩, ⟨rfl, ?_⟩, ⟨rfl, ?_, ?_⟩, ⟨rfl, ?_⟩, ⟨rfl, ?_, ?_⟩, ⟨rfl, ?_⟩, ⟨rfl, ?_⟩, ⟨rfl, ?_⟩, ?_⟩
      · clear k1_a_0 g1_a_0 k1_a_1 g1_a_1 k1_b_0 g1_b_0 k1_b_1 g1_b_1 k1_p_0 g1_p_0 k1_p_1 g1_p_1 B1 z1; rintro w' ⟨h0, h1, h2, h3, h4, h5, h6, h7, h8, h9, h10, h11⟩; go_simp; try exact IntWalk.i64_in _ (by omega)
      · clear k1_a_0 g1_a_0 k1_a_1 g1_a_1 k1_b_0 g1_b_0 k1_b_1 g1_b_1 k1_p_0 g1_p_0 k1_p_1 g1_p_1 B1 z1; rintro w' ⟨h0, h1, h2, h3, h4, h5, h6, h7, h8, h9, h10, h11⟩; go_simp
      · clear k1_a_0 g1_a_0 k1_a_1 g1_a_1 k1_b_0 g1_b_0 k1_b_1 g1_b_1 k1_p_0 g1_p_0 k1_p_1 g1_p_1 B1 z1; rintro w' ⟨h0, h1, h2, h3, h4, h5, h6, h7, h8, h9, h10, h11⟩; exact hold_any x y _
      · clear k1_a_0 g1_a_0 k1_a_1 g1_a_1 k1_b_0 g1_b_0 k1_b_1 g1_b_1 k1_p_0 g1_p_0 k1_p_1 g1_p_1 B1 z1; rintro w' ⟨h0, h1, h2, h3, h4, h5, h6, h7, h8, h9, h10, h11⟩; go_simp; try exact IntWalk.i64_in _ (by omega)
      · clear k1_a_0 g1_a_0 k1_a_1 g1_a_1 k1_b_0 g1_b_0 k1_b_1 g1_b_1 k1_p_0 g1_p_0 k1_p_1 g1_p_1 B1 z1; rintro w' ⟨h0, h1, h2, h3, h4, h5, h6, h7, h8, h9, h10, h11⟩; go_simp
      · clear k1_a_0 g1_a_0 k1_a_1 g1_a_1 k1_b_0 g1_b_0 k1_b_1 g1_b_1 k1_p_0 g1_p_0 k1_p_1 g1_p_1 B1 z1; rintro w' ⟨h0, h1, h2, h3, h4, h5, h6, h7, h8, h9, h10, h11⟩; exact hold_any u v _
      · clear k1_a_0 g1_a_0 k1_a_1 g1_a_1 k1_b_0 g1_b_0 k1_b_1 g1_b_1 k1_p_0 g1_p_0 k1_p_1 g1_p_1 B1 z1; rintro w' ⟨h0, h1, h2, h3, h4, h5, h6, h7, h8, h9, h10, h11⟩; go_simp; try exact IntWalk.i64_in _ (by omega)
      · clear k1_a_0 g1_a_0 k1_a_1 g1_a_1 k1_b_0 g1_b_0 k1_b_1 g1_b_1 k1_p_0 g1_p_0 k1_p_1 g1_p_1 B1 z1; rintro w' ⟨h0, h1, h2, h3, h4, h5, h6, h7, h8, h9, h10, h11⟩; go_simp
      · clear k1_a_0 g1_a_0 k1_a_1 g1_a_1 k1_b_0 g1_b_0 k1_b_1 g1_b_1 k1_p_0 g1_p_0 k1_p_1 g1_p_1 B1 z1; rintro w' ⟨h0, h1, h2, h3, h4, h5, h6, h7, h8, h9, h10, h11⟩; exact hold_any s t _
      · clear k1_a_0 g1_a_0 k1_a_1 g1_a_1 k1_b_0 g1_b_0 k1_b_1 g1_b_1 k1_p_0 g1_p_0 k1_p_1 g1_p_1 B1 z1; rintro w' ⟨h0, h1, h2, h3, h4, h5, h6, h7, h8, h9, h10, h11⟩; go_simp
      · clear k1_a_0 g1_a_0 k1_a_1 g1_a_1 k1_b_0 g1_b_0 k1_b_1 g1_b_1 k1_p_0 g1_p_0 k1_p_1 g1_p_1 B1 z1; rintro w' ⟨h0, h1, h2, h3, h4, h5, h6, h7, h8, h9, h10, h11⟩; go_simp
      · clear k1_a_0 g1_a_0 k1_a_1 g1_a_1 k1_b_0 g1_b_0 k1_b_1 g1_b_1 k1_p_0 g1_p_0 k1_p_1 g1_p_1 B1 z1; rintro w' ⟨h0, h1, h2, h3, h4, h5, h6, h7, h8, h9, h10, h11⟩; go_simp
      rintro w2 ⟨h0, h1, h2, h3, h4, h5, h6, h7, h8, h9, h10, h11⟩ hb2 hF
      have lga : w1.heap.size ≤ gg 6 := hF.1.1
      have uga : gg 6 < w2.heap.size := hF.1.2.1
      have pga : w2.heap[gg 6]? = some (.cells #[.int .i64 0, .int .i64 0] 23) := hF.1.2.2
      have nga_gb : ¬ gg 6 = gg 7 := hF.2.1 (7, .cells #[.int .i64 0, .int .i64 0] 23) (by simp)
      have nga_gc : ¬ gg 6 = gg 8 := hF.2.1 (8, .cells #[.int .i64 0, .int .i64 0] 23) (by simp)
      have lgb : w1.heap.size ≤ gg 7 := hF.2.2.1.1
      have ugb : gg 7 < w2.heap.size := hF.2.2.1.2.1
      have pgb : w2.heap[gg 7]? = some (.cells #[.int .i64 0, .int .i64 0] 23) := hF.2.2.1.2.2
      have ngb_gc : ¬ gg 7 = gg 8 := hF.2.2.2.1 (8, .cells #[.int .i64 0, .int .i64 0] 23) (by simp)
      have lgc : w1.heap.size ≤ gg 8 := hF.2.2.2.2.1.1
      have ugc : gg 8 < w2.heap.size := hF.2.2.2.2.1.2.1
      have pgc : w2.heap[gg 8]? = some (.cells #[.int .i64 0, .int .i64 0] 23) := hF.2.2.2.2.1.2.2
      clear hF
      obtain ⟨ga, ega⟩ : ∃ x, gg 6 = x := ⟨_, rfl⟩
      rw [ega] at lga uga pga nga_gb nga_gc ⊢
      clear ega
      obtain ⟨gb, egb⟩ : ∃ x, gg 7 = x := ⟨_, rfl⟩
      rw [egb] at lgb ugb pgb nga_gb ngb_gc ⊢
      clear egb
      obtain ⟨gc, egc⟩ : ∃ x, gg 8 = x := ⟨_, rfl⟩
      rw [egc] at lgc ugc pgc nga_gc ngb_gc ⊢
      clear egc
      clear gg
      have k2_a_0 := bcs hb2 k1_a_0
      have g2_a_0 := bfs hb2 k1_a_0 g1_a_0
      have k2_a_1 := bcs hb2 k1_a_1
      have g2_a_1 := bfs hb2 k1_a_1 g1_a_1
      have k2_b_0 := bcs hb2 k1_b_0
      have g2_b_0 := bfs hb2 k1_b_0 g1_b_0
      have k2_b_1 := bcs hb2 k1_b_1
      have g2_b_1 := bfs hb2 k1_b_1 g1_b_1
      have k2_p_0 := bcs hb2 k1_p_0
      have g2_p_0 := bfs hb2 k1_p_0 g1_p_0
      have k2_p_1 := bcs hb2 k1_p_1
      have g2_p_1 := bfs hb2 k1_p_1 g1_p_1
      clear h0 h1 h2 h3 h4 h5 h6 h7 h8 h9 h10 h11
      have B2 := bel_step B1 hb2
      have z2 := Nat.le_trans z1 hb2.size
      have mga : w.heap.size ≤ ga := by omega
      have nga_a : ¬ ga = w.heap.size := by omega
      have na_ga : ¬ w.heap.size = ga := by omega
      have nga_b : ¬ ga = w.heap.size + 1 := by omega
      have nb_ga : ¬ w.heap.size + 1 = ga := by omega
      have nga_p : ¬ ga = w.heap.size + 1 + 1 := by omega
      have np_ga : ¬ w.heap.size + 1 + 1 = ga := by omega
      have k2_ga_0 : w2.cell? ⟨ga, 0, none⟩ = some (.int .i64 0) := cob pga 0 rfl
      have g2_ga_0 : w2.frozen? ⟨ga, 0, none⟩ = false := fob pga 0
      have k2_ga_1 : w2.cell? ⟨ga, 1, none⟩ = some (.int .i64 0) := cob pga 1 rfl
      have g2_ga_1 : w2.frozen? ⟨ga, 1, none⟩ = false := fob pga 1
      have mgb : w.heap.size ≤ gb := by omega
      have ngb_a : ¬ gb = w.heap.size := by omega
      have na_gb : ¬ w.heap.size = gb := by omega
      have ngb_b : ¬ gb = w.heap.size + 1 := by omega
      have nb_gb : ¬ w.heap.size + 1 = gb := by omega
      have ngb_p : ¬ gb = w.heap.size + 1 + 1 := by omega
      have np_gb : ¬ w.heap.size + 1 + 1 = gb := by omega
      have k2_gb_0 : w2.cell? ⟨gb, 0, none⟩ = some (.int .i64 0) := cob pgb 0 rfl
      have g2_gb_0 : w2.frozen? ⟨gb, 0, none⟩ = false := fob pgb 0
      have k2_gb_1 : w2.cell? ⟨gb, 1, none⟩ = some (.int .i64 0) := cob pgb 1 rfl
      have g2_gb_1 : w2.frozen? ⟨gb, 1, none⟩ = false := fob pgb 1
      have mgc : w.heap.size ≤ gc := by omega
      have ngc_a : ¬ gc = w.heap.size := by omega
      have na_gc : ¬ w.heap.size = gc := by omega
      have ngc_b : ¬ gc = w.heap.size + 1 := by omega
      have nb_gc : ¬ w.heap.size + 1 = gc := by omega
      have ngc_p : ¬ gc = w.heap.size + 1 + 1 := by omega
      have np_gc : ¬ w.heap.size + 1 + 1 = gc := by omega
      have k2_gc_0 : w2.cell? ⟨gc, 0, none⟩ = some (.int .i64 0) := cob pgc 0 rfl
      have g2_gc_0 : w2.frozen? ⟨gc, 0, none⟩ = false := fob pgc 0
      have k2_gc_1 : w2.cell? ⟨gc, 1, none⟩ = some (.int .i64 0) := cob pgc 1 rfl
      have g2_gc_1 : w2.frozen? ⟨gc, 1, none⟩ = false := fob pgc 1
      have ngb_ga : ¬ gb = ga := fun h => nga_gb h.symm
      have ngc_ga : ¬ gc = ga := fun h => nga_gc h.symm
      have ngc_gb : ¬ gc = gb := fun h => ngb_gc h.symm
      clear lga uga pga
      clear lgb ugb pgb
      clear lgc ugc pgc
      clear hb2
      (try clear B1)
      (try clear z1)
      (try clear k1_a_0)
      (try clear g1_a_0)
      (try clear k1_a_1)
      (try clear g1_a_1)
      (try clear k1_b_0)
      (try clear g1_b_0)
      (try clear k1_b_1)
      (try clear g1_b_1)
      (try clear k1_p_0)
      (try clear g1_p_0)
      (try clear k1_p_1)
      (try clear g1_p_1)
      (try clear q1_a)
      (try clear x1_a)
      (try clear y1_a)
      (try clear q1_b)
      (try clear x1_b)
      (try clear y1_b)
      (try clear q1_p)
      (try clear x1_p)
      (try clear y1_p)
      have q2_a : w.heap.size < w2.heap.size := qlt k2_a_0
      have x2_a : ¬ w.heap.size = w2.heap.size := qne k2_a_0
      have y2_a : ¬ w2.heap.size = w.heap.size := fun h => qne k2_a_0 h.symm
      have q2_b : w.heap.size + 1 < w2.heap.size := qlt k2_b_0
      have x2_b : ¬ w.heap.size + 1 = w2.heap.size := qne k2_b_0
      have y2_b : ¬ w2.heap.size = w.heap.size + 1 := fun h => qne k2_b_0 h.symm
      have q2_p : w.heap.size + 1 + 1 < w2.heap.size := qlt k2_p_0
      have x2_p : ¬ w.heap.size + 1 + 1 = w2.heap.size := qne k2_p_0
      have y2_p : ¬ w2.heap.size = w.heap.size + 1 + 1 := fun h => qne k2_p_0 h.symm
      have q2_ga : ga < w2.heap.size := qlt k2_ga_0
      have x2_ga : ¬ ga = w2.heap.size := qne k2_ga_0
      have y2_ga : ¬ w2.heap.size = ga := fun h => qne k2_ga_0 h.symm
      have q2_gb : gb < w2.heap.size := qlt k2_gb_0
      have x2_gb : ¬ gb = w2.heap.size := qne k2_gb_0
      have y2_gb : ¬ w2.heap.size = gb := fun h => qne k2_gb_0 h.symm
      have q2_gc : gc < w2.heap.size := qlt k2_gc_0
      have x2_gc : ¬ gc = w2.heap.size := qne k2_gc_0
      have y2_gc : ¬ w2.heap.size = gc := fun h => qne k2_gc_0 h.symm
      go_wp2_with (first | (go_at_call 27; (with_reducible refine (c1 _).mono ?_); rintro e w3 ⟨rfl, hb3⟩; have k3_a_0 : w3.cell? ⟨w.heap.size, 0, none⟩ = some (.int .i64 x) := bcs hb3 (by go_simp); have g3_a_0 : w3.frozen? ⟨w.heap.size, 0, none⟩ = false := bfs hb3 (v := .int .i64 x) (by go_simp) (by go_simp); have k3_a_1 : w3.cell? ⟨w.heap.size, 1, none⟩ = some (.int .i64 y) := bcs hb3 (by go_simp); have g3_a_1 : w3.frozen? ⟨w.heap.size, 1, none⟩ = false := bfs hb3 (v := .int .i64 y) (by go_simp) (by go_simp); have k3_b_0 : w3.cell? ⟨w.heap.size + 1, 0, none⟩ = some (.int .i64 u) := bcs hb3 (by go_simp); have g3_b_0 : w3.frozen? ⟨w.heap.size + 1, 0, none⟩ = false := bfs hb3 (v := .int .i64 u) (by go_simp) (by go_simp); have k3_b_1 : w3.cell? ⟨w.heap.size + 1, 1, none⟩ = some (.int .i64 v) := bcs hb3 (by go_simp); have g3_b_1 : w3.frozen? ⟨w.heap.size + 1, 1, none⟩ = false := bfs hb3 (v := .int .i64 v) (by go_simp) (by go_simp); have k3_p_0 : w3.cell? ⟨w.heap.size + 1 + 1, 0, none⟩ = some (.int .i64 s) := bcs hb3 (by go_simp); have g3_p_0 : w3.frozen? ⟨w.heap.size + 1 + 1, 0, none⟩ = false := bfs hb3 (v := .int .i64 s) (by go_simp) (by go_simp); have k3_p_1 : w3.cell? ⟨w.heap.size + 1 + 1, 1, none⟩ = some (.int .i64 t) := bcs hb3 (by go_simp); have g3_p_1 : w3.frozen? ⟨w.heap.size + 1 + 1, 1, none⟩ = false := bfs hb3 (v := .int .i64 t) (by go_simp) (by go_simp); have k3_ga_0 : w3.cell? ⟨ga, 0, none⟩ = some (.int .i64 (hold x)) := bcs hb3 (by go_simp); have g3_ga_0 : w3.frozen? ⟨ga, 0, none⟩ = false := bfs hb3 (v := .int .i64 (hold x)) (by go_simp) (by go_simp); have k3_ga_1 : w3.cell? ⟨ga, 1, none⟩ = some (.int .i64 (hold y)) := bcs hb3 (by go_simp); have g3_ga_1 : w3.frozen? ⟨ga, 1, none⟩ = false := bfs hb3 (v := .int .i64 (hold y)) (by go_simp) (by go_simp); have k3_gb_0 : w3.cell? ⟨gb, 0, none⟩ = some (.int .i64 (hold u)) := bcs hb3 (by go_simp); have g3_gb_0 : w3.frozen? ⟨gb, 0, none⟩ = false := bfs hb3 (v := .int .i64 (hold u)) (by go_simp) (by go_simp); have k3_gb_1 : w3.cell? ⟨gb, 1, none⟩ = some (.int .i64 (hold v)) := bcs hb3 (by go_simp); have g3_gb_1 : w3.frozen? ⟨gb, 1, none⟩ = false := bfs hb3 (v := .int .i64 (hold v)) (by go_simp) (by go_simp); have k3_gc_0 : w3.cell? ⟨gc, 0, none⟩ = some (.int .i64 (hold s)) := bcs hb3 (by go_simp); have g3_gc_0 : w3.frozen? ⟨gc, 0, none⟩ = false := bfs hb3 (v := .int .i64 (hold s)) (by go_simp) (by go_simp); have k3_gc_1 : w3.cell? ⟨gc, 1, none⟩ = some (.int .i64 (hold t)) := bcs hb3 (by go_simp); have g3_gc_1 : w3.frozen? ⟨gc, 1, none⟩ = false := bfs hb3 (v := .int .i64 (hold t)) (by go_simp) (by go_simp); have q3_a : w.heap.size < w3.heap.size := qlt k3_a_0; have x3_a : ¬ w.heap.size = w3.heap.size := qne k3_a_0; have y3_a : ¬ w3.heap.size = w.heap.size := fun h => qne k3_a_0 h.symm; have q3_b : w.heap.size + 1 < w3.heap.size := qlt k3_b_0; have x3_b : ¬ w.heap.size + 1 = w3.heap.size := qne k3_b_0; have y3_b : ¬ w3.heap.size = w.heap.size + 1 := fun h => qne k3_b_0 h.symm; have q3_p : w.heap.size + 1 + 1 < w3.heap.size := qlt k3_p_0; have x3_p : ¬ w.heap.size + 1 + 1 = w3.heap.size := qne k3_p_0; have y3_p : ¬ w3.heap.size = w.heap.size + 1 + 1 := fun h => qne k3_p_0 h.symm; have q3_ga : ga < w3.heap.size := qlt k3_ga_0; have x3_ga : ¬ ga = w3.heap.size := qne k3_ga_0; have y3_ga : ¬ w3.heap.size = ga := fun h => qne k3_ga_0 h.symm; have q3_gb : gb < w3.heap.size := qlt k3_gb_0; have x3_gb : ¬ gb = w3.heap.size := qne k3_gb_0; have y3_gb : ¬ w3.heap.size = gb := fun h => qne k3_gb_0 h.symm; have q3_gc : gc < w3.heap.size := qlt k3_gc_0; have x3_gc : ¬ gc = w3.heap.size := qne k3_gc_0; have y3_gc : ¬ w3.heap.size = gc := fun h => qne k3_gc_0 h.symm; have B3 : Below w.heap.size w w3 := bel_step (by repeat (first | with_reducible exact Below.refl _ _ | with_reducible exact B2 | with_reducible apply below_drewN | with_reducible apply Below.drew | (with_reducible refine Below.alloc ?_ (by first | (simp; done) | (simp; omega) | omega) _) | (with_reducible refine Below.setCell ?_ (by first | (simp; done) | (simp; omega) | omega) _))) hb3; have z3 : w.heap.size + 1 + 1 + 1 ≤ w3.heap.size := Nat.le_trans (by first | with_reducible assumption | (simp; done) | (simp; omega)) hb3.size; clear hb3; (try clear k2_a_0); (try clear g2_a_0); (try clear k2_a_1); (try clear g2_a_1); (try clear k2_b_0); (try clear g2_b_0); (try clear k2_b_1); (try clear g2_b_1); (try clear k2_p_0); (try clear g2_p_0); (try clear k2_p_1); (try clear g2_p_1); (try clear k2_ga_0); (try clear g2_ga_0); (try clear k2_ga_1); (try clear g2_ga_1); (try clear k2_gb_0); (try clear g2_gb_0); (try clear k2_gb_1); (try clear g2_gb_1); (try clear k2_gc_0); (try clear g2_gc_0); (try clear k2_gc_1); (try clear g2_gc_1); (try clear B2); (try clear z2); (try clear q2_a); (try clear x2_a); (try clear y2_a); (try clear q2_b); (try clear x2_b); (try clear y2_b); (try clear q2_p); (try clear x2_p); (try clear y2_p); (try clear q2_ga); (try clear x2_ga); (try clear y2_ga); (try clear q2_gb); (try clear x2_gb); (try clear y2_gb); (try clear q2_gc); (try clear x2_gc); (try clear y2_gc)))
      go_ret
      refine ⟨rfl, ?_⟩
      repeat (first | with_reducible exact Below.refl _ _ | with_reducible exact B3 | with_reducible apply below_drewN | with_reducible apply Below.drew | (with_reducible refine Below.alloc ?_ (by first | (simp; done) | (simp; omega) | omega) _) | (with_reducible refine Below.setCell ?_ (by first | (simp; done) | (simp; omega) | omega) _))
  · have e1 : (oriV x y u v s t == 0) = false := by simp [h1]
    have e : onsB x y u v s t = false := by simp [onsB, h1]
    rw [e]; clear e h1
    go_enter Try.func29, Try.ntmps29
    go_wp2
    refine wp_region_ord (fun w' => w'.cell? ⟨w.heap.size, 0, none⟩ = some (.int .i64 x) ∧ w'.frozen? ⟨w.heap.size, 0, none⟩ = false ∧ w'.cell? ⟨w.heap.size, 1, none⟩ = some (.int .i64 y) ∧ w'.frozen? ⟨w.heap.size, 1, none⟩ = false ∧ w'.cell? ⟨w.heap.size + 1, 0, none⟩ = some (.int .i64 u) ∧ w'.frozen? ⟨w.heap.size + 1, 0, none⟩ = false ∧ w'.cell? ⟨w.heap.size + 1, 1, none⟩ = some (.int .i64 v) ∧ w'.frozen? ⟨w.heap.size + 1, 1, none⟩ = false ∧ w'.cell? ⟨w.heap.size + 1 + 1, 0, none⟩ = some (.int .i64 s) ∧ w'.frozen? ⟨w.heap.size + 1 + 1, 0, none⟩ = false ∧ w'.cell? ⟨w.heap.size + 1 + 1, 1, none⟩ = some (.int .i64 t) ∧ w'.frozen? ⟨w.heap.size + 1 + 1, 1, none⟩ = false) (fun W => W.cell? ⟨w.heap.size, 0, none⟩ = some (.int .i64 x) ∧ W.frozen? ⟨w.heap.size, 0, none⟩ = false ∧ W.cell? ⟨w.heap.size, 1, none⟩ = some (.int .i64 y) ∧ W.frozen? ⟨w.heap.size, 1, none⟩ = false ∧ W.cell? ⟨w.heap.size + 1, 0, none⟩ = some (.int .i64 u) ∧ W.frozen? ⟨w.heap.size + 1, 0, none⟩ = false ∧ W.cell? ⟨w.heap.size + 1, 1, none⟩ = some (.int .i64 v) ∧ W.frozen? ⟨w.heap.size + 1, 1, none⟩ = false ∧ W.cell? ⟨w.heap.size + 1 + 1, 0, none⟩ = some (.int .i64 s) ∧ W.frozen? ⟨w.heap.size + 1 + 1, 0, none⟩ = false ∧ W.cell? ⟨w.heap.size + 1 + 1, 1, none⟩ = some (.int .i64 t) ∧ W.frozen? ⟨w.heap.size + 1 + 1, 1, none⟩ = false ∧ Below w.heap.size w W ∧ w.heap.size + 1 + 1 + 1 ≤ W.heap.size) 9 [.val (.agg #[.int .i64 x, .int .i64 y]), .call 34 #[.agg #[.int .i64 x, .int .i64 y]] (.agg #[.int .i64 (hold x), .int .i64 (hold y)]), .val (.agg #[.int .i64 u, .int .i64 v]), .call 34 #[.agg #[.int .i64 u, .int .i64 v]] (.agg #[.int .i64 (hold u), .int .i64 (hold v)]), .val (.agg #[.int .i64 s, .int .i64 t]), .call 34 #[.agg #[.int .i64 s, .int .i64 t]] (.agg #[.int .i64 (hold s), .int .i64 (hold t)]), .fresh (.cells #[.int .i64 0, .int .i64 0] 23), .fresh (.cells #[.int .i64 0, .int .i64 0] 23), .fresh (.cells #[.int .i64 0, .int .i64 0] 23)] (by kernel_rfl) (by kernel_rfl) (by rintro w1 w2 ⟨h0, h1, h2, h3, h4, h5, h6, h7, h8, h9, h10, h11⟩ hb; exact ⟨bcs hb h0, bfs hb h0 h1, bcs hb h2, bfs hb h2 h3, bcs hb h4, bfs hb h4 h5, bcs hb h6, bfs hb h6 h7, bcs hb h8, bfs hb h8 h9, bcs hb h10, bfs hb h10 h11⟩) ⟨by first | with_reducible assumption | go_simp, by first | with_reducible assumption | go_simp, by first | with_reducible assumption | go_simp, by first | with_reducible assumption | go_simp, by first | with_reducible assumption | go_simp, by first | with_reducible assumption | go_simp, by first | with_reducible assumption | go_simp, by first | with_reducible assumption | go_simp, by first | with_reducible assumption | go_simp, by first | with_reducible assumption | go_simp, by first | with_reducible assumption | go_simp, by first | with_reducible assumption | go_simp, by repeat (first | with_reducible exact Below.refl _ _ | fail | with_reducible apply below_drewN | with_reducible apply Below.drew | (with_reducible refine Below.alloc ?_ (by first | (simp; done) | (simp; omega) | omega) _) | (with_reducible refine Below.setCell ?_ (by first | (simp; done) | (simp; omega) | omega) _)), by first | with_reducible assumption | (simp; done) | (simp; omega)⟩ ?_ ?_
    · rintro W ⟨k1_a_0, g1_a_0, k1_a_1, g1_a_1, k1_b_0, g1_b_0, k1_b_1, g1_b_1, k1_p_0, g1_p_0, k1_p_1, g1_p_1, B1, z1⟩; exact ⟨k1_a_0, g1_a_0, k1_a_1, g1_a_1, k1_b_0, g1_b_0, k1_b_1, g1_b_1, k1_p_0, g1_p_0, k1_p_1, g1_p_1⟩
    rintro w1 ⟨k1_a_0, g1_a_0, k1_a_1, g1_a_1, k1_b_0, g1_b_0, k1_b_1, g1_b_1, k1_p_0, g1_p_0, k1_p_1, g1_p_1, B1, z1⟩ gg
    simp only [List.take_succ_cons, List.take_zero, List.drop_succ_cons, List.drop_zero, Obs, ob, Sp.get, Sp.news, Act.put, List.setIfInBounds_toArray, List.set_cons_zero, List.set_cons_succ, List.nil_append, List.cons_append, List.append_nil]
    refine ⟨⟨rfl, ?_⟩, ⟨rfl, ?_, ?_⟩, ⟨rfl, ?_⟩, ⟨rfl, ?_, ?_⟩, ⟨rfl, ?_⟩, ⟨rfl, ?_, ?_⟩, ⟨rfl, ?_⟩, ⟨rfl, ?_⟩, ⟨rfl, ?_⟩, ?_⟩
    · clear k1_a_0 g1_a_0 k1_a_1 g1_a_1 k1_b_0 g1_b_0 k1_b_1 g1_b_1 k1_p_0 g1_p_0 k1_p_1 g1_p_1 B1 z1; rintro w' ⟨h0, h1, h2, h3, h4, h5, h6, h7, h8, h9, h10, h11⟩; go_simp; try exact IntWalk.i64_in _ (by omega)
    · clear k1_a_0 g1_a_0 k1_a_1 g1_a_1 k1_b_0 g1_b_0 k1_b_1 g1_b_1 k1_p_0 g1_p_0 k1_p_1 g1_p_1 B1 z1; rintro w' ⟨h0, h1, h2, h3, h4, h5, h6, h7, h8, h9, h10, h11⟩; go_simp
    · clear k1_a_0 g1_a_0 k1_a_1 g1_a_1 k1_b_0 g1_b_0 k1_b_1 g1_b_1 k1_p_0 g1_p_0 k1_p_1 g1_p_1 B1 z1; rintro w' ⟨h0, h1, h2, h3, h4, h5, h6, h7, h8, h9, h10, h11⟩; exact hold_any x y _
    · clear k1_a_0 g1_a_0 k1_a_1 g1_a_1 k1_b_0 g1_b_0 k1_b_1 g1_b_1 k1_p_0 g1_p_0 k1_p_1 g1_p_1 B1 z1; rintro w' ⟨h0, h1, h2, h3, h4, h5, h6, h7, h8, h9, h10, h11⟩; go_simp; try exact IntWalk.i64_in _ (by omega)
    · clear k1_a_0 g1_a_0 k1_a_1 g1_a_1 k1_b_0 g1_b_0 k1_b_1 g1_b_1 k1_p_0 g1_p_0 k1_p_1 g1_p_1 B1 z1; rintro w' ⟨h0, h1, h2, h3, h4, h5, h6, h7, h8, h9, h10, h11⟩; go_simp
    · clear k1_a_0 g1_a_0 k1_a_1 g1_a_1 k1_b_0 g1_b_0 k1_b_1 g1_b_1 k1_p_0 g1_p_0 k1_p_1 g1_p_1 B1 z1; rintro w' ⟨h0, h1, h2, h3, h4, h5, h6, h7, h8, h9, h10, h11⟩; exact hold_any u v _
    · clear k1_a_0 g1_a_0 k1_a_1 g1_a_1 k1_b_0 g1_b_0 k1_b_1 g1_b_1 k1_p_0 g1_p_0 k1_p_1 g1_p_1 B1 z1; rintro w' ⟨h0, h1, h2, h3, h4, h5, h6, h7, h8, h9, h10, h11⟩; go_simp; try exact IntWalk.i64_in _ (by omega)
    · clear k1_a_0 g1_a_0 k1_a_1 g1_a_1 k1_b_0 g1_b_0 k1_b_1 g1_b_1 k1_p_0 g1_p_0 k1_p_1 g1_p_1 B1 z1; rintro w' ⟨h0, h1, h2, h3, h4, h5, h6, h7, h8, h9, h10, h11⟩; go_simp
    · clear k1_a_0 g1_a_0 k1_a_1 g1_a_1 k1_b_0 g1_b_0 k1_b_1 g1_b_1 k1_p_0 g1_p_0 k1_p_1 g1_p_1 B1 z1; rintro w' ⟨h0, h1, h2, h3, h4, h5, h6, h7, h8, h9, h10, h11⟩; exact hold_any s t _
    · clear k1_a_0 g1_a_0 k1_a_1 g1_a_1 k1_b_0 g1_b_0 k1_b_1 g1_b_1 k1_p_0 g1_p_0 k1_p_1 g1_p_1 B1 z1; rintro w' ⟨h0, h1, h2, h3, h4, h5, h6, h7, h8, h9, h10, h11⟩; go_simp
    · clear k1_a_0 g1_a_0 k1_a_1 g1_a_1 k1_b_0 g1_b_0 k1_b_1 g1_b_1 k1_p_0 g1_p_0 k1_p_1 g1_p_1 B1 z1; rintro w' ⟨h0, h1, h2, h3, h4, h5, h6, h7, h8, h9, h10, h11⟩; go_simp
    · clear k1_a_0 g1_a_0 k1_a_1 g1_a_1 k1_b_0 g1_b_0 k1_b_1 g1_b_1 k1_p_0 g1_p_0 k1_p_1 g1_p_1 B1 z1; rintro w' ⟨h0, h1, h2, h3, h4, h5, h6, h7, h8, h9, h10, h11⟩; go_simp
    rintro w2 ⟨h0, h1, h2, h3, h4, h5, h6, h7, h8, h9, h10, h11⟩ hb2 hF
    have lga : w1.heap.size ≤ gg 6 := hF.1.1
    have uga : gg 6 < w2.heap.size := hF.1.2.1
    have pga : w2.heap[gg 6]? = some (.cells #[.int .i64 0, .int .i64 0] 23) := hF.1.2.2
    have nga_gb : ¬ gg 6 = gg 7 := hF.2.1 (7, .cells #[.int .i64 0, .int .i64 0] 23) (by simp)
    have nga_gc : ¬ gg 6 = gg 8 := hF.2.1 (8, .cells #[.int .i64 0, .int .i64 0] 23) (by simp)
    have lgb : w1.heap.size ≤ gg 7 := hF.2.2.1.1
    have ugb : gg 7 < w2.heap.size := hF.2.2.1.2.1
    have pgb : w2.heap[gg 7]? = some (.cells #[.int .i64 0, .int .i64 0] 23) := hF.2.2.1.2.2
    have ngb_gc : ¬ gg 7 = gg 8 := hF.2.2.2.1 (8, .cells #[.int .i64 0, .int .i64 0] 23) (by simp)
    have lgc : w1.heap.size ≤ gg 8 := hF.2.2.2.2.1.1
    have ugc : gg 8 < w2.heap.size := hF.2.2.2.2.1.2.1
    have pgc : w2.heap[gg 8]? = some (.cells #[.int .i64 0, .int .i64 0] 23) := hF.2.2.2.2.1.2.2
    clear hF
    obtain ⟨ga, ega⟩ : ∃ x, gg 6 = x := ⟨_, rfl⟩
    rw [ega] at lga uga pga nga_gb nga_gc ⊢
    clear ega
    obtain ⟨gb, egb⟩ : ∃ x, gg 7 = x := ⟨_, rfl⟩
    rw [egb] at lgb ugb pgb nga_gb ngb_gc ⊢
    clear egb
    obtain ⟨gc, egc⟩ : ∃ x, gg 8 = x := ⟨_, rfl⟩
    rw [egc] at lgc ugc pgc nga_gc ngb_gc ⊢
    clear egc
    clear gg
    have k2_a_0 := bcs hb2 k1_a_0
    have g2_a_0 := bfs hb2 k1_a_0 g1_a_0
    have k2_a_1 := bcs hb2 k1_a_1
    have g2_a_1 := bfs hb2 k1_a_1 g1_a_1
    have k2_b_0 := bcs hb2 k1_b_0
    have g2_b_0 := bfs hb2 k1_b_0 g1_b_0
    have k2_b_1 := bcs hb2 k1_b_1
    have g2_b_1 := bfs hb2 k1_b_1 g1_b_1
    have k2_p_0 := bcs hb2 k1_p_0
    have g2_p_0 := bfs hb2 k1_p_0 g1_p_0
    have k2_p_1 := bcs hb2 k1_p_1
    have g2_p_1 := bfs hb2 k1_p_1 g1_p_1
    clear h0 h1 h2 h3 h4 h5 h6 h7 h8 h9 h10 h11
    have B2 := bel_step B1 hb2
    have z2 := Nat.le_trans z1 hb2.size
    have mga : w.heap.size ≤ ga := by omega
    have nga_a : ¬ ga = w.heap.size := by omega
    have na_ga : ¬ w.heap.size = ga := by omega
    have nga_b : ¬ ga = w.heap.size + 1 := by omega
    have nb_ga : ¬ w.heap.size + 1 = ga := by omega
    have nga_p : ¬ ga = w.heap.size + 1 + 1 := by omega
    have np_ga : ¬ w.heap.size + 1 + 1 = ga := by omega
    have k2_ga_0 : w2.cell? ⟨ga, 0, none⟩ = some (.int .i64 0) := cob pga 0 rfl
    have g2_ga_0 : w2.frozen? ⟨ga, 0, none⟩ = false := fob pga 0
    have k2_ga_1 : w2.cell? ⟨ga, 1, none⟩ = some (.int .i64 0) := cob pga 1 rfl
    have g2_ga_1 : w2.frozen? ⟨ga, 1, none⟩ = false := fob pga 1
    have mgb : w.heap.size ≤ gb := by omega
    have ngb_a : ¬ gb = w.heap.size := by omega
    have na_gb : ¬ w.heap.size = gb := by omega
    have ngb_b : ¬ gb = w.heap.size + 1 := by omega
    have nb_gb : ¬ w.heap.size + 1 = gb := by omega
    have ngb_p : ¬ gb = w.heap.size + 1 + 1 := by omega
    have np_gb : ¬ w.heap.size + 1 + 1 = gb := by omega
    have k2_gb_0 : w2.cell? ⟨gb, 0, none⟩ = some (.int .i64 0) := cob pgb 0 rfl
    have g2_gb_0 : w2.frozen? ⟨gb, 0, none⟩ = false := fob pgb 0
    have k2_gb_1 : w2.cell? ⟨gb, 1, none⟩ = some (.int .i64 0) := cob pgb 1 rfl
    have g2_gb_1 : w2.frozen? ⟨gb, 1, none⟩ = false := fob pgb 1
    have mgc : w.heap.size ≤ gc := by omega
    have ngc_a : ¬ gc = w.heap.size := by omega
    have na_gc : ¬ w.heap.size = gc := by omega
    have ngc_b : ¬ gc = w.heap.size + 1 := by omega
    have nb_gc : ¬ w.heap.size + 1 = gc := by omega
    have ngc_p : ¬ gc = w.heap.size + 1 + 1 := by omega
    have np_gc : ¬ w.heap.size + 1 + 1 = gc := by omega
    have k2_gc_0 : w2.cell? ⟨gc, 0, none⟩ = some (.int .i64 0) := cob pgc 0 rfl
    have g2_gc_0 : w2.frozen? ⟨gc, 0, none⟩ = false := fob pgc 0
    have k2_gc_1 : w2.cell? ⟨gc, 1, none⟩ = some (.int .i64 0) := cob pgc 1 rfl
    have g2_gc_1 : w2.frozen? ⟨gc, 1, none⟩ = false := fob pgc 1
    have ngb_ga : ¬ gb = ga := fun h => nga_gb h.symm
    have ngc_ga : ¬ gc = ga := fun h => nga_gc h.symm
    have ngc_gb : ¬ gc = gb := fun h => ngb_gc h.symm
    clear lga uga pga
    clear lgb ugb pgb
    clear lgc ugc pgc
    clear hb2
    (try clear B1)
    (try clear z1)
    (try clear k1_a_0)
    (try clear g1_a_0)
    (try clear k1_a_1)
    (try clear g1_a_1)
    (try clear k1_b_0)
    (try clear g1_b_0)
    (try clear k1_b_1)
    (try clear g1_b_1)
    (try clear k1_p_0)
    (try clear g1_p_0)
    (try clear k1_p_1)
    (try clear g1_p_1)
    (try clear q1_a)
    (try clear x1_a)
    (try clear y1_a)
    (try clear q1_b)
    (try clear x1_b)
    (try clear y1_b)
    (try clear q1_p)
    (try clear x1_p)
    (try clear y1_p)
    have q2_a : w.heap.size < w2.heap.size := qlt k2_a_0
    have x2_a : ¬ w.heap.size = w2.heap.size := qne k2_a_0
    have y2_a : ¬ w2.heap.size = w.heap.size := fun h => qne k2_a_0 h.symm
    have q2_b : w.heap.size + 1 < w2.heap.size := qlt k2_b_0
    have x2_b : ¬ w.heap.size + 1 = w2.heap.size := qne k2_b_0
    have y2_b : ¬ w2.heap.size = w.heap.size + 1 := fun h => qne k2_b_0 h.symm
    have q2_p : w.heap.size + 1 + 1 < w2.heap.size := qlt k2_p_0
    have x2_p : ¬ w.heap.size + 1 + 1 = w2.heap.size := qne k2_p_0
    have y2_p : ¬ w2.heap.size = w.heap.size + 1 + 1 := fun h => qne k2_p_0 h.symm
    have q2_ga : ga < w2.heap.size := qlt k2_ga_0
    have x2_ga : ¬ ga = w2.heap.size := qne k2_ga_0
    have y2_ga : ¬ w2.heap.size = ga := fun h => qne k2_ga_0 h.symm
    have q2_gb : gb < w2.heap.size := qlt k2_gb_0
    have x2_gb : ¬ gb = w2.heap.size := qne k2_gb_0
    have y2_gb : ¬ w2.heap.size = gb := fun h => qne k2_gb_0 h.symm
    have q2_gc : gc < w2.heap.size := qlt k2_gc_0
    have x2_gc : ¬ gc = w2.heap.size := qne k2_gc_0
    have y2_gc : ¬ w2.heap.size = gc := fun h => qne k2_gc_0 h.symm
    go_wp2_with (first | (go_at_call 27; (with_reducible refine (c1 _).mono ?_); rintro e w3 ⟨rfl, hb3⟩; have k3_a_0 : w3.cell? ⟨w.heap.size, 0, none⟩ = some (.int .i64 x) := bcs hb3 (by go_simp); have g3_a_0 : w3.frozen? ⟨w.heap.size, 0, none⟩ = false := bfs hb3 (v := .int .i64 x) (by go_simp) (by go_simp); have k3_a_1 : w3.cell? ⟨w.heap.size, 1, none⟩ = some (.int .i64 y) := bcs hb3 (by go_simp); have g3_a_1 : w3.frozen? ⟨w.heap.size, 1, none⟩ = false := bfs hb3 (v := .int .i64 y) (by go_simp) (by go_simp); have k3_b_0 : w3.cell? ⟨w.heap.size + 1, 0, none⟩ = some (.int .i64 u) := bcs hb3 (by go_simp); have g3_b_0 : w3.frozen? ⟨w.heap.size + 1, 0, none⟩ = false := bfs hb3 (v := .int .i64 u) (by go_simp) (by go_simp); have k3_b_1 : w3.cell? ⟨w.heap.size + 1, 1, none⟩ = some (.int .i64 v) := bcs hb3 (by go_simp); have g3_b_1 : w3.frozen? ⟨w.heap.size + 1, 1, none⟩ = false := bfs hb3 (v := .int .i64 v) (by go_simp) (by go_simp); have k3_p_0 : w3.cell? ⟨w.heap.size + 1 + 1, 0, none⟩ = some (.int .i64 s) := bcs hb3 (by go_simp); have g3_p_0 : w3.frozen? ⟨w.heap.size + 1 + 1, 0, none⟩ = false := bfs hb3 (v := .int .i64 s) (by go_simp) (by go_simp); have k3_p_1 : w3.cell? ⟨w.heap.size + 1 + 1, 1, none⟩ = some (.int .i64 t) := bcs hb3 (by go_simp); have g3_p_1 : w3.frozen? ⟨w.heap.size + 1 + 1, 1, none⟩ = false := bfs hb3 (v := .int .i64 t) (by go_simp) (by go_simp); have k3_ga_0 : w3.cell? ⟨ga, 0, none⟩ = some (.int .i64 (hold x)) := bcs hb3 (by go_simp); have g3_ga_0 : w3.frozen? ⟨ga, 0, none⟩ = false := bfs hb3 (v := .int .i64 (hold x)) (by go_simp) (by go_simp); have k3_ga_1 : w3.cell? ⟨ga, 1, none⟩ = some (.int .i64 (hold y)) := bcs hb3 (by go_simp); have g3_ga_1 : w3.frozen? ⟨ga, 1, none⟩ = false := bfs hb3 (v := .int .i64 (hold y)) (by go_simp) (by go_simp); have k3_gb_0 : w3.cell? ⟨gb, 0, none⟩ = some (.int .i64 (hold u)) := bcs hb3 (by go_simp); have g3_gb_0 : w3.frozen? ⟨gb, 0, none⟩ = false := bfs hb3 (v := .int .i64 (hold u)) (by go_simp) (by go_simp); have k3_gb_1 : w3.cell? ⟨gb, 1, none⟩ = some (.int .i64 (hold v)) := bcs hb3 (by go_simp); have g3_gb_1 : w3.frozen? ⟨gb, 1, none⟩ = false := bfs hb3 (v := .int .i64 (hold v)) (by go_simp) (by go_simp); have k3_gc_0 : w3.cell? ⟨gc, 0, none⟩ = some (.int .i64 (hold s)) := bcs hb3 (by go_simp); have g3_gc_0 : w3.frozen? ⟨gc, 0, none⟩ = false := bfs hb3 (v := .int .i64 (hold s)) (by go_simp) (by go_simp); have k3_gc_1 : w3.cell? ⟨gc, 1, none⟩ = some (.int .i64 (hold t)) := bcs hb3 (by go_simp); have g3_gc_1 : w3.frozen? ⟨gc, 1, none⟩ = false := bfs hb3 (v := .int .i64 (hold t)) (by go_simp) (by go_simp); have q3_a : w.heap.size < w3.heap.size := qlt k3_a_0; have x3_a : ¬ w.heap.size = w3.heap.size := qne k3_a_0; have y3_a : ¬ w3.heap.size = w.heap.size := fun h => qne k3_a_0 h.symm; have q3_b : w.heap.size + 1 < w3.heap.size := qlt k3_b_0; have x3_b : ¬ w.heap.size + 1 = w3.heap.size := qne k3_b_0; have y3_b : ¬ w3.heap.size = w.heap.size + 1 := fun h => qne k3_b_0 h.symm; have q3_p : w.heap.size + 1 + 1 < w3.heap.size := qlt k3_p_0; have x3_p : ¬ w.heap.size + 1 + 1 = w3.heap.size := qne k3_p_0; have y3_p : ¬ w3.heap.size = w.heap.size + 1 + 1 := fun h => qne k3_p_0 h.symm; have q3_ga : ga < w3.heap.size := qlt k3_ga_0; have x3_ga : ¬ ga = w3.heap.size := qne k3_ga_0; have y3_ga : ¬ w3.heap.size = ga := fun h => qne k3_ga_0 h.symm; have q3_gb : gb < w3.heap.size := qlt k3_gb_0; have x3_gb : ¬ gb = w3.heap.size := qne k3_gb_0; have y3_gb : ¬ w3.heap.size = gb := fun h => qne k3_gb_0 h.symm; have q3_gc : gc < w3.heap.size := qlt k3_gc_0; have x3_gc : ¬ gc = w3.heap.size := qne k3_gc_0; have y3_gc : ¬ w3.heap.size = gc := fun h => qne k3_gc_0 h.symm; have B3 : Below w.heap.size w w3 := bel_step (by repeat (first | with_reducible exact Below.refl _ _ | with_reducible exact B2 | with_reducible apply below_drewN | with_reducible apply Below.drew | (with_reducible refine Below.alloc ?_ (by first | (simp; done) | (simp; omega) | omega) _) | (with_reducible refine Below.setCell ?_ (by first | (simp; done) | (simp; omega) | omega) _))) hb3; have z3 : w.heap.size + 1 + 1 + 1 ≤ w3.heap.size := Nat.le_trans (by first | with_reducible assumption | (simp; done) | (simp; omega)) hb3.size; clear hb3; (try clear k2_a_0); (try clear g2_a_0); (try clear k2_a_1); (try clear g2_a_1); (try clear k2_b_0); (try clear g2_b_0); (try clear k2_b_1); (try clear g2_b_1); (try clear k2_p_0); (try clear g2_p_0); (try clear k2_p_1); (try clear g2_p_1); (try clear k2_ga_0); (try clear g2_ga_0); (try clear k2_ga_1); (try clear g2_ga_1); (try clear k2_gb_0); (try clear g2_gb_0); (try clear k2_gb_1); (try clear g2_gb_1); (try clear k2_gc_0); (try clear g2_gc_0); (try clear k2_gc_1); (try clear g2_gc_1); (try clear B2); (try clear z2); (try clear q2_a); (try clear x2_a); (try clear y2_a); (try clear q2_b); (try clear x2_b); (try clear y2_b); (try clear q2_p); (try clear x2_p); (try clear y2_p); (try clear q2_ga); (try clear x2_ga); (try clear y2_ga); (try clear q2_gb); (try clear x2_gb); (try clear y2_gb); (try clear q2_gc); (try clear x2_gc); (try clear y2_gc)))
    go_ret
    refine ⟨rfl, ?_⟩
    repeat (first | with_reducible exact Below.refl _ _ | with_reducible exact B3 | with_reducible apply below_drewN | with_reducible apply Below.drew | (with_reducible refine Below.alloc ?_ (by first | (simp; done) | (simp; omega) | omega) _) | (with_reducible refine Below.setCell ?_ (by first | (simp; done) | (simp; omega) | omega) _))
end Go.Proofs.Ytahdnlebokmajaa
