import Derived.Test.YtfbgfnebodabpaaMl
import Derived.WalkKit
import Derived.WalkSpells
import Derived.WalkLawsBesides
import Derived.Lib.Hide
import Derived.Below
import Derived.Deep.QuietTactic
import Derived.BigQuiet
import Derived.StillTailTactics
import Derived.Deep.RegionHeld3
import Derived.IntWalk
namespace Go.Proofs.Ytfbgfnebodabpaa
open Go.RowKit
set_option linter.unusedVariables false
set_option linter.unusedSimpArgs false
theorem gridN_const (v x0 y0 : Int) (n m : Nat) : gridN (fun _ _ => v) x0 y0 n m = List.replicate (n * m) v := by
  induction m with
  | zero => simp [gridN]
  | succ m ih =>
    rw [gridN_snoc, ih]
    have : rowL (fun _ _ => v) (y0 + (m : Int)) x0 n = List.replicate n v := by
      unfold rowL
      exact List.eq_replicate_iff.2 ⟨by simp, by simp⟩
    rw [this, List.replicate_append_replicate, Nat.mul_succ]
set_option maxRecDepth 50000 in
set_option maxHeartbeats 4000000 in
theorem runi_any (a b c d v : Int) (x0 x1 x2 x3 : Int) (w : World) (h0 : cn (eR a b c d) a = x0) (h1 : cn (eR a b c d) b = x1) (h2 : cn (eR a b c d) c = x2) (h3 : cn (eR a b c d) d = x3) (hv : vR a b c d = true) (hA : arR a b c d ≤ 65536) :
    Calls Try.prog 25 #[.agg #[.int .i64 a, .int .i64 b, .int .i64 c, .int .i64 d], .int .u8 v] w (AnsM w x0 x1 x2 x3 (gridL (fun _ _ => v) x0 x1 x2 x3) 0) := by
  have hva := fun W => rvalid_any a b c d W
  rw [hv] at hva
  have har := fun W => rarea_any a b c d W
  have hA2 : (cn (eR a b c d) c - cn (eR a b c d) a) * (cn (eR a b c d) d - cn (eR a b c d) b) = arR a b c d := rfl
  rw [hA2] at har
  have hca := fun W => rcanon_any a b c d W
  have hca0 := caR_cn a b c d
  have hA0 := arR_cn a b c d
  rw [h0, h1, h2, h3] at hca hca0 hA0
  obtain ⟨nn, mm, rfl, rfl, hnm, hnm2, ha, hb, hnn, hmm, h4, h5⟩ := vM_nm hca0 (by rw [hA0]; exact hA)
  rw [← hA0, hnm] at har
  obtain ⟨A, hAe⟩ : ∃ A, nn * mm = A := ⟨_, rfl⟩
  rw [hAe] at har hnm2
  rw [gridL, h4, h5, gridN_const, hAe]
  clear hA2 hAe hv h0 h1 h2 h3 hca0 hA0 hnm h4 h5
  obtain ⟨G, hG⟩ : ∃ G, List.replicate A v = G := ⟨_, rfl⟩
  rw [hG]
  have HG := Lib.hid hG
  clear hG
  have hA : (A : Int) ≤ 65536 := by omega
  go_enter Try.func25, Try.ntmps25
  go_wp2_with (first
    | (go_at_call 58; go_loud ((with_reducible refine (hva _).mono ?_); rintro e w1 ⟨rfl, hb1⟩; have hB1 : Below w.heap.size w w1 := B.bel_step (show Below w.heap.size w _ from (by (with_reducible repeat' first | exact Below.refl _ _ | assumption | apply B.belA | apply Below.drew | apply below_drewN | refine B.belS ?_ (by first | assumption | omega | (simp; done) | (simp; omega))))) hb1; have P1_r : B.Bx w1 w.heap.size [.int .i64 a, .int .i64 b, .int .i64 c, .int .i64 d] := B.Bx.below (show B.Bx _ w.heap.size [.int .i64 a, .int .i64 b, .int .i64 c, .int .i64 d] from (by (with_reducible repeat' first | assumption | exact B.Bx.new _ _ _ | refine B.Bx.newAt _ _ _ (by first | rfl | (simp; done)) | apply B.Bx.dr | apply B.Bx.drN | apply B.Bx.al | refine B.Bx.st ?_ (by first | assumption | omega | (simp; done) | (simp; omega))))) hb1; have P1_o : B.Bx w1 (w.heap.size + 1) [.int .i64 0, .int .i64 0, .int .i64 0, .int .i64 0, .slice none 0 0] := B.Bx.below (show B.Bx _ (w.heap.size + 1) [.int .i64 0, .int .i64 0, .int .i64 0, .int .i64 0, .slice none 0 0] from (by (with_reducible repeat' first | assumption | exact B.Bx.new _ _ _ | refine B.Bx.newAt _ _ _ (by first | rfl | (simp; done)) | apply B.Bx.dr | apply B.Bx.drN | apply B.Bx.al | refine B.Bx.st ?_ (by first | assumption | omega | (simp; done) | (simp; omega))))) hb1; obtain ⟨⟨k1_r_0, g1_r_0⟩, ⟨k1_r_1, g1_r_1⟩, ⟨k1_r_2, g1_r_2⟩, ⟨k1_r_3, g1_r_3⟩, x1_r, y1_r, q1_r⟩ := id P1_r.x4; obtain ⟨⟨k1_o_0, g1_o_0⟩, ⟨k1_o_1, g1_o_1⟩, ⟨k1_o_2, g1_o_2⟩, ⟨k1_o_3, g1_o_3⟩, ⟨k1_o_4, g1_o_4⟩, x1_o, y1_o, q1_o⟩ := id P1_o.x5; have hz1 := hB1.size))
    | (go_at_call 30; go_loud ((with_reducible refine (har _).mono ?_); rintro e w2 ⟨rfl, hb2⟩; have hB2 : Below w.heap.size w w2 := B.bel_step (show Below w.heap.size w _ from (by (with_reducible repeat' first | exact Below.refl _ _ | assumption | apply B.belA | apply Below.drew | apply below_drewN | refine B.belS ?_ (by first | assumption | omega | (simp; done) | (simp; omega))))) hb2; have P2_r : B.Bx w2 w.heap.size [.int .i64 a, .int .i64 b, .int .i64 c, .int .i64 d] := B.Bx.below (show B.Bx _ w.heap.size [.int .i64 a, .int .i64 b, .int .i64 c, .int .i64 d] from (by (with_reducible repeat' first | assumption | exact B.Bx.new _ _ _ | refine B.Bx.newAt _ _ _ (by first | rfl | (simp; done)) | apply B.Bx.dr | apply B.Bx.drN | apply B.Bx.al | refine B.Bx.st ?_ (by first | assumption | omega | (simp; done) | (simp; omega))))) hb2; have P2_o : B.Bx w2 (w.heap.size + 1) [.int .i64 0, .int .i64 0, .int .i64 0, .int .i64 0, .slice none 0 0] := B.Bx.below (show B.Bx _ (w.heap.size + 1) [.int .i64 0, .int .i64 0, .int .i64 0, .int .i64 0, .slice none 0 0] from (by (with_reducible repeat' first | assumption | exact B.Bx.new _ _ _ | refine B.Bx.newAt _ _ _ (by first | rfl | (simp; done)) | apply B.Bx.dr | apply B.Bx.drN | apply B.Bx.al | refine B.Bx.st ?_ (by first | assumption | omega | (simp; done) | (simp; omega))))) hb2; clear P1_r k1_r_0 g1_r_0 k1_r_1 g1_r_1 k1_r_2 g1_r_2 k1_r_3 g1_r_3 x1_r y1_r q1_r P1_o k1_o_0 g1_o_0 k1_o_1 g1_o_1 k1_o_2 g1_o_2 k1_o_3 g1_o_3 k1_o_4 g1_o_4 x1_o y1_o q1_o; obtain ⟨⟨k2_r_0, g2_r_0⟩, ⟨k2_r_1, g2_r_1⟩, ⟨k2_r_2, g2_r_2⟩, ⟨k2_r_3, g2_r_3⟩, x2_r, y2_r, q2_r⟩ := id P2_r.x4; obtain ⟨⟨k2_o_0, g2_o_0⟩, ⟨k2_o_1, g2_o_1⟩, ⟨k2_o_2, g2_o_2⟩, ⟨k2_o_3, g2_o_3⟩, ⟨k2_o_4, g2_o_4⟩, x2_o, y2_o, q2_o⟩ := id P2_o.x5; have hz2 := hB2.size))
    | (go_at_call 49; go_loud ((with_reducible refine (hca _).mono ?_); rintro e w3 ⟨rfl, hb3⟩; have hB3 : Below w.heap.size w w3 := B.bel_step (show Below w.heap.size w _ from (by (with_reducible repeat' first | exact Below.refl _ _ | assumption | apply B.belA | apply Below.drew | apply below_drewN | refine B.belS ?_ (by first | assumption | omega | (simp; done) | (simp; omega))))) hb3; have P3_r : B.Bx w3 w.heap.size [.int .i64 a, .int .i64 b, .int .i64 c, .int .i64 d] := B.Bx.below (show B.Bx _ w.heap.size [.int .i64 a, .int .i64 b, .int .i64 c, .int .i64 d] from (by (with_reducible repeat' first | assumption | exact B.Bx.new _ _ _ | refine B.Bx.newAt _ _ _ (by first | rfl | (simp; done)) | apply B.Bx.dr | apply B.Bx.drN | apply B.Bx.al | refine B.Bx.st ?_ (by first | assumption | omega | (simp; done) | (simp; omega))))) hb3; have P3_o : B.Bx w3 (w.heap.size + 1) [.int .i64 0, .int .i64 0, .int .i64 0, .int .i64 0, .slice none 0 0] := B.Bx.below (show B.Bx _ (w.heap.size + 1) [.int .i64 0, .int .i64 0, .int .i64 0, .int .i64 0, .slice none 0 0] from (by (with_reducible repeat' first | assumption | exact B.Bx.new _ _ _ | refine B.Bx.newAt _ _ _ (by first | rfl | (simp; done)) | apply B.Bx.dr | apply B.Bx.drN | apply B.Bx.al | refine B.Bx.st ?_ (by first | assumption | omega | (simp; done) | (simp; omega))))) hb3; clear P2_r k2_r_0 g2_r_0 k2_r_1 g2_r_1 k2_r_2 g2_r_2 k2_r_3 g2_r_3 x2_r y2_r q2_r P2_o k2_o_0 g2_o_0 k2_o_1 g2_o_1 k2_o_2 g2_o_2 k2_o_3 g2_o_3 k2_o_4 g2_o_4 x2_o y2_o q2_o; obtain ⟨⟨k3_r_0, g3_r_0⟩, ⟨k3_r_1, g3_r_1⟩, ⟨k3_r_2, g3_r_2⟩, ⟨k3_r_3, g3_r_3⟩, x3_r, y3_r, q3_r⟩ := id P3_r.x4; obtain ⟨⟨k3_o_0, g3_o_0⟩, ⟨k3_o_1, g3_o_1⟩, ⟨k3_o_2, g3_o_2⟩, ⟨k3_o_3, g3_o_3⟩, ⟨k3_o_4, g3_o_4⟩, x3_o, y3_o, q3_o⟩ := id P3_o.x5; have hz3 := hB3.size)))
  have HB1 := Lib.hid hB3
  have hgo : w.heap.size + 1 < w3.heap.size := q3_o
  go_loopw [7] (fun i wr => ∃ (t : Nat) (vv : Value), t ≤ A ∧ i = .int .i64 t ∧ RL w3 x0 x1 (x0 + (nn : Int)) (x1 + (mm : Int)) vv (List.replicate t v) wr) (fun i _ => A - (intOf i).toNat)
  case atStart => exact ⟨0, _, Nat.zero_le _, by go_num, RL.start w3 x0 x1 (x0 + (nn : Int)) (x1 + (mm : Int)) _⟩
  case round =>
    obtain ⟨t, vv, hk, rfl, hrl⟩ := hrel
    have hbw := hrl.2.2
    have PR_r := B.Bx.below P3_r hbw
    have PR_o := B.Bx.below P3_o hbw
    obtain ⟨⟨kr_0, gr_0⟩, ⟨kr_1, gr_1⟩, ⟨kr_2, gr_2⟩, ⟨kr_3, gr_3⟩, xr, yr, qr⟩ := id PR_r.x4
    obtain ⟨⟨ko_0, go_0⟩, ⟨ko_1, go_1⟩, ⟨ko_2, go_2⟩, ⟨ko_3, go_3⟩, ⟨ko_4, go_4⟩, xo, yo, qo⟩ := id PR_o.x5
    obtain ⟨⟨ku_0, gu_0⟩, ⟨ku_1, gu_1⟩, ⟨ku_2, gu_2⟩, ⟨ku_3, gu_3⟩, ⟨ku_4, gu_4⟩, xu, yu, qu⟩ := id hrl.2.1.x5
    have hHR := Lib.hid hrl
    obtain ⟨a5, c5, rfl⟩ := own_slice hrl.1
    by_cases hlt : t < A
    · have hll : (List.replicate t v).length + 1 ≤ 1000000 := by rw [List.length_replicate]; omega
      have HMK := Lib.hid (show List.replicate (t + 1) v = List.replicate t v ++ [v] from List.replicate_succ')
      obtain ⟨L, hL⟩ : ∃ L, List.replicate t v = L := ⟨_, rfl⟩
      rw [hL] at hll hrl ku_4 hHR
      replace HMK := Lib.hid (show List.replicate (t + 1) v = L ++ [v] by rw [HMK.out, hL])
      clear hL
      have hlt3 : (t : Int) < (A : Int) := by omega
      go_wp2_with (first
        | (go_at_call 30; go_loud ((with_reducible refine (har _).mono ?_); rintro e w9 ⟨rfl, hb9⟩; have hR9 := RL.below hrl hb9; have P9 := hR9.2.1; obtain ⟨⟨kz_0, gz_0⟩, ⟨kz_1, gz_1⟩, ⟨kz_2, gz_2⟩, ⟨kz_3, gz_3⟩, ⟨kz_4, gz_4⟩, xz, yz, qz⟩ := id P9.x5; have P9_r := B.Bx.below PR_r hb9; obtain ⟨⟨ky_0, gy_0⟩, ⟨ky_1, gy_1⟩, ⟨ky_2, gy_2⟩, ⟨ky_3, gy_3⟩, xy, yy, qy⟩ := id P9_r.x4))
        | (at_builtin; go_loud (refine wpList_snocA (B := w3.heap.size + 1) u8V rfl _ _ _ _ rfl Try.underlying24 infoB rfl (by omega) hR9.1 hR9.lt hll (by omega) v _ rfl rfl (by simp [u8V, Value.oneCell']) rfl rfl rfl ?_; intro v5 w5 hown5 hbw5 hgr5 hat5; obtain ⟨a6, c6, rfl⟩ := own_slice hown5; have hst5 := (BxB hR9.2.1 hbw5 (by omega)).c 4 rfl; obtain ⟨fk5, fz5⟩ := hst5)))
      go_roundw
      case rel => exact ⟨t + 1, _, by omega, by go_num, by rw [HMK.out]; exact RL.put hR9 (by rw [List.length_append]; exact hown5) hbw5⟩
      case measure => (simp [intOf]; try omega)
    · obtain rfl : t = A := by omega
      have hnm := nm_own hrl.1
      rw [HG.out] at hnm ku_4 hrl
      have hBw : Below w.heap.size w wr := HB1.out.trans (hbw.mono hz3)
      go_wp2_with (go_at_call 30; go_loud ((with_reducible refine (har _).mono ?_); rintro e w9 ⟨rfl, hb9⟩; have hR9 := RL.below hrl hb9; have P9 := hR9.2.1; obtain ⟨⟨kz_0, gz_0⟩, ⟨kz_1, gz_1⟩, ⟨kz_2, gz_2⟩, ⟨kz_3, gz_3⟩, ⟨kz_4, gz_4⟩, xz, yz, qz⟩ := id P9.x5; have P9_o := B.Bx.below PR_o hb9; obtain ⟨⟨ky_0, gy_0⟩, ⟨ky_1, gy_1⟩, ⟨ky_2, gy_2⟩, ⟨ky_3, gy_3⟩, ⟨ky_4, gy_4⟩, xy, yy, qy⟩ := id P9_o.x5; have hnm9 := hnm.below hb9; have hBw9 := hBw.trans (hb9.mono hBw.size)))
      refine bodyPost_ret (v := .tuple #[.agg #[.int .i64 x0, .int .i64 x1, .int .i64 (x0 + (nn : Int)), .int .i64 (x1 + (mm : Int)), .slice a5 G.length c5], .int .i64 0]) (by simp [results, Try.results25, go_sem, *]) rfl ⟨a5, c5, rfl, NM.mono (by (with_reducible repeat' first | assumption | apply NM.dr | apply NM.al | refine NM.st ?_ (by first | assumption | omega | (simp; done) | (simp; omega)))) (show w.heap.size ≤ w3.heap.size + 1 by omega), (by (with_reducible repeat' first | exact Below.refl _ _ | assumption | apply B.belA | apply Below.drew | apply below_drewN | refine B.belS ?_ (by first | assumption | omega | (simp; done) | (simp; omega))))⟩
set_option maxRecDepth 50000 in
set_option maxHeartbeats 4000000 in
theorem runi_bad (a b c d v : Int) (w : World) (hv : vR a b c d = false) : Calls Try.prog 25 #[.agg #[.int .i64 a, .int .i64 b, .int .i64 c, .int .i64 d], .int .u8 v] w (AnsM w 0 0 0 0 [] 6) := by
  have hva := fun W => rvalid_any a b c d W
  rw [hv] at hva
  have har := fun W => rarea_any a b c d W
  have hA2 : (cn (eR a b c d) c - cn (eR a b c d) a) * (cn (eR a b c d) d - cn (eR a b c d) b) = arR a b c d := rfl
  rw [hA2] at har
  obtain ⟨A, hA3⟩ : ∃ A, arR a b c d = A := ⟨_, rfl⟩
  rw [hA3] at har
  clear hA2 hA3 hv
  go_enter Try.func25, Try.ntmps25
  go_wp2_with (go_at_call 58; go_loud ((with_reducible refine (hva _).mono ?_); rintro e w1 ⟨rfl, hb1⟩; have hB1 : Below w.heap.size w w1 := B.bel_step (show Below w.heap.size w _ from (by (with_reducible repeat' first | exact Below.refl _ _ | assumption | apply B.belA | apply Below.drew | apply below_drewN | refine B.belS ?_ (by first | assumption | omega | (simp; done) | (simp; omega))))) hb1; have P1_r : B.Bx w1 w.heap.size [.int .i64 a, .int .i64 b, .int .i64 c, .int .i64 d] := B.Bx.below (show B.Bx _ w.heap.size [.int .i64 a, .int .i64 b, .int .i64 c, .int .i64 d] from (by (with_reducible repeat' first | assumption | exact B.Bx.new _ _ _ | refine B.Bx.newAt _ _ _ (by first | rfl | (simp; done)) | apply B.Bx.dr | apply B.Bx.drN | apply B.Bx.al | refine B.Bx.st ?_ (by first | assumption | omega | (simp; done) | (simp; omega))))) hb1; have P1_o : B.Bx w1 (w.heap.size + 1) [.int .i64 0, .int .i64 0, .int .i64 0, .int .i64 0, .slice none 0 0] := B.Bx.below (show B.Bx _ (w.heap.size + 1) [.int .i64 0, .int .i64 0, .int .i64 0, .int .i64 0, .slice none 0 0] from (by (with_reducible repeat' first | assumption | exact B.Bx.new _ _ _ | refine B.Bx.newAt _ _ _ (by first | rfl | (simp; done)) | apply B.Bx.dr | apply B.Bx.drN | apply B.Bx.al | refine B.Bx.st ?_ (by first | assumption | omega | (simp; done) | (simp; omega))))) hb1; obtain ⟨⟨k1_r_0, g1_r_0⟩, ⟨k1_r_1, g1_r_1⟩, ⟨k1_r_2, g1_r_2⟩, ⟨k1_r_3, g1_r_3⟩, x1_r, y1_r, q1_r⟩ := id P1_r.x4; obtain ⟨⟨k1_o_0, g1_o_0⟩, ⟨k1_o_1, g1_o_1⟩, ⟨k1_o_2, g1_o_2⟩, ⟨k1_o_3, g1_o_3⟩, ⟨k1_o_4, g1_o_4⟩, x1_o, y1_o, q1_o⟩ := id P1_o.x5; have hz1 := hB1.size))
  refine bodyPost_ret (v := .tuple #[.agg #[.int .i64 0, .int .i64 0, .int .i64 0, .int .i64 0, .slice none 0 0], .int .i64 6]) (by simp [results, Try.results25, go_sem, *]) rfl ⟨none, 0, rfl, NM.nil _ _ _, (by (with_reducible repeat' first | exact Below.refl _ _ | assumption | apply B.belA | apply Below.drew | apply below_drewN | refine B.belS ?_ (by first | assumption | omega | (simp; done) | (simp; omega))))⟩
set_option maxRecDepth 50000 in
set_option maxHeartbeats 4000000 in
theorem runi_big (a b c d v : Int) (w : World) (hv : vR a b c d = true) (hA : 65536 < arR a b c d) : Calls Try.prog 25 #[.agg #[.int .i64 a, .int .i64 b, .int .i64 c, .int .i64 d], .int .u8 v] w (AnsM w 0 0 0 0 [] 5) := by
  have hva := fun W => rvalid_any a b c d W
  rw [hv] at hva
  have har := fun W => rarea_any a b c d W
  have hA2 : (cn (eR a b c d) c - cn (eR a b c d) a) * (cn (eR a b c d) d - cn (eR a b c d) b) = arR a b c d := rfl
  rw [hA2] at har
  obtain ⟨A, hA3⟩ : ∃ A, arR a b c d = A := ⟨_, rfl⟩
  rw [hA3] at har hA
  clear hA2 hA3 hv
  go_enter Try.func25, Try.ntmps25
  go_wp2_with (first
    | (go_at_call 58; go_loud ((with_reducible refine (hva _).mono ?_); rintro e w1 ⟨rfl, hb1⟩; have hB1 : Below w.heap.size w w1 := B.bel_step (show Below w.heap.size w _ from (by (with_reducible repeat' first | exact Below.refl _ _ | assumption | apply B.belA | apply Below.drew | apply below_drewN | refine B.belS ?_ (by first | assumption | omega | (simp; done) | (simp; omega))))) hb1; have P1_r : B.Bx w1 w.heap.size [.int .i64 a, .int .i64 b, .int .i64 c, .int .i64 d] := B.Bx.below (show B.Bx _ w.heap.size [.int .i64 a, .int .i64 b, .int .i64 c, .int .i64 d] from (by (with_reducible repeat' first | assumption | exact B.Bx.new _ _ _ | refine B.Bx.newAt _ _ _ (by first | rfl | (simp; done)) | apply B.Bx.dr | apply B.Bx.drN | apply B.Bx.al | refine B.Bx.st ?_ (by first | assumption | omega | (simp; done) | (simp; omega))))) hb1; have P1_o : B.Bx w1 (w.heap.size + 1) [.int .i64 0, .int .i64 0, .int .i64 0, .int .i64 0, .slice none 0 0] := B.Bx.below (show B.Bx _ (w.heap.size + 1) [.int .i64 0, .int .i64 0, .int .i64 0, .int .i64 0, .slice none 0 0] from (by (with_reducible repeat' first | assumption | exact B.Bx.new _ _ _ | refine B.Bx.newAt _ _ _ (by first | rfl | (simp; done)) | apply B.Bx.dr | apply B.Bx.drN | apply B.Bx.al | refine B.Bx.st ?_ (by first | assumption | omega | (simp; done) | (simp; omega))))) hb1; obtain ⟨⟨k1_r_0, g1_r_0⟩, ⟨k1_r_1, g1_r_1⟩, ⟨k1_r_2, g1_r_2⟩, ⟨k1_r_3, g1_r_3⟩, x1_r, y1_r, q1_r⟩ := id P1_r.x4; obtain ⟨⟨k1_o_0, g1_o_0⟩, ⟨k1_o_1, g1_o_1⟩, ⟨k1_o_2, g1_o_2⟩, ⟨k1_o_3, g1_o_3⟩, ⟨k1_o_4, g1_o_4⟩, x1_o, y1_o, q1_o⟩ := id P1_o.x5; have hz1 := hB1.size))
    | (go_at_call 30; go_loud ((with_reducible refine (har _).mono ?_); rintro e w2 ⟨rfl, hb2⟩; have hB2 : Below w.heap.size w w2 := B.bel_step (show Below w.heap.size w _ from (by (with_reducible repeat' first | exact Below.refl _ _ | assumption | apply B.belA | apply Below.drew | apply below_drewN | refine B.belS ?_ (by first | assumption | omega | (simp; done) | (simp; omega))))) hb2; have P2_r : B.Bx w2 w.heap.size [.int .i64 a, .int .i64 b, .int .i64 c, .int .i64 d] := B.Bx.below (show B.Bx _ w.heap.size [.int .i64 a, .int .i64 b, .int .i64 c, .int .i64 d] from (by (with_reducible repeat' first | assumption | exact B.Bx.new _ _ _ | refine B.Bx.newAt _ _ _ (by first | rfl | (simp; done)) | apply B.Bx.dr | apply B.Bx.drN | apply B.Bx.al | refine B.Bx.st ?_ (by first | assumption | omega | (simp; done) | (simp; omega))))) hb2; have P2_o : B.Bx w2 (w.heap.size + 1) [.int .i64 0, .int .i64 0, .int .i64 0, .int .i64 0, .slice none 0 0] := B.Bx.below (show B.Bx _ (w.heap.size + 1) [.int .i64 0, .int .i64 0, .int .i64 0, .int .i64 0, .slice none 0 0] from (by (with_reducible repeat' first | assumption | exact B.Bx.new _ _ _ | refine B.Bx.newAt _ _ _ (by first | rfl | (simp; done)) | apply B.Bx.dr | apply B.Bx.drN | apply B.Bx.al | refine B.Bx.st ?_ (by first | assumption | omega | (simp; done) | (simp; omega))))) hb2; clear P1_r k1_r_0 g1_r_0 k1_r_1 g1_r_1 k1_r_2 g1_r_2 k1_r_3 g1_r_3 x1_r y1_r q1_r P1_o k1_o_0 g1_o_0 k1_o_1 g1_o_1 k1_o_2 g1_o_2 k1_o_3 g1_o_3 k1_o_4 g1_o_4 x1_o y1_o q1_o; obtain ⟨⟨k2_r_0, g2_r_0⟩, ⟨k2_r_1, g2_r_1⟩, ⟨k2_r_2, g2_r_2⟩, ⟨k2_r_3, g2_r_3⟩, x2_r, y2_r, q2_r⟩ := id P2_r.x4; obtain ⟨⟨k2_o_0, g2_o_0⟩, ⟨k2_o_1, g2_o_1⟩, ⟨k2_o_2, g2_o_2⟩, ⟨k2_o_3, g2_o_3⟩, ⟨k2_o_4, g2_o_4⟩, x2_o, y2_o, q2_o⟩ := id P2_o.x5; have hz2 := hB2.size)))
  refine bodyPost_ret (v := .tuple #[.agg #[.int .i64 0, .int .i64 0, .int .i64 0, .int .i64 0, .slice none 0 0], .int .i64 5]) (by simp [results, Try.results25, go_sem, *]) rfl ⟨none, 0, rfl, NM.nil _ _ _, (by (with_reducible repeat' first | exact Below.refl _ _ | assumption | apply B.belA | apply Below.drew | apply below_drewN | refine B.belS ?_ (by first | assumption | omega | (simp; done) | (simp; omega))))⟩
end Go.Proofs.Ytfbgfnebodabpaa
