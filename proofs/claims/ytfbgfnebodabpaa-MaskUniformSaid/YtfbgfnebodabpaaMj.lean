import Derived.Test.YtfbgfnebodabpaaMi
import Derived.WalkKit
import Derived.WalkSpells
import Derived.WalkLawsBesides
import Derived.Lib.Hide
import Derived.Below
import Derived.Deep.QuietTactic
import Derived.BigQuiet
import Derived.StillTailTactics
import Derived.Deep.RegionHeld3
import Derived.IntWalk
namespace Go.Proofs.Ytfbgfnebodabpaa
open Go.RowKit
set_option linter.unusedVariables false
set_option linter.unusedSimpArgs false
set_option maxRecDepth 50000 in
set_option maxHeartbeats 4000000 in
theorem rsca_any (a b c d k : Int) (hk0 : 0 ≤ k) (hk1 : k ≤ 255) (p : Option Addr) (n q : Nat) (l : List Int) (w : World) (hn : l.length = n) (hr : RS 1 u8V w p l) (hB : BB l) (hv : vM a b c d n = true) :
    Calls Try.prog 37 #[.agg #[.int .i64 a, .int .i64 b, .int .i64 c, .int .i64 d, .slice p n q], .int .u8 k] w (AnsM w a b c d (l.map (fun x => mn8 x k)) 0) := by
  subst hn
  have r0_l := hr
  have hm : l.length ≤ 65536 := by have := vM_of hv; omega
  have hva := fun W => rmvalid_any a b c d p l.length q W
  rw [hv] at hva
  obtain ⟨G, hG⟩ : ∃ G, l.map (fun x : Int => mn8 x k) = G := ⟨_, rfl⟩
  rw [hG]
  have HG := Lib.hid hG
  clear hv hG
  go_enter Try.func37, Try.ntmps37
  go_wp2_with (go_at_call 16; go_loud ((with_reducible refine (hva _).mono ?_); rintro e w1 ⟨rfl, hb1⟩; have hB1 : Below w.heap.size w w1 := B.bel_step (show Below w.heap.size w _ from (by (with_reducible repeat' first | exact Below.refl _ _ | assumption | apply B.belA | apply Below.drew | apply below_drewN | refine B.belS ?_ (by first | assumption | omega | (simp; done) | (simp; omega))))) hb1; have P1_m : B.Bx w1 w.heap.size [.int .i64 a, .int .i64 b, .int .i64 c, .int .i64 d, .slice p l.length q] := B.Bx.below (show B.Bx _ w.heap.size [.int .i64 a, .int .i64 b, .int .i64 c, .int .i64 d, .slice p l.length q] from (by (with_reducible repeat' first | assumption | exact B.Bx.new _ _ _ | refine B.Bx.newAt _ _ _ (by first | rfl | (simp; done)) | apply B.Bx.dr | apply B.Bx.drN | apply B.Bx.al | refine B.Bx.st ?_ (by first | assumption | omega | (simp; done) | (simp; omega))))) hb1; have P1_o : B.Bx w1 (w.heap.size + 1) [.int .i64 0, .int .i64 0, .int .i64 0, .int .i64 0, .slice none 0 0] := B.Bx.below (show B.Bx _ (w.heap.size + 1) [.int .i64 0, .int .i64 0, .int .i64 0, .int .i64 0, .slice none 0 0] from (by (with_reducible repeat' first | assumption | exact B.Bx.new _ _ _ | refine B.Bx.newAt _ _ _ (by first | rfl | (simp; done)) | apply B.Bx.dr | apply B.Bx.drN | apply B.Bx.al | refine B.Bx.st ?_ (by first | assumption | omega | (simp; done) | (simp; omega))))) hb1; have r1_l : RS 1 u8V w1 p l := RS.below (show RS 1 u8V _ p l from (by (with_reducible repeat' first | assumption | apply B.rs_al | apply B.rs_drN | apply RS.drewN | apply B.rs_dr))) hb1; obtain ⟨⟨k1_m_0, g1_m_0⟩, ⟨k1_m_1, g1_m_1⟩, ⟨k1_m_2, g1_m_2⟩, ⟨k1_m_3, g1_m_3⟩, ⟨k1_m_4, g1_m_4⟩, x1_m, y1_m, q1_m⟩ := id P1_m.x5; obtain ⟨⟨k1_o_0, g1_o_0⟩, ⟨k1_o_1, g1_o_1⟩, ⟨k1_o_2, g1_o_2⟩, ⟨k1_o_3, g1_o_3⟩, ⟨k1_o_4, g1_o_4⟩, x1_o, y1_o, q1_o⟩ := id P1_o.x5; have hz1 := hB1.size))
  have HB1 := Lib.hid hB1
  have hgo : w.heap.size + 1 < w1.heap.size := q1_o
  go_loopw [7] (fun i wr => ∃ (t : Nat) (v : Value), t ≤ l.length ∧ i = .int .i64 t ∧ RL w1 a b c d v ((l.take t).map (fun x => mn8 x k)) wr) (fun i _ => l.length - (intOf i).toNat)
  case atStart => exact ⟨0, _, Nat.zero_le _, by go_num, RL.start w1 a b c d _⟩
  case round =>
    obtain ⟨t, v, hk, rfl, hrl⟩ := hrel
    have hbw := hrl.2.2
    have P2_m := B.Bx.below P1_m hbw
    have P2_o := B.Bx.below P1_o hbw
    obtain ⟨⟨km_0, gm_0⟩, ⟨km_1, gm_1⟩, ⟨km_2, gm_2⟩, ⟨km_3, gm_3⟩, ⟨km_4, gm_4⟩, xm, ym, qm⟩ := id P2_m.x5
    obtain ⟨⟨ko_0, go_0⟩, ⟨ko_1, go_1⟩, ⟨ko_2, go_2⟩, ⟨ko_3, go_3⟩, ⟨ko_4, go_4⟩, xo, yo, qo⟩ := id P2_o.x5
    obtain ⟨⟨ku_0, gu_0⟩, ⟨ku_1, gu_1⟩, ⟨ku_2, gu_2⟩, ⟨ku_3, gu_3⟩, ⟨ku_4, gu_4⟩, xu, yu, qu⟩ := id hrl.2.1.x5
    by_cases hlt : t < l.length
    · have hvb := hB _ (List.getElem_mem hlt)
      obtain ⟨ad, rfl, hc1⟩ := RS.b r1_l hlt
      obtain ⟨y, hy⟩ : ∃ y, l[t] = y := ⟨_, rfl⟩
      rw [hy] at hc1 hvb
      have c2_y := B.cs hbw hc1
      have hcb := World.block_lt_of_cell? w1 _ hc1
      have hmn := fun W => rmn_b y k hvb.1 hvb.2 hk0 hk1 W
      have hmk := Lib.hid (show (l.take (t + 1)).map (fun x => mn8 x k) = (l.take t).map (fun x => mn8 x k) ++ [mn8 y k] by rw [List.take_add_one, List.getElem?_eq_getElem hlt, List.map_append, hy]; rfl)
      obtain ⟨Y, hY⟩ : ∃ Y, mn8 y k = Y := ⟨_, rfl⟩
      rw [hY] at hmn
      have hll : ((l.take t).map (fun x : Int => mn8 x k)).length + 1 ≤ 1000000 := by rw [List.length_map, List.length_take]; omega
      obtain ⟨a5, c5, rfl⟩ := own_slice hrl.1
      obtain ⟨L, hL⟩ : ∃ L, (l.take t).map (fun x : Int => mn8 x k) = L := ⟨_, rfl⟩
      rw [hL] at hrl hll ku_4
      have HMK := Lib.hid (show (l.take (t + 1)).map (fun x => mn8 x k) = L ++ [Y] by rw [hmk.out, hL, hY])
      have hHR := Lib.hid hrl
      clear hy hL hmk hY
      go_wp2
      have hZ2 := hHR.out.2.1
      have c8_y : wr.drew.cell? (ad.add t) = some (.int .u8 y) := c2_y
      have kp : ∀ {W' : World}, B.Bx W' (w.heap.size) [.int .i64 a, .int .i64 b, .int .i64 c, .int .i64 d, .slice (some ad) l.length q] → B.Bx W' (w1.heap.size) [.int .i64 a, .int .i64 b, .int .i64 c, .int .i64 d, .slice a5 L.length c5] → W'.cell? (ad.add t) = some (.int .u8 y) → (W'.cell? ⟨w.heap.size, 0, none⟩ = some (.int .i64 a) ∧ W'.cell? ⟨w.heap.size, 1, none⟩ = some (.int .i64 b) ∧ W'.cell? ⟨w.heap.size, 2, none⟩ = some (.int .i64 c) ∧ W'.cell? ⟨w.heap.size, 3, none⟩ = some (.int .i64 d) ∧ W'.cell? ⟨w.heap.size, 4, none⟩ = some (.slice (some ad) l.length q) ∧ W'.cell? ⟨w1.heap.size, 0, none⟩ = some (.int .i64 a) ∧ W'.cell? ⟨w1.heap.size, 1, none⟩ = some (.int .i64 b) ∧ W'.cell? ⟨w1.heap.size, 2, none⟩ = some (.int .i64 c) ∧ W'.cell? ⟨w1.heap.size, 3, none⟩ = some (.int .i64 d) ∧ W'.cell? ⟨w1.heap.size, 4, none⟩ = some (.slice a5 L.length c5) ∧ W'.cell? (ad.add t) = some (.int .u8 y)) := fun h0 h1 z0 => ⟨(h0.c 0 rfl).1, (h0.c 1 rfl).1, (h0.c 2 rfl).1, (h0.c 3 rfl).1, (h0.c 4 rfl).1, (h1.c 0 rfl).1, (h1.c 1 rfl).1, (h1.c 2 rfl).1, (h1.c 3 rfl).1, (h1.c 4 rfl).1, z0⟩
      refine wp_region_last (S := (fun W' => W'.cell? ⟨w.heap.size, 0, none⟩ = some (.int .i64 a) ∧ W'.cell? ⟨w.heap.size, 1, none⟩ = some (.int .i64 b) ∧ W'.cell? ⟨w.heap.size, 2, none⟩ = some (.int .i64 c) ∧ W'.cell? ⟨w.heap.size, 3, none⟩ = some (.int .i64 d) ∧ W'.cell? ⟨w.heap.size, 4, none⟩ = some (.slice (some ad) l.length q) ∧ W'.cell? ⟨w1.heap.size, 0, none⟩ = some (.int .i64 a) ∧ W'.cell? ⟨w1.heap.size, 1, none⟩ = some (.int .i64 b) ∧ W'.cell? ⟨w1.heap.size, 2, none⟩ = some (.int .i64 c) ∧ W'.cell? ⟨w1.heap.size, 3, none⟩ = some (.int .i64 d) ∧ W'.cell? ⟨w1.heap.size, 4, none⟩ = some (.slice a5 L.length c5) ∧ W'.cell? (ad.add t) = some (.int .u8 y))) (ops' := #[{ dst := some 22, op := Op.fieldAddr 26 (Operand.tmp 6) 1, type := 0, pos := "ref.go:122", after := #[], guard := none }, { dst := some 23, op := Op.load 24 (Operand.tmp 22), type := 24, pos := "ref.go:122", after := #[{ on := 0, ground := Ground.data }], guard := none }, { dst := some 24, op := Op.fieldAddr 26 (Operand.tmp 2) 1, type := 0, pos := "ref.go:122", after := #[], guard := none }, { dst := some 25, op := Op.load 24 (Operand.tmp 24), type := 24, pos := "ref.go:122", after := #[{ on := 2, ground := Ground.data }], guard := none }, { dst := some 26, op := Op.move (Operand.tmp 7), type := 3, pos := "ref.go:122", after := #[], guard := none }, { dst := some 27, op := Op.indexAddr 24 (Operand.tmp 25) (Operand.tmp 26), type := 0, pos := "ref.go:122", after := #[{ on := 3, ground := Ground.data }, { on := 4, ground := Ground.data }], guard := none }, { dst := some 28, op := Op.load 5 (Operand.tmp 27), type := 5, pos := "ref.go:122", after := #[{ on := 5, ground := Ground.data }], guard := none }, { dst := some 29, op := Op.move (Operand.tmp 1), type := 5, pos := "ref.go:122", after := #[], guard := none }, { dst := some 30, op := Op.call { callee := Callee.value (Operand.func 64), args := #[Operand.tmp 28, Operand.tmp 29], argTypes := #[5, 5] }, type := 5, pos := "ref.go:122", after := #[{ on := 6, ground := Ground.data }, { on := 7, ground := Ground.data }], guard := none }, { dst := some 31, op := Op.buildSlice 24 1 #[(0, Operand.tmp 30)], type := 24, pos := "ref.go:122", after := #[{ on := 8, ground := Ground.data }], guard := none }, { dst := some 32, op := Op.call { callee := Callee.builtin Go.Builtin.append, args := #[Operand.tmp 23, Operand.tmp 31], argTypes := #[24, 24] }, type := 24, pos := "ref.go:122", after := #[{ on := 1, ground := Ground.data }, { on := 9, ground := Ground.data }, { on := 8, ground := Ground.chain }], guard := none }, { dst := some 33, op := Op.fieldAddr 26 (Operand.tmp 6) 1, type := 0, pos := "ref.go:122", after := #[{ on := 0, ground := Ground.phase }, { on := 1, ground := Ground.phase }, { on := 2, ground := Ground.phase }, { on := 3, ground := Ground.phase }, { on := 4, ground := Ground.phase }, { on := 5, ground := Ground.phase }, { on := 6, ground := Ground.phase }, { on := 7, ground := Ground.phase }, { on := 8, ground := Ground.phase }, { on := 9, ground := Ground.phase }, { on := 10, ground := Ground.phase }], guard := none }]) (o := { dst := none, op := Op.store 24 (Operand.tmp 33) (Operand.tmp 32), type := 0, pos := "ref.go:122", after := #[{ on := 11, ground := Ground.data }, { on := 10, ground := Ground.data }, { on := 10, ground := Ground.chain }, { on := 0, ground := Ground.phase }, { on := 1, ground := Ground.phase }, { on := 2, ground := Ground.phase }, { on := 3, ground := Ground.phase }, { on := 4, ground := Ground.phase }, { on := 5, ground := Ground.phase }, { on := 6, ground := Ground.phase }, { on := 7, ground := Ground.phase }, { on := 8, ground := Ground.phase }, { on := 9, ground := Ground.phase }, { on := 10, ground := Ground.phase }], guard := none }) (by kernel_rfl) (by rfl) (by kernel_rfl) (by kernel_rfl) ?_ (fun hHeld => ?_)
      · (try dsimp only); (first | (with_reducible exact KP) | (refine kp ?_ ?_ ?_ <;> first | with_reducible assumption | (with_reducible exact B.Bx.al (by assumption) _) | (with_reducible exact B.Bx.dr (by assumption)) | go_keep))
      refine wpAnyH_take (i := 0) (oi := { dst := some 22, op := Op.fieldAddr 26 (Operand.tmp 6) 1, type := 0, pos := "ref.go:122", after := #[], guard := none }) (v := ?_) rfl (by kernel_rfl) (by kernel_rfl) (by kernel_rfl) (fun _ _ _ h => h) (Or.inl ⟨by rfl, ?_⟩) hHeld ?_
      rotate_left
      · (intro w hSw; (try dsimp only at hSw); go_simp; try with_reducible rfl)
      try simp only [Act.put, List.setIfInBounds_toArray, List.set_cons_zero, List.set_cons_succ]
      refine wpAnyH_take (i := 1) (oi := { dst := some 23, op := Op.load 24 (Operand.tmp 22), type := 24, pos := "ref.go:122", after := #[{ on := 0, ground := Ground.data }], guard := none }) (v := ?_) rfl (by kernel_rfl) (by kernel_rfl) (by kernel_rfl) (fun _ _ _ h => h) (Or.inl ⟨by rfl, ?_⟩) hHeld ?_
      rotate_left
      · (intro w hSw; (try dsimp only at hSw); go_simp; try with_reducible rfl)
      try simp only [Act.put, List.setIfInBounds_toArray, List.set_cons_zero, List.set_cons_succ]
      refine wpAnyH_take (i := 2) (oi := { dst := some 24, op := Op.fieldAddr 26 (Operand.tmp 2) 1, type := 0, pos := "ref.go:122", after := #[], guard := none }) (v := ?_) rfl (by kernel_rfl) (by kernel_rfl) (by kernel_rfl) (fun _ _ _ h => h) (Or.inl ⟨by rfl, ?_⟩) hHeld ?_
      rotate_left
      · (intro w hSw; (try dsimp only at hSw); go_simp; try with_reducible rfl)
      try simp only [Act.put, List.setIfInBounds_toArray, List.set_cons_zero, List.set_cons_succ]
      refine wpAnyH_take (i := 3) (oi := { dst := some 25, op := Op.load 24 (Operand.tmp 24), type := 24, pos := "ref.go:122", after := #[{ on := 2, ground := Ground.data }], guard := none }) (v := ?_) rfl (by kernel_rfl) (by kernel_rfl) (by kernel_rfl) (fun _ _ _ h => h) (Or.inl ⟨by rfl, ?_⟩) hHeld ?_
      rotate_left
      · (intro w hSw; (try dsimp only at hSw); go_simp; try with_reducible rfl)
      try simp only [Act.put, List.setIfInBounds_toArray, List.set_cons_zero, List.set_cons_succ]
      refine wpAnyH_take (i := 4) (oi := { dst := some 26, op := Op.move (Operand.tmp 7), type := 3, pos := "ref.go:122", after := #[], guard := none }) (v := ?_) rfl (by kernel_rfl) (by kernel_rfl) (by kernel_rfl) (fun _ _ _ h => h) (Or.inl ⟨by rfl, ?_⟩) hHeld ?_
      rotate_left
      · (intro w hSw; (try dsimp only at hSw); go_simp; try with_reducible rfl)
      try simp only [Act.put, List.setIfInBounds_toArray, List.set_cons_zero, List.set_cons_succ]
      refine wpAnyH_take (i := 5) (oi := { dst := some 27, op := Op.indexAddr 24 (Operand.tmp 25) (Operand.tmp 26), type := 0, pos := "ref.go:122", after := #[{ on := 3, ground := Ground.data }, { on := 4, ground := Ground.data }], guard := none }) (v := ?_) rfl (by kernel_rfl) (by kernel_rfl) (by kernel_rfl) (fun _ _ _ h => h) (Or.inl ⟨by rfl, ?_⟩) hHeld ?_
      rotate_left
      · (intro w hSw; (try dsimp only at hSw); go_simp; try with_reducible rfl)
      try simp only [Act.put, List.setIfInBounds_toArray, List.set_cons_zero, List.set_cons_succ]
      refine wpAnyH_take (i := 6) (oi := { dst := some 28, op := Op.load 5 (Operand.tmp 27), type := 5, pos := "ref.go:122", after := #[{ on := 5, ground := Ground.data }], guard := none }) (v := ?_) rfl (by kernel_rfl) (by kernel_rfl) (by kernel_rfl) (fun _ _ _ h => h) (Or.inl ⟨by rfl, ?_⟩) hHeld ?_
      rotate_left
      · (intro w hSw; (try dsimp only at hSw); go_simp; try with_reducible rfl)
      try simp only [Act.put, List.setIfInBounds_toArray, List.set_cons_zero, List.set_cons_succ]
      refine wpAnyH_take (i := 7) (oi := { dst := some 29, op := Op.move (Operand.tmp 1), type := 5, pos := "ref.go:122", after := #[], guard := none }) (v := ?_) rfl (by kernel_rfl) (by kernel_rfl) (by kernel_rfl) (fun _ _ _ h => h) (Or.inl ⟨by rfl, ?_⟩) hHeld ?_
      rotate_left
      · (intro w hSw; (try dsimp only at hSw); go_simp; try with_reducible rfl)
      try simp only [Act.put, List.setIfInBounds_toArray, List.set_cons_zero, List.set_cons_succ]
      refine wpAnyH_ready (rs := [8]) (by kernel_rfl) (by simp) ?_
      refine AllReadyH.cons (o := { dst := some 30, op := Op.call { callee := Callee.value (Operand.func 64), args := #[Operand.tmp 28, Operand.tmp 29], argTypes := #[5, 5] }, type := 5, pos := "ref.go:122", after := #[{ on := 6, ground := Ground.data }, { on := 7, ground := Ground.data }], guard := none }) rfl (fun K hK => ?_) AllReadyH.nil
      go_simp
      ((with_reducible refine (hmn _).mono ?_); rintro e w9 ⟨rfl, hb9⟩; have hR9 := RL.below (hHR.out.drew) hb9; have P9_m : B.Bx w9 (w.heap.size) [.int .i64 a, .int .i64 b, .int .i64 c, .int .i64 d, .slice (some ad) l.length q] := B.Bx.below (by (with_reducible repeat' first | assumption | exact B.Bx.new _ _ _ | refine B.Bx.newAt _ _ _ (by first | rfl | (simp; done)) | apply B.Bx.dr | apply B.Bx.drN | apply B.Bx.al | refine B.Bx.st ?_ (by first | assumption | omega | (simp; done) | (simp; omega)))) hb9; have c9_y := B.cs hb9 c8_y; have KP := kp P9_m hR9.2.1 c9_y; have P9_out := hR9.2.1)
      refine hK.out _ _ ?_ (fun hHeld2 => ?_)
      · (try dsimp only); (first | (with_reducible exact KP) | (refine kp ?_ ?_ ?_ <;> first | with_reducible assumption | (with_reducible exact B.Bx.al (by assumption) _) | (with_reducible exact B.Bx.dr (by assumption)) | go_keep))
      clear hK K hHeld
      have hHeld := hHeld2; clear hHeld2
      try simp only [Act.put, List.setIfInBounds_toArray, List.set_cons_zero, List.set_cons_succ]
      refine wpAnyH_ready (rs := [9]) (by kernel_rfl) (by simp) ?_
      refine AllReadyH.cons (o := { dst := some 31, op := Op.buildSlice 24 1 #[(0, Operand.tmp 30)], type := 24, pos := "ref.go:122", after := #[{ on := 8, ground := Ground.data }], guard := none }) rfl (fun K hK => ?_) AllReadyH.nil
      go_simp
      refine hK.out _ _ ?_ (fun hHeld2 => ?_)
      · (try dsimp only); (first | (with_reducible exact KP) | (refine kp ?_ ?_ ?_ <;> first | with_reducible assumption | (with_reducible exact B.Bx.al (by assumption) _) | (with_reducible exact B.Bx.dr (by assumption)) | go_keep))
      clear hK K hHeld
      have hHeld := hHeld2; clear hHeld2
      try simp only [Act.put, List.setIfInBounds_toArray, List.set_cons_zero, List.set_cons_succ]
      refine wpAnyH_ready (rs := [10]) (by kernel_rfl) (by simp) ?_
      refine AllReadyH.cons (o := { dst := some 32, op := Op.call { callee := Callee.builtin Go.Builtin.append, args := #[Operand.tmp 23, Operand.tmp 31], argTypes := #[24, 24] }, type := 24, pos := "ref.go:122", after := #[{ on := 1, ground := Ground.data }, { on := 9, ground := Ground.data }, { on := 8, ground := Ground.chain }], guard := none }) rfl (fun K hK => ?_) AllReadyH.nil
      (refine wp_snocA (B := w1.heap.size + 1) u8V _ _ _ _ rfl Try.underlying24 infoB rfl (by omega) (hR9).1 (hR9).lt hll (by omega) (Y) _ rfl rfl (by simp [u8V, Value.oneCell']) rfl rfl rfl ?_; intro v5 w5 hown5 hbw5 hgr5 hat5; obtain ⟨a6, c6, rfl⟩ := own_slice hown5; have KP := kp (BxB P9_m hbw5 (by omega)) (BxB (hR9).2.1 hbw5 (by omega)) (csB hbw5 c9_y (by omega)); have hst5 := (BxB (hR9).2.1 hbw5 (by omega)).c 4 rfl; obtain ⟨fk5, fz5⟩ := hst5)
      refine hK.out _ _ ?_ (fun hHeld2 => ?_)
      · (try dsimp only); (first | (with_reducible exact KP) | (refine kp ?_ ?_ ?_ <;> first | with_reducible assumption | (with_reducible exact B.Bx.al (by assumption) _) | (with_reducible exact B.Bx.dr (by assumption)) | go_keep))
      clear hK K hHeld
      have hHeld := hHeld2; clear hHeld2
      try simp only [Act.put, List.setIfInBounds_toArray, List.set_cons_zero, List.set_cons_succ]
      refine wpAnyH_take (i := 11) (oi := { dst := some 33, op := Op.fieldAddr 26 (Operand.tmp 6) 1, type := 0, pos := "ref.go:122", after := #[{ on := 0, ground := Ground.phase }, { on := 1, ground := Ground.phase }, { on := 2, ground := Ground.phase }, { on := 3, ground := Ground.phase }, { on := 4, ground := Ground.phase }, { on := 5, ground := Ground.phase }, { on := 6, ground := Ground.phase }, { on := 7, ground := Ground.phase }, { on := 8, ground := Ground.phase }, { on := 9, ground := Ground.phase }, { on := 10, ground := Ground.phase }], guard := none }) (v := ?_) rfl (by kernel_rfl) (by kernel_rfl) (by kernel_rfl) (fun _ _ _ h => h) (Or.inl ⟨by rfl, ?_⟩) hHeld ?_
      rotate_left
      · (intro w hSw; (try dsimp only at hSw); go_simp; try with_reducible rfl)
      try simp only [Act.put, List.setIfInBounds_toArray, List.set_cons_zero, List.set_cons_succ]
      refine wpAnyH_done (by kernel_rfl) ?_ _
      refine lastQ_normal (fun KL hKL => ?_)
      go_simp
      refine hKL _ _ ?_
      clear hKL KL
      go_wp2
      go_roundw
      case rel => exact ⟨t + 1, _, by omega, by go_num, by rw [HMK.out]; exact RL.put hR9 (by rw [List.length_append]; exact hown5) hbw5⟩
      case measure => (simp [intOf]; try omega)
    · obtain rfl : t = l.length := by omega
      rw [List.take_length, HG.out] at hrl
      obtain ⟨a5, c5, rfl⟩ := own_slice hrl.1
      have hnm := nm_own hrl.1
      have hBw : Below w.heap.size w wr := HB1.out.trans (hbw.mono hz1)
      go_wp2
      refine bodyPost_ret (v := .tuple #[.agg #[.int .i64 a, .int .i64 b, .int .i64 c, .int .i64 d, .slice a5 G.length c5], .int .i64 0]) (by simp [results, Try.results37, go_sem, *]) rfl ⟨a5, c5, rfl, NM.mono (by (with_reducible repeat' first | assumption | apply NM.dr | apply NM.al | refine NM.st ?_ (by first | assumption | omega | (simp; done) | (simp; omega)))) (show w.heap.size ≤ w1.heap.size + 1 by omega), (by (with_reducible repeat' first | exact Below.refl _ _ | assumption | apply B.belA | apply Below.drew | apply below_drewN | refine B.belS ?_ (by first | assumption | omega | (simp; done) | (simp; omega))))⟩
set_option maxRecDepth 50000 in
set_option maxHeartbeats 4000000 in
theorem rinv_bad (a b c d : Int) (p : Option Addr) (n q : Nat) (w : World) (hv : vM a b c d n = false) : Calls Try.prog 35 #[.agg #[.int .i64 a, .int .i64 b, .int .i64 c, .int .i64 d, .slice p n q]] w (AnsM w 0 0 0 0 [] 14) := by
  have hva := fun W => rmvalid_any a b c d p n q W
  rw [hv] at hva
  clear hv
  go_enter Try.func35, Try.ntmps35
  go_wp2_with (go_at_call 16; go_loud ((with_reducible refine (hva _).mono ?_); rintro e w1 ⟨rfl, hb1⟩; have hB1 : Below w.heap.size w w1 := B.bel_step (show Below w.heap.size w _ from (by (with_reducible repeat' first | exact Below.refl _ _ | assumption | apply B.belA | apply Below.drew | apply below_drewN | refine B.belS ?_ (by first | assumption | omega | (simp; done) | (simp; omega))))) hb1; have P1_m : B.Bx w1 w.heap.size [.int .i64 a, .int .i64 b, .int .i64 c, .int .i64 d, .slice p n q] := B.Bx.below (show B.Bx _ w.heap.size [.int .i64 a, .int .i64 b, .int .i64 c, .int .i64 d, .slice p n q] from (by (with_reducible repeat' first | assumption | exact B.Bx.new _ _ _ | refine B.Bx.newAt _ _ _ (by first | rfl | (simp; done)) | apply B.Bx.dr | apply B.Bx.drN | apply B.Bx.al | refine B.Bx.st ?_ (by first | assumption | omega | (simp; done) | (simp; omega))))) hb1; have P1_o : B.Bx w1 (w.heap.size + 1) [.int .i64 0, .int .i64 0, .int .i64 0, .int .i64 0, .slice none 0 0] := B.Bx.below (show B.Bx _ (w.heap.size + 1) [.int .i64 0, .int .i64 0, .int .i64 0, .int .i64 0, .slice none 0 0] from (by (with_reducible repeat' first | assumption | exact B.Bx.new _ _ _ | refine B.Bx.newAt _ _ _ (by first | rfl | (simp; done)) | apply B.Bx.dr | apply B.Bx.drN | apply B.Bx.al | refine B.Bx.st ?_ (by first | assumption | omega | (simp; done) | (simp; omega))))) hb1; obtain ⟨⟨k1_m_0, g1_m_0⟩, ⟨k1_m_1, g1_m_1⟩, ⟨k1_m_2, g1_m_2⟩, ⟨k1_m_3, g1_m_3⟩, ⟨k1_m_4, g1_m_4⟩, x1_m, y1_m, q1_m⟩ := id P1_m.x5; obtain ⟨⟨k1_o_0, g1_o_0⟩, ⟨k1_o_1, g1_o_1⟩, ⟨k1_o_2, g1_o_2⟩, ⟨k1_o_3, g1_o_3⟩, ⟨k1_o_4, g1_o_4⟩, x1_o, y1_o, q1_o⟩ := id P1_o.x5; have hz1 := hB1.size))
  refine bodyPost_ret (v := .tuple #[.agg #[.int .i64 0, .int .i64 0, .int .i64 0, .int .i64 0, .slice none 0 0], .int .i64 14]) (by simp [results, Try.results35, go_sem, *]) rfl ⟨none, 0, rfl, NM.nil _ _ _, (by (with_reducible repeat' first | exact Below.refl _ _ | assumption | apply B.belA | apply Below.drew | apply below_drewN | refine B.belS ?_ (by first | assumption | omega | (simp; done) | (simp; omega))))⟩
set_option maxRecDepth 50000 in
set_option maxHeartbeats 4000000 in
theorem rsca_bad (a b c d : Int) (k : Int) (p : Option Addr) (n q : Nat) (w : World) (hv : vM a b c d n = false) : Calls Try.prog 37 #[.agg #[.int .i64 a, .int .i64 b, .int .i64 c, .int .i64 d, .slice p n q], .int .u8 k] w (AnsM w 0 0 0 0 [] 14) := by
  have hva := fun W => rmvalid_any a b c d p n q W
  rw [hv] at hva
  clear hv
  go_enter Try.func37, Try.ntmps37
  go_wp2_with (go_at_call 16; go_loud ((with_reducible refine (hva _).mono ?_); rintro e w1 ⟨rfl, hb1⟩; have hB1 : Below w.heap.size w w1 := B.bel_step (show Below w.heap.size w _ from (by (with_reducible repeat' first | exact Below.refl _ _ | assumption | apply B.belA | apply Below.drew | apply below_drewN | refine B.belS ?_ (by first | assumption | omega | (simp; done) | (simp; omega))))) hb1; have P1_m : B.Bx w1 w.heap.size [.int .i64 a, .int .i64 b, .int .i64 c, .int .i64 d, .slice p n q] := B.Bx.below (show B.Bx _ w.heap.size [.int .i64 a, .int .i64 b, .int .i64 c, .int .i64 d, .slice p n q] from (by (with_reducible repeat' first | assumption | exact B.Bx.new _ _ _ | refine B.Bx.newAt _ _ _ (by first | rfl | (simp; done)) | apply B.Bx.dr | apply B.Bx.drN | apply B.Bx.al | refine B.Bx.st ?_ (by first | assumption | omega | (simp; done) | (simp; omega))))) hb1; have P1_o : B.Bx w1 (w.heap.size + 1) [.int .i64 0, .int .i64 0, .int .i64 0, .int .i64 0, .slice none 0 0] := B.Bx.below (show B.Bx _ (w.heap.size + 1) [.int .i64 0, .int .i64 0, .int .i64 0, .int .i64 0, .slice none 0 0] from (by (with_reducible repeat' first | assumption | exact B.Bx.new _ _ _ | refine B.Bx.newAt _ _ _ (by first | rfl | (simp; done)) | apply B.Bx.dr | apply B.Bx.drN | apply B.Bx.al | refine B.Bx.st ?_ (by first | assumption | omega | (simp; done) | (simp; omega))))) hb1; obtain ⟨⟨k1_m_0, g1_m_0⟩, ⟨k1_m_1, g1_m_1⟩, ⟨k1_m_2, g1_m_2⟩, ⟨k1_m_3, g1_m_3⟩, ⟨k1_m_4, g1_m_4⟩, x1_m, y1_m, q1_m⟩ := id P1_m.x5; obtain ⟨⟨k1_o_0, g1_o_0⟩, ⟨k1_o_1, g1_o_1⟩, ⟨k1_o_2, g1_o_2⟩, ⟨k1_o_3, g1_o_3⟩, ⟨k1_o_4, g1_o_4⟩, x1_o, y1_o, q1_o⟩ := id P1_o.x5; have hz1 := hB1.size))
  refine bodyPost_ret (v := .tuple #[.agg #[.int .i64 0, .int .i64 0, .int .i64 0, .int .i64 0, .slice none 0 0], .int .i64 14]) (by simp [results, Try.results37, go_sem, *]) rfl ⟨none, 0, rfl, NM.nil _ _ _, (by (with_reducible repeat' first | exact Below.refl _ _ | assumption | apply B.belA | apply Below.drew | apply below_drewN | refine B.belS ?_ (by first | assumption | omega | (simp; done) | (simp; omega))))⟩
end Go.Proofs.Ytfbgfnebodabpaa
