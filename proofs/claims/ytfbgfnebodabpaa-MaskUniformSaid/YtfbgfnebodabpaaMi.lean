import Derived.Test.YtfbgfnebodabpaaMh
import Derived.Test.YtfbgfnebodabpaaLst
import Derived.WalkKit
import Derived.WalkSpells
import Derived.WalkLawsBesides
import Derived.Lib.Hide
import Derived.Below
import Derived.Deep.QuietTactic
import Derived.BigQuiet
import Derived.StillTailTactics
import Derived.Deep.RegionHeld3
import Derived.IntWalk
namespace Go.Proofs.Ytfbgfnebodabpaa
open Go.RowKit
set_option linter.unusedVariables false
set_option linter.unusedSimpArgs false
theorem csB {b : Nat} {w w' : World} {a : Addr} {v : Value} (hb : Below b w w') (h : w.cell? a = some v) (hlt : a.block < b) : w'.cell? a = some v := (hb.cell hlt).trans h
theorem BxB {b : Nat} {w w' : World} {g : Nat} {vs : List Value} (h : B.Bx w g vs) (hb : Below b w w') (hlt : g < b) : B.Bx w' g vs :=
  ⟨fun i v hv => ⟨(hb.cell (p := ⟨g, i, none⟩) hlt).trans (h.1 i v hv).1, (hb.frozen (p := ⟨g, i, none⟩) hlt).trans (h.1 i v hv).2⟩, Nat.lt_of_lt_of_le h.2 hb.size⟩
theorem rmn_b (a b : Int) (ha : 0 ≤ a) (ha' : a ≤ 255) (hb : 0 ≤ b) (hb' : b ≤ 255) (w : World) :
    Calls Try.prog 64 #[.int .u8 a, .int .u8 b] w fun e w' => e = .returned (.int .u8 (mn8 a b)) ∧ Below w.heap.size w w' :=
  (rmulNorm8_any a b ha ha' hb hb' w).mono (by rintro e w' ⟨rfl, rfl⟩; exact ⟨rfl, Below.refl _ _⟩)
/-- The loop's state: the box at the top of wl holds the rectangle and a row of its own. -/
def RL (wl : World) (a b c d : Int) (v : Value) (l : List Int) (wr : World) : Prop := wr.ownsRow (wl.heap.size + 1) 5 1 v l.length (Cl u8V l) ∧ B.Bx wr wl.heap.size [.int .i64 a, .int .i64 b, .int .i64 c, .int .i64 d, v] ∧ Below wl.heap.size wl wr
theorem RL.start (wl : World) (a b c d : Int) (T : TypeId) : RL wl a b c d (.slice none 0 0) [] (wl.alloc (.cells #[.int .i64 a, .int .i64 b, .int .i64 c, .int .i64 d, .slice none 0 0] T)) :=
  ⟨World.ownsRow_nil _ _ _ _, B.Bx.new wl [.int .i64 a, .int .i64 b, .int .i64 c, .int .i64 d, .slice none 0 0] T, (Below.refl _ _).alloc (Nat.le_refl _) _⟩
theorem RL.below {wl w w' : World} {a b c d : Int} {v : Value} {l : List Int} (h : RL wl a b c d v l w) (hb : Below w.heap.size w w') : RL wl a b c d v l w' :=
  ⟨own_keep h.1 hb, h.2.1.below hb, h.2.2.trans (hb.mono h.2.2.size)⟩
theorem RL.drew {wl w : World} {a b c d : Int} {v : Value} {l : List Int} (h : RL wl a b c d v l w) : RL wl a b c d v l w.drew := h.below (Below.refl _ _).drew
theorem RL.lt {wl w : World} {a b c d : Int} {v : Value} {l : List Int} (h : RL wl a b c d v l w) : wl.heap.size + 1 ≤ w.heap.size := h.2.1.2
/-- One more value, the row stored back. -/
theorem RL.put {wl w w5 : World} {a b c d : Int} {v v5 : Value} {l l5 : List Int} (h : RL wl a b c d v l w) (ho : w5.ownsRow (wl.heap.size + 1) 5 1 v5 l5.length (Cl u8V l5)) (hb : Below (wl.heap.size + 1) w w5) :
    RL wl a b c d v5 l5 (w5.setCell ⟨wl.heap.size, 4, none⟩ v5) := by
  have h0 := h.2.1.2
  have hk : w.heap.size ≤ w5.heap.size := hb.size
  have hbx : B.Bx w5 wl.heap.size [.int .i64 a, .int .i64 b, .int .i64 c, .int .i64 d, v] :=
    ⟨fun i u hu => by
      have hc := h.2.1.1 i u hu
      have e := hb.block wl.heap.size (Nat.lt_succ_self _)
      exact ⟨(World.cell?_of_block (a := ⟨wl.heap.size, i, none⟩) e).trans hc.1, (World.frozen?_of_block (a := ⟨wl.heap.size, i, none⟩) e).trans hc.2⟩, by omega⟩
  have hne : v5.ownBlock ≠ some wl.heap.size := fun e => by have := (ho.lt _ e).1; omega
  refine ⟨ho.kept (B.set_grown w5 wl.heap.size 4 v5) ?_, ?_, ?_⟩
  · cases e : v5.ownBlock with
    | none => exact .inl rfl
    | some g => exact .inr (fun e2 => hne (e.trans e2))
  · refine ⟨fun i u hu => ?_, by (first | (simp; done) | (simp; omega) | omega)⟩
    rw [World.frozen?_setCell]
    by_cases hi : i = 4
    · subst hi
      simp at hu
      subst hu
      have h4 := hbx.c 4 rfl
      exact ⟨World.cell?_setCell_same _ _ _ h4.1, h4.2⟩
    · rw [World.cell?_setCell_other _ _ _ _ (by intro e; cases e; exact hi rfl)]
      exact hbx.1 i u (by
        match i, hu with
        | 0, hu => exact hu
        | 1, hu => exact hu
        | 2, hu => exact hu
        | 3, hu => exact hu
        | 4, _ => omega
        | j + 5, hu => simp at hu)
  · exact (h.2.2.trans (hb.mono (Nat.le_succ _))).setCell (Nat.le_refl _) v5
set_option maxRecDepth 50000 in
set_option maxHeartbeats 4000000 in
theorem rinv_any (a b c d : Int) (p : Option Addr) (n q : Nat) (l : List Int) (w : World) (hn : l.length = n) (hr : RS 1 u8V w p l) (hB : BB l) (hv : vM a b c d n = true) :
    Calls Try.prog 35 #[.agg #[.int .i64 a, .int .i64 b, .int .i64 c, .int .i64 d, .slice p n q]] w (AnsM w a b c d (l.map (fun x => 255 - x)) 0) := by
  subst hn
  have r0_l := hr
  have hm : l.length ≤ 65536 := by have := vM_of hv; omega
  have hva := fun W => rmvalid_any a b c d p l.length q W
  rw [hv] at hva
  obtain ⟨G, hG⟩ : ∃ G, l.map (fun x : Int => 255 - x) = G := ⟨_, rfl⟩
  rw [hG]
  have HG := Lib.hid hG
  clear hv hG
  go_enter Try.func35, Try.ntmps35
  go_wp2_with (go_at_call 16; go_loud ((with_reducible refine (hva _).mono ?_); rintro e w1 ⟨rfl, hb1⟩; have hB1 : Below w.heap.size w w1 := B.bel_step (show Below w.heap.size w _ from (by (with_reducible repeat' first | exact Below.refl _ _ | assumption | apply B.belA | apply Below.drew | apply below_drewN | refine B.belS ?_ (by first | assumption | omega | (simp; done) | (simp; omega))))) hb1; have P1_m : B.Bx w1 w.heap.size [.int .i64 a, .int .i64 b, .int .i64 c, .int .i64 d, .slice p l.length q] := B.Bx.below (show B.Bx _ w.heap.size [.int .i64 a, .int .i64 b, .int .i64 c, .int .i64 d, .slice p l.length q] from (by (with_reducible repeat' first | assumption | exact B.Bx.new _ _ _ | refine B.Bx.newAt _ _ _ (by first | rfl | (simp; done)) | apply B.Bx.dr | apply B.Bx.drN | apply B.Bx.al | refine B.Bx.st ?_ (by first | assumption | omega | (simp; done) | (simp; omega))))) hb1; have P1_o : B.Bx w1 (w.heap.size + 1) [.int .i64 0, .int .i64 0, .int .i64 0, .int .i64 0, .slice none 0 0] := B.Bx.below (show B.Bx _ (w.heap.size + 1) [.int .i64 0, .int .i64 0, .int .i64 0, .int .i64 0, .slice none 0 0] from (by (with_reducible repeat' first | assumption | exact B.Bx.new _ _ _ | refine B.Bx.newAt _ _ _ (by first | rfl | (simp; done)) | apply B.Bx.dr | apply B.Bx.drN | apply B.Bx.al | refine B.Bx.st ?_ (by first | assumption | omega | (simp; done) | (simp; omega))))) hb1; have r1_l : RS 1 u8V w1 p l := RS.below (show RS 1 u8V _ p l from (by (with_reducible repeat' first | assumption | apply B.rs_al | apply B.rs_drN | apply RS.drewN | apply B.rs_dr))) hb1; obtain ⟨⟨k1_m_0, g1_m_0⟩, ⟨k1_m_1, g1_m_1⟩, ⟨k1_m_2, g1_m_2⟩, ⟨k1_m_3, g1_m_3⟩, ⟨k1_m_4, g1_m_4⟩, x1_m, y1_m, q1_m⟩ := id P1_m.x5; obtain ⟨⟨k1_o_0, g1_o_0⟩, ⟨k1_o_1, g1_o_1⟩, ⟨k1_o_2, g1_o_2⟩, ⟨k1_o_3, g1_o_3⟩, ⟨k1_o_4, g1_o_4⟩, x1_o, y1_o, q1_o⟩ := id P1_o.x5; have hz1 := hB1.size))
  have HB1 := Lib.hid hB1
  have hgo : w.heap.size + 1 < w1.heap.size := q1_o
  go_loopw [5] (fun i wr => ∃ (k : Nat) (v : Value), k ≤ l.length ∧ i = .int .i64 k ∧ RL w1 a b c d v ((l.take k).map (fun x => 255 - x)) wr) (fun i _ => l.length - (intOf i).toNat)
  case atStart => exact ⟨0, _, Nat.zero_le _, by go_num, RL.start w1 a b c d _⟩
  case round =>
    obtain ⟨k, v, hk, rfl, hrl⟩ := hrel
    have hbw := hrl.2.2
    have P2_m := B.Bx.below P1_m hbw
    have P2_o := B.Bx.below P1_o hbw
    obtain ⟨⟨u0, f0⟩, ⟨u1, f1⟩, ⟨u2, f2⟩, ⟨u3, f3⟩, ⟨u4, f4⟩, xa, ya, za⟩ := id P2_m.x5
    obtain ⟨⟨v0, j0⟩, ⟨v1, j1⟩, ⟨v2, j2⟩, ⟨v3, j3⟩, ⟨v4, j4⟩, xb, yb, zb⟩ := id P2_o.x5
    obtain ⟨⟨z0, i0⟩, ⟨z1, i1⟩, ⟨z2, i2⟩, ⟨z3, i3⟩, ⟨z4, i4⟩, xc, yc, zc⟩ := id hrl.2.1.x5
    have hne1 : ¬ w.heap.size = w1.heap.size := by omega
    have hne2 : ¬ w.heap.size + 1 = w1.heap.size := by omega
    by_cases hlt : k < l.length
    · have hvb := hB _ (List.getElem_mem hlt)
      obtain ⟨ad, rfl, hc1⟩ := RS.b r1_l hlt
      obtain ⟨y, hy⟩ : ∃ y, l[k] = y := ⟨_, rfl⟩
      rw [hy] at hc1 hvb
      have hc := B.cs hbw hc1
      obtain ⟨hy0, hy1⟩ := hvb
      obtain ⟨Y, hY⟩ : ∃ Y, IntKind.u8.wrap (255 - y) = Y := ⟨_, rfl⟩
      have hYv : 255 - y = Y := by rw [← hY, wraps_u8 _ (by omega) (by omega)]
      have hcb := World.block_lt_of_cell? w1 _ hc1
      have hmk := Lib.hid (show (l.take (k + 1)).map (fun x => 255 - x) = (l.take k).map (fun x => 255 - x) ++ [Y] by rw [List.take_add_one, List.getElem?_eq_getElem hlt, List.map_append, ← hYv, ← hy]; rfl)
      have hll : ((l.take k).map (fun x : Int => 255 - x)).length + 1 ≤ 1000000 := by rw [List.length_map, List.length_take]; omega
      obtain ⟨a5, c5, rfl⟩ := own_slice hrl.1
      obtain ⟨L, hL⟩ : ∃ L, (l.take k).map (fun x : Int => 255 - x) = L := ⟨_, rfl⟩
      rw [hL] at hrl hll z4
      have HMK := Lib.hid (hL ▸ hmk.out)
      have hHR := Lib.hid hrl
      have hlt9 := hrl.lt
      clear hy hL hmk hYv
      go_wp2
      refine wp_region_last (S := (fun W' => W'.cell? ⟨w.heap.size, 4, none⟩ = some (.slice (some ad) l.length q) ∧ W'.cell? (ad.add k) = some (.int .u8 y) ∧ W'.cell? ⟨w1.heap.size, 4, none⟩ = some (.slice a5 L.length c5))) (ops' := #[{ dst := some 20, op := Op.fieldAddr 26 (Operand.tmp 4) 1, type := 0, pos := "ref.go:110", after := #[], guard := none }, { dst := some 21, op := Op.load 24 (Operand.tmp 20), type := 24, pos := "ref.go:110", after := #[{ on := 0, ground := Ground.data }], guard := none }, { dst := some 22, op := Op.fieldAddr 26 (Operand.tmp 1) 1, type := 0, pos := "ref.go:110", after := #[], guard := none }, { dst := some 23, op := Op.load 24 (Operand.tmp 22), type := 24, pos := "ref.go:110", after := #[{ on := 2, ground := Ground.data }], guard := none }, { dst := some 24, op := Op.move (Operand.tmp 5), type := 3, pos := "ref.go:110", after := #[], guard := none }, { dst := some 25, op := Op.indexAddr 24 (Operand.tmp 23) (Operand.tmp 24), type := 0, pos := "ref.go:110", after := #[{ on := 3, ground := Ground.data }, { on := 4, ground := Ground.data }], guard := none }, { dst := some 26, op := Op.load 5 (Operand.tmp 25), type := 5, pos := "ref.go:110", after := #[{ on := 5, ground := Ground.data }], guard := none }, { dst := some 27, op := Op.binOp BinOp.sub 5 (Operand.const (Value.int IntKind.u8 255)) (Operand.tmp 26) 5, type := 5, pos := "ref.go:110", after := #[{ on := 6, ground := Ground.data }], guard := none }, { dst := some 28, op := Op.buildSlice 24 1 #[(0, Operand.tmp 27)], type := 24, pos := "ref.go:110", after := #[{ on := 7, ground := Ground.data }], guard := none }, { dst := some 29, op := Op.call { callee := Callee.builtin Go.Builtin.append, args := #[Operand.tmp 21, Operand.tmp 28], argTypes := #[24, 24] }, type := 24, pos := "ref.go:110", after := #[{ on := 1, ground := Ground.data }, { on := 8, ground := Ground.data }], guard := none }, { dst := some 30, op := Op.fieldAddr 26 (Operand.tmp 4) 1, type := 0, pos := "ref.go:110", after := #[{ on := 0, ground := Ground.phase }, { on := 1, ground := Ground.phase }, { on := 2, ground := Ground.phase }, { on := 3, ground := Ground.phase }, { on := 4, ground := Ground.phase }, { on := 5, ground := Ground.phase }, { on := 6, ground := Ground.phase }, { on := 7, ground := Ground.phase }, { on := 8, ground := Ground.phase }, { on := 9, ground := Ground.phase }], guard := none }]) (o := { dst := none, op := Op.store 24 (Operand.tmp 30) (Operand.tmp 29), type := 0, pos := "ref.go:110", after := #[{ on := 10, ground := Ground.data }, { on := 9, ground := Ground.data }, { on := 9, ground := Ground.chain }, { on := 0, ground := Ground.phase }, { on := 1, ground := Ground.phase }, { on := 2, ground := Ground.phase }, { on := 3, ground := Ground.phase }, { on := 4, ground := Ground.phase }, { on := 5, ground := Ground.phase }, { on := 6, ground := Ground.phase }, { on := 7, ground := Ground.phase }, { on := 8, ground := Ground.phase }, { on := 9, ground := Ground.phase }], guard := none }) (by kernel_rfl) (by rfl) (by kernel_rfl) (by kernel_rfl) ?_ (fun hHeld => ?_)
      · (try dsimp only); (first | (with_reducible exact KP) | (refine ⟨?_, ?_, ?_⟩ <;> first | with_reducible assumption | go_keep))
      refine wpAnyH_take (i := 0) (oi := { dst := some 20, op := Op.fieldAddr 26 (Operand.tmp 4) 1, type := 0, pos := "ref.go:110", after := #[], guard := none }) (v := ?_) rfl (by kernel_rfl) (by kernel_rfl) (by kernel_rfl) (fun _ _ _ h => h) (Or.inl ⟨by rfl, ?_⟩) hHeld ?_
      rotate_left
      · (intro w hSw; (try dsimp only at hSw); go_simp; try with_reducible rfl)
      try simp only [Act.put, List.setIfInBounds_toArray, List.set_cons_zero, List.set_cons_succ]
      refine wpAnyH_take (i := 1) (oi := { dst := some 21, op := Op.load 24 (Operand.tmp 20), type := 24, pos := "ref.go:110", after := #[{ on := 0, ground := Ground.data }], guard := none }) (v := ?_) rfl (by kernel_rfl) (by kernel_rfl) (by kernel_rfl) (fun _ _ _ h => h) (Or.inl ⟨by rfl, ?_⟩) hHeld ?_
      rotate_left
      · (intro w hSw; (try dsimp only at hSw); go_simp; try with_reducible rfl)
      try simp only [Act.put, List.setIfInBounds_toArray, List.set_cons_zero, List.set_cons_succ]
      refine wpAnyH_take (i := 2) (oi := { dst := some 22, op := Op.fieldAddr 26 (Operand.tmp 1) 1, type := 0, pos := "ref.go:110", after := #[], guard := none }) (v := ?_) rfl (by kernel_rfl) (by kernel_rfl) (by kernel_rfl) (fun _ _ _ h => h) (Or.inl ⟨by rfl, ?_⟩) hHeld ?_
      rotate_left
      · (intro w hSw; (try dsimp only at hSw); go_simp; try with_reducible rfl)
      try simp only [Act.put, List.setIfInBounds_toArray, List.set_cons_zero, List.set_cons_succ]
      refine wpAnyH_take (i := 3) (oi := { dst := some 23, op := Op.load 24 (Operand.tmp 22), type := 24, pos := "ref.go:110", after := #[{ on := 2, ground := Ground.data }], guard := none }) (v := ?_) rfl (by kernel_rfl) (by kernel_rfl) (by kernel_rfl) (fun _ _ _ h => h) (Or.inl ⟨by rfl, ?_⟩) hHeld ?_
      rotate_left
      · (intro w hSw; (try dsimp only at hSw); go_simp; try with_reducible rfl)
      try simp only [Act.put, List.setIfInBounds_toArray, List.set_cons_zero, List.set_cons_succ]
      refine wpAnyH_take (i := 4) (oi := { dst := some 24, op := Op.move (Operand.tmp 5), type := 3, pos := "ref.go:110", after := #[], guard := none }) (v := ?_) rfl (by kernel_rfl) (by kernel_rfl) (by kernel_rfl) (fun _ _ _ h => h) (Or.inl ⟨by rfl, ?_⟩) hHeld ?_
      rotate_left
      · (intro w hSw; (try dsimp only at hSw); go_simp; try with_reducible rfl)
      try simp only [Act.put, List.setIfInBounds_toArray, List.set_cons_zero, List.set_cons_succ]
      refine wpAnyH_take (i := 5) (oi := { dst := some 25, op := Op.indexAddr 24 (Operand.tmp 23) (Operand.tmp 24), type := 0, pos := "ref.go:110", after := #[{ on := 3, ground := Ground.data }, { on := 4, ground := Ground.data }], guard := none }) (v := ?_) rfl (by kernel_rfl) (by kernel_rfl) (by kernel_rfl) (fun _ _ _ h => h) (Or.inl ⟨by rfl, ?_⟩) hHeld ?_
      rotate_left
      · (intro w hSw; (try dsimp only at hSw); go_simp; try with_reducible rfl)
      try simp only [Act.put, List.setIfInBounds_toArray, List.set_cons_zero, List.set_cons_succ]
      refine wpAnyH_take (i := 6) (oi := { dst := some 26, op := Op.load 5 (Operand.tmp 25), type := 5, pos := "ref.go:110", after := #[{ on := 5, ground := Ground.data }], guard := none }) (v := ?_) rfl (by kernel_rfl) (by kernel_rfl) (by kernel_rfl) (fun _ _ _ h => h) (Or.inl ⟨by rfl, ?_⟩) hHeld ?_
      rotate_left
      · (intro w hSw; (try dsimp only at hSw); go_simp; try with_reducible rfl)
      try simp only [Act.put, List.setIfInBounds_toArray, List.set_cons_zero, List.set_cons_succ]
      refine wpAnyH_take (i := 7) (oi := { dst := some 27, op := Op.binOp BinOp.sub 5 (Operand.const (Value.int IntKind.u8 255)) (Operand.tmp 26) 5, type := 5, pos := "ref.go:110", after := #[{ on := 6, ground := Ground.data }], guard := none }) (v := ?_) rfl (by kernel_rfl) (by kernel_rfl) (by kernel_rfl) (fun _ _ _ h => h) (Or.inl ⟨by rfl, ?_⟩) hHeld ?_
      rotate_left
      · (intro w hSw; (try dsimp only at hSw); go_simp; try with_reducible rfl)
      try simp only [Act.put, List.setIfInBounds_toArray, List.set_cons_zero, List.set_cons_succ]
      refine wpAnyH_ready (rs := [8]) (by kernel_rfl) (by simp) ?_
      refine AllReadyH.cons (o := { dst := some 28, op := Op.buildSlice 24 1 #[(0, Operand.tmp 27)], type := 24, pos := "ref.go:110", after := #[{ on := 7, ground := Ground.data }], guard := none }) rfl (fun K hK => ?_) AllReadyH.nil
      go_simp
      refine hK.out _ _ ?_ (fun hHeld2 => ?_)
      · (try dsimp only); (first | (with_reducible exact KP) | (refine ⟨?_, ?_, ?_⟩ <;> first | with_reducible assumption | go_keep))
      clear hK K hHeld
      have hHeld := hHeld2; clear hHeld2
      try simp only [Act.put, List.setIfInBounds_toArray, List.set_cons_zero, List.set_cons_succ]
      refine wpAnyH_ready (rs := [9]) (by kernel_rfl) (by simp) ?_
      refine AllReadyH.cons (o := { dst := some 29, op := Op.call { callee := Callee.builtin Go.Builtin.append, args := #[Operand.tmp 21, Operand.tmp 28], argTypes := #[24, 24] }, type := 24, pos := "ref.go:110", after := #[{ on := 1, ground := Ground.data }, { on := 8, ground := Ground.data }], guard := none }) rfl (fun K hK => ?_) AllReadyH.nil
      (refine wp_snocA (B := w1.heap.size + 1) u8V _ _ _ _ rfl Try.underlying24 infoB rfl (by omega) hHR.out.drew.1 hlt9 hll (by omega) Y _ rfl rfl (by simp [u8V, Value.oneCell']) rfl rfl rfl ?_; intro v5 w5 hown5 hbw5 hgr5 hat5; obtain ⟨a6, c6, rfl⟩ := own_slice hown5; have fz5 : w5.frozen? ⟨w1.heap.size, 4, none⟩ = false := (hbw5.frozen (by simp)).trans i4; have KP := And.intro (csB hbw5 u4 (by simp; omega)) (And.intro (csB hbw5 hc (by omega)) (csB hbw5 z4 (by simp))))
      refine hK.out _ _ ?_ (fun hHeld2 => ?_)
      · (try dsimp only); (first | (with_reducible exact KP) | (refine ⟨?_, ?_, ?_⟩ <;> first | with_reducible assumption | go_keep))
      clear hK K hHeld
      have hHeld := hHeld2; clear hHeld2
      try simp only [Act.put, List.setIfInBounds_toArray, List.set_cons_zero, List.set_cons_succ]
      refine wpAnyH_take (i := 10) (oi := { dst := some 30, op := Op.fieldAddr 26 (Operand.tmp 4) 1, type := 0, pos := "ref.go:110", after := #[{ on := 0, ground := Ground.phase }, { on := 1, ground := Ground.phase }, { on := 2, ground := Ground.phase }, { on := 3, ground := Ground.phase }, { on := 4, ground := Ground.phase }, { on := 5, ground := Ground.phase }, { on := 6, ground := Ground.phase }, { on := 7, ground := Ground.phase }, { on := 8, ground := Ground.phase }, { on := 9, ground := Ground.phase }], guard := none }) (v := ?_) rfl (by kernel_rfl) (by kernel_rfl) (by kernel_rfl) (fun _ _ _ h => h) (Or.inl ⟨by rfl, ?_⟩) hHeld ?_
      rotate_left
      · (intro w hSw; (try dsimp only at hSw); go_simp; try with_reducible rfl)
      try simp only [Act.put, List.setIfInBounds_toArray, List.set_cons_zero, List.set_cons_succ]
      refine wpAnyH_done (by kernel_rfl) ?_ _
      refine lastQ_normal (fun KL hKL => ?_)
      go_simp
      refine hKL _ _ ?_
      clear hKL KL
      go_wp2
      go_roundw
      case rel => exact ⟨k + 1, _, by omega, by go_num, by rw [HMK.out]; exact RL.put hHR.out.drew (by rw [List.length_append]; exact hown5) hbw5⟩
      case measure => (simp [intOf]; try omega)
    · obtain rfl : k = l.length := by omega
      rw [List.take_length, HG.out] at hrl
      obtain ⟨a5, c5, rfl⟩ := own_slice hrl.1
      have hnm := nm_own hrl.1
      have hBw : Below w.heap.size w wr := HB1.out.trans (hbw.mono hz1)
      go_wp2
      refine bodyPost_ret (v := .tuple #[.agg #[.int .i64 a, .int .i64 b, .int .i64 c, .int .i64 d, .slice a5 G.length c5], .int .i64 0]) (by simp [results, Try.results35, go_sem, *]) rfl ⟨a5, c5, rfl, NM.mono (by (with_reducible repeat' first | assumption | apply NM.dr | apply NM.al | refine NM.st ?_ (by first | assumption | omega | (simp; done) | (simp; omega)))) (show w.heap.size ≤ w1.heap.size + 1 by omega), (by (with_reducible repeat' first | exact Below.refl _ _ | assumption | apply B.belA | apply Below.drew | apply below_drewN | refine B.belS ?_ (by first | assumption | omega | (simp; done) | (simp; omega))))⟩
end Go.Proofs.Ytfbgfnebodabpaa
