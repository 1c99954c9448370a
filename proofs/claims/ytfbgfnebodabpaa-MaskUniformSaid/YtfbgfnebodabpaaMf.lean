import Derived.Test.YtfbgfnebodabpaaMe
import Derived.WalkKit
import Derived.WalkSpells
import Derived.WalkLawsBesides
import Derived.Lib.Hide
import Derived.Below
import Derived.Deep.QuietTactic
import Derived.BigQuiet
import Derived.StillTailTactics
import Derived.Deep.RegionHeld3
import Derived.IntWalk
namespace Go.Proofs.Ytfbgfnebodabpaa
open Go.RowKit
set_option linter.unusedVariables false
set_option linter.unusedSimpArgs false
def mapL (g : Int → Int) (l : List Int) (i : Nat) : List Int := (l.take i).map g ++ l.drop i
theorem mapL_len (g : Int → Int) (l : List Int) (i : Nat) (hi : i ≤ l.length) : (mapL g l i).length = l.length := by
  simp [mapL]; omega
theorem mapL_0 (g : Int → Int) (l : List Int) : mapL g l 0 = l := by simp [mapL]
theorem mapL_all (g : Int → Int) (l : List Int) : mapL g l l.length = l.map g := by simp [mapL]
theorem mapL_at (g : Int → Int) (l : List Int) (i : Nat) (hi : i < l.length) (h : i < (mapL g l i).length) : (mapL g l i)[i] = l[i] := by
  have h2 : (mapL g l i)[i]? = l[i]? := by
    unfold mapL
    have h1 : ((l.take i).map g).length = i := by rw [List.length_map, List.length_take]; omega
    rw [List.getElem?_append_right (by omega), h1, Nat.sub_self, List.getElem?_drop, Nat.add_zero]
  rw [List.getElem?_eq_getElem h, List.getElem?_eq_getElem hi] at h2
  exact Option.some.inj h2
theorem mapL_set (g : Int → Int) (l : List Int) (i : Nat) (hi : i < l.length) : (mapL g l i).set i (g l[i]) = mapL g l (i + 1) := by
  unfold mapL
  have h1 : ((l.take i).map g).length = i := by simp; omega
  rw [List.set_append_right _ _ (by omega), h1, Nat.sub_self, List.drop_eq_getElem_cons hi, List.set_cons_zero, List.take_add_one, List.getElem?_eq_getElem hi, List.map_append, List.append_assoc]
  rfl
set_option maxRecDepth 50000 in
set_option maxHeartbeats 4000000 in
theorem mapv_any (F : FuncId) (cap : Array Value) (g : Int → Int) (a b c d : Int) (p : Option Addr) (n q : Nat) (l : List Int) (w : World) (eF : Enters Try.prog F) (hn : l.length = n) (hr : RS 1 u8V w p l) (hB : BB l)
    (hF : ∀ W x, Below w.heap.size w W → 0 ≤ x → x ≤ 255 → Calls Try.prog F (#[.int .u8 x] ++ cap) W fun e w' => e = .returned (.int .u8 (g x)) ∧ Below W.heap.size W w') (hv : vM a b c d n = true) :
    Calls Try.prog 67 #[.agg #[.int .i64 a, .int .i64 b, .int .i64 c, .int .i64 d, .slice p n q], .func (.func F) #[] cap] w (AnsM w a b c d (l.map g) 0) := by
  subst hn
  have r0_l := hr
  have hm : l.length ≤ 1000000 := by
    simp only [vM, Bool.and_eq_true, decide_eq_true_eq] at hv
    omega
  have hva := fun W => mvalid_any a b c d p l.length q W
  rw [hv] at hva
  clear hv
  have hco := fun W hr => copy_any a b c d p l.length q l W rfl hr hm
  have eF2 : ∀ (args : Array Value) (w : World), (callFunc F args).run Try.prog w = .ok (.enter F args) w := eF
  have hml := mapL_len g l
  go_enter Try.func67, Try.ntmps67
  go_wp2_with (first
    | (go_at_call 15; go_loud ((with_reducible refine (hva _).mono ?_); rintro e w1 ⟨rfl, hb1⟩; have hB1 : Below w.heap.size w w1 := B.bel_step (show Below w.heap.size w _ from (by (with_reducible repeat' first | exact Below.refl _ _ | assumption | apply B.belA | apply Below.drew | apply below_drewN | refine B.belS ?_ (by first | assumption | omega | (simp; done) | (simp; omega))))) hb1; have P1_m : B.Bx w1 w.heap.size [.int .i64 a, .int .i64 b, .int .i64 c, .int .i64 d, .slice p l.length q] := B.Bx.below (show B.Bx _ w.heap.size [.int .i64 a, .int .i64 b, .int .i64 c, .int .i64 d, .slice p l.length q] from (by (with_reducible repeat' first | assumption | exact B.Bx.new _ _ _ | refine B.Bx.newAt _ _ _ (by first | rfl | (simp; done)) | apply B.Bx.dr | apply B.Bx.drN | apply B.Bx.al | refine B.Bx.st ?_ (by first | assumption | omega | (simp; done) | (simp; omega))))) hb1; have P1_o : B.Bx w1 (w.heap.size + 1) [.int .i64 0, .int .i64 0, .int .i64 0, .int .i64 0, .slice none 0 0] := B.Bx.below (show B.Bx _ (w.heap.size + 1) [.int .i64 0, .int .i64 0, .int .i64 0, .int .i64 0, .slice none 0 0] from (by (with_reducible repeat' first | assumption | exact B.Bx.new _ _ _ | refine B.Bx.newAt _ _ _ (by first | rfl | (simp; done)) | apply B.Bx.dr | apply B.Bx.drN | apply B.Bx.al | refine B.Bx.st ?_ (by first | assumption | omega | (simp; done) | (simp; omega))))) hb1; have r1_l : RS 1 u8V w1 p l := RS.below (show RS 1 u8V _ p l from (by (with_reducible repeat' first | assumption | apply B.rs_al | apply B.rs_drN | apply RS.drewN | apply B.rs_dr))) hb1; obtain ⟨⟨k1_m_0, g1_m_0⟩, ⟨k1_m_1, g1_m_1⟩, ⟨k1_m_2, g1_m_2⟩, ⟨k1_m_3, g1_m_3⟩, ⟨k1_m_4, g1_m_4⟩, x1_m, y1_m, q1_m⟩ := id P1_m.x5; obtain ⟨⟨k1_o_0, g1_o_0⟩, ⟨k1_o_1, g1_o_1⟩, ⟨k1_o_2, g1_o_2⟩, ⟨k1_o_3, g1_o_3⟩, ⟨k1_o_4, g1_o_4⟩, x1_o, y1_o, q1_o⟩ := id P1_o.x5; have hz1 := hB1.size))
    | (go_at_call 81; go_loud ((with_reducible refine (hco _ (by assumption)).mono ?_); rintro e w2 ⟨p2, rfl, hm2, hb2⟩; have hB2 : Below w.heap.size w w2 := B.bel_step (show Below w.heap.size w _ from (by (with_reducible repeat' first | exact Below.refl _ _ | assumption | apply B.belA | apply Below.drew | apply below_drewN | refine B.belS ?_ (by first | assumption | omega | (simp; done) | (simp; omega))))) hb2; have P2_m : B.Bx w2 w.heap.size [.int .i64 a, .int .i64 b, .int .i64 c, .int .i64 d, .slice p l.length q] := B.Bx.below (show B.Bx _ w.heap.size [.int .i64 a, .int .i64 b, .int .i64 c, .int .i64 d, .slice p l.length q] from (by (with_reducible repeat' first | assumption | exact B.Bx.new _ _ _ | refine B.Bx.newAt _ _ _ (by first | rfl | (simp; done)) | apply B.Bx.dr | apply B.Bx.drN | apply B.Bx.al | refine B.Bx.st ?_ (by first | assumption | omega | (simp; done) | (simp; omega))))) hb2; have P2_o : B.Bx w2 (w.heap.size + 1) [.int .i64 0, .int .i64 0, .int .i64 0, .int .i64 0, .slice none 0 0] := B.Bx.below (show B.Bx _ (w.heap.size + 1) [.int .i64 0, .int .i64 0, .int .i64 0, .int .i64 0, .slice none 0 0] from (by (with_reducible repeat' first | assumption | exact B.Bx.new _ _ _ | refine B.Bx.newAt _ _ _ (by first | rfl | (simp; done)) | apply B.Bx.dr | apply B.Bx.drN | apply B.Bx.al | refine B.Bx.st ?_ (by first | assumption | omega | (simp; done) | (simp; omega))))) hb2; have r2_l : RS 1 u8V w2 p l := RS.below (show RS 1 u8V _ p l from (by (with_reducible repeat' first | assumption | apply B.rs_al | apply B.rs_drN | apply RS.drewN | apply B.rs_dr))) hb2; clear P1_m k1_m_0 g1_m_0 k1_m_1 g1_m_1 k1_m_2 g1_m_2 k1_m_3 g1_m_3 k1_m_4 g1_m_4 x1_m y1_m q1_m P1_o k1_o_0 g1_o_0 k1_o_1 g1_o_1 k1_o_2 g1_o_2 k1_o_3 g1_o_3 k1_o_4 g1_o_4 x1_o y1_o q1_o; obtain ⟨⟨k2_m_0, g2_m_0⟩, ⟨k2_m_1, g2_m_1⟩, ⟨k2_m_2, g2_m_2⟩, ⟨k2_m_3, g2_m_3⟩, ⟨k2_m_4, g2_m_4⟩, x2_m, y2_m, q2_m⟩ := id P2_m.x5; obtain ⟨⟨k2_o_0, g2_o_0⟩, ⟨k2_o_1, g2_o_1⟩, ⟨k2_o_2, g2_o_2⟩, ⟨k2_o_3, g2_o_3⟩, ⟨k2_o_4, g2_o_4⟩, x2_o, y2_o, q2_o⟩ := id P2_o.x5; have hz2 := hB2.size)))
  have hq1 : w.heap.size + 1 < w1.heap.size := by have := hb1.size; simp at this; omega
  obtain ⟨r, hr1, hr2⟩ := hm2.row
  have hz12 : w1.heap.size ≤ w2.heap.size := hb2.size
  have HB2 := Lib.hid hB2
  have hBg : ∀ wr, (w2.alloc (.cells #[.int .i64 a, .int .i64 b, .int .i64 c, .int .i64 d, .slice p2 l.length l.length] 26)).grownBy wr r → Below w.heap.size w wr := fun wr hg => (HB2.out.alloc hz2 _).trans (below_grown hg (by simp; omega) (fun k e => Nat.le_trans hz1 (hr1 k e).1))
  go_loopw [7, 8, 18] (fun _ _ i wr => ∃ k : Nat, k ≤ l.length ∧ i = .int .i64 k ∧ NM w1.heap.size wr p2 (mapL g l k) ∧ (w2.alloc (.cells #[.int .i64 a, .int .i64 b, .int .i64 c, .int .i64 d, .slice p2 l.length l.length] 26)).grownBy wr r) (fun _ _ i _ => l.length - (intOf i).toNat)
  case atStart => exact ⟨0, Nat.zero_le _, by go_num, by rw [mapL_0]; exact hm2.al _, World.grownBy.refl _ _⟩
  case round =>
    obtain ⟨k, hk, rfl, hnm, hgr⟩ := hrel
    have PR : B.Bx wr w2.heap.size [.int .i64 a, .int .i64 b, .int .i64 c, .int .i64 d, .slice p2 l.length l.length] := (B.Bx.new w2 [.int .i64 a, .int .i64 b, .int .i64 c, .int .i64 d, .slice p2 l.length l.length] 26).grown hgr (fun e => by have := hr1 _ e; omega)
    obtain ⟨⟨u0, f0⟩, ⟨u1, f1⟩, ⟨u2, f2⟩, ⟨u3, f3⟩, ⟨u4, f4⟩, x5, y5, z5⟩ := id PR.x5
    have PO : B.Bx wr (w.heap.size + 1) [.int .i64 0, .int .i64 0, .int .i64 0, .int .i64 0, .slice none 0 0] := (P2_o.al _).grown hgr (fun e => by have := hr1 _ e; omega)
    obtain ⟨⟨v0, j0⟩, ⟨v1, j1⟩, ⟨v2, j2⟩, ⟨v3, j3⟩, ⟨v4, j4⟩, x6, y6, z6⟩ := id PO.x5
    by_cases hlt : k < l.length
    · obtain ⟨g1, rfl, rfl⟩ := hr2 (by omega)
      have hkl := hml k hk
      obtain ⟨h1, h2, h3⟩ := hnm.at (i := k) (by omega)
      rw [mapL_at g l k hlt] at h2
      have hput := fun (W : World) (hW : NM w1.heap.size W (some ⟨g1, 0, none⟩) (mapL g l k)) => mapL_set g l k hlt ▸ hW.put k (by omega) (g l[k])
      have hvb := hB _ (List.getElem_mem hlt)
      have hg1 := hr1 g1 rfl
      have hne1 : ¬ g1 = w2.heap.size := by omega
      have hne2 : ¬ w2.heap.size = g1 := by omega
      have hC := Lib.hid (fun W hb => hF W l[k] hb hvb.1 hvb.2)
      obtain ⟨v, hvv⟩ : ∃ v, l[k] = v := ⟨_, rfl⟩
      rw [hvv] at h2 hput hC
      clear hvv hvb
      have hBw := Lib.hid (hBg wr hgr)
      have hput2 := Lib.hid hput
      clear hput
      go_wp2
      go_region_held3 (fun W' => W'.cell? ⟨w2.heap.size, 4, none⟩ = some (.slice (some ⟨g1, 0, none⟩) l.length l.length)) (first | go_keep | (with_reducible exact KP) | fail) (((with_reducible refine (hC.out _ hBw.out.drew).mono ?_); rintro e w9 ⟨rfl, hb9⟩; have KP := B.cs hb9 u4; have h29 := B.cs hb9 h2; have h39 := B.fs hb9 h2 h3))
      go_wp2
      go_roundw
      case rel => exact ⟨k + 1, by omega, by go_num, hput2.out _ (hnm.dr.below hb9), (grownBy_dr hgr).trans (World.grownBy.trans ⟨hb9.os, hb9.tape, hb9.output, hb9.size, fun j hj _ => hb9.block j hj⟩ (B.set_grown _ _ _ _))⟩
      case measure => (simp [intOf]; try omega)
    · obtain rfl : k = l.length := by omega
      rw [mapL_all] at hnm
      have hBw := hBg wr hgr
      go_wp2
      refine bodyPost_ret (v := .tuple #[.agg #[.int .i64 a, .int .i64 b, .int .i64 c, .int .i64 d, .slice p2 l.length l.length], .int .i64 0]) (by simp [results, Try.results67, go_sem, *]) rfl ⟨p2, l.length, by rw [List.length_map], NM.mono (by (with_reducible repeat' first | assumption | apply NM.dr | apply NM.al | refine NM.st ?_ (by first | assumption | omega | (simp; done) | (simp; omega)))) hz1, (by (with_reducible repeat' first | exact Below.refl _ _ | assumption | apply B.belA | apply Below.drew | apply below_drewN | refine B.belS ?_ (by first | assumption | omega | (simp; done) | (simp; omega))))⟩
set_option maxRecDepth 50000 in
set_option maxHeartbeats 4000000 in
theorem mapv_bad (F : FuncId) (cap : Array Value) (a b c d : Int) (p : Option Addr) (n q : Nat) (w : World) (hv : vM a b c d n = false) :
    Calls Try.prog 67 #[.agg #[.int .i64 a, .int .i64 b, .int .i64 c, .int .i64 d, .slice p n q], .func (.func F) #[] cap] w (AnsM w 0 0 0 0 [] 14) := by
  have hva := fun W => mvalid_any a b c d p n q W
  rw [hv] at hva
  clear hv
  go_enter Try.func67, Try.ntmps67
  go_wp2_with (go_at_call 15; go_loud ((with_reducible refine (hva _).mono ?_); rintro e w1 ⟨rfl, hb1⟩; have hB1 : Below w.heap.size w w1 := B.bel_step (show Below w.heap.size w _ from (by (with_reducible repeat' first | exact Below.refl _ _ | assumption | apply B.belA | apply Below.drew | apply below_drewN | refine B.belS ?_ (by first | assumption | omega | (simp; done) | (simp; omega))))) hb1; have P1_m : B.Bx w1 w.heap.size [.int .i64 a, .int .i64 b, .int .i64 c, .int .i64 d, .slice p n q] := B.Bx.below (show B.Bx _ w.heap.size [.int .i64 a, .int .i64 b, .int .i64 c, .int .i64 d, .slice p n q] from (by (with_reducible repeat' first | assumption | exact B.Bx.new _ _ _ | refine B.Bx.newAt _ _ _ (by first | rfl | (simp; done)) | apply B.Bx.dr | apply B.Bx.drN | apply B.Bx.al | refine B.Bx.st ?_ (by first | assumption | omega | (simp; done) | (simp; omega))))) hb1; have P1_o : B.Bx w1 (w.heap.size + 1) [.int .i64 0, .int .i64 0, .int .i64 0, .int .i64 0, .slice none 0 0] := B.Bx.below (show B.Bx _ (w.heap.size + 1) [.int .i64 0, .int .i64 0, .int .i64 0, .int .i64 0, .slice none 0 0] from (by (with_reducible repeat' first | assumption | exact B.Bx.new _ _ _ | refine B.Bx.newAt _ _ _ (by first | rfl | (simp; done)) | apply B.Bx.dr | apply B.Bx.drN | apply B.Bx.al | refine B.Bx.st ?_ (by first | assumption | omega | (simp; done) | (simp; omega))))) hb1; obtain ⟨⟨k1_m_0, g1_m_0⟩, ⟨k1_m_1, g1_m_1⟩, ⟨k1_m_2, g1_m_2⟩, ⟨k1_m_3, g1_m_3⟩, ⟨k1_m_4, g1_m_4⟩, x1_m, y1_m, q1_m⟩ := id P1_m.x5; obtain ⟨⟨k1_o_0, g1_o_0⟩, ⟨k1_o_1, g1_o_1⟩, ⟨k1_o_2, g1_o_2⟩, ⟨k1_o_3, g1_o_3⟩, ⟨k1_o_4, g1_o_4⟩, x1_o, y1_o, q1_o⟩ := id P1_o.x5; have hz1 := hB1.size))
  refine bodyPost_ret (v := .tuple #[.agg #[.int .i64 0, .int .i64 0, .int .i64 0, .int .i64 0, .slice none 0 0], .int .i64 14]) (by simp [results, Try.results67, go_sem, *]) rfl ⟨none, 0, rfl, NM.nil _ _ _, (by (with_reducible repeat' first | exact Below.refl _ _ | assumption | apply B.belA | apply Below.drew | apply below_drewN | refine B.belS ?_ (by first | assumption | omega | (simp; done) | (simp; omega))))⟩
set_option maxRecDepth 50000 in
set_option maxHeartbeats 4000000 in
theorem inv1_any (x : Int) (w : World) (h0 : 0 ≤ x) (h1 : x ≤ 255) :
    Calls Try.prog 68 #[.int .u8 x] w fun e w' => e = .returned (.int .u8 (255 - x)) ∧ Below w.heap.size w w' := by
  go_enter Try.func68, Try.ntmps68
  go_wp2
  go_ret
  exact ⟨by go_num, Below.refl _ _⟩
set_option maxRecDepth 50000 in
set_option maxHeartbeats 4000000 in
theorem sca1_any (x k : Int) (g : Nat) (w : World) (h0 : 0 ≤ x) (h1 : x ≤ 255) (h2 : 0 ≤ k) (h3 : k ≤ 255) (hk : w.cell? ⟨g, 0, none⟩ = some (.int .u8 k)) :
    Calls Try.prog 69 #[.int .u8 x, .pointer (some ⟨g, 0, none⟩)] w fun e w' => e = .returned (.int .u8 (mn8 x k)) ∧ Below w.heap.size w w' := by
  have hm := fun W => mulNorm8_any x k h0 h1 h2 h3 W
  go_enter Try.func69, Try.ntmps69
  go_wp2_with (go_at_call 61; (with_reducible refine (hm _).mono ?_); rintro e w9 ⟨rfl, rfl⟩)
  go_ret
  exact ⟨rfl, Below.refl _ _⟩
set_option maxRecDepth 50000 in
set_option maxHeartbeats 4000000 in
theorem inv_any (a b c d : Int) (p : Option Addr) (n q : Nat) (l : List Int) (w : World) (hn : l.length = n) (hr : RS 1 u8V w p l) (hB : BB l) (hv : vM a b c d n = true) :
    Calls Try.prog 34 #[.agg #[.int .i64 a, .int .i64 b, .int .i64 c, .int .i64 d, .slice p n q]] w (AnsM w a b c d (l.map (fun x => 255 - x)) 0) := by
  have hcon := fun W (hr : RS 1 u8V W p l) => mapv_any 68 #[] (fun x => 255 - x) a b c d p n q l W (enters_of Try.func68 (by kernel_rfl) rfl) hn hr hB (fun W' x hb h0 h1 => inv1_any x W' h0 h1) hv
  go_enter Try.func34, Try.ntmps34
  go_wp2_with (go_at_call 67; go_loud ((with_reducible refine (hcon _ (by (with_reducible repeat' first | assumption | apply B.rs_al | apply B.rs_drN | apply RS.drewN | apply B.rs_dr))).mono ?_); rintro e w1 ⟨p1, q1, rfl, hm1, hb1⟩; have hB1 : Below w.heap.size w w1 := B.bel_step (show Below w.heap.size w _ from (by (with_reducible repeat' first | exact Below.refl _ _ | assumption | apply B.belA | apply Below.drew | apply below_drewN | refine B.belS ?_ (by first | assumption | omega | (simp; done) | (simp; omega))))) hb1; have P1_m : B.Bx w1 w.heap.size [.int .i64 a, .int .i64 b, .int .i64 c, .int .i64 d, .slice p n q] := B.Bx.below (show B.Bx _ w.heap.size [.int .i64 a, .int .i64 b, .int .i64 c, .int .i64 d, .slice p n q] from (by (with_reducible repeat' first | assumption | exact B.Bx.new _ _ _ | refine B.Bx.newAt _ _ _ (by first | rfl | (simp; done)) | apply B.Bx.dr | apply B.Bx.drN | apply B.Bx.al | refine B.Bx.st ?_ (by first | assumption | omega | (simp; done) | (simp; omega))))) hb1; have P1_o : B.Bx w1 (w.heap.size + 1) [.int .i64 0, .int .i64 0, .int .i64 0, .int .i64 0, .slice none 0 0] := B.Bx.below (show B.Bx _ (w.heap.size + 1) [.int .i64 0, .int .i64 0, .int .i64 0, .int .i64 0, .slice none 0 0] from (by (with_reducible repeat' first | assumption | exact B.Bx.new _ _ _ | refine B.Bx.newAt _ _ _ (by first | rfl | (simp; done)) | apply B.Bx.dr | apply B.Bx.drN | apply B.Bx.al | refine B.Bx.st ?_ (by first | assumption | omega | (simp; done) | (simp; omega))))) hb1; obtain ⟨⟨k1_m_0, g1_m_0⟩, ⟨k1_m_1, g1_m_1⟩, ⟨k1_m_2, g1_m_2⟩, ⟨k1_m_3, g1_m_3⟩, ⟨k1_m_4, g1_m_4⟩, x1_m, y1_m, q1_m⟩ := id P1_m.x5; obtain ⟨⟨k1_o_0, g1_o_0⟩, ⟨k1_o_1, g1_o_1⟩, ⟨k1_o_2, g1_o_2⟩, ⟨k1_o_3, g1_o_3⟩, ⟨k1_o_4, g1_o_4⟩, x1_o, y1_o, q1_o⟩ := id P1_o.x5; have hz1 := hB1.size))
  have hm2 : NM (w.heap.size + 2) w1 p1 (l.map (fun x => 255 - x)) := NM.mono hm1 (by simp)
  refine bodyPost_ret (v := .tuple #[.agg #[.int .i64 a, .int .i64 b, .int .i64 c, .int .i64 d, .slice p1 (l.map (fun x => 255 - x)).length q1], .int .i64 0]) (by simp [results, Try.results34, go_sem, *]) rfl ⟨p1, q1, by rfl, NM.mono (by (with_reducible repeat' first | assumption | apply NM.dr | apply NM.al | refine NM.st ?_ (by first | assumption | omega | (simp; done) | (simp; omega)))) (show w.heap.size ≤ w.heap.size + 2 by omega), (by (with_reducible repeat' first | exact Below.refl _ _ | assumption | apply B.belA | apply Below.drew | apply below_drewN | refine B.belS ?_ (by first | assumption | omega | (simp; done) | (simp; omega))))⟩
set_option maxRecDepth 50000 in
set_option maxHeartbeats 4000000 in
theorem inv_bad (a b c d : Int) (p : Option Addr) (n q : Nat) (w : World) (hv : vM a b c d n = false) :
    Calls Try.prog 34 #[.agg #[.int .i64 a, .int .i64 b, .int .i64 c, .int .i64 d, .slice p n q]] w (AnsM w 0 0 0 0 [] 14) := by
  go_enter Try.func34, Try.ntmps34
  go_wp2_with (go_at_call 67; go_loud ((with_reducible refine (mapv_bad 68 #[] a b c d p n q _ hv).mono ?_); rintro e w1 ⟨p1, q1, rfl, hm1, hb1⟩; have hB1 : Below w.heap.size w w1 := B.bel_step (show Below w.heap.size w _ from (by (with_reducible repeat' first | exact Below.refl _ _ | assumption | apply B.belA | apply Below.drew | apply below_drewN | refine B.belS ?_ (by first | assumption | omega | (simp; done) | (simp; omega))))) hb1; have P1_m : B.Bx w1 w.heap.size [.int .i64 a, .int .i64 b, .int .i64 c, .int .i64 d, .slice p n q] := B.Bx.below (show B.Bx _ w.heap.size [.int .i64 a, .int .i64 b, .int .i64 c, .int .i64 d, .slice p n q] from (by (with_reducible repeat' first | assumption | exact B.Bx.new _ _ _ | refine B.Bx.newAt _ _ _ (by first | rfl | (simp; done)) | apply B.Bx.dr | apply B.Bx.drN | apply B.Bx.al | refine B.Bx.st ?_ (by first | assumption | omega | (simp; done) | (simp; omega))))) hb1; have P1_o : B.Bx w1 (w.heap.size + 1) [.int .i64 0, .int .i64 0, .int .i64 0, .int .i64 0, .slice none 0 0] := B.Bx.below (show B.Bx _ (w.heap.size + 1) [.int .i64 0, .int .i64 0, .int .i64 0, .int .i64 0, .slice none 0 0] from (by (with_reducible repeat' first | assumption | exact B.Bx.new _ _ _ | refine B.Bx.newAt _ _ _ (by first | rfl | (simp; done)) | apply B.Bx.dr | apply B.Bx.drN | apply B.Bx.al | refine B.Bx.st ?_ (by first | assumption | omega | (simp; done) | (simp; omega))))) hb1; obtain ⟨⟨k1_m_0, g1_m_0⟩, ⟨k1_m_1, g1_m_1⟩, ⟨k1_m_2, g1_m_2⟩, ⟨k1_m_3, g1_m_3⟩, ⟨k1_m_4, g1_m_4⟩, x1_m, y1_m, q1_m⟩ := id P1_m.x5; obtain ⟨⟨k1_o_0, g1_o_0⟩, ⟨k1_o_1, g1_o_1⟩, ⟨k1_o_2, g1_o_2⟩, ⟨k1_o_3, g1_o_3⟩, ⟨k1_o_4, g1_o_4⟩, x1_o, y1_o, q1_o⟩ := id P1_o.x5; have hz1 := hB1.size))
  have hm2 : NM (w.heap.size + 2) w1 p1 [] := NM.nil _ _ _
  refine bodyPost_ret (v := .tuple #[.agg #[.int .i64 0, .int .i64 0, .int .i64 0, .int .i64 0, .slice p1 0 q1], .int .i64 14]) (by simp [results, Try.results34, go_sem, *]) rfl ⟨p1, q1, by rfl, NM.mono (by (with_reducible repeat' first | assumption | apply NM.dr | apply NM.al | refine NM.st ?_ (by first | assumption | omega | (simp; done) | (simp; omega)))) (show w.heap.size ≤ w.heap.size + 2 by omega), (by (with_reducible repeat' first | exact Below.refl _ _ | assumption | apply B.belA | apply Below.drew | apply below_drewN | refine B.belS ?_ (by first | assumption | omega | (simp; done) | (simp; omega))))⟩
set_option maxRecDepth 50000 in
set_option maxHeartbeats 4000000 in
theorem sca_any (a b c d : Int) (k : Int) (hk0 : 0 ≤ k) (hk1 : k ≤ 255) (p : Option Addr) (n q : Nat) (l : List Int) (w : World) (hn : l.length = n) (hr : RS 1 u8V w p l) (hB : BB l) (hv : vM a b c d n = true) :
    Calls Try.prog 36 #[.agg #[.int .i64 a, .int .i64 b, .int .i64 c, .int .i64 d, .slice p n q], .int .u8 k] w (AnsM w a b c d (l.map (fun x => mn8 x k)) 0) := by
  have hcon := fun W (hr : RS 1 u8V W p l) (hk : W.cell? ⟨w.heap.size + 1, 0, none⟩ = some (.int .u8 k)) => mapv_any 69 #[.pointer (some ⟨w.heap.size + 1, 0, none⟩)] (fun x => mn8 x k) a b c d p n q l W (enters_of Try.func69 (by kernel_rfl) rfl) hn hr hB (fun W' x hb h0 h1 => sca1_any x k (w.heap.size + 1) W' h0 h1 hk0 hk1 (B.cs hb hk)) hv
  go_enter Try.func36, Try.ntmps36
  go_wp2_with (go_at_call 67; go_loud ((with_reducible refine (hcon _ (by (with_reducible repeat' first | assumption | apply B.rs_al | apply B.rs_drN | apply RS.drewN | apply B.rs_dr)) (by go_simp)).mono ?_); rintro e w1 ⟨p1, q1, rfl, hm1, hb1⟩; have hB1 : Below w.heap.size w w1 := B.bel_step (show Below w.heap.size w _ from (by (with_reducible repeat' first | exact Below.refl _ _ | assumption | apply B.belA | apply Below.drew | apply below_drewN | refine B.belS ?_ (by first | assumption | omega | (simp; done) | (simp; omega))))) hb1; have P1_m : B.Bx w1 w.heap.size [.int .i64 a, .int .i64 b, .int .i64 c, .int .i64 d, .slice p n q] := B.Bx.below (show B.Bx _ w.heap.size [.int .i64 a, .int .i64 b, .int .i64 c, .int .i64 d, .slice p n q] from (by (with_reducible repeat' first | assumption | exact B.Bx.new _ _ _ | refine B.Bx.newAt _ _ _ (by first | rfl | (simp; done)) | apply B.Bx.dr | apply B.Bx.drN | apply B.Bx.al | refine B.Bx.st ?_ (by first | assumption | omega | (simp; done) | (simp; omega))))) hb1; have P1_k : B.Bx w1 (w.heap.size + 1) [.int .u8 k] := B.Bx.below (show B.Bx _ (w.heap.size + 1) [.int .u8 k] from (by (with_reducible repeat' first | assumption | exact B.Bx.new _ _ _ | refine B.Bx.newAt _ _ _ (by first | rfl | (simp; done)) | apply B.Bx.dr | apply B.Bx.drN | apply B.Bx.al | refine B.Bx.st ?_ (by first | assumption | omega | (simp; done) | (simp; omega))))) hb1; have P1_o : B.Bx w1 (w.heap.size + 2) [.int .i64 0, .int .i64 0, .int .i64 0, .int .i64 0, .slice none 0 0] := B.Bx.below (show B.Bx _ (w.heap.size + 2) [.int .i64 0, .int .i64 0, .int .i64 0, .int .i64 0, .slice none 0 0] from (by (with_reducible repeat' first | assumption | exact B.Bx.new _ _ _ | refine B.Bx.newAt _ _ _ (by first | rfl | (simp; done)) | apply B.Bx.dr | apply B.Bx.drN | apply B.Bx.al | refine B.Bx.st ?_ (by first | assumption | omega | (simp; done) | (simp; omega))))) hb1; obtain ⟨⟨k1_m_0, g1_m_0⟩, ⟨k1_m_1, g1_m_1⟩, ⟨k1_m_2, g1_m_2⟩, ⟨k1_m_3, g1_m_3⟩, ⟨k1_m_4, g1_m_4⟩, x1_m, y1_m, q1_m⟩ := id P1_m.x5; obtain ⟨⟨k1_k_0, g1_k_0⟩, x1_k, y1_k, q1_k⟩ := id P1_k.x1; obtain ⟨⟨k1_o_0, g1_o_0⟩, ⟨k1_o_1, g1_o_1⟩, ⟨k1_o_2, g1_o_2⟩, ⟨k1_o_3, g1_o_3⟩, ⟨k1_o_4, g1_o_4⟩, x1_o, y1_o, q1_o⟩ := id P1_o.x5; have hz1 := hB1.size))
  have hm2 : NM (w.heap.size + 3) w1 p1 (l.map (fun x => mn8 x k)) := NM.mono hm1 (by simp)
  refine bodyPost_ret (v := .tuple #[.agg #[.int .i64 a, .int .i64 b, .int .i64 c, .int .i64 d, .slice p1 (l.map (fun x => mn8 x k)).length q1], .int .i64 0]) (by simp [results, Try.results36, go_sem, *]) rfl ⟨p1, q1, by rfl, NM.mono (by (with_reducible repeat' first | assumption | apply NM.dr | apply NM.al | refine NM.st ?_ (by first | assumption | omega | (simp; done) | (simp; omega)))) (show w.heap.size ≤ w.heap.size + 3 by omega), (by (with_reducible repeat' first | exact Below.refl _ _ | assumption | apply B.belA | apply Below.drew | apply below_drewN | refine B.belS ?_ (by first | assumption | omega | (simp; done) | (simp; omega))))⟩
set_option maxRecDepth 50000 in
set_option maxHeartbeats 4000000 in
theorem sca_bad (a b c d : Int) (k : Int) (p : Option Addr) (n q : Nat) (w : World) (hv : vM a b c d n = false) :
    Calls Try.prog 36 #[.agg #[.int .i64 a, .int .i64 b, .int .i64 c, .int .i64 d, .slice p n q], .int .u8 k] w (AnsM w 0 0 0 0 [] 14) := by
  go_enter Try.func36, Try.ntmps36
  go_wp2_with (go_at_call 67; go_loud ((with_reducible refine (mapv_bad 69 #[.pointer (some ⟨w.heap.size + 1, 0, none⟩)] a b c d p n q _ hv).mono ?_); rintro e w1 ⟨p1, q1, rfl, hm1, hb1⟩; have hB1 : Below w.heap.size w w1 := B.bel_step (show Below w.heap.size w _ from (by (with_reducible repeat' first | exact Below.refl _ _ | assumption | apply B.belA | apply Below.drew | apply below_drewN | refine B.belS ?_ (by first | assumption | omega | (simp; done) | (simp; omega))))) hb1; have P1_m : B.Bx w1 w.heap.size [.int .i64 a, .int .i64 b, .int .i64 c, .int .i64 d, .slice p n q] := B.Bx.below (show B.Bx _ w.heap.size [.int .i64 a, .int .i64 b, .int .i64 c, .int .i64 d, .slice p n q] from (by (with_reducible repeat' first | assumption | exact B.Bx.new _ _ _ | refine B.Bx.newAt _ _ _ (by first | rfl | (simp; done)) | apply B.Bx.dr | apply B.Bx.drN | apply B.Bx.al | refine B.Bx.st ?_ (by first | assumption | omega | (simp; done) | (simp; omega))))) hb1; have P1_k : B.Bx w1 (w.heap.size + 1) [.int .u8 k] := B.Bx.below (show B.Bx _ (w.heap.size + 1) [.int .u8 k] from (by (with_reducible repeat' first | assumption | exact B.Bx.new _ _ _ | refine B.Bx.newAt _ _ _ (by first | rfl | (simp; done)) | apply B.Bx.dr | apply B.Bx.drN | apply B.Bx.al | refine B.Bx.st ?_ (by first | assumption | omega | (simp; done) | (simp; omega))))) hb1; have P1_o : B.Bx w1 (w.heap.size + 2) [.int .i64 0, .int .i64 0, .int .i64 0, .int .i64 0, .slice none 0 0] := B.Bx.below (show B.Bx _ (w.heap.size + 2) [.int .i64 0, .int .i64 0, .int .i64 0, .int .i64 0, .slice none 0 0] from (by (with_reducible repeat' first | assumption | exact B.Bx.new _ _ _ | refine B.Bx.newAt _ _ _ (by first | rfl | (simp; done)) | apply B.Bx.dr | apply B.Bx.drN | apply B.Bx.al | refine B.Bx.st ?_ (by first | assumption | omega | (simp; done) | (simp; omega))))) hb1; obtain ⟨⟨k1_m_0, g1_m_0⟩, ⟨k1_m_1, g1_m_1⟩, ⟨k1_m_2, g1_m_2⟩, ⟨k1_m_3, g1_m_3⟩, ⟨k1_m_4, g1_m_4⟩, x1_m, y1_m, q1_m⟩ := id P1_m.x5; obtain ⟨⟨k1_k_0, g1_k_0⟩, x1_k, y1_k, q1_k⟩ := id P1_k.x1; obtain ⟨⟨k1_o_0, g1_o_0⟩, ⟨k1_o_1, g1_o_1⟩, ⟨k1_o_2, g1_o_2⟩, ⟨k1_o_3, g1_o_3⟩, ⟨k1_o_4, g1_o_4⟩, x1_o, y1_o, q1_o⟩ := id P1_o.x5; have hz1 := hB1.size))
  have hm2 : NM (w.heap.size + 3) w1 p1 [] := NM.nil _ _ _
  refine bodyPost_ret (v := .tuple #[.agg #[.int .i64 0, .int .i64 0, .int .i64 0, .int .i64 0, .slice p1 0 q1], .int .i64 14]) (by simp [results, Try.results36, go_sem, *]) rfl ⟨p1, q1, by rfl, NM.mono (by (with_reducible repeat' first | assumption | apply NM.dr | apply NM.al | refine NM.st ?_ (by first | assumption | omega | (simp; done) | (simp; omega)))) (show w.heap.size ≤ w.heap.size + 3 by omega), (by (with_reducible repeat' first | exact Below.refl _ _ | assumption | apply B.belA | apply Below.drew | apply below_drewN | refine B.belS ?_ (by first | assumption | omega | (simp; done) | (simp; omega))))⟩
end Go.Proofs.Ytfbgfnebodabpaa
