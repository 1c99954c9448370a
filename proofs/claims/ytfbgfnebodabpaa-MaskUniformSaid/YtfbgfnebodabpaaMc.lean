import Derived.Test.YtfbgfnebodabpaaMb
import Derived.Shelf.Abstract
import Derived.WalkKit
import Derived.WalkSpells
import Derived.WalkLawsBesides
import Derived.Lib.Hide
import Derived.Below
import Derived.Deep.QuietTactic
import Derived.BigQuiet
import Derived.StillTailTactics
import Derived.Deep.RegionHeld3
import Derived.IntWalk
namespace Go.Proofs.Ytfbgfnebodabpaa
open Go.RowKit
set_option linter.unusedVariables false
set_option linter.unusedSimpArgs false
theorem infoB : (Try.prog.info? 5).map (fun i => (i.zero, i.size, i.bytes)) = some (some (.int .u8 0), 1, 1) := by kernel_rfl
/-- New values: a row laid at B or behind it, none of its cells frozen. -/
def NM (lo : Nat) (w : World) (p : Option Addr) (l : List Int) : Prop := l = [] ∨ ∃ g, p = some ⟨g, 0, none⟩ ∧ lo ≤ g ∧ B.Bx w g (Cl u8V l)
theorem NM.nil (lo : Nat) (w : World) (p : Option Addr) : NM lo w p [] := .inl rfl
theorem NM.below {lo : Nat} {w w' : World} {p : Option Addr} {l : List Int} (h : NM lo w p l) (hb : Below w.heap.size w w') : NM lo w' p l := by
  rcases h with h | ⟨g, h1, h2, h3⟩
  · exact .inl h
  · exact .inr ⟨g, h1, h2, h3.below hb⟩
theorem NM.mono {lo lo' : Nat} {w : World} {p : Option Addr} {l : List Int} (h : NM lo w p l) (hb : lo' ≤ lo) : NM lo' w p l := by
  rcases h with h | ⟨g, h1, h2, h3⟩
  · exact .inl h
  · exact .inr ⟨g, h1, Nat.le_trans hb h2, h3⟩
theorem Cl_u8 (l : List Int) (i : Nat) : (Cl u8V l)[i]? = (l[i]?).map fun x => .int .u8 x := by
  have : Cl u8V l = l.map fun x => Value.int .u8 x := by unfold Cl u8V; induction l <;> simp_all
  rw [this, List.getElem?_map]
theorem NM.rs {lo : Nat} {w : World} {p : Option Addr} {l : List Int} (h : NM lo w p l) : RS 1 u8V w p l := by
  intro i hi
  rcases h with rfl | ⟨g, h1, h2, h3⟩
  · simp at hi
  · refine ⟨_, h1, fun j u hu => ?_⟩
    obtain rfl : j = 0 := by
      have := (List.getElem?_eq_some_iff.1 hu).1
      simp [u8V] at this
      exact this
    simp [u8V] at hu
    subst hu
    rw [add_addr, add0, Nat.mul_one, Nat.add_zero]
    exact (h3.1 i _ (by rw [Cl_u8, List.getElem?_eq_getElem hi]; rfl)).1
theorem NM.st {lo : Nat} {w : World} {p : Option Addr} {l : List Int} (h : NM lo w p l) {b o : Nat} {v : Value} (hlt : b < lo) : NM lo (w.setCell ⟨b, o, none⟩ v) p l := by
  rcases h with h | ⟨g, h1, h2, h3⟩
  · exact .inl h
  · exact .inr ⟨g, h1, h2, h3.st (by omega)⟩
theorem NM.dr {lo : Nat} {w : World} {p : Option Addr} {l : List Int} (h : NM lo w p l) : NM lo w.drew p l := h.below (Below.refl _ _).drew
theorem NM.al {lo : Nat} {w : World} {p : Option Addr} {l : List Int} (h : NM lo w p l) (o : Obj) : NM lo (w.alloc o) p l := h.below (Below.alloc (Below.refl _ _) (Nat.le_refl _) o)
theorem NM.drN {lo : Nat} {w : World} {p : Option Addr} {l : List Int} (h : NM lo w p l) (n : Nat) : NM lo (w.drewN n) p l := h.below (below_drewN (Below.refl _ _) n)
theorem nm_own {lo n c : Nat} {w : World} {a : Option Addr} {l : List Int} (h : w.ownsRow lo 5 1 (.slice a n c) n (Cl u8V l)) : NM lo w a l := by
  rcases h.2 with ⟨_, h1⟩ | ⟨g, cap, cur, h1, h2, h3, h4, h5, h6, h7⟩
  · have := h.1
    rw [Cl_len u8V_len] at this
    exact .inl (List.length_eq_zero_iff.1 (by omega))
  · injection h1 with e1 e2 e3
    subst e1
    exact .inr ⟨g, rfl, h2, fun i v hv => ⟨by have := h.cells (g := g) rfl i v hv; rwa [add0] at this, by have := frozen_of_row w g i cur 5 h3; exact this⟩, (Array.getElem?_eq_some_iff.1 h3).1⟩
theorem own_made0 (w : World) (cs : Array Value) (e : TypeId) (n : Nat) (hn : cs.size = n) (hm : n ≤ maxLen) : (w.alloc (.cells cs e)).ownsRow w.heap.size e 1 (.slice (some ⟨w.heap.size, 0, none⟩) 0 n) 0 [] := by
  subst hn
  exact ⟨by simp, .inr ⟨w.heap.size, cs.size, cs, rfl, Nat.le_refl _, heap_alloc_new w _, Nat.zero_le _, hm, by simp, by simp⟩⟩
/-- A list of bytes in a mask's form. -/
theorem gridN_row (f : Int → Int → Int) (a b : Int) (n j : Nat) : gridN f a b n j ++ rowL f (b + (j : Int)) a n = gridN f a b n (j + 1) := (gridN_snoc f a b n j).symm
theorem vM_nm {a b c d : Int} (h : caR a b c d = true) (hA : arR a b c d ≤ 65536) : ∃ n m : Nat, c = a + (n : Int) ∧ d = b + (m : Int) ∧ arR a b c d = ((n * m : Nat) : Int) ∧ n * m ≤ 65536 ∧ (-4096 ≤ a ∧ a ≤ 4096) ∧ (-4096 ≤ b ∧ b ≤ 4096) ∧ n ≤ 8192 ∧ m ≤ 8192 ∧ (c - a).toNat = n ∧ (d - b).toNat = m := by
  rcases caR_true h with he | ⟨he, rfl, rfl, rfl, rfl⟩
  · have h1 := (eR_false a b c d).1 he
    refine ⟨(c - a).toNat, (d - b).toNat, by omega, by omega, ?_, ?_, h1.1, h1.2.1, by omega, by omega, rfl, rfl⟩
    · simp only [arR, he, cn_false]
      rw [Int.natCast_mul, Int.toNat_of_nonneg (by omega), Int.toNat_of_nonneg (by omega)]
    · have h2 : arR a b c d = (((c - a).toNat * (d - b).toNat : Nat) : Int) := by
        simp only [arR, he, cn_false]
        rw [Int.natCast_mul, Int.toNat_of_nonneg (by omega), Int.toNat_of_nonneg (by omega)]
      omega
  · exact ⟨0, 0, by omega, by omega, by simp [arR, he, cn], by omega, by omega, by omega, by omega, by omega, by simp, by simp⟩
set_option maxRecDepth 50000 in
set_option maxHeartbeats 4000000 in
theorem build_any (F : FuncId) (cap : Array Value) (g : Int → Int → Int) (a b c d : Int) (w : World) (eF : Enters Try.prog F) (hca : caR a b c d = true) (hA : arR a b c d ≤ 65536)
    (hF : ∀ W x y, Below w.heap.size w W → a ≤ x → x < c → b ≤ y → y < d → Calls Try.prog F (#[.int .i64 x, .int .i64 y] ++ cap) W fun e w' => e = .returned (.int .u8 (g x y)) ∧ Below W.heap.size W w') :
    Calls Try.prog 56 #[.agg #[.int .i64 a, .int .i64 b, .int .i64 c, .int .i64 d], .func (.func F) #[] cap] w fun e w' => ∃ p, e = .returned (.agg #[.int .i64 a, .int .i64 b, .int .i64 c, .int .i64 d, .slice p (gridL g a b c d).length (gridL g a b c d).length]) ∧ NM w.heap.size w' p (gridL g a b c d) ∧ Below w.heap.size w w' := by
  have eF2 : ∀ (args : Array Value) (w : World), (callFunc F args).run Try.prog w = .ok (.enter F args) w := eF
  have har := fun W => area_any a b c d W
  have hA2 : (cn (eR a b c d) c - cn (eR a b c d) a) * (cn (eR a b c d) d - cn (eR a b c d) b) = arR a b c d := rfl
  rw [hA2] at har
  clear hA2
  obtain ⟨n, m, rfl, rfl, hnm, hnm2, ha, hb, hn, hm, h1, h2⟩ := vM_nm hca hA
  rw [hnm] at har
  have hG : gridL g a b (a + (n : Int)) (b + (m : Int)) = gridN g a b n m := by rw [gridL, h1, h2]
  have hGl := gridN_len g a b n m
  rw [hG, hGl]
  clear h1 h2 hG hGl hnm hca hA
  have hmk : ∀ W : World, (Instr.makeSlice 24 (.int .i64 0) (.int .i64 ((n * m : Nat) : Int))).run Try.prog W = .ok (.slice (some ⟨W.heap.size, 0, none⟩) 0 (n * m)) (W.alloc (.cells (madeCells #[.int .u8 0] (n * m)) 5)) := by
    intro W
    obtain ⟨i0, hi0, hz0⟩ := Option.map_eq_some_iff.1 infoB
    simp only [Prod.mk.injEq] at hz0
    obtain ⟨hz, hs, hb⟩ := hz0
    have h := run_make (P := Try.prog) (w := W) 24 5 i0 (.int .u8 0) Try.underlying24 hi0 hz .i64 .i64 0 ((n * m : Nat) : Int) (by omega) (by omega) (by rw [hb]; omega) (by omega)
    rw [hs, Nat.mul_one] at h
    exact h
  generalize hN : n * m = N at har hmk hnm2
  have HN := Lib.hid hN
  clear hN
  go_enter Try.func56, Try.ntmps56
  go_wp2_with (go_at_call 47; go_loud ((with_reducible refine (har _).mono ?_); rintro e w1 ⟨rfl, hb1⟩; have hB1 : Below w.heap.size w w1 := B.bel_step (show Below w.heap.size w _ from (by (with_reducible repeat' first | exact Below.refl _ _ | assumption | apply B.belA | apply Below.drew | apply below_drewN | refine B.belS ?_ (by first | assumption | omega | (simp; done) | (simp; omega))))) hb1; have P1_r : B.Bx w1 w.heap.size [.int .i64 a, .int .i64 b, .int .i64 (a + (n : Int)), .int .i64 (b + (m : Int))] := B.Bx.below (show B.Bx _ w.heap.size [.int .i64 a, .int .i64 b, .int .i64 (a + (n : Int)), .int .i64 (b + (m : Int))] from (by (with_reducible repeat' first | assumption | exact B.Bx.new _ _ _ | refine B.Bx.newAt _ _ _ (by first | rfl | (simp; done)) | apply B.Bx.dr | apply B.Bx.drN | apply B.Bx.al | refine B.Bx.st ?_ (by first | assumption | omega | (simp; done) | (simp; omega))))) hb1; have P1_o : B.Bx w1 (w.heap.size + 1) [.int .i64 0, .int .i64 0, .int .i64 0, .int .i64 0, .slice none 0 0] := B.Bx.below (show B.Bx _ (w.heap.size + 1) [.int .i64 0, .int .i64 0, .int .i64 0, .int .i64 0, .slice none 0 0] from (by (with_reducible repeat' first | assumption | exact B.Bx.new _ _ _ | refine B.Bx.newAt _ _ _ (by first | rfl | (simp; done)) | apply B.Bx.dr | apply B.Bx.drN | apply B.Bx.al | refine B.Bx.st ?_ (by first | assumption | omega | (simp; done) | (simp; omega))))) hb1; obtain ⟨⟨k1_r_0, g1_r_0⟩, ⟨k1_r_1, g1_r_1⟩, ⟨k1_r_2, g1_r_2⟩, ⟨k1_r_3, g1_r_3⟩, x1_r, y1_r, q1_r⟩ := id P1_r.x4; obtain ⟨⟨k1_o_0, g1_o_0⟩, ⟨k1_o_1, g1_o_1⟩, ⟨k1_o_2, g1_o_2⟩, ⟨k1_o_3, g1_o_3⟩, ⟨k1_o_4, g1_o_4⟩, x1_o, y1_o, q1_o⟩ := id P1_o.x5; have hz1 := hB1.size))
  have HB1 := Lib.hid hB1
  have hbo : w.heap.size + 1 < w1.heap.size := q1_o
  have HO := own_made0 w1 (madeCells #[Value.int .u8 0] N) 5 N (size_madeCells _ _) (by unfold maxLen; omega)
  go_loopw [5, 6, 7] (fun v i _ wr => ∃ j : Nat, j ≤ m ∧ i = .int .i64 (b + (j : Int)) ∧ wr.ownsRow w1.heap.size 5 1 v (n * j) (Cl u8V (gridN g a b n j)) ∧ Below w1.heap.size w1 wr) (fun _ i _ _ => (b + (m : Int) - intOf i).toNat)
  case atStart => exact ⟨0, Nat.zero_le _, by go_num, by simpa [gridN, Cl] using HO, by (with_reducible repeat' first | exact Below.refl _ _ | assumption | apply B.belA | apply Below.drew | apply below_drewN | refine B.belS ?_ (by first | assumption | omega | (simp; done) | (simp; omega)))⟩
  case round =>
    obtain ⟨j, hj, rfl, hown, hbw⟩ := hrel
    have P2_r := B.Bx.below P1_r hbw
    obtain ⟨⟨k2_r_0, g2_r_0⟩, ⟨k2_r_1, g2_r_1⟩, ⟨k2_r_2, g2_r_2⟩, ⟨k2_r_3, g2_r_3⟩, x2_r, y2_r, q2_r⟩ := id P2_r.x4
    have P2_o := B.Bx.below P1_o hbw
    obtain ⟨⟨k2_o_0, g2_o_0⟩, ⟨k2_o_1, g2_o_1⟩, ⟨k2_o_2, g2_o_2⟩, ⟨k2_o_3, g2_o_3⟩, ⟨k2_o_4, g2_o_4⟩, x2_o, y2_o, q2_o⟩ := id P2_o.x5
    have hzw := hbw.size
    by_cases hlt : j < m
    · go_wp2
      go_loopw [5, 7] (fun v i wr2 => ∃ i' : Nat, i' ≤ n ∧ i = .int .i64 (a + (i' : Int)) ∧ wr2.ownsRow w1.heap.size 5 1 v (n * j + i') (Cl u8V (gridN g a b n j ++ rowL g (b + (j : Int)) a i')) ∧ Below w1.heap.size w1 wr2) (fun _ i _ => (a + (n : Int) - intOf i).toNat)
      case atStart => exact ⟨0, Nat.zero_le _, by go_num, by simpa [rowL] using hown, hbw⟩
      case round =>
        obtain ⟨i', hi, rfl, hown2, hbw2⟩ := hrel
        clear P2_r k2_r_0 g2_r_0 k2_r_1 g2_r_1 k2_r_2 g2_r_2 k2_r_3 g2_r_3 x2_r y2_r q2_r P2_o k2_o_0 g2_o_0 k2_o_1 g2_o_1 k2_o_2 g2_o_2 k2_o_3 g2_o_3 k2_o_4 g2_o_4 x2_o y2_o q2_o
        have P3_r := B.Bx.below P1_r hbw2
        obtain ⟨⟨k3_r_0, g3_r_0⟩, ⟨k3_r_1, g3_r_1⟩, ⟨k3_r_2, g3_r_2⟩, ⟨k3_r_3, g3_r_3⟩, x3_r, y3_r, q3_r⟩ := id P3_r.x4
        have P3_o := B.Bx.below P1_o hbw2
        obtain ⟨⟨k3_o_0, g3_o_0⟩, ⟨k3_o_1, g3_o_1⟩, ⟨k3_o_2, g3_o_2⟩, ⟨k3_o_3, g3_o_3⟩, ⟨k3_o_4, g3_o_4⟩, x3_o, y3_o, q3_o⟩ := id P3_o.x5
        have hzw2 := hbw2.size
        by_cases hlt2 : i' < n
        · have hle : n * j + i' + 1 ≤ 1000000 := by
            have h3 : n * j + n ≤ n * m := by rw [← Nat.mul_succ]; exact Nat.mul_le_mul_left n hlt
            rw [HN.out] at h3
            omega
          have hS := Lib.hid (show gridN g a b n j ++ rowL g (b + (j : Int)) a (i' + 1) = (gridN g a b n j ++ rowL g (b + (j : Int)) a i') ++ [g (a + (i' : Int)) (b + (j : Int))] by rw [rowL_snoc, List.append_assoc])
          have hC := Lib.hid (hF _ (a + (i' : Int)) (b + (j : Int)) (HB1.out.trans (hbw2.mono hz1)) (by omega) (by omega) (by omega) (by omega))
          go_wp2_with (first
            | (go_at_fn F; go_loud ((with_reducible refine hC.out.mono ?_); rintro e w9 ⟨rfl, hb9⟩; have hown9 := own_keep hown2 hb9; have hbw9 : Below w1.heap.size w1 w9 := hbw2.trans (hb9.mono hzw2); have hz9 := hbw9.size))
            | (at_builtin; go_loud (refine wpList_snocA (B := w1.heap.size) u8V rfl _ _ _ _ rfl Try.underlying24 infoB rfl (by omega) hown9 hz9 hle (by omega) (g (a + (i' : Int)) (b + (j : Int))) _ rfl rfl (by simp [u8V, Value.oneCell']) rfl rfl rfl ?_; intro v5 w5 hown5 hbw5 hgr5 hat5)))
          go_roundw
          case rel => exact ⟨i' + 1, by omega, by go_num, by rw [hS.out]; exact hown5, hbw9.trans hbw5⟩
          case measure => (simp [intOf]; try omega)
        · obtain rfl : i' = n := by omega
          have hS := Lib.hid (gridN_row g a b i' j)
          go_wp2
          go_roundw
          case rel => exact ⟨j + 1, by omega, by go_num, by rw [← hS.out, Nat.mul_succ]; exact hown2, hbw2⟩
          case measure => (simp [intOf]; try omega)
    · obtain rfl : j = m := by omega
      obtain ⟨a5, c5, rfl⟩ := own_slice hown
      have hnm5 := nm_own hown
      have hcap5 := own_cap hown
      rw [HN.out] at hown hcap5
      rw [HN.out]
      go_wp2
      go_still_tail 8, (by kernel_rfl)
      go_wp2
      have hlo : w.heap.size ≤ w1.heap.size := hz1
      refine bodyPost_ret (v := .agg #[.int .i64 a, .int .i64 b, .int .i64 (a + (n : Int)), .int .i64 (b + (j : Int)), .slice a5 N N]) (by simp [results, Try.results56, go_sem, *]) rfl ⟨a5, rfl, NM.mono (by (with_reducible repeat' first | assumption | apply NM.dr | apply NM.al | refine NM.st ?_ (by first | assumption | omega | (simp; done) | (simp; omega)))) hz1, ?_⟩
      have hbw2 : Below w.heap.size w wr := HB1.out.trans (hbw.mono hz1)
      exact (by (with_reducible repeat' first | exact Below.refl _ _ | assumption | apply B.belA | apply Below.drew | apply below_drewN | refine B.belS ?_ (by first | assumption | omega | (simp; done) | (simp; omega))))
end Go.Proofs.Ytfbgfnebodabpaa
