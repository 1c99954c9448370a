import Derived.Test.YtfbgfnebodabpaaMq
import Derived.WalkKit
import Derived.WalkSpells
import Derived.WalkLawsBesides
import Derived.Lib.Hide
import Derived.Below
import Derived.Deep.QuietTactic
import Derived.BigQuiet
import Derived.StillTailTactics
import Derived.Deep.RegionHeld3
import Derived.IntWalk
namespace Go.Proofs.Ytfbgfnebodabpaa
open Go.RowKit
set_option linter.unusedVariables false
set_option linter.unusedSimpArgs false
def ixR (r s : Int × Int × Int × Int) : Int × Int × Int × Int :=
  (cn (eR (max (cn (eR r.1 r.2.1 r.2.2.1 r.2.2.2) r.1) (cn (eR s.1 s.2.1 s.2.2.1 s.2.2.2) s.1)) (max (cn (eR r.1 r.2.1 r.2.2.1 r.2.2.2) r.2.1) (cn (eR s.1 s.2.1 s.2.2.1 s.2.2.2) s.2.1)) (min (cn (eR r.1 r.2.1 r.2.2.1 r.2.2.2) r.2.2.1) (cn (eR s.1 s.2.1 s.2.2.1 s.2.2.2) s.2.2.1)) (min (cn (eR r.1 r.2.1 r.2.2.1 r.2.2.2) r.2.2.2) (cn (eR s.1 s.2.1 s.2.2.1 s.2.2.2) s.2.2.2))) (max (cn (eR r.1 r.2.1 r.2.2.1 r.2.2.2) r.1) (cn (eR s.1 s.2.1 s.2.2.1 s.2.2.2) s.1)),
   cn (eR (max (cn (eR r.1 r.2.1 r.2.2.1 r.2.2.2) r.1) (cn (eR s.1 s.2.1 s.2.2.1 s.2.2.2) s.1)) (max (cn (eR r.1 r.2.1 r.2.2.1 r.2.2.2) r.2.1) (cn (eR s.1 s.2.1 s.2.2.1 s.2.2.2) s.2.1)) (min (cn (eR r.1 r.2.1 r.2.2.1 r.2.2.2) r.2.2.1) (cn (eR s.1 s.2.1 s.2.2.1 s.2.2.2) s.2.2.1)) (min (cn (eR r.1 r.2.1 r.2.2.1 r.2.2.2) r.2.2.2) (cn (eR s.1 s.2.1 s.2.2.1 s.2.2.2) s.2.2.2))) (max (cn (eR r.1 r.2.1 r.2.2.1 r.2.2.2) r.2.1) (cn (eR s.1 s.2.1 s.2.2.1 s.2.2.2) s.2.1)),
   cn (eR (max (cn (eR r.1 r.2.1 r.2.2.1 r.2.2.2) r.1) (cn (eR s.1 s.2.1 s.2.2.1 s.2.2.2) s.1)) (max (cn (eR r.1 r.2.1 r.2.2.1 r.2.2.2) r.2.1) (cn (eR s.1 s.2.1 s.2.2.1 s.2.2.2) s.2.1)) (min (cn (eR r.1 r.2.1 r.2.2.1 r.2.2.2) r.2.2.1) (cn (eR s.1 s.2.1 s.2.2.1 s.2.2.2) s.2.2.1)) (min (cn (eR r.1 r.2.1 r.2.2.1 r.2.2.2) r.2.2.2) (cn (eR s.1 s.2.1 s.2.2.1 s.2.2.2) s.2.2.2))) (min (cn (eR r.1 r.2.1 r.2.2.1 r.2.2.2) r.2.2.1) (cn (eR s.1 s.2.1 s.2.2.1 s.2.2.2) s.2.2.1)),
   cn (eR (max (cn (eR r.1 r.2.1 r.2.2.1 r.2.2.2) r.1) (cn (eR s.1 s.2.1 s.2.2.1 s.2.2.2) s.1)) (max (cn (eR r.1 r.2.1 r.2.2.1 r.2.2.2) r.2.1) (cn (eR s.1 s.2.1 s.2.2.1 s.2.2.2) s.2.1)) (min (cn (eR r.1 r.2.1 r.2.2.1 r.2.2.2) r.2.2.1) (cn (eR s.1 s.2.1 s.2.2.1 s.2.2.2) s.2.2.1)) (min (cn (eR r.1 r.2.1 r.2.2.1 r.2.2.2) r.2.2.2) (cn (eR s.1 s.2.1 s.2.2.1 s.2.2.2) s.2.2.2))) (min (cn (eR r.1 r.2.1 r.2.2.1 r.2.2.2) r.2.2.2) (cn (eR s.1 s.2.1 s.2.2.1 s.2.2.2) s.2.2.2)))
def caQ (r : Int × Int × Int × Int) : Bool := caR r.1 r.2.1 r.2.2.1 r.2.2.2
def arQ (r : Int × Int × Int × Int) : Int := arR r.1 r.2.1 r.2.2.1 r.2.2.2
theorem caQ_ix (r s : Int × Int × Int × Int) : caQ (ixR r s) = true := caR_cn _ _ _ _
theorem arQ_ix (r s : Int × Int × Int × Int) : arQ (ixR r s) ≤ arQ r := by
  have h := arR_in r.1 r.2.1 r.2.2.1 r.2.2.2 s.1 s.2.1 s.2.2.1 s.2.2.2 _ _ _ _ rfl rfl rfl rfl
  unfold arQ ixR
  rw [arR_cn]
  exact h
def agR (r : Int × Int × Int × Int) : Value := .agg #[.int .i64 r.1, .int .i64 r.2.1, .int .i64 r.2.2.1, .int .i64 r.2.2.2]
def Msk.r (m : Msk) : Int × Int × Int × Int := (m.a, m.b, m.c, m.d)
def bndR (m : Msk) (t : List Msk) : Int × Int × Int × Int := t.foldl (fun r m => ixR r m.r) m.r
theorem bndR_step (m : Msk) (t : List Msk) {k : Nat} (hk : k < t.length) : bndR m (t.take (k + 1)) = ixR (bndR m (t.take k)) t[k].r := by
  unfold bndR
  rw [List.take_add_one, List.getElem?_eq_getElem hk, List.foldl_append]
  rfl
theorem bndR_ok (m : Msk) (t : List Msk) (hv : m.valid = true) : caQ (bndR m t) = true ∧ arQ (bndR m t) ≤ 65536 := by
  have : ∀ (t : List Msk) (r : Int × Int × Int × Int), caQ r = true → arQ r ≤ 65536 → caQ (t.foldl (fun r m => ixR r m.r) r) = true ∧ arQ (t.foldl (fun r m => ixR r m.r) r) ≤ 65536 := by
    intro t
    induction t with
    | nil => intro r h1 h2; exact ⟨h1, h2⟩
    | cons m t ih => intro r h1 h2; exact ih _ (caQ_ix _ _) (Int.le_trans (arQ_ix _ _) h2)
  have h := vM_of hv
  exact this t m.r h.1 h.2.1
theorem ix_any (r s : Int × Int × Int × Int) (w : World) : Calls Try.prog 59 #[agR r, agR s] w fun e w' => e = .returned (agR (ixR r s)) ∧ Below w.heap.size w w' := intersect_any _ _ _ _ _ _ _ _ _ _ _ _ rfl rfl rfl rfl w
theorem rix_any (r s : Int × Int × Int × Int) (w : World) : Calls Try.prog 63 #[agR r, agR s] w fun e w' => e = .returned (agR (ixR r s)) ∧ Below w.heap.size w w' := rintersect_any _ _ _ _ _ _ _ _ _ _ _ _ rfl rfl rfl rfl w
/-- The product, a mask. -/
def mulL (m : Msk) (t : List Msk) : List Int := gridL (mulV m t) (bndR m t).1 (bndR m t).2.1 (bndR m t).2.2.1 (bndR m t).2.2.2
set_option maxRecDepth 50000 in
set_option maxHeartbeats 4000000 in
theorem mulp_ok (P : Option Addr) (n q : Nat) (m : Msk) (t : List Msk) (w : World) (hn : (m :: t).length = n) (hq : n ≤ q) (hmx : n ≤ 1000000) (hms : MS w P (m :: t)) (hv : ∀ m' ∈ m :: t, m'.valid = true) :
    Calls Try.prog 27 #[.slice P n q] w (AnsM w (bndR m t).1 (bndR m t).2.1 (bndR m t).2.2.1 (bndR m t).2.2.2 (mulL m t) 0) := by
  obtain ⟨ad, rfl, _⟩ := hms.1 0 (by simp)
  obtain ⟨hcq, haq⟩ := bndR_ok m t (hv m (by simp))
  obtain ⟨n', rfl⟩ : ∃ n', n = n' + 1 := ⟨t.length, by rw [← hn]; simp⟩
  obtain ⟨q', rfl⟩ : ∃ q', q = q' + 1 := ⟨q - 1, by omega⟩
  have hnt : n' = t.length := by simpa using hn.symm
  subst hnt
  have hmx2 : t.length ≤ 1000000 := by omega
  have hbu := fun W (hbx : B.Bx W w.heap.size [.slice (some ad) (t.length + 1) (q' + 1)]) (hm : MS W (some ad) (m :: t)) => build_any 60 #[.pointer (some ⟨w.heap.size, 0, none⟩)] (mulV m t) _ _ _ _ W (enters_of Try.func60 (by kernel_rfl) rfl) hcq haq (fun W' x y hb _ _ _ _ => mul1_any x y (some ad) (t.length + 1) (q' + 1) w.heap.size m t W' rfl hq hmx (hm.below hb) hv (hbx.below hb))
  rw [show gridL (mulV m t) (bndR m t).1 (bndR m t).2.1 (bndR m t).2.2.1 (bndR m t).2.2.2 = mulL m t from rfl] at hbu
  obtain ⟨G, hG⟩ : ∃ G, mulL m t = G := ⟨_, rfl⟩
  rw [hG] at hbu ⊢
  clear hG hcq haq
  by_cases hq0 : q' = 0
  · subst hq0
    obtain rfl : t = [] := List.length_eq_zero_iff.1 (by omega)
    simp only [List.length_nil, Nat.zero_add] at hbu
    go_enter Try.func27, Try.ntmps27
    go_wp2
    go_loopw [12] (fun i wr => ∃ k : Nat, k ≤ 1 ∧ i = .int .i64 k ∧ B.Bx wr w.heap.size [.slice (some ad) 1 1] ∧ B.Bx wr (w.heap.size + 1) [.int .i64 0, .int .i64 0, .int .i64 0, .int .i64 0, .slice none 0 0] ∧ Below w.heap.size w wr) (fun i _ => 1 - (intOf i).toNat)
    case atStart => exact ⟨0, Nat.zero_le _, by go_num, by (with_reducible repeat' first | assumption | exact B.Bx.new _ _ _ | refine B.Bx.newAt _ _ _ (by first | rfl | (simp; done)) | apply B.Bx.dr | apply B.Bx.drN | apply B.Bx.al | refine B.Bx.st ?_ (by first | assumption | omega | (simp; done) | (simp; omega))), by (with_reducible repeat' first | assumption | exact B.Bx.new _ _ _ | refine B.Bx.newAt _ _ _ (by first | rfl | (simp; done)) | apply B.Bx.dr | apply B.Bx.drN | apply B.Bx.al | refine B.Bx.st ?_ (by first | assumption | omega | (simp; done) | (simp; omega))), by (with_reducible repeat' first | exact Below.refl _ _ | assumption | apply B.belA | apply Below.drew | apply below_drewN | refine B.belS ?_ (by first | assumption | omega | (simp; done) | (simp; omega)))⟩
    case round =>
      obtain ⟨k, hk, rfl, hb1, hb2, hbw⟩ := hrel
      obtain ⟨⟨kl_0, gl_0⟩, xl, yl, ql⟩ := id hb1.x1
      obtain ⟨⟨ko_0, go_0⟩, ⟨ko_1, go_1⟩, ⟨ko_2, go_2⟩, ⟨ko_3, go_3⟩, ⟨ko_4, go_4⟩, xo, yo, qo⟩ := id hb2.x5
      by_cases hlt : k < 1
      · obtain ⟨f0, f1, f2, f3, f4⟩ := RS.five (hms.below hbw).1 (k := k) hlt
        have hmem := List.getElem_mem (l := m :: []) hlt
        obtain ⟨m2, hm2⟩ : ∃ m2, (m :: [])[k] = m2 := ⟨_, rfl⟩
        rw [hm2] at f0 f1 f2 f3 f4 hmem
        have hva := fun W => mvalid_any m2.a m2.b m2.c m2.d m2.p m2.n m2.q W
        rw [show vM m2.a m2.b m2.c m2.d m2.n = true from hv m2 hmem] at hva
        clear hm2
        have hltn : (k : Int) < (1 : Int) := by omega
        go_wp2_with (go_at_call 15; go_loud ((with_reducible refine (hva _).mono ?_); rintro e w9 ⟨rfl, hb9⟩; have hB9 := B.bel_step (show Below w.heap.size w _ from (by (with_reducible repeat' first | exact Below.refl _ _ | assumption | apply B.belA | apply Below.drew | apply below_drewN | refine B.belS ?_ (by first | assumption | omega | (simp; done) | (simp; omega))))) hb9; have hb19 : B.Bx w9 w.heap.size [.slice (some ad) 1 1] := B.Bx.below (by (with_reducible repeat' first | assumption | exact B.Bx.new _ _ _ | refine B.Bx.newAt _ _ _ (by first | rfl | (simp; done)) | apply B.Bx.dr | apply B.Bx.drN | apply B.Bx.al | refine B.Bx.st ?_ (by first | assumption | omega | (simp; done) | (simp; omega)))) hb9; have hb29 : B.Bx w9 (w.heap.size + 1) [.int .i64 0, .int .i64 0, .int .i64 0, .int .i64 0, .slice none 0 0] := B.Bx.below (by (with_reducible repeat' first | assumption | exact B.Bx.new _ _ _ | refine B.Bx.newAt _ _ _ (by first | rfl | (simp; done)) | apply B.Bx.dr | apply B.Bx.drN | apply B.Bx.al | refine B.Bx.st ?_ (by first | assumption | omega | (simp; done) | (simp; omega)))) hb9))
        go_roundw
        case rel => exact ⟨k + 1, by omega, by go_num, hb19, hb29, hB9⟩
        case measure => (simp [intOf]; try omega)
      · have hge : ¬ (k : Int) < (1 : Int) := by omega
        clear hlt hk
        have hms2 := hms.below hbw
        obtain ⟨e0, e1, e2, e3, e4⟩ := RS.five hms2.1 (k := 0) (by simp)
        simp only [List.getElem_cons_zero, Nat.zero_mul, addr_zero] at e0 e1 e2 e3 e4
        rename World => wr1
        go_wp2
        go_loopw [32] (fun i wr => ∃ k : Nat, k ≤ 0 ∧ i = .int .i64 k ∧ B.Bx wr w.heap.size [.slice (some ad) 1 1] ∧ B.Bx wr (w.heap.size + 1) [.int .i64 0, .int .i64 0, .int .i64 0, .int .i64 0, .slice none 0 0] ∧ B.Bx wr wr1.heap.size [.int .i64 (bndR m (([] : List Msk).take k)).1, .int .i64 (bndR m (([] : List Msk).take k)).2.1, .int .i64 (bndR m (([] : List Msk).take k)).2.2.1, .int .i64 (bndR m (([] : List Msk).take k)).2.2.2] ∧ Below w.heap.size w wr) (fun i _ => 0 - (intOf i).toNat)
        case atStart => exact ⟨0, Nat.zero_le _, by go_num, by (with_reducible repeat' first | assumption | exact B.Bx.new _ _ _ | refine B.Bx.newAt _ _ _ (by first | rfl | (simp; done)) | apply B.Bx.dr | apply B.Bx.drN | apply B.Bx.al | refine B.Bx.st ?_ (by first | assumption | omega | (simp; done) | (simp; omega))), by (with_reducible repeat' first | assumption | exact B.Bx.new _ _ _ | refine B.Bx.newAt _ _ _ (by first | rfl | (simp; done)) | apply B.Bx.dr | apply B.Bx.drN | apply B.Bx.al | refine B.Bx.st ?_ (by first | assumption | omega | (simp; done) | (simp; omega))), by (simp only [List.take_zero]; exact B.Bx.new _ _ _), by (with_reducible repeat' first | exact Below.refl _ _ | assumption | apply B.belA | apply Below.drew | apply below_drewN | refine B.belS ?_ (by first | assumption | omega | (simp; done) | (simp; omega)))⟩
        case round =>
          obtain ⟨k, hk, rfl, hc1, hc2, hc3, hcw⟩ := hrel
          obtain ⟨⟨kL_0, gL_0⟩, xL, yL, qL⟩ := id hc1.x1
          obtain ⟨⟨kO_0, gO_0⟩, ⟨kO_1, gO_1⟩, ⟨kO_2, gO_2⟩, ⟨kO_3, gO_3⟩, ⟨kO_4, gO_4⟩, xO, yO, qO⟩ := id hc2.x5
          obtain ⟨⟨kR_0, gR_0⟩, ⟨kR_1, gR_1⟩, ⟨kR_2, gR_2⟩, ⟨kR_3, gR_3⟩, xR, yR, qR⟩ := id hc3.x4
          by_cases hlt2 : k < 0
          · exact absurd hlt2 (by omega)
          · obtain rfl : k = 0 := by omega
            rw [List.take_nil] at hc3 kR_0 kR_1 kR_2 kR_3
            have hms9 := hms.below hcw
            go_wp2_with (go_at_call 56; go_loud ((with_reducible refine (hbu _ (by (with_reducible repeat' first | assumption | exact B.Bx.new _ _ _ | refine B.Bx.newAt _ _ _ (by first | rfl | (simp; done)) | apply B.Bx.dr | apply B.Bx.drN | apply B.Bx.al | refine B.Bx.st ?_ (by first | assumption | omega | (simp; done) | (simp; omega)))) (by first | with_reducible assumption | (exact MS.below hms9 (by (with_reducible repeat' first | exact Below.refl _ _ | assumption | apply B.belA | apply Below.drew | apply below_drewN | refine B.belS ?_ (by first | assumption | omega | (simp; done) | (simp; omega))))))).mono ?_); rintro e w7 ⟨p7, rfl, hm7, hb7⟩; have hB7 : Below w.heap.size w w7 := B.bel_step (show Below w.heap.size w _ from (by (with_reducible repeat' first | exact Below.refl _ _ | assumption | apply B.belA | apply Below.drew | apply below_drewN | refine B.belS ?_ (by first | assumption | omega | (simp; done) | (simp; omega))))) hb7; have P7_l : B.Bx w7 w.heap.size [.slice (some ad) 1 1] := B.Bx.below (show B.Bx _ w.heap.size [.slice (some ad) 1 1] from (by (with_reducible repeat' first | assumption | exact B.Bx.new _ _ _ | refine B.Bx.newAt _ _ _ (by first | rfl | (simp; done)) | apply B.Bx.dr | apply B.Bx.drN | apply B.Bx.al | refine B.Bx.st ?_ (by first | assumption | omega | (simp; done) | (simp; omega))))) hb7; have P7_o : B.Bx w7 (w.heap.size + 1) [.int .i64 0, .int .i64 0, .int .i64 0, .int .i64 0, .slice none 0 0] := B.Bx.below (show B.Bx _ (w.heap.size + 1) [.int .i64 0, .int .i64 0, .int .i64 0, .int .i64 0, .slice none 0 0] from (by (with_reducible repeat' first | assumption | exact B.Bx.new _ _ _ | refine B.Bx.newAt _ _ _ (by first | rfl | (simp; done)) | apply B.Bx.dr | apply B.Bx.drN | apply B.Bx.al | refine B.Bx.st ?_ (by first | assumption | omega | (simp; done) | (simp; omega))))) hb7; obtain ⟨⟨k7_l_0, g7_l_0⟩, x7_l, y7_l, q7_l⟩ := id P7_l.x1; obtain ⟨⟨k7_o_0, g7_o_0⟩, ⟨k7_o_1, g7_o_1⟩, ⟨k7_o_2, g7_o_2⟩, ⟨k7_o_3, g7_o_3⟩, ⟨k7_o_4, g7_o_4⟩, x7_o, y7_o, q7_o⟩ := id P7_o.x5; have hz7 := hB7.size))
            have hm8 : NM (w.heap.size + 1 + 1) w7 p7 G := NM.mono hm7 (by omega)
            refine bodyPost_ret (v := .tuple #[.agg #[.int .i64 (bndR m []).1, .int .i64 (bndR m []).2.1, .int .i64 (bndR m []).2.2.1, .int .i64 (bndR m []).2.2.2, .slice p7 G.length G.length], .int .i64 0]) (by simp [results, Try.results27, go_sem, *]) rfl ⟨p7, G.length, rfl, NM.mono (by (with_reducible repeat' first | assumption | apply NM.dr | apply NM.al | refine NM.st ?_ (by first | assumption | omega | (simp; done) | (simp; omega)))) (show w.heap.size ≤ w.heap.size + 1 + 1 by omega), (by (with_reducible repeat' first | exact Below.refl _ _ | assumption | apply B.belA | apply Below.drew | apply below_drewN | refine B.belS ?_ (by first | assumption | omega | (simp; done) | (simp; omega))))⟩
  · have hT : RS 5 Msk.v w (some ⟨ad.block, ad.off + 5, none⟩) t := RS.tail5 hms.1
    go_enter Try.func27, Try.ntmps27
    go_wp2
    go_loopw [12] (fun i wr => ∃ k : Nat, k ≤ t.length + 1 ∧ i = .int .i64 k ∧ B.Bx wr w.heap.size [.slice (some ad) (t.length + 1) (q' + 1)] ∧ B.Bx wr (w.heap.size + 1) [.int .i64 0, .int .i64 0, .int .i64 0, .int .i64 0, .slice none 0 0] ∧ Below w.heap.size w wr) (fun i _ => t.length + 1 - (intOf i).toNat)
    case atStart => exact ⟨0, Nat.zero_le _, by go_num, by (with_reducible repeat' first | assumption | exact B.Bx.new _ _ _ | refine B.Bx.newAt _ _ _ (by first | rfl | (simp; done)) | apply B.Bx.dr | apply B.Bx.drN | apply B.Bx.al | refine B.Bx.st ?_ (by first | assumption | omega | (simp; done) | (simp; omega))), by (with_reducible repeat' first | assumption | exact B.Bx.new _ _ _ | refine B.Bx.newAt _ _ _ (by first | rfl | (simp; done)) | apply B.Bx.dr | apply B.Bx.drN | apply B.Bx.al | refine B.Bx.st ?_ (by first | assumption | omega | (simp; done) | (simp; omega))), by (with_reducible repeat' first | exact Below.refl _ _ | assumption | apply B.belA | apply Below.drew | apply below_drewN | refine B.belS ?_ (by first | assumption | omega | (simp; done) | (simp; omega)))⟩
    case round =>
      obtain ⟨k, hk, rfl, hb1, hb2, hbw⟩ := hrel
      obtain ⟨⟨kl_0, gl_0⟩, xl, yl, ql⟩ := id hb1.x1
      obtain ⟨⟨ko_0, go_0⟩, ⟨ko_1, go_1⟩, ⟨ko_2, go_2⟩, ⟨ko_3, go_3⟩, ⟨ko_4, go_4⟩, xo, yo, qo⟩ := id hb2.x5
      by_cases hlt : k < t.length + 1
      · obtain ⟨f0, f1, f2, f3, f4⟩ := RS.five (hms.below hbw).1 (k := k) hlt
        have hmem := List.getElem_mem (l := m :: t) hlt
        obtain ⟨m2, hm2⟩ : ∃ m2, (m :: t)[k] = m2 := ⟨_, rfl⟩
        rw [hm2] at f0 f1 f2 f3 f4 hmem
        have hva := fun W => mvalid_any m2.a m2.b m2.c m2.d m2.p m2.n m2.q W
        rw [show vM m2.a m2.b m2.c m2.d m2.n = true from hv m2 hmem] at hva
        clear hm2
        have hltn : (k : Int) < (t.length : Int) + 1 := by omega
        go_wp2_with (go_at_call 15; go_loud ((with_reducible refine (hva _).mono ?_); rintro e w9 ⟨rfl, hb9⟩; have hB9 := B.bel_step (show Below w.heap.size w _ from (by (with_reducible repeat' first | exact Below.refl _ _ | assumption | apply B.belA | apply Below.drew | apply below_drewN | refine B.belS ?_ (by first | assumption | omega | (simp; done) | (simp; omega))))) hb9; have hb19 : B.Bx w9 w.heap.size [.slice (some ad) (t.length + 1) (q' + 1)] := B.Bx.below (by (with_reducible repeat' first | assumption | exact B.Bx.new _ _ _ | refine B.Bx.newAt _ _ _ (by first | rfl | (simp; done)) | apply B.Bx.dr | apply B.Bx.drN | apply B.Bx.al | refine B.Bx.st ?_ (by first | assumption | omega | (simp; done) | (simp; omega)))) hb9; have hb29 : B.Bx w9 (w.heap.size + 1) [.int .i64 0, .int .i64 0, .int .i64 0, .int .i64 0, .slice none 0 0] := B.Bx.below (by (with_reducible repeat' first | assumption | exact B.Bx.new _ _ _ | refine B.Bx.newAt _ _ _ (by first | rfl | (simp; done)) | apply B.Bx.dr | apply B.Bx.drN | apply B.Bx.al | refine B.Bx.st ?_ (by first | assumption | omega | (simp; done) | (simp; omega)))) hb9))
        go_roundw
        case rel => exact ⟨k + 1, by omega, by go_num, hb19, hb29, hB9⟩
        case measure => (simp [intOf]; try omega)
      · have hge : ¬ (k : Int) < (t.length : Int) + 1 := by omega
        clear hlt hk
        have hms2 := hms.below hbw
        obtain ⟨e0, e1, e2, e3, e4⟩ := RS.five hms2.1 (k := 0) (by simp)
        simp only [List.getElem_cons_zero, Nat.zero_mul, addr_zero] at e0 e1 e2 e3 e4
        have hn0 : ((t.length : Int) + 1 == 0) = false := by simp; omega
        rename World => wr1
        go_wp2
        go_loopw [32] (fun i wr => ∃ k : Nat, k ≤ t.length ∧ i = .int .i64 k ∧ B.Bx wr w.heap.size [.slice (some ad) (t.length + 1) (q' + 1)] ∧ B.Bx wr (w.heap.size + 1) [.int .i64 0, .int .i64 0, .int .i64 0, .int .i64 0, .slice none 0 0] ∧ B.Bx wr wr1.heap.size [.int .i64 (bndR m (t.take k)).1, .int .i64 (bndR m (t.take k)).2.1, .int .i64 (bndR m (t.take k)).2.2.1, .int .i64 (bndR m (t.take k)).2.2.2] ∧ Below w.heap.size w wr) (fun i _ => t.length - (intOf i).toNat)
        case atStart => exact ⟨0, Nat.zero_le _, by go_num, by (with_reducible repeat' first | assumption | exact B.Bx.new _ _ _ | refine B.Bx.newAt _ _ _ (by first | rfl | (simp; done)) | apply B.Bx.dr | apply B.Bx.drN | apply B.Bx.al | refine B.Bx.st ?_ (by first | assumption | omega | (simp; done) | (simp; omega))), by (with_reducible repeat' first | assumption | exact B.Bx.new _ _ _ | refine B.Bx.newAt _ _ _ (by first | rfl | (simp; done)) | apply B.Bx.dr | apply B.Bx.drN | apply B.Bx.al | refine B.Bx.st ?_ (by first | assumption | omega | (simp; done) | (simp; omega))), by (simp only [List.take_zero]; exact B.Bx.new _ _ _), by (with_reducible repeat' first | exact Below.refl _ _ | assumption | apply B.belA | apply Below.drew | apply below_drewN | refine B.belS ?_ (by first | assumption | omega | (simp; done) | (simp; omega)))⟩
        case round =>
          obtain ⟨k, hk, rfl, hc1, hc2, hc3, hcw⟩ := hrel
          obtain ⟨⟨kL_0, gL_0⟩, xL, yL, qL⟩ := id hc1.x1
          obtain ⟨⟨kO_0, gO_0⟩, ⟨kO_1, gO_1⟩, ⟨kO_2, gO_2⟩, ⟨kO_3, gO_3⟩, ⟨kO_4, gO_4⟩, xO, yO, qO⟩ := id hc2.x5
          obtain ⟨⟨kR_0, gR_0⟩, ⟨kR_1, gR_1⟩, ⟨kR_2, gR_2⟩, ⟨kR_3, gR_3⟩, xR, yR, qR⟩ := id hc3.x4
          by_cases hlt2 : k < t.length
          · obtain ⟨f0, f1, f2, f3, f4⟩ := RS.fiveB (hT.below hcw) hlt2
            have hst := bndR_step m t hlt2
            obtain ⟨m2, hm2⟩ : ∃ m2, t[k] = m2 := ⟨_, rfl⟩
            rw [hm2] at f0 f1 f2 f3 f4 hst
            have hin := fun W => ix_any (bndR m (t.take k)) m2.r W
            rw [← hst] at hin
            obtain ⟨⟨z0, z1, z2, z3⟩, hz⟩ : ∃ z, bndR m (t.take (k + 1)) = z := ⟨_, rfl⟩
            obtain ⟨⟨y0, y1, y2, y3⟩, hy⟩ : ∃ y, bndR m (t.take k) = y := ⟨_, rfl⟩
            rw [hz] at hin
            rw [hy] at hin hc3 kR_0 kR_1 kR_2 kR_3
            simp only [agR, Msk.r] at hin
            have HZ := Lib.hid hz
            clear hm2 hst hz hy
            have hltn : (k : Int) < (t.length : Int) := by omega
            go_wp2_with (go_at_call 59; go_loud ((with_reducible refine (hin _).mono ?_); rintro e w9 ⟨rfl, hb9⟩; have hB9 := B.bel_step (show Below w.heap.size w _ from (by (with_reducible repeat' first | exact Below.refl _ _ | assumption | apply B.belA | apply Below.drew | apply below_drewN | refine B.belS ?_ (by first | assumption | omega | (simp; done) | (simp; omega))))) hb9; have hb19 : B.Bx w9 w.heap.size [.slice (some ad) (t.length + 1) (q' + 1)] := B.Bx.below (by (with_reducible repeat' first | assumption | exact B.Bx.new _ _ _ | refine B.Bx.newAt _ _ _ (by first | rfl | (simp; done)) | apply B.Bx.dr | apply B.Bx.drN | apply B.Bx.al | refine B.Bx.st ?_ (by first | assumption | omega | (simp; done) | (simp; omega)))) hb9; have hb29 : B.Bx w9 (w.heap.size + 1) [.int .i64 0, .int .i64 0, .int .i64 0, .int .i64 0, .slice none 0 0] := B.Bx.below (by (with_reducible repeat' first | assumption | exact B.Bx.new _ _ _ | refine B.Bx.newAt _ _ _ (by first | rfl | (simp; done)) | apply B.Bx.dr | apply B.Bx.drN | apply B.Bx.al | refine B.Bx.st ?_ (by first | assumption | omega | (simp; done) | (simp; omega)))) hb9; have hb39 : B.Bx w9 wr1.heap.size [.int .i64 y0, .int .i64 y1, .int .i64 y2, .int .i64 y3] := B.Bx.below (by (with_reducible repeat' first | assumption | exact B.Bx.new _ _ _ | refine B.Bx.newAt _ _ _ (by first | rfl | (simp; done)) | apply B.Bx.dr | apply B.Bx.drN | apply B.Bx.al | refine B.Bx.st ?_ (by first | assumption | omega | (simp; done) | (simp; omega)))) hb9; obtain ⟨⟨kS_0, gS_0⟩, ⟨kS_1, gS_1⟩, ⟨kS_2, gS_2⟩, ⟨kS_3, gS_3⟩, xS, yS, qS⟩ := id hb39.x4))
            go_roundw
            case rel => exact ⟨k + 1, by omega, by go_num, by (with_reducible repeat' first | assumption | exact B.Bx.new _ _ _ | refine B.Bx.newAt _ _ _ (by first | rfl | (simp; done)) | apply B.Bx.dr | apply B.Bx.drN | apply B.Bx.al | refine B.Bx.st ?_ (by first | assumption | omega | (simp; done) | (simp; omega))), by (with_reducible repeat' first | assumption | exact B.Bx.new _ _ _ | refine B.Bx.newAt _ _ _ (by first | rfl | (simp; done)) | apply B.Bx.dr | apply B.Bx.drN | apply B.Bx.al | refine B.Bx.st ?_ (by first | assumption | omega | (simp; done) | (simp; omega))), by rw [HZ.out]; exact (B.Bx.of4 (by go_simp) (by go_simp) (by go_simp) (by go_simp) (by go_simp) (by go_simp) (by go_simp) (by go_simp)), by (with_reducible repeat' first | exact Below.refl _ _ | assumption | apply B.belA | apply Below.drew | apply below_drewN | refine B.belS ?_ (by first | assumption | omega | (simp; done) | (simp; omega)))⟩
            case measure => (simp [intOf]; try omega)
          · obtain rfl : k = t.length := by omega
            rw [List.take_length] at hc3 kR_0 kR_1 kR_2 kR_3
            have hms9 := hms.below hcw
            go_wp2_with (go_at_call 56; go_loud ((with_reducible refine (hbu _ (by (with_reducible repeat' first | assumption | exact B.Bx.new _ _ _ | refine B.Bx.newAt _ _ _ (by first | rfl | (simp; done)) | apply B.Bx.dr | apply B.Bx.drN | apply B.Bx.al | refine B.Bx.st ?_ (by first | assumption | omega | (simp; done) | (simp; omega)))) (by first | with_reducible assumption | (exact MS.below hms9 (by (with_reducible repeat' first | exact Below.refl _ _ | assumption | apply B.belA | apply Below.drew | apply below_drewN | refine B.belS ?_ (by first | assumption | omega | (simp; done) | (simp; omega))))))).mono ?_); rintro e w7 ⟨p7, rfl, hm7, hb7⟩; have hB7 : Below w.heap.size w w7 := B.bel_step (show Below w.heap.size w _ from (by (with_reducible repeat' first | exact Below.refl _ _ | assumption | apply B.belA | apply Below.drew | apply below_drewN | refine B.belS ?_ (by first | assumption | omega | (simp; done) | (simp; omega))))) hb7; have P7_l : B.Bx w7 w.heap.size [.slice (some ad) (t.length + 1) (q' + 1)] := B.Bx.below (show B.Bx _ w.heap.size [.slice (some ad) (t.length + 1) (q' + 1)] from (by (with_reducible repeat' first | assumption | exact B.Bx.new _ _ _ | refine B.Bx.newAt _ _ _ (by first | rfl | (simp; done)) | apply B.Bx.dr | apply B.Bx.drN | apply B.Bx.al | refine B.Bx.st ?_ (by first | assumption | omega | (simp; done) | (simp; omega))))) hb7; have P7_o : B.Bx w7 (w.heap.size + 1) [.int .i64 0, .int .i64 0, .int .i64 0, .int .i64 0, .slice none 0 0] := B.Bx.below (show B.Bx _ (w.heap.size + 1) [.int .i64 0, .int .i64 0, .int .i64 0, .int .i64 0, .slice none 0 0] from (by (with_reducible repeat' first | assumption | exact B.Bx.new _ _ _ | refine B.Bx.newAt _ _ _ (by first | rfl | (simp; done)) | apply B.Bx.dr | apply B.Bx.drN | apply B.Bx.al | refine B.Bx.st ?_ (by first | assumption | omega | (simp; done) | (simp; omega))))) hb7; obtain ⟨⟨k7_l_0, g7_l_0⟩, x7_l, y7_l, q7_l⟩ := id P7_l.x1; obtain ⟨⟨k7_o_0, g7_o_0⟩, ⟨k7_o_1, g7_o_1⟩, ⟨k7_o_2, g7_o_2⟩, ⟨k7_o_3, g7_o_3⟩, ⟨k7_o_4, g7_o_4⟩, x7_o, y7_o, q7_o⟩ := id P7_o.x5; have hz7 := hB7.size))
            have hm8 : NM (w.heap.size + 1 + 1) w7 p7 G := NM.mono hm7 (by omega)
            refine bodyPost_ret (v := .tuple #[.agg #[.int .i64 (bndR m t).1, .int .i64 (bndR m t).2.1, .int .i64 (bndR m t).2.2.1, .int .i64 (bndR m t).2.2.2, .slice p7 G.length G.length], .int .i64 0]) (by simp [results, Try.results27, go_sem, *]) rfl ⟨p7, G.length, rfl, NM.mono (by (with_reducible repeat' first | assumption | apply NM.dr | apply NM.al | refine NM.st ?_ (by first | assumption | omega | (simp; done) | (simp; omega)))) (show w.heap.size ≤ w.heap.size + 1 + 1 by omega), (by (with_reducible repeat' first | exact Below.refl _ _ | assumption | apply B.belA | apply Below.drew | apply below_drewN | refine B.belS ?_ (by first | assumption | omega | (simp; done) | (simp; omega))))⟩
end Go.Proofs.Ytfbgfnebodabpaa
