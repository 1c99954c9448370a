import Derived.Test.YtciaidlkhlgflaaPs
import Derived.Test.YtciaidlkhlgflaaBx
import Derived.Test.YtciaidlkhlgflaaR5
namespace Go.Proofs.Ytciaidlkhlgflaa
open Go.RowKit
set_option linter.unusedVariables false
set_option linter.unusedSimpArgs false
def eT (r : Int × Int × Int × Int) : Bool := eR r.1 r.2.1 r.2.2.1 r.2.2.2
def neL (l : List (Int × Int × Int × Int)) : List (Int × Int × Int × Int) := l.filter fun r => !eT r
theorem neL_le (l : List (Int × Int × Int × Int)) : (neL l).length ≤ l.length := List.length_filter_le _ _
theorem neL_snoc (l : List (Int × Int × Int × Int)) (k : Nat) (h : k < l.length) : neL (l.take (k + 1)) = neL (l.take k) ++ (if eT l[k] = true then [] else [l[k]]) := by
  unfold neL
  rw [List.take_add_one, List.getElem?_eq_getElem h, List.filter_append]
  cases h2 : eT l[k] <;> simp [h2]
/-- The parts of a difference: A is canonical or any, M the common part. -/
def parts (a b c d p q r s : Int) : List (Int × Int × Int × Int) := [(a, b, c, q), (a, q, p, s), (r, q, c, s), (a, s, c, d)]
def SuPost (w : World) (L : List (Int × Int × Int × Int)) (e : Ending) (w' : World) : Prop := ∃ x c, e = .returned (.slice x L.length c) ∧ w'.ownsRow w.heap.size 23 4 (.slice x L.length c) L.length (Cl rcV L) ∧ Below w.heap.size w w'
theorem SuPost.mk' {w w' : World} {L : List (Int × Int × Int × Int)} {v : Value} {n : Nat} (hn : L.length = n) (ho : w'.ownsRow w.heap.size 23 4 v n (Cl rcV L)) (hb : Below w.heap.size w w') : SuPost w L (.returned v) w' := by
  subst hn
  obtain ⟨a, c, rfl⟩ := own_slice ho
  exact ⟨a, c, rfl, ho, hb⟩
/-- The loop's state. -/
def SuRel (w : World) (P : List (Int × Int × Int × Int)) (ad : Addr) (v i : Value) (wr : World) : Prop := ∃ (k : Nat), k ≤ P.length ∧ i = .int .i64 k ∧ wr.ownsRow w.heap.size 23 4 v (neL (P.take k)).length (Cl rcV (neL (P.take k))) ∧ v.ownBlock ≠ some ad.block ∧ RS 4 rcV wr (some ad) P ∧ ad.block < wr.heap.size ∧ Below w.heap.size w wr
set_option maxRecDepth 50000 in
set_option maxHeartbeats 4000000 in
theorem sub_w (a b c d s t u v A0 A1 A2 A3 M0 M1 M2 M3 : Int) (w : World) (L : List (Int × Int × Int × Int))
    (hca : ∀ W, Calls Try.prog 26 #[.agg #[.int .i64 a, .int .i64 b, .int .i64 c, .int .i64 d]] W fun e w' => e = .returned (.agg #[.int .i64 A0, .int .i64 A1, .int .i64 A2, .int .i64 A3]) ∧ Below W.heap.size W w')
    (hin : ∀ W, Calls Try.prog 17 #[.agg #[.int .i64 A0, .int .i64 A1, .int .i64 A2, .int .i64 A3], .agg #[.int .i64 s, .int .i64 t, .int .i64 u, .int .i64 v]] W fun e w' => e = .returned (.agg #[.int .i64 M0, .int .i64 M1, .int .i64 M2, .int .i64 M3]) ∧ Below W.heap.size W w')
    (hL : neL (if (M0, M1, M2, M3) = ((0, 0, 0, 0) : Int × Int × Int × Int) then [(A0, A1, A2, A3)] else parts A0 A1 A2 A3 M0 M1 M2 M3) = L) :
    Calls Try.prog 11 #[.agg #[.int .i64 a, .int .i64 b, .int .i64 c, .int .i64 d], .agg #[.int .i64 s, .int .i64 t, .int .i64 u, .int .i64 v]] w (SuPost w L) := by
  by_cases hm : ((M0, M1, M2, M3) : Int × Int × Int × Int) = (0, 0, 0, 0)
  · rw [if_pos hm] at hL
    subst hL
    simp only [Prod.mk.injEq] at hm
    obtain ⟨rfl, rfl, rfl, rfl⟩ := hm
    go_enter Try.func11, Try.ntmps11
    go_wp2_with (first
    | (go_at_call 26; go_loud ((with_reducible refine (hca _).mono ?_); rintro e w1 ⟨rfl, hb1⟩; have hB1 : Below w.heap.size w w1 := B.bel_step (show Below w.heap.size w _ from (by (with_reducible repeat' first | exact Below.refl _ _ | assumption | apply B.belA | apply Below.drew | apply below_drewN | refine B.belS ?_ (by first | assumption | omega | (simp; done) | (simp; omega))))) hb1; have P1_a : B.Bx w1 w.heap.size [.int .i64 a, .int .i64 b, .int .i64 c, .int .i64 d] := B.Bx.below (show B.Bx _ w.heap.size [.int .i64 a, .int .i64 b, .int .i64 c, .int .i64 d] from (by (with_reducible repeat' first | assumption | exact B.Bx.new _ _ _ | refine B.Bx.newAt _ _ _ (by first | rfl | (simp; done)) | apply B.Bx.dr | apply B.Bx.drN | apply B.Bx.al | refine B.Bx.st ?_ (by first | assumption | omega | (simp; done) | (simp; omega))))) hb1; have P1_b : B.Bx w1 (w.heap.size + 1) [.int .i64 s, .int .i64 t, .int .i64 u, .int .i64 v] := B.Bx.below (show B.Bx _ (w.heap.size + 1) [.int .i64 s, .int .i64 t, .int .i64 u, .int .i64 v] from (by (with_reducible repeat' first | assumption | exact B.Bx.new _ _ _ | refine B.Bx.newAt _ _ _ (by first | rfl | (simp; done)) | apply B.Bx.dr | apply B.Bx.drN | apply B.Bx.al | refine B.Bx.st ?_ (by first | assumption | omega | (simp; done) | (simp; omega))))) hb1; obtain ⟨⟨k1_a_0, g1_a_0⟩, ⟨k1_a_1, g1_a_1⟩, ⟨k1_a_2, g1_a_2⟩, ⟨k1_a_3, g1_a_3⟩, x1_a, y1_a, q1_a⟩ := id P1_a.x4; obtain ⟨⟨k1_b_0, g1_b_0⟩, ⟨k1_b_1, g1_b_1⟩, ⟨k1_b_2, g1_b_2⟩, ⟨k1_b_3, g1_b_3⟩, x1_b, y1_b, q1_b⟩ := id P1_b.x4; have hz1 := hB1.size))
    | (go_at_call 17; go_loud ((with_reducible refine (hin _).mono ?_); rintro e w2 ⟨rfl, hb2⟩; have hB2 : Below w.heap.size w w2 := B.bel_step (show Below w.heap.size w _ from (by (with_reducible repeat' first | exact Below.refl _ _ | assumption | apply B.belA | apply Below.drew | apply below_drewN | refine B.belS ?_ (by first | assumption | omega | (simp; done) | (simp; omega))))) hb2; have P2_a : B.Bx w2 w.heap.size [.int .i64 A0, .int .i64 A1, .int .i64 A2, .int .i64 A3] := B.Bx.below (B.Bx.of4 (by first | with_reducible assumption | go_simp) (by first | with_reducible assumption | go_simp) (by first | with_reducible assumption | go_simp) (by first | with_reducible assumption | go_simp) (by first | with_reducible assumption | go_simp) (by first | with_reducible assumption | go_simp) (by first | with_reducible assumption | go_simp) (by first | with_reducible assumption | go_simp) : B.Bx _ w.heap.size [.int .i64 A0, .int .i64 A1, .int .i64 A2, .int .i64 A3]) hb2; clear P1_a k1_a_0 g1_a_0 k1_a_1 g1_a_1 k1_a_2 g1_a_2 k1_a_3 g1_a_3 x1_a y1_a q1_a P1_b k1_b_0 g1_b_0 k1_b_1 g1_b_1 k1_b_2 g1_b_2 k1_b_3 g1_b_3 x1_b y1_b q1_b; obtain ⟨⟨k2_a_0, g2_a_0⟩, ⟨k2_a_1, g2_a_1⟩, ⟨k2_a_2, g2_a_2⟩, ⟨k2_a_3, g2_a_3⟩, x2_a, y2_a, q2_a⟩ := id P2_a.x4; have hz2 := hB2.size)))
    generalize hAD : (⟨(w2.heap.size + 1), 0, none⟩ : Addr) = ad
    have HAD := Lib.hid hAD
    clear hAD
    go_loopw [7, 59] (fun v i wr => SuRel w [(A0, A1, A2, A3)] ad v i wr) (fun _ i _ => 1 - (intOf i).toNat)
    case atStart => rw [← HAD.out]; exact ⟨0, Nat.zero_le _, rfl, World.ownsRow_nil _ _ _ _, by simp [Value.ownBlock], rs_lit (by omega) rcV_len (by simp) rfl, by simp, by (with_reducible repeat' first | exact Below.refl _ _ | assumption | apply B.belA | apply Below.drew | apply below_drewN | refine B.belS ?_ (by first | assumption | omega | (simp; done) | (simp; omega)))⟩
    case round =>
      obtain ⟨k, hk, rfl, hown, hne, hrs, hgl, hbw⟩ := hrel
      have hz := hbw.size
      have hPl : [(A0, A1, A2, A3)].length = 1 := rfl
      by_cases hlt : k < [(A0, A1, A2, A3)].length
      · obtain ⟨ad', e9, hcl⟩ := hrs k hlt
        obtain rfl : ad = ad' := Option.some.inj e9
        obtain ⟨p, hp⟩ : ∃ p, [(A0, A1, A2, A3)][k] = p := ⟨_, rfl⟩
        have hsn := neL_snoc [(A0, A1, A2, A3)] k hlt
        rw [hp] at hcl hsn
        have hkl : (neL ([(A0, A1, A2, A3)].take k)).length ≤ k := Nat.le_trans (neL_le _) (by rw [List.length_take]; omega)
        have hlt4 : k < 1 := by omega
        obtain ⟨p0, p1, p2, p3⟩ := p
        have c0 : wr.cell? (ad.add (k * 4)) = some (.int .i64 p0) := hcl 0 _ rfl
        have c1 : wr.cell? ⟨(ad.add (k * 4)).block, (ad.add (k * 4)).off + 1, none⟩ = some (.int .i64 p1) := hcl 1 _ rfl
        have c2 : wr.cell? ⟨(ad.add (k * 4)).block, (ad.add (k * 4)).off + 2, none⟩ = some (.int .i64 p2) := hcl 2 _ rfl
        have c3 : wr.cell? ⟨(ad.add (k * 4)).block, (ad.add (k * 4)).off + 3, none⟩ = some (.int .i64 p3) := hcl 3 _ rfl
        have HS := Lib.hid hsn
        have HP := Lib.hid hp
        have hi4 : (k : Int) < 1 := by omega
        have hgr : ∀ (W : World) v', Below wr.heap.size wr W → W.ownsRow w.heap.size 23 4 v' 0 [] ∨ True := fun _ _ _ => .inr trivial
        clear hgr hcl hp hsn e9
        obtain ⟨l, hl⟩ : ∃ l, neL ([(A0, A1, A2, A3)].take k) = l := ⟨_, rfl⟩
        rw [hl] at hown hkl HS
        have HL := Lib.hid hl
        clear hl
        have hem := fun W => empty_any p0 p1 p2 p3 W
        have hn9 : l.length + 1 ≤ 1000000 := by omega
        cases he : eR p0 p1 p2 p3 with
        | true =>
          rw [he] at hem
          have HN := Lib.hid (show neL ([(A0, A1, A2, A3)].take (k + 1)) = l by rw [HS.out]; simp [eT, he])
          clear he
          go_wp2_with (go_at_call 19; go_loud ((with_reducible refine (hem _).mono ?_); rintro e w9 ⟨rfl, hb9⟩))
          go_roundw
          case rel => exact ⟨k + 1, by omega, by go_num, by rw [HN.out]; exact own_keep (hown.alloc _) hb9, hne, RS.below (RS.below hrs (Below.alloc (Below.refl _ _) (Nat.le_refl _) _)) hb9, Nat.lt_of_lt_of_le hgl (Nat.le_trans (by first | exact Nat.le_refl _ | simp) hb9.size), B.bel_step (show Below w.heap.size w _ from (by (with_reducible repeat' first | exact Below.refl _ _ | assumption | apply B.belA | apply Below.drew | apply below_drewN | refine B.belS ?_ (by first | assumption | omega | (simp; done) | (simp; omega))))) hb9⟩
          case measure => (simp [intOf]; try omega)
        | false =>
          rw [he] at hem
          have HN := Lib.hid (show neL ([(A0, A1, A2, A3)].take (k + 1)) = l ++ [(p0, p1, p2, p3)] by rw [HS.out]; simp [eT, he])
          clear he
          go_wp2_with (first
            | (go_at_call 19; go_loud ((with_reducible refine (hem _).mono ?_); rintro e w9 ⟨rfl, hb9⟩; have PX : B.Bx w9 wr.heap.size [.int .i64 p0, .int .i64 p1, .int .i64 p2, .int .i64 p3] := B.Bx.below (B.Bx.newAt wr [.int .i64 p0, .int .i64 p1, .int .i64 p2, .int .i64 p3] 23 rfl) hb9; obtain ⟨⟨q0, r0⟩, ⟨q1, r1⟩, ⟨q2, r2⟩, ⟨q3, r3⟩, q4, q5, q6⟩ := PX.x4; have hown9 := own_keep (hown.alloc _) hb9; have hrs9 := RS.below (RS.below hrs (Below.alloc (Below.refl _ _) (Nat.le_refl _) _)) hb9; have hbw9 := B.bel_step (show Below w.heap.size w _ from (by (with_reducible repeat' first | exact Below.refl _ _ | assumption | apply B.belA | apply Below.drew | apply below_drewN | refine B.belS ?_ (by first | assumption | omega | (simp; done) | (simp; omega))))) hb9; have hz9 := hbw9.size; have hgl9 : ad.block < w9.heap.size := Nat.lt_of_lt_of_le hgl (Nat.le_trans (by first | exact Nat.le_refl _ | simp) hb9.size)))
            | (at_builtin; go_loud (refine wpList_snocA (B := w.heap.size) rcV rfl _ _ _ _ rfl Try.underlying25 info_rc rfl (by omega) hown9 hz9 hn9 (by omega) (p0, p1, p2, p3) _ rfl rfl (one4 _) rfl rfl rfl ?_; intro v5 w5 hown5 hbw5 hgr5 hat5)))
          go_roundw
          case rel => exact ⟨k + 1, by omega, by go_num, by rw [HN.out, List.length_append]; exact hown5, hat5 _ hgl9 hne, hrs9.grown hgr5 (fun ad e => by cases e; exact hne), Nat.lt_of_lt_of_le hgl9 hgr5.size, hbw9.trans hbw5⟩
          case measure => (simp [intOf]; try omega)
      · obtain rfl : k = [(A0, A1, A2, A3)].length := by omega
        rw [hPl] at hown
        rw [hPl]
        have hres := Lib.hid (show neL ([(A0, A1, A2, A3)].take 1) = neL [(A0, A1, A2, A3)] by rw [← hPl, List.take_length])
        go_wp2
        go_ret
        rw [hres.out] at hown
        exact (SuPost.mk' rfl hown hbw)
  · rw [if_neg hm] at hL
    subst hL
    rcases neq4 hm with h9 | ⟨rfl, h9⟩ | ⟨rfl, rfl, h9⟩ | ⟨rfl, rfl, rfl, h9⟩
    · clear hm
      go_enter Try.func11, Try.ntmps11
      go_wp2_with (first
    | (go_at_call 26; go_loud ((with_reducible refine (hca _).mono ?_); rintro e w1 ⟨rfl, hb1⟩; have hB1 : Below w.heap.size w w1 := B.bel_step (show Below w.heap.size w _ from (by (with_reducible repeat' first | exact Below.refl _ _ | assumption | apply B.belA | apply Below.drew | apply below_drewN | refine B.belS ?_ (by first | assumption | omega | (simp; done) | (simp; omega))))) hb1; have P1_a : B.Bx w1 w.heap.size [.int .i64 a, .int .i64 b, .int .i64 c, .int .i64 d] := B.Bx.below (show B.Bx _ w.heap.size [.int .i64 a, .int .i64 b, .int .i64 c, .int .i64 d] from (by (with_reducible repeat' first | assumption | exact B.Bx.new _ _ _ | refine B.Bx.newAt _ _ _ (by first | rfl | (simp; done)) | apply B.Bx.dr | apply B.Bx.drN | apply B.Bx.al | refine B.Bx.st ?_ (by first | assumption | omega | (simp; done) | (simp; omega))))) hb1; have P1_b : B.Bx w1 (w.heap.size + 1) [.int .i64 s, .int .i64 t, .int .i64 u, .int .i64 v] := B.Bx.below (show B.Bx _ (w.heap.size + 1) [.int .i64 s, .int .i64 t, .int .i64 u, .int .i64 v] from (by (with_reducible repeat' first | assumption | exact B.Bx.new _ _ _ | refine B.Bx.newAt _ _ _ (by first | rfl | (simp; done)) | apply B.Bx.dr | apply B.Bx.drN | apply B.Bx.al | refine B.Bx.st ?_ (by first | assumption | omega | (simp; done) | (simp; omega))))) hb1; obtain ⟨⟨k1_a_0, g1_a_0⟩, ⟨k1_a_1, g1_a_1⟩, ⟨k1_a_2, g1_a_2⟩, ⟨k1_a_3, g1_a_3⟩, x1_a, y1_a, q1_a⟩ := id P1_a.x4; obtain ⟨⟨k1_b_0, g1_b_0⟩, ⟨k1_b_1, g1_b_1⟩, ⟨k1_b_2, g1_b_2⟩, ⟨k1_b_3, g1_b_3⟩, x1_b, y1_b, q1_b⟩ := id P1_b.x4; have hz1 := hB1.size))
    | (go_at_call 17; go_loud ((with_reducible refine (hin _).mono ?_); rintro e w2 ⟨rfl, hb2⟩; have hB2 : Below w.heap.size w w2 := B.bel_step (show Below w.heap.size w _ from (by (with_reducible repeat' first | exact Below.refl _ _ | assumption | apply B.belA | apply Below.drew | apply below_drewN | refine B.belS ?_ (by first | assumption | omega | (simp; done) | (simp; omega))))) hb2; have P2_a : B.Bx w2 w.heap.size [.int .i64 A0, .int .i64 A1, .int .i64 A2, .int .i64 A3] := B.Bx.below (B.Bx.of4 (by first | with_reducible assumption | go_simp) (by first | with_reducible assumption | go_simp) (by first | with_reducible assumption | go_simp) (by first | with_reducible assumption | go_simp) (by first | with_reducible assumption | go_simp) (by first | with_reducible assumption | go_simp) (by first | with_reducible assumption | go_simp) (by first | with_reducible assumption | go_simp) : B.Bx _ w.heap.size [.int .i64 A0, .int .i64 A1, .int .i64 A2, .int .i64 A3]) hb2; clear P1_a k1_a_0 g1_a_0 k1_a_1 g1_a_1 k1_a_2 g1_a_2 k1_a_3 g1_a_3 x1_a y1_a q1_a P1_b k1_b_0 g1_b_0 k1_b_1 g1_b_1 k1_b_2 g1_b_2 k1_b_3 g1_b_3 x1_b y1_b q1_b; obtain ⟨⟨k2_a_0, g2_a_0⟩, ⟨k2_a_1, g2_a_1⟩, ⟨k2_a_2, g2_a_2⟩, ⟨k2_a_3, g2_a_3⟩, x2_a, y2_a, q2_a⟩ := id P2_a.x4; have hz2 := hB2.size)))
      generalize hAD : (⟨(w2.heap.size + 1 + 1), 0, none⟩ : Addr) = ad
      have HAD := Lib.hid hAD
      clear hAD
      go_loopw [7, 59] (fun v i wr => SuRel w (parts A0 A1 A2 A3 M0 M1 M2 M3) ad v i wr) (fun _ i _ => 4 - (intOf i).toNat)
      case atStart => rw [← HAD.out]; exact ⟨0, Nat.zero_le _, rfl, World.ownsRow_nil _ _ _ _, by simp [Value.ownBlock], rs_lit (by omega) rcV_len (by simp) rfl, by simp, by (with_reducible repeat' first | exact Below.refl _ _ | assumption | apply B.belA | apply Below.drew | apply below_drewN | refine B.belS ?_ (by first | assumption | omega | (simp; done) | (simp; omega)))⟩
      case round =>
        obtain ⟨k, hk, rfl, hown, hne, hrs, hgl, hbw⟩ := hrel
        have hz := hbw.size
        have hPl : (parts A0 A1 A2 A3 M0 M1 M2 M3).length = 4 := rfl
        by_cases hlt : k < (parts A0 A1 A2 A3 M0 M1 M2 M3).length
        · obtain ⟨ad', e9, hcl⟩ := hrs k hlt
          obtain rfl : ad = ad' := Option.some.inj e9
          obtain ⟨p, hp⟩ : ∃ p, (parts A0 A1 A2 A3 M0 M1 M2 M3)[k] = p := ⟨_, rfl⟩
          have hsn := neL_snoc (parts A0 A1 A2 A3 M0 M1 M2 M3) k hlt
          rw [hp] at hcl hsn
          have hkl : (neL ((parts A0 A1 A2 A3 M0 M1 M2 M3).take k)).length ≤ k := Nat.le_trans (neL_le _) (by rw [List.length_take]; omega)
          have hlt4 : k < 4 := by omega
          obtain ⟨p0, p1, p2, p3⟩ := p
          have c0 : wr.cell? (ad.add (k * 4)) = some (.int .i64 p0) := hcl 0 _ rfl
          have c1 : wr.cell? ⟨(ad.add (k * 4)).block, (ad.add (k * 4)).off + 1, none⟩ = some (.int .i64 p1) := hcl 1 _ rfl
          have c2 : wr.cell? ⟨(ad.add (k * 4)).block, (ad.add (k * 4)).off + 2, none⟩ = some (.int .i64 p2) := hcl 2 _ rfl
          have c3 : wr.cell? ⟨(ad.add (k * 4)).block, (ad.add (k * 4)).off + 3, none⟩ = some (.int .i64 p3) := hcl 3 _ rfl
          have HS := Lib.hid hsn
          have HP := Lib.hid hp
          have hi4 : (k : Int) < 4 := by omega
          have hgr : ∀ (W : World) v', Below wr.heap.size wr W → W.ownsRow w.heap.size 23 4 v' 0 [] ∨ True := fun _ _ _ => .inr trivial
          clear hgr hcl hp hsn e9
          obtain ⟨l, hl⟩ : ∃ l, neL ((parts A0 A1 A2 A3 M0 M1 M2 M3).take k) = l := ⟨_, rfl⟩
          rw [hl] at hown hkl HS
          have HL := Lib.hid hl
          clear hl
          have hem := fun W => empty_any p0 p1 p2 p3 W
          have hn9 : l.length + 1 ≤ 1000000 := by omega
          cases he : eR p0 p1 p2 p3 with
          | true =>
            rw [he] at hem
            have HN := Lib.hid (show neL ((parts A0 A1 A2 A3 M0 M1 M2 M3).take (k + 1)) = l by rw [HS.out]; simp [eT, he])
            clear he
            go_wp2_with (go_at_call 19; go_loud ((with_reducible refine (hem _).mono ?_); rintro e w9 ⟨rfl, hb9⟩))
            go_roundw
            case rel => exact ⟨k + 1, by omega, by go_num, by rw [HN.out]; exact own_keep (hown.alloc _) hb9, hne, RS.below (RS.below hrs (Below.alloc (Below.refl _ _) (Nat.le_refl _) _)) hb9, Nat.lt_of_lt_of_le hgl (Nat.le_trans (by first | exact Nat.le_refl _ | simp) hb9.size), B.bel_step (show Below w.heap.size w _ from (by (with_reducible repeat' first | exact Below.refl _ _ | assumption | apply B.belA | apply Below.drew | apply below_drewN | refine B.belS ?_ (by first | assumption | omega | (simp; done) | (simp; omega))))) hb9⟩
            case measure => (simp [intOf]; try omega)
          | false =>
            rw [he] at hem
            have HN := Lib.hid (show neL ((parts A0 A1 A2 A3 M0 M1 M2 M3).take (k + 1)) = l ++ [(p0, p1, p2, p3)] by rw [HS.out]; simp [eT, he])
            clear he
            go_wp2_with (first
              | (go_at_call 19; go_loud ((with_reducible refine (hem _).mono ?_); rintro e w9 ⟨rfl, hb9⟩; have PX : B.Bx w9 wr.heap.size [.int .i64 p0, .int .i64 p1, .int .i64 p2, .int .i64 p3] := B.Bx.below (B.Bx.newAt wr [.int .i64 p0, .int .i64 p1, .int .i64 p2, .int .i64 p3] 23 rfl) hb9; obtain ⟨⟨q0, r0⟩, ⟨q1, r1⟩, ⟨q2, r2⟩, ⟨q3, r3⟩, q4, q5, q6⟩ := PX.x4; have hown9 := own_keep (hown.alloc _) hb9; have hrs9 := RS.below (RS.below hrs (Below.alloc (Below.refl _ _) (Nat.le_refl _) _)) hb9; have hbw9 := B.bel_step (show Below w.heap.size w _ from (by (with_reducible repeat' first | exact Below.refl _ _ | assumption | apply B.belA | apply Below.drew | apply below_drewN | refine B.belS ?_ (by first | assumption | omega | (simp; done) | (simp; omega))))) hb9; have hz9 := hbw9.size; have hgl9 : ad.block < w9.heap.size := Nat.lt_of_lt_of_le hgl (Nat.le_trans (by first | exact Nat.le_refl _ | simp) hb9.size)))
              | (at_builtin; go_loud (refine wpList_snocA (B := w.heap.size) rcV rfl _ _ _ _ rfl Try.underlying25 info_rc rfl (by omega) hown9 hz9 hn9 (by omega) (p0, p1, p2, p3) _ rfl rfl (one4 _) rfl rfl rfl ?_; intro v5 w5 hown5 hbw5 hgr5 hat5)))
            go_roundw
            case rel => exact ⟨k + 1, by omega, by go_num, by rw [HN.out, List.length_append]; exact hown5, hat5 _ hgl9 hne, hrs9.grown hgr5 (fun ad e => by cases e; exact hne), Nat.lt_of_lt_of_le hgl9 hgr5.size, hbw9.trans hbw5⟩
            case measure => (simp [intOf]; try omega)
        · obtain rfl : k = (parts A0 A1 A2 A3 M0 M1 M2 M3).length := by omega
          rw [hPl] at hown
          rw [hPl]
          have hres := Lib.hid (show neL ((parts A0 A1 A2 A3 M0 M1 M2 M3).take 4) = neL (parts A0 A1 A2 A3 M0 M1 M2 M3) by rw [← hPl, List.take_length])
          go_wp2
          go_ret
          rw [hres.out] at hown
          exact (SuPost.mk' rfl hown hbw)
    · clear hm
      go_enter Try.func11, Try.ntmps11
      go_wp2_with (first
    | (go_at_call 26; go_loud ((with_reducible refine (hca _).mono ?_); rintro e w1 ⟨rfl, hb1⟩; have hB1 : Below w.heap.size w w1 := B.bel_step (show Below w.heap.size w _ from (by (with_reducible repeat' first | exact Below.refl _ _ | assumption | apply B.belA | apply Below.drew | apply below_drewN | refine B.belS ?_ (by first | assumption | omega | (simp; done) | (simp; omega))))) hb1; have P1_a : B.Bx w1 w.heap.size [.int .i64 a, .int .i64 b, .int .i64 c, .int .i64 d] := B.Bx.below (show B.Bx _ w.heap.size [.int .i64 a, .int .i64 b, .int .i64 c, .int .i64 d] from (by (with_reducible repeat' first | assumption | exact B.Bx.new _ _ _ | refine B.Bx.newAt _ _ _ (by first | rfl | (simp; done)) | apply B.Bx.dr | apply B.Bx.drN | apply B.Bx.al | refine B.Bx.st ?_ (by first | assumption | omega | (simp; done) | (simp; omega))))) hb1; have P1_b : B.Bx w1 (w.heap.size + 1) [.int .i64 s, .int .i64 t, .int .i64 u, .int .i64 v] := B.Bx.below (show B.Bx _ (w.heap.size + 1) [.int .i64 s, .int .i64 t, .int .i64 u, .int .i64 v] from (by (with_reducible repeat' first | assumption | exact B.Bx.new _ _ _ | refine B.Bx.newAt _ _ _ (by first | rfl | (simp; done)) | apply B.Bx.dr | apply B.Bx.drN | apply B.Bx.al | refine B.Bx.st ?_ (by first | assumption | omega | (simp; done) | (simp; omega))))) hb1; obtain ⟨⟨k1_a_0, g1_a_0⟩, ⟨k1_a_1, g1_a_1⟩, ⟨k1_a_2, g1_a_2⟩, ⟨k1_a_3, g1_a_3⟩, x1_a, y1_a, q1_a⟩ := id P1_a.x4; obtain ⟨⟨k1_b_0, g1_b_0⟩, ⟨k1_b_1, g1_b_1⟩, ⟨k1_b_2, g1_b_2⟩, ⟨k1_b_3, g1_b_3⟩, x1_b, y1_b, q1_b⟩ := id P1_b.x4; have hz1 := hB1.size))
    | (go_at_call 17; go_loud ((with_reducible refine (hin _).mono ?_); rintro e w2 ⟨rfl, hb2⟩; have hB2 : Below w.heap.size w w2 := B.bel_step (show Below w.heap.size w _ from (by (with_reducible repeat' first | exact Below.refl _ _ | assumption | apply B.belA | apply Below.drew | apply below_drewN | refine B.belS ?_ (by first | assumption | omega | (simp; done) | (simp; omega))))) hb2; have P2_a : B.Bx w2 w.heap.size [.int .i64 A0, .int .i64 A1, .int .i64 A2, .int .i64 A3] := B.Bx.below (B.Bx.of4 (by first | with_reducible assumption | go_simp) (by first | with_reducible assumption | go_simp) (by first | with_reducible assumption | go_simp) (by first | with_reducible assumption | go_simp) (by first | with_reducible assumption | go_simp) (by first | with_reducible assumption | go_simp) (by first | with_reducible assumption | go_simp) (by first | with_reducible assumption | go_simp) : B.Bx _ w.heap.size [.int .i64 A0, .int .i64 A1, .int .i64 A2, .int .i64 A3]) hb2; clear P1_a k1_a_0 g1_a_0 k1_a_1 g1_a_1 k1_a_2 g1_a_2 k1_a_3 g1_a_3 x1_a y1_a q1_a P1_b k1_b_0 g1_b_0 k1_b_1 g1_b_1 k1_b_2 g1_b_2 k1_b_3 g1_b_3 x1_b y1_b q1_b; obtain ⟨⟨k2_a_0, g2_a_0⟩, ⟨k2_a_1, g2_a_1⟩, ⟨k2_a_2, g2_a_2⟩, ⟨k2_a_3, g2_a_3⟩, x2_a, y2_a, q2_a⟩ := id P2_a.x4; have hz2 := hB2.size)))
      generalize hAD : (⟨(w2.heap.size + 1 + 1), 0, none⟩ : Addr) = ad
      have HAD := Lib.hid hAD
      clear hAD
      go_loopw [7, 59] (fun v i wr => SuRel w (parts A0 A1 A2 A3 0 M1 M2 M3) ad v i wr) (fun _ i _ => 4 - (intOf i).toNat)
      case atStart => rw [← HAD.out]; exact ⟨0, Nat.zero_le _, rfl, World.ownsRow_nil _ _ _ _, by simp [Value.ownBlock], rs_lit (by omega) rcV_len (by simp) rfl, by simp, by (with_reducible repeat' first | exact Below.refl _ _ | assumption | apply B.belA | apply Below.drew | apply below_drewN | refine B.belS ?_ (by first | assumption | omega | (simp; done) | (simp; omega)))⟩
      case round =>
        obtain ⟨k, hk, rfl, hown, hne, hrs, hgl, hbw⟩ := hrel
        have hz := hbw.size
        have hPl : (parts A0 A1 A2 A3 0 M1 M2 M3).length = 4 := rfl
        by_cases hlt : k < (parts A0 A1 A2 A3 0 M1 M2 M3).length
        · obtain ⟨ad', e9, hcl⟩ := hrs k hlt
          obtain rfl : ad = ad' := Option.some.inj e9
          obtain ⟨p, hp⟩ : ∃ p, (parts A0 A1 A2 A3 0 M1 M2 M3)[k] = p := ⟨_, rfl⟩
          have hsn := neL_snoc (parts A0 A1 A2 A3 0 M1 M2 M3) k hlt
          rw [hp] at hcl hsn
          have hkl : (neL ((parts A0 A1 A2 A3 0 M1 M2 M3).take k)).length ≤ k := Nat.le_trans (neL_le _) (by rw [List.length_take]; omega)
          have hlt4 : k < 4 := by omega
          obtain ⟨p0, p1, p2, p3⟩ := p
          have c0 : wr.cell? (ad.add (k * 4)) = some (.int .i64 p0) := hcl 0 _ rfl
          have c1 : wr.cell? ⟨(ad.add (k * 4)).block, (ad.add (k * 4)).off + 1, none⟩ = some (.int .i64 p1) := hcl 1 _ rfl
          have c2 : wr.cell? ⟨(ad.add (k * 4)).block, (ad.add (k * 4)).off + 2, none⟩ = some (.int .i64 p2) := hcl 2 _ rfl
          have c3 : wr.cell? ⟨(ad.add (k * 4)).block, (ad.add (k * 4)).off + 3, none⟩ = some (.int .i64 p3) := hcl 3 _ rfl
          have HS := Lib.hid hsn
          have HP := Lib.hid hp
          have hi4 : (k : Int) < 4 := by omega
          have hgr : ∀ (W : World) v', Below wr.heap.size wr W → W.ownsRow w.heap.size 23 4 v' 0 [] ∨ True := fun _ _ _ => .inr trivial
          clear hgr hcl hp hsn e9
          obtain ⟨l, hl⟩ : ∃ l, neL ((parts A0 A1 A2 A3 0 M1 M2 M3).take k) = l := ⟨_, rfl⟩
          rw [hl] at hown hkl HS
          have HL := Lib.hid hl
          clear hl
          have hem := fun W => empty_any p0 p1 p2 p3 W
          have hn9 : l.length + 1 ≤ 1000000 := by omega
          cases he : eR p0 p1 p2 p3 with
          | true =>
            rw [he] at hem
            have HN := Lib.hid (show neL ((parts A0 A1 A2 A3 0 M1 M2 M3).take (k + 1)) = l by rw [HS.out]; simp [eT, he])
            clear he
            go_wp2_with (go_at_call 19; go_loud ((with_reducible refine (hem _).mono ?_); rintro e w9 ⟨rfl, hb9⟩))
            go_roundw
            case rel => exact ⟨k + 1, by omega, by go_num, by rw [HN.out]; exact own_keep (hown.alloc _) hb9, hne, RS.below (RS.below hrs (Below.alloc (Below.refl _ _) (Nat.le_refl _) _)) hb9, Nat.lt_of_lt_of_le hgl (Nat.le_trans (by first | exact Nat.le_refl _ | simp) hb9.size), B.bel_step (show Below w.heap.size w _ from (by (with_reducible repeat' first | exact Below.refl _ _ | assumption | apply B.belA | apply Below.drew | apply below_drewN | refine B.belS ?_ (by first | assumption | omega | (simp; done) | (simp; omega))))) hb9⟩
            case measure => (simp [intOf]; try omega)
          | false =>
            rw [he] at hem
            have HN := Lib.hid (show neL ((parts A0 A1 A2 A3 0 M1 M2 M3).take (k + 1)) = l ++ [(p0, p1, p2, p3)] by rw [HS.out]; simp [eT, he])
            clear he
            go_wp2_with (first
              | (go_at_call 19; go_loud ((with_reducible refine (hem _).mono ?_); rintro e w9 ⟨rfl, hb9⟩; have PX : B.Bx w9 wr.heap.size [.int .i64 p0, .int .i64 p1, .int .i64 p2, .int .i64 p3] := B.Bx.below (B.Bx.newAt wr [.int .i64 p0, .int .i64 p1, .int .i64 p2, .int .i64 p3] 23 rfl) hb9; obtain ⟨⟨q0, r0⟩, ⟨q1, r1⟩, ⟨q2, r2⟩, ⟨q3, r3⟩, q4, q5, q6⟩ := PX.x4; have hown9 := own_keep (hown.alloc _) hb9; have hrs9 := RS.below (RS.below hrs (Below.alloc (Below.refl _ _) (Nat.le_refl _) _)) hb9; have hbw9 := B.bel_step (show Below w.heap.size w _ from (by (with_reducible repeat' first | exact Below.refl _ _ | assumption | apply B.belA | apply Below.drew | apply below_drewN | refine B.belS ?_ (by first | assumption | omega | (simp; done) | (simp; omega))))) hb9; have hz9 := hbw9.size; have hgl9 : ad.block < w9.heap.size := Nat.lt_of_lt_of_le hgl (Nat.le_trans (by first | exact Nat.le_refl _ | simp) hb9.size)))
              | (at_builtin; go_loud (refine wpList_snocA (B := w.heap.size) rcV rfl _ _ _ _ rfl Try.underlying25 info_rc rfl (by omega) hown9 hz9 hn9 (by omega) (p0, p1, p2, p3) _ rfl rfl (one4 _) rfl rfl rfl ?_; intro v5 w5 hown5 hbw5 hgr5 hat5)))
            go_roundw
            case rel => exact ⟨k + 1, by omega, by go_num, by rw [HN.out, List.length_append]; exact hown5, hat5 _ hgl9 hne, hrs9.grown hgr5 (fun ad e => by cases e; exact hne), Nat.lt_of_lt_of_le hgl9 hgr5.size, hbw9.trans hbw5⟩
            case measure => (simp [intOf]; try omega)
        · obtain rfl : k = (parts A0 A1 A2 A3 0 M1 M2 M3).length := by omega
          rw [hPl] at hown
          rw [hPl]
          have hres := Lib.hid (show neL ((parts A0 A1 A2 A3 0 M1 M2 M3).take 4) = neL (parts A0 A1 A2 A3 0 M1 M2 M3) by rw [← hPl, List.take_length])
          go_wp2
          go_ret
          rw [hres.out] at hown
          exact (SuPost.mk' rfl hown hbw)
    · clear hm
      go_enter Try.func11, Try.ntmps11
      go_wp2_with (first
    | (go_at_call 26; go_loud ((with_reducible refine (hca _).mono ?_); rintro e w1 ⟨rfl, hb1⟩; have hB1 : Below w.heap.size w w1 := B.bel_step (show Below w.heap.size w _ from (by (with_reducible repeat' first | exact Below.refl _ _ | assumption | apply B.belA | apply Below.drew | apply below_drewN | refine B.belS ?_ (by first | assumption | omega | (simp; done) | (simp; omega))))) hb1; have P1_a : B.Bx w1 w.heap.size [.int .i64 a, .int .i64 b, .int .i64 c, .int .i64 d] := B.Bx.below (show B.Bx _ w.heap.size [.int .i64 a, .int .i64 b, .int .i64 c, .int .i64 d] from (by (with_reducible repeat' first | assumption | exact B.Bx.new _ _ _ | refine B.Bx.newAt _ _ _ (by first | rfl | (simp; done)) | apply B.Bx.dr | apply B.Bx.drN | apply B.Bx.al | refine B.Bx.st ?_ (by first | assumption | omega | (simp; done) | (simp; omega))))) hb1; have P1_b : B.Bx w1 (w.heap.size + 1) [.int .i64 s, .int .i64 t, .int .i64 u, .int .i64 v] := B.Bx.below (show B.Bx _ (w.heap.size + 1) [.int .i64 s, .int .i64 t, .int .i64 u, .int .i64 v] from (by (with_reducible repeat' first | assumption | exact B.Bx.new _ _ _ | refine B.Bx.newAt _ _ _ (by first | rfl | (simp; done)) | apply B.Bx.dr | apply B.Bx.drN | apply B.Bx.al | refine B.Bx.st ?_ (by first | assumption | omega | (simp; done) | (simp; omega))))) hb1; obtain ⟨⟨k1_a_0, g1_a_0⟩, ⟨k1_a_1, g1_a_1⟩, ⟨k1_a_2, g1_a_2⟩, ⟨k1_a_3, g1_a_3⟩, x1_a, y1_a, q1_a⟩ := id P1_a.x4; obtain ⟨⟨k1_b_0, g1_b_0⟩, ⟨k1_b_1, g1_b_1⟩, ⟨k1_b_2, g1_b_2⟩, ⟨k1_b_3, g1_b_3⟩, x1_b, y1_b, q1_b⟩ := id P1_b.x4; have hz1 := hB1.size))
    | (go_at_call 17; go_loud ((with_reducible refine (hin _).mono ?_); rintro e w2 ⟨rfl, hb2⟩; have hB2 : Below w.heap.size w w2 := B.bel_step (show Below w.heap.size w _ from (by (with_reducible repeat' first | exact Below.refl _ _ | assumption | apply B.belA | apply Below.drew | apply below_drewN | refine B.belS ?_ (by first | assumption | omega | (simp; done) | (simp; omega))))) hb2; have P2_a : B.Bx w2 w.heap.size [.int .i64 A0, .int .i64 A1, .int .i64 A2, .int .i64 A3] := B.Bx.below (B.Bx.of4 (by first | with_reducible assumption | go_simp) (by first | with_reducible assumption | go_simp) (by first | with_reducible assumption | go_simp) (by first | with_reducible assumption | go_simp) (by first | with_reducible assumption | go_simp) (by first | with_reducible assumption | go_simp) (by first | with_reducible assumption | go_simp) (by first | with_reducible assumption | go_simp) : B.Bx _ w.heap.size [.int .i64 A0, .int .i64 A1, .int .i64 A2, .int .i64 A3]) hb2; clear P1_a k1_a_0 g1_a_0 k1_a_1 g1_a_1 k1_a_2 g1_a_2 k1_a_3 g1_a_3 x1_a y1_a q1_a P1_b k1_b_0 g1_b_0 k1_b_1 g1_b_1 k1_b_2 g1_b_2 k1_b_3 g1_b_3 x1_b y1_b q1_b; obtain ⟨⟨k2_a_0, g2_a_0⟩, ⟨k2_a_1, g2_a_1⟩, ⟨k2_a_2, g2_a_2⟩, ⟨k2_a_3, g2_a_3⟩, x2_a, y2_a, q2_a⟩ := id P2_a.x4; have hz2 := hB2.size)))
      generalize hAD : (⟨(w2.heap.size + 1 + 1), 0, none⟩ : Addr) = ad
      have HAD := Lib.hid hAD
      clear hAD
      go_loopw [7, 59] (fun v i wr => SuRel w (parts A0 A1 A2 A3 0 0 M2 M3) ad v i wr) (fun _ i _ => 4 - (intOf i).toNat)
      case atStart => rw [← HAD.out]; exact ⟨0, Nat.zero_le _, rfl, World.ownsRow_nil _ _ _ _, by simp [Value.ownBlock], rs_lit (by omega) rcV_len (by simp) rfl, by simp, by (with_reducible repeat' first | exact Below.refl _ _ | assumption | apply B.belA | apply Below.drew | apply below_drewN | refine B.belS ?_ (by first | assumption | omega | (simp; done) | (simp; omega)))⟩
      case round =>
        obtain ⟨k, hk, rfl, hown, hne, hrs, hgl, hbw⟩ := hrel
        have hz := hbw.size
        have hPl : (parts A0 A1 A2 A3 0 0 M2 M3).length = 4 := rfl
        by_cases hlt : k < (parts A0 A1 A2 A3 0 0 M2 M3).length
        · obtain ⟨ad', e9, hcl⟩ := hrs k hlt
          obtain rfl : ad = ad' := Option.some.inj e9
          obtain ⟨p, hp⟩ : ∃ p, (parts A0 A1 A2 A3 0 0 M2 M3)[k] = p := ⟨_, rfl⟩
          have hsn := neL_snoc (parts A0 A1 A2 A3 0 0 M2 M3) k hlt
          rw [hp] at hcl hsn
          have hkl : (neL ((parts A0 A1 A2 A3 0 0 M2 M3).take k)).length ≤ k := Nat.le_trans (neL_le _) (by rw [List.length_take]; omega)
          have hlt4 : k < 4 := by omega
          obtain ⟨p0, p1, p2, p3⟩ := p
          have c0 : wr.cell? (ad.add (k * 4)) = some (.int .i64 p0) := hcl 0 _ rfl
          have c1 : wr.cell? ⟨(ad.add (k * 4)).block, (ad.add (k * 4)).off + 1, none⟩ = some (.int .i64 p1) := hcl 1 _ rfl
          have c2 : wr.cell? ⟨(ad.add (k * 4)).block, (ad.add (k * 4)).off + 2, none⟩ = some (.int .i64 p2) := hcl 2 _ rfl
          have c3 : wr.cell? ⟨(ad.add (k * 4)).block, (ad.add (k * 4)).off + 3, none⟩ = some (.int .i64 p3) := hcl 3 _ rfl
          have HS := Lib.hid hsn
          have HP := Lib.hid hp
          have hi4 : (k : Int) < 4 := by omega
          have hgr : ∀ (W : World) v', Below wr.heap.size wr W → W.ownsRow w.heap.size 23 4 v' 0 [] ∨ True := fun _ _ _ => .inr trivial
          clear hgr hcl hp hsn e9
          obtain ⟨l, hl⟩ : ∃ l, neL ((parts A0 A1 A2 A3 0 0 M2 M3).take k) = l := ⟨_, rfl⟩
          rw [hl] at hown hkl HS
          have HL := Lib.hid hl
          clear hl
          have hem := fun W => empty_any p0 p1 p2 p3 W
          have hn9 : l.length + 1 ≤ 1000000 := by omega
          cases he : eR p0 p1 p2 p3 with
          | true =>
            rw [he] at hem
            have HN := Lib.hid (show neL ((parts A0 A1 A2 A3 0 0 M2 M3).take (k + 1)) = l by rw [HS.out]; simp [eT, he])
            clear he
            go_wp2_with (go_at_call 19; go_loud ((with_reducible refine (hem _).mono ?_); rintro e w9 ⟨rfl, hb9⟩))
            go_roundw
            case rel => exact ⟨k + 1, by omega, by go_num, by rw [HN.out]; exact own_keep (hown.alloc _) hb9, hne, RS.below (RS.below hrs (Below.alloc (Below.refl _ _) (Nat.le_refl _) _)) hb9, Nat.lt_of_lt_of_le hgl (Nat.le_trans (by first | exact Nat.le_refl _ | simp) hb9.size), B.bel_step (show Below w.heap.size w _ from (by (with_reducible repeat' first | exact Below.refl _ _ | assumption | apply B.belA | apply Below.drew | apply below_drewN | refine B.belS ?_ (by first | assumption | omega | (simp; done) | (simp; omega))))) hb9⟩
            case measure => (simp [intOf]; try omega)
          | false =>
            rw [he] at hem
            have HN := Lib.hid (show neL ((parts A0 A1 A2 A3 0 0 M2 M3).take (k + 1)) = l ++ [(p0, p1, p2, p3)] by rw [HS.out]; simp [eT, he])
            clear he
            go_wp2_with (first
              | (go_at_call 19; go_loud ((with_reducible refine (hem _).mono ?_); rintro e w9 ⟨rfl, hb9⟩; have PX : B.Bx w9 wr.heap.size [.int .i64 p0, .int .i64 p1, .int .i64 p2, .int .i64 p3] := B.Bx.below (B.Bx.newAt wr [.int .i64 p0, .int .i64 p1, .int .i64 p2, .int .i64 p3] 23 rfl) hb9; obtain ⟨⟨q0, r0⟩, ⟨q1, r1⟩, ⟨q2, r2⟩, ⟨q3, r3⟩, q4, q5, q6⟩ := PX.x4; have hown9 := own_keep (hown.alloc _) hb9; have hrs9 := RS.below (RS.below hrs (Below.alloc (Below.refl _ _) (Nat.le_refl _) _)) hb9; have hbw9 := B.bel_step (show Below w.heap.size w _ from (by (with_reducible repeat' first | exact Below.refl _ _ | assumption | apply B.belA | apply Below.drew | apply below_drewN | refine B.belS ?_ (by first | assumption | omega | (simp; done) | (simp; omega))))) hb9; have hz9 := hbw9.size; have hgl9 : ad.block < w9.heap.size := Nat.lt_of_lt_of_le hgl (Nat.le_trans (by first | exact Nat.le_refl _ | simp) hb9.size)))
              | (at_builtin; go_loud (refine wpList_snocA (B := w.heap.size) rcV rfl _ _ _ _ rfl Try.underlying25 info_rc rfl (by omega) hown9 hz9 hn9 (by omega) (p0, p1, p2, p3) _ rfl rfl (one4 _) rfl rfl rfl ?_; intro v5 w5 hown5 hbw5 hgr5 hat5)))
            go_roundw
            case rel => exact ⟨k + 1, by omega, by go_num, by rw [HN.out, List.length_append]; exact hown5, hat5 _ hgl9 hne, hrs9.grown hgr5 (fun ad e => by cases e; exact hne), Nat.lt_of_lt_of_le hgl9 hgr5.size, hbw9.trans hbw5⟩
            case measure => (simp [intOf]; try omega)
        · obtain rfl : k = (parts A0 A1 A2 A3 0 0 M2 M3).length := by omega
          rw [hPl] at hown
          rw [hPl]
          have hres := Lib.hid (show neL ((parts A0 A1 A2 A3 0 0 M2 M3).take 4) = neL (parts A0 A1 A2 A3 0 0 M2 M3) by rw [← hPl, List.take_length])
          go_wp2
          go_ret
          rw [hres.out] at hown
          exact (SuPost.mk' rfl hown hbw)
    · clear hm
      go_enter Try.func11, Try.ntmps11
      go_wp2_with (first
    | (go_at_call 26; go_loud ((with_reducible refine (hca _).mono ?_); rintro e w1 ⟨rfl, hb1⟩; have hB1 : Below w.heap.size w w1 := B.bel_step (show Below w.heap.size w _ from (by (with_reducible repeat' first | exact Below.refl _ _ | assumption | apply B.belA | apply Below.drew | apply below_drewN | refine B.belS ?_ (by first | assumption | omega | (simp; done) | (simp; omega))))) hb1; have P1_a : B.Bx w1 w.heap.size [.int .i64 a, .int .i64 b, .int .i64 c, .int .i64 d] := B.Bx.below (show B.Bx _ w.heap.size [.int .i64 a, .int .i64 b, .int .i64 c, .int .i64 d] from (by (with_reducible repeat' first | assumption | exact B.Bx.new _ _ _ | refine B.Bx.newAt _ _ _ (by first | rfl | (simp; done)) | apply B.Bx.dr | apply B.Bx.drN | apply B.Bx.al | refine B.Bx.st ?_ (by first | assumption | omega | (simp; done) | (simp; omega))))) hb1; have P1_b : B.Bx w1 (w.heap.size + 1) [.int .i64 s, .int .i64 t, .int .i64 u, .int .i64 v] := B.Bx.below (show B.Bx _ (w.heap.size + 1) [.int .i64 s, .int .i64 t, .int .i64 u, .int .i64 v] from (by (with_reducible repeat' first | assumption | exact B.Bx.new _ _ _ | refine B.Bx.newAt _ _ _ (by first | rfl | (simp; done)) | apply B.Bx.dr | apply B.Bx.drN | apply B.Bx.al | refine B.Bx.st ?_ (by first | assumption | omega | (simp; done) | (simp; omega))))) hb1; obtain ⟨⟨k1_a_0, g1_a_0⟩, ⟨k1_a_1, g1_a_1⟩, ⟨k1_a_2, g1_a_2⟩, ⟨k1_a_3, g1_a_3⟩, x1_a, y1_a, q1_a⟩ := id P1_a.x4; obtain ⟨⟨k1_b_0, g1_b_0⟩, ⟨k1_b_1, g1_b_1⟩, ⟨k1_b_2, g1_b_2⟩, ⟨k1_b_3, g1_b_3⟩, x1_b, y1_b, q1_b⟩ := id P1_b.x4; have hz1 := hB1.size))
    | (go_at_call 17; go_loud ((with_reducible refine (hin _).mono ?_); rintro e w2 ⟨rfl, hb2⟩; have hB2 : Below w.heap.size w w2 := B.bel_step (show Below w.heap.size w _ from (by (with_reducible repeat' first | exact Below.refl _ _ | assumption | apply B.belA | apply Below.drew | apply below_drewN | refine B.belS ?_ (by first | assumption | omega | (simp; done) | (simp; omega))))) hb2; have P2_a : B.Bx w2 w.heap.size [.int .i64 A0, .int .i64 A1, .int .i64 A2, .int .i64 A3] := B.Bx.below (B.Bx.of4 (by first | with_reducible assumption | go_simp) (by first | with_reducible assumption | go_simp) (by first | with_reducible assumption | go_simp) (by first | with_reducible assumption | go_simp) (by first | with_reducible assumption | go_simp) (by first | with_reducible assumption | go_simp) (by first | with_reducible assumption | go_simp) (by first | with_reducible assumption | go_simp) : B.Bx _ w.heap.size [.int .i64 A0, .int .i64 A1, .int .i64 A2, .int .i64 A3]) hb2; clear P1_a k1_a_0 g1_a_0 k1_a_1 g1_a_1 k1_a_2 g1_a_2 k1_a_3 g1_a_3 x1_a y1_a q1_a P1_b k1_b_0 g1_b_0 k1_b_1 g1_b_1 k1_b_2 g1_b_2 k1_b_3 g1_b_3 x1_b y1_b q1_b; obtain ⟨⟨k2_a_0, g2_a_0⟩, ⟨k2_a_1, g2_a_1⟩, ⟨k2_a_2, g2_a_2⟩, ⟨k2_a_3, g2_a_3⟩, x2_a, y2_a, q2_a⟩ := id P2_a.x4; have hz2 := hB2.size)))
      generalize hAD : (⟨(w2.heap.size + 1 + 1), 0, none⟩ : Addr) = ad
      have HAD := Lib.hid hAD
      clear hAD
      go_loopw [7, 59] (fun v i wr => SuRel w (parts A0 A1 A2 A3 0 0 0 M3) ad v i wr) (fun _ i _ => 4 - (intOf i).toNat)
      case atStart => rw [← HAD.out]; exact ⟨0, Nat.zero_le _, rfl, World.ownsRow_nil _ _ _ _, by simp [Value.ownBlock], rs_lit (by omega) rcV_len (by simp) rfl, by simp, by (with_reducible repeat' first | exact Below.refl _ _ | assumption | apply B.belA | apply Below.drew | apply below_drewN | refine B.belS ?_ (by first | assumption | omega | (simp; done) | (simp; omega)))⟩
      case round =>
        obtain ⟨k, hk, rfl, hown, hne, hrs, hgl, hbw⟩ := hrel
        have hz := hbw.size
        have hPl : (parts A0 A1 A2 A3 0 0 0 M3).length = 4 := rfl
        by_cases hlt : k < (parts A0 A1 A2 A3 0 0 0 M3).length
        · obtain ⟨ad', e9, hcl⟩ := hrs k hlt
          obtain rfl : ad = ad' := Option.some.inj e9
          obtain ⟨p, hp⟩ : ∃ p, (parts A0 A1 A2 A3 0 0 0 M3)[k] = p := ⟨_, rfl⟩
          have hsn := neL_snoc (parts A0 A1 A2 A3 0 0 0 M3) k hlt
          rw [hp] at hcl hsn
          have hkl : (neL ((parts A0 A1 A2 A3 0 0 0 M3).take k)).length ≤ k := Nat.le_trans (neL_le _) (by rw [List.length_take]; omega)
          have hlt4 : k < 4 := by omega
          obtain ⟨p0, p1, p2, p3⟩ := p
          have c0 : wr.cell? (ad.add (k * 4)) = some (.int .i64 p0) := hcl 0 _ rfl
          have c1 : wr.cell? ⟨(ad.add (k * 4)).block, (ad.add (k * 4)).off + 1, none⟩ = some (.int .i64 p1) := hcl 1 _ rfl
          have c2 : wr.cell? ⟨(ad.add (k * 4)).block, (ad.add (k * 4)).off + 2, none⟩ = some (.int .i64 p2) := hcl 2 _ rfl
          have c3 : wr.cell? ⟨(ad.add (k * 4)).block, (ad.add (k * 4)).off + 3, none⟩ = some (.int .i64 p3) := hcl 3 _ rfl
          have HS := Lib.hid hsn
          have HP := Lib.hid hp
          have hi4 : (k : Int) < 4 := by omega
          have hgr : ∀ (W : World) v', Below wr.heap.size wr W → W.ownsRow w.heap.size 23 4 v' 0 [] ∨ True := fun _ _ _ => .inr trivial
          clear hgr hcl hp hsn e9
          obtain ⟨l, hl⟩ : ∃ l, neL ((parts A0 A1 A2 A3 0 0 0 M3).take k) = l := ⟨_, rfl⟩
          rw [hl] at hown hkl HS
          have HL := Lib.hid hl
          clear hl
          have hem := fun W => empty_any p0 p1 p2 p3 W
          have hn9 : l.length + 1 ≤ 1000000 := by omega
          cases he : eR p0 p1 p2 p3 with
          | true =>
            rw [he] at hem
            have HN := Lib.hid (show neL ((parts A0 A1 A2 A3 0 0 0 M3).take (k + 1)) = l by rw [HS.out]; simp [eT, he])
            clear he
            go_wp2_with (go_at_call 19; go_loud ((with_reducible refine (hem _).mono ?_); rintro e w9 ⟨rfl, hb9⟩))
            go_roundw
            case rel => exact ⟨k + 1, by omega, by go_num, by rw [HN.out]; exact own_keep (hown.alloc _) hb9, hne, RS.below (RS.below hrs (Below.alloc (Below.refl _ _) (Nat.le_refl _) _)) hb9, Nat.lt_of_lt_of_le hgl (Nat.le_trans (by first | exact Nat.le_refl _ | simp) hb9.size), B.bel_step (show Below w.heap.size w _ from (by (with_reducible repeat' first | exact Below.refl _ _ | assumption | apply B.belA | apply Below.drew | apply below_drewN | refine B.belS ?_ (by first | assumption | omega | (simp; done) | (simp; omega))))) hb9⟩
            case measure => (simp [intOf]; try omega)
          | false =>
            rw [he] at hem
            have HN := Lib.hid (show neL ((parts A0 A1 A2 A3 0 0 0 M3).take (k + 1)) = l ++ [(p0, p1, p2, p3)] by rw [HS.out]; simp [eT, he])
            clear he
            go_wp2_with (first
              | (go_at_call 19; go_loud ((with_reducible refine (hem _).mono ?_); rintro e w9 ⟨rfl, hb9⟩; have PX : B.Bx w9 wr.heap.size [.int .i64 p0, .int .i64 p1, .int .i64 p2, .int .i64 p3] := B.Bx.below (B.Bx.newAt wr [.int .i64 p0, .int .i64 p1, .int .i64 p2, .int .i64 p3] 23 rfl) hb9; obtain ⟨⟨q0, r0⟩, ⟨q1, r1⟩, ⟨q2, r2⟩, ⟨q3, r3⟩, q4, q5, q6⟩ := PX.x4; have hown9 := own_keep (hown.alloc _) hb9; have hrs9 := RS.below (RS.below hrs (Below.alloc (Below.refl _ _) (Nat.le_refl _) _)) hb9; have hbw9 := B.bel_step (show Below w.heap.size w _ from (by (with_reducible repeat' first | exact Below.refl _ _ | assumption | apply B.belA | apply Below.drew | apply below_drewN | refine B.belS ?_ (by first | assumption | omega | (simp; done) | (simp; omega))))) hb9; have hz9 := hbw9.size; have hgl9 : ad.block < w9.heap.size := Nat.lt_of_lt_of_le hgl (Nat.le_trans (by first | exact Nat.le_refl _ | simp) hb9.size)))
              | (at_builtin; go_loud (refine wpList_snocA (B := w.heap.size) rcV rfl _ _ _ _ rfl Try.underlying25 info_rc rfl (by omega) hown9 hz9 hn9 (by omega) (p0, p1, p2, p3) _ rfl rfl (one4 _) rfl rfl rfl ?_; intro v5 w5 hown5 hbw5 hgr5 hat5)))
            go_roundw
            case rel => exact ⟨k + 1, by omega, by go_num, by rw [HN.out, List.length_append]; exact hown5, hat5 _ hgl9 hne, hrs9.grown hgr5 (fun ad e => by cases e; exact hne), Nat.lt_of_lt_of_le hgl9 hgr5.size, hbw9.trans hbw5⟩
            case measure => (simp [intOf]; try omega)
        · obtain rfl : k = (parts A0 A1 A2 A3 0 0 0 M3).length := by omega
          rw [hPl] at hown
          rw [hPl]
          have hres := Lib.hid (show neL ((parts A0 A1 A2 A3 0 0 0 M3).take 4) = neL (parts A0 A1 A2 A3 0 0 0 M3) by rw [← hPl, List.take_length])
          go_wp2
          go_ret
          rw [hres.out] at hown
          exact (SuPost.mk' rfl hown hbw)
end Go.Proofs.Ytciaidlkhlgflaa
