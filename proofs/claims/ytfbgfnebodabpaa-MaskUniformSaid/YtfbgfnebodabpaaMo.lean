import Derived.Test.YtfbgfnebodabpaaMm
import Derived.WalkKit
import Derived.WalkSpells
import Derived.WalkLawsBesides
import Derived.Lib.Hide
import Derived.Below
import Derived.Deep.QuietTactic
import Derived.BigQuiet
import Derived.StillTailTactics
import Derived.Deep.RegionHeld3
import Derived.IntWalk
namespace Go.Proofs.Ytfbgfnebodabpaa
open Go.RowKit
set_option linter.unusedVariables false
set_option linter.unusedSimpArgs false
attribute [local go_sem ↓] eq_rect
/-- Two masks are equal. -/
def eqM (a b c d s t u v : Int) (l l2 : List Int) : Bool := rEq a b c d s t u v && decide (l = l2)
theorem take_step {l l2 : List Int} {k : Nat} (h : l.take k = l2.take k) (h1 : k < l.length) (h2 : k < l2.length) (h3 : l[k] = l2[k]) : l.take (k + 1) = l2.take (k + 1) := by
  rw [List.take_add_one, List.take_add_one, h, List.getElem?_eq_getElem h1, List.getElem?_eq_getElem h2, h3]
theorem ne_of_at {l l2 : List Int} {k : Nat} (h1 : k < l.length) (h2 : k < l2.length) (h3 : ¬ l[k] = l2[k]) : ¬ l = l2 := fun e => h3 (by subst e; rfl)
set_option maxRecDepth 50000 in
set_option maxHeartbeats 4000000 in
theorem requal_any (a b c d s t u v : Int) (p p2 : Option Addr) (n q n2 q2 : Nat) (l l2 : List Int) (w : World) (hn : l.length = n) (hn2 : l2.length = n2) (hr : RS 1 u8V w p l) (hr2 : RS 1 u8V w p2 l2) (hm : n ≤ 1000000) (hm2 : n2 ≤ 1000000) :
    Calls Try.prog 23 #[.agg #[.int .i64 a, .int .i64 b, .int .i64 c, .int .i64 d, .slice p n q], .agg #[.int .i64 s, .int .i64 t, .int .i64 u, .int .i64 v, .slice p2 n2 q2]] w fun e w' => e = .returned (.bool (eqM a b c d s t u v l l2)) ∧ Below w.heap.size w w' := by
  cases hE : rEq a b c d s t u v with
  | false =>
    have hV : eqM a b c d s t u v l l2 = false := by simp [eqM, hE]
    rw [hV]
    clear hV
    go_enter Try.func23, Try.ntmps23
    go_wp2
    go_ret
    exact ⟨rfl, by (with_reducible repeat' first | exact Below.refl _ _ | assumption | apply B.belA | apply Below.drew | apply below_drewN | refine B.belS ?_ (by first | assumption | omega | (simp; done) | (simp; omega)))⟩
  | true =>
    by_cases hnn : n = n2
    · subst hnn
      have hln : l.length = l2.length := by omega
      have hfalse : ¬ l = l2 → Ending.returned (Value.bool false) = .returned (.bool (eqM a b c d s t u v l l2)) := fun h => by simp [eqM, hE, h]
      have htrue : l = l2 → Ending.returned (Value.bool true) = .returned (.bool (eqM a b c d s t u v l l2)) := fun h => by simp [eqM, hE, h]
      obtain ⟨V, hV⟩ : ∃ V, eqM a b c d s t u v l l2 = V := ⟨_, rfl⟩
      rw [hV] at hfalse htrue ⊢
      clear hV
      go_enter Try.func23, Try.ntmps23
      go_wp2
      go_loopw [5] (fun i wr => ∃ k : Nat, k ≤ l.length ∧ i = .int .i64 k ∧ l.take k = l2.take k ∧ B.Bx wr w.heap.size [.int .i64 a, .int .i64 b, .int .i64 c, .int .i64 d, .slice p n q] ∧ B.Bx wr (w.heap.size + 1) [.int .i64 s, .int .i64 t, .int .i64 u, .int .i64 v, .slice p2 n q2] ∧ Below w.heap.size w wr) (fun i _ => l.length - (intOf i).toNat)
      case atStart => exact ⟨0, Nat.zero_le _, by go_num, by simp, by (with_reducible repeat' first | assumption | exact B.Bx.new _ _ _ | refine B.Bx.newAt _ _ _ (by first | rfl | (simp; done)) | apply B.Bx.dr | apply B.Bx.drN | apply B.Bx.al | refine B.Bx.st ?_ (by first | assumption | omega | (simp; done) | (simp; omega))), by (with_reducible repeat' first | assumption | exact B.Bx.new _ _ _ | refine B.Bx.newAt _ _ _ (by first | rfl | (simp; done)) | apply B.Bx.dr | apply B.Bx.drN | apply B.Bx.al | refine B.Bx.st ?_ (by first | assumption | omega | (simp; done) | (simp; omega))), by (with_reducible repeat' first | exact Below.refl _ _ | assumption | apply B.belA | apply Below.drew | apply below_drewN | refine B.belS ?_ (by first | assumption | omega | (simp; done) | (simp; omega)))⟩
      case round =>
        obtain ⟨k, hk, rfl, htk, hb1, hb2, hbw⟩ := hrel
        obtain ⟨⟨ka_0, ga_0⟩, ⟨ka_1, ga_1⟩, ⟨ka_2, ga_2⟩, ⟨ka_3, ga_3⟩, ⟨ka_4, ga_4⟩, xa, ya, qa⟩ := id hb1.x5
        obtain ⟨⟨kb_0, gb_0⟩, ⟨kb_1, gb_1⟩, ⟨kb_2, gb_2⟩, ⟨kb_3, gb_3⟩, ⟨kb_4, gb_4⟩, xb, yb, qb⟩ := id hb2.x5
        by_cases hlt : k < l.length
        · have hlt2 : k < l2.length := by omega
          obtain ⟨ad, rfl, hc⟩ := RS.b (RS.below hr hbw) hlt
          obtain ⟨ad2, rfl, hc2⟩ := RS.b (RS.below hr2 hbw) hlt2
          have hltn : k < n := by omega
          by_cases hy : l[k] = l2[k]
          · have htk2 := Lib.hid (take_step htk hlt hlt2 hy)
            obtain ⟨y, hyy⟩ : ∃ y, l2[k] = y := ⟨_, rfl⟩
            rw [hyy] at hc2
            rw [hy, hyy] at hc
            clear hy hyy htk
            go_wp2
            go_still (by kernel_rfl)
            go_wp2
            go_roundw
            case rel => exact ⟨k + 1, by omega, by go_num, htk2.out, hb1.dr, hb2.dr, hbw.drew⟩
            case measure => (simp [intOf]; try omega)
          · have hres := ne_of_at hlt hlt2 hy
            obtain ⟨y, hyy⟩ : ∃ y, l2[k] = y := ⟨_, rfl⟩
            obtain ⟨x, hxx⟩ : ∃ x, l[k] = x := ⟨_, rfl⟩
            rw [hyy] at hc2 hy
            rw [hxx] at hc hy
            have hF := Lib.hid (hfalse hres)
            clear hyy hxx htk hres
            go_wp2
            go_still (by kernel_rfl)
            go_wp2
            go_ret
            exact ⟨hF.out, hbw.drew⟩
        · obtain rfl : k = l.length := by omega
          have hT := Lib.hid (htrue (by rw [List.take_length, hln, List.take_length] at htk; exact htk))
          go_wp2
          go_ret
          exact ⟨hT.out, hbw⟩
    · have hV : eqM a b c d s t u v l l2 = false := by
        have : ¬ l = l2 := fun e => hnn (by rw [← hn, ← hn2, e])
        simp [eqM, this]
      rw [hV]
      have hnn2 : ¬ (n : Int) = (n2 : Int) := by omega
      clear hV
      go_enter Try.func23, Try.ntmps23
      go_wp2
      go_ret
      exact ⟨rfl, by (with_reducible repeat' first | exact Below.refl _ _ | assumption | apply B.belA | apply Below.drew | apply below_drewN | refine B.belS ?_ (by first | assumption | omega | (simp; done) | (simp; omega)))⟩
set_option maxRecDepth 50000 in
set_option maxHeartbeats 4000000 in
theorem sequal_any (p p2 : Option Addr) (n q n2 q2 : Nat) (l l2 : List Int) (w : World) (hn : l.length = n) (hn2 : l2.length = n2) (hr : RS 1 u8V w p l) (hr2 : RS 1 u8V w p2 l2) (hm : n ≤ 1000000) (hm2 : n2 ≤ 1000000) :
    Calls Try.prog 54 #[.slice p n q, .slice p2 n2 q2] w fun e w' => e = .returned (.bool (decide (l = l2))) ∧ Below w.heap.size w w' := by
  by_cases hnn : n = n2
  · subst hnn
    have hln : l.length = l2.length := by omega
    have hfalse : ¬ l = l2 → Ending.returned (Value.bool false) = .returned (.bool (decide (l = l2))) := fun h => by simp [h]
    have htrue : l = l2 → Ending.returned (Value.bool true) = .returned (.bool (decide (l = l2))) := fun h => by simp [h]
    obtain ⟨V, hV⟩ : ∃ V, decide (l = l2) = V := ⟨_, rfl⟩
    rw [hV] at hfalse htrue ⊢
    clear hV
    go_enter Try.func54, Try.ntmps54
    go_wp2
    go_loopw [5, 13] (fun _ i wr => ∃ k : Nat, k ≤ l.length ∧ i = .int .i64 k ∧ l.take k = l2.take k ∧ Below w.heap.size w wr) (fun _ i _ => l.length - (intOf i).toNat)
    case atStart => exact ⟨0, Nat.zero_le _, by go_num, by simp, Below.refl _ _⟩
    case round =>
      obtain ⟨k, hk, rfl, htk, hbw⟩ := hrel
      by_cases hlt : k < l.length
      · have hlt2 : k < l2.length := by omega
        obtain ⟨ad, rfl, hc⟩ := RS.b (RS.below hr hbw) hlt
        obtain ⟨ad2, rfl, hc2⟩ := RS.b (RS.below hr2 hbw) hlt2
        have hltn : k < n := by omega
        by_cases hy : l[k] = l2[k]
        · have htk2 := Lib.hid (take_step htk hlt hlt2 hy)
          obtain ⟨y, hyy⟩ : ∃ y, l2[k] = y := ⟨_, rfl⟩
          rw [hyy] at hc2
          rw [hy, hyy] at hc
          clear hy hyy htk
          go_wp2
          go_still (by kernel_rfl)
          go_wp2
          go_roundw
          case rel => exact ⟨k + 1, by omega, by go_num, htk2.out, hbw.drew⟩
          case measure => (simp [intOf]; try omega)
        · have hres := ne_of_at hlt hlt2 hy
          obtain ⟨y, hyy⟩ : ∃ y, l2[k] = y := ⟨_, rfl⟩
          obtain ⟨x, hxx⟩ : ∃ x, l[k] = x := ⟨_, rfl⟩
          rw [hyy] at hc2 hy
          rw [hxx] at hc hy
          have hF := Lib.hid (hfalse hres)
          clear hyy hxx htk hres
          go_wp2
          go_still (by kernel_rfl)
          go_wp2
          go_ret
          exact ⟨hF.out, hbw.drew⟩
      · obtain rfl : k = l.length := by omega
        have hT := Lib.hid (htrue (by rw [List.take_length, hln, List.take_length] at htk; exact htk))
        go_wp2
        go_ret
        exact ⟨hT.out, hbw⟩
  · have hV : decide (l = l2) = false := by
      have : ¬ l = l2 := fun e => hnn (by rw [← hn, ← hn2, e])
      simp [this]
    rw [hV]
    have hnn2 : ¬ (n : Int) = (n2 : Int) := by omega
    clear hV
    go_enter Try.func54, Try.ntmps54
    go_wp2
    go_ret
    exact ⟨rfl, Below.refl _ _⟩
set_option maxRecDepth 50000 in
set_option maxHeartbeats 4000000 in
theorem equal_any (a b c d s t u v : Int) (p p2 : Option Addr) (n q n2 q2 : Nat) (l l2 : List Int) (w : World) (hn : l.length = n) (hn2 : l2.length = n2) (hr : RS 1 u8V w p l) (hr2 : RS 1 u8V w p2 l2) (hm : n ≤ 1000000) (hm2 : n2 ≤ 1000000) :
    Calls Try.prog 22 #[.agg #[.int .i64 a, .int .i64 b, .int .i64 c, .int .i64 d, .slice p n q], .agg #[.int .i64 s, .int .i64 t, .int .i64 u, .int .i64 v, .slice p2 n2 q2]] w fun e w' => e = .returned (.bool (eqM a b c d s t u v l l2)) ∧ Below w.heap.size w w' := by
  have hse := fun W hr hr2 => sequal_any p p2 n q n2 q2 l l2 W hn hn2 hr hr2 hm hm2
  have r0_l := hr
  have r0_l2 := hr2
  obtain ⟨V, hV⟩ : ∃ V, decide (l = l2) = V := ⟨_, rfl⟩
  rw [hV] at hse
  cases hE : rEq a b c d s t u v with
  | false =>
    have hV : eqM a b c d s t u v l l2 = false := by simp [eqM, hE]
    rw [hV]
    clear hV
    go_enter Try.func22, Try.ntmps22
    go_wp2
    go_ret
    exact ⟨rfl, by (with_reducible repeat' first | exact Below.refl _ _ | assumption | apply B.belA | apply Below.drew | apply below_drewN | refine B.belS ?_ (by first | assumption | omega | (simp; done) | (simp; omega)))⟩
  | true =>
    have hV : eqM a b c d s t u v l l2 = V := by simp [eqM, hE, ← hV]
    rw [hV]
    clear hV
    go_enter Try.func22, Try.ntmps22
    go_wp2_with (go_at_call 54; go_loud ((with_reducible refine (hse _ (by (with_reducible repeat' first | assumption | apply B.rs_al | apply B.rs_drN | apply RS.drewN | apply B.rs_dr)) (by (with_reducible repeat' first | assumption | apply B.rs_al | apply B.rs_drN | apply RS.drewN | apply B.rs_dr))).mono ?_); rintro e w1 ⟨rfl, hb1⟩; have hB1 : Below w.heap.size w w1 := B.bel_step (show Below w.heap.size w _ from (by (with_reducible repeat' first | exact Below.refl _ _ | assumption | apply B.belA | apply Below.drew | apply below_drewN | refine B.belS ?_ (by first | assumption | omega | (simp; done) | (simp; omega))))) hb1; have P1_m : B.Bx w1 w.heap.size [.int .i64 a, .int .i64 b, .int .i64 c, .int .i64 d, .slice p n q] := B.Bx.below (show B.Bx _ w.heap.size [.int .i64 a, .int .i64 b, .int .i64 c, .int .i64 d, .slice p n q] from (by (with_reducible repeat' first | assumption | exact B.Bx.new _ _ _ | refine B.Bx.newAt _ _ _ (by first | rfl | (simp; done)) | apply B.Bx.dr | apply B.Bx.drN | apply B.Bx.al | refine B.Bx.st ?_ (by first | assumption | omega | (simp; done) | (simp; omega))))) hb1; have P1_r : B.Bx w1 (w.heap.size + 1) [.int .i64 s, .int .i64 t, .int .i64 u, .int .i64 v, .slice p2 n2 q2] := B.Bx.below (show B.Bx _ (w.heap.size + 1) [.int .i64 s, .int .i64 t, .int .i64 u, .int .i64 v, .slice p2 n2 q2] from (by (with_reducible repeat' first | assumption | exact B.Bx.new _ _ _ | refine B.Bx.newAt _ _ _ (by first | rfl | (simp; done)) | apply B.Bx.dr | apply B.Bx.drN | apply B.Bx.al | refine B.Bx.st ?_ (by first | assumption | omega | (simp; done) | (simp; omega))))) hb1; have r1_l : RS 1 u8V w1 p l := RS.below (show RS 1 u8V _ p l from (by (with_reducible repeat' first | assumption | apply B.rs_al | apply B.rs_drN | apply RS.drewN | apply B.rs_dr))) hb1; have r1_l2 : RS 1 u8V w1 p2 l2 := RS.below (show RS 1 u8V _ p2 l2 from (by (with_reducible repeat' first | assumption | apply B.rs_al | apply B.rs_drN | apply RS.drewN | apply B.rs_dr))) hb1; obtain ⟨⟨k1_m_0, g1_m_0⟩, ⟨k1_m_1, g1_m_1⟩, ⟨k1_m_2, g1_m_2⟩, ⟨k1_m_3, g1_m_3⟩, ⟨k1_m_4, g1_m_4⟩, x1_m, y1_m, q1_m⟩ := id P1_m.x5; obtain ⟨⟨k1_r_0, g1_r_0⟩, ⟨k1_r_1, g1_r_1⟩, ⟨k1_r_2, g1_r_2⟩, ⟨k1_r_3, g1_r_3⟩, ⟨k1_r_4, g1_r_4⟩, x1_r, y1_r, q1_r⟩ := id P1_r.x5; have hz1 := hB1.size))
    go_ret
    exact ⟨rfl, (by (with_reducible repeat' first | exact Below.refl _ _ | assumption | apply B.belA | apply Below.drew | apply below_drewN | refine B.belS ?_ (by first | assumption | omega | (simp; done) | (simp; omega))))⟩
set_option maxRecDepth 50000 in
set_option maxHeartbeats 4000000 in
theorem small_any (a b c d : Int) (p : Option Addr) (n q : Nat) (w : World) : Calls Try.prog 19 #[.agg #[.int .i64 a, .int .i64 b, .int .i64 c, .int .i64 d, .slice p n q]] w fun e w' => e = .returned (.bool (decide (n ≤ 3000))) ∧ Below w.heap.size w w' := by
  by_cases h : n ≤ 3000
  · have h2 : (n : Int) ≤ 3000 := by omega
    have h3 : decide (n ≤ 3000) = true := by simpa using h
    rw [h3]
    go_enter Try.func19, Try.ntmps19
    go_wp2
    go_ret
    exact ⟨by simp <;> omega, by (with_reducible repeat' first | exact Below.refl _ _ | assumption | apply B.belA | apply Below.drew | apply below_drewN | refine B.belS ?_ (by first | assumption | omega | (simp; done) | (simp; omega)))⟩
  · have h2 : ¬ (n : Int) ≤ 3000 := by omega
    have h3 : decide (n ≤ 3000) = false := by simpa using h
    rw [h3]
    go_enter Try.func19, Try.ntmps19
    go_wp2
    go_ret
    exact ⟨by simp <;> omega, by (with_reducible repeat' first | exact Below.refl _ _ | assumption | apply B.belA | apply Below.drew | apply below_drewN | refine B.belS ?_ (by first | assumption | omega | (simp; done) | (simp; omega)))⟩
/-- At: 0 for a mask that is not valid. -/
def AtV (a b c d : Int) (l : List Int) (x y : Int) : Int := if vM a b c d l.length = true then mAt a b c d l x y else 0
set_option maxRecDepth 50000 in
set_option maxHeartbeats 4000000 in
theorem mat_any (a b c d x y : Int) (p : Option Addr) (n q : Nat) (l : List Int) (w : World) (hn : l.length = n) (hr : RS 1 u8V w p l) :
    Calls Try.prog 17 #[.agg #[.int .i64 a, .int .i64 b, .int .i64 c, .int .i64 d, .slice p n q], .int .i64 x, .int .i64 y] w fun e w' => e = .returned (.int .u8 (AtV a b c d l x y)) ∧ Below w.heap.size w w' := by
  subst hn
  have hva := fun W => mvalid_any a b c d p l.length q W
  have r0_l := hr
  cases hv : vM a b c d l.length with
  | true =>
    have hat := fun W hr => at_any a b c d x y p l.length q l W rfl hv hr
    have hV : AtV a b c d l x y = mAt a b c d l x y := by simp [AtV, hv]
    rw [hv] at hva
    rw [hV]
    clear hV hv
    go_enter Try.func17, Try.ntmps17
    go_wp2_with (first
    | (go_at_call 15; go_loud ((with_reducible refine (hva _).mono ?_); rintro e w1 ⟨rfl, hb1⟩; have hB1 : Below w.heap.size w w1 := B.bel_step (show Below w.heap.size w _ from (by (with_reducible repeat' first | exact Below.refl _ _ | assumption | apply B.belA | apply Below.drew | apply below_drewN | refine B.belS ?_ (by first | assumption | omega | (simp; done) | (simp; omega))))) hb1; have P1_m : B.Bx w1 w.heap.size [.int .i64 a, .int .i64 b, .int .i64 c, .int .i64 d, .slice p l.length q] := B.Bx.below (show B.Bx _ w.heap.size [.int .i64 a, .int .i64 b, .int .i64 c, .int .i64 d, .slice p l.length q] from (by (with_reducible repeat' first | assumption | exact B.Bx.new _ _ _ | refine B.Bx.newAt _ _ _ (by first | rfl | (simp; done)) | apply B.Bx.dr | apply B.Bx.drN | apply B.Bx.al | refine B.Bx.st ?_ (by first | assumption | omega | (simp; done) | (simp; omega))))) hb1; have r1_l : RS 1 u8V w1 p l := RS.below (show RS 1 u8V _ p l from (by (with_reducible repeat' first | assumption | apply B.rs_al | apply B.rs_drN | apply RS.drewN | apply B.rs_dr))) hb1; obtain ⟨⟨k1_m_0, g1_m_0⟩, ⟨k1_m_1, g1_m_1⟩, ⟨k1_m_2, g1_m_2⟩, ⟨k1_m_3, g1_m_3⟩, ⟨k1_m_4, g1_m_4⟩, x1_m, y1_m, q1_m⟩ := id P1_m.x5; have hz1 := hB1.size))
    | (go_at_call 50; go_loud ((with_reducible refine (hat _ (by (with_reducible repeat' first | assumption | apply B.rs_al | apply B.rs_drN | apply RS.drewN | apply B.rs_dr))).mono ?_); rintro e w2 ⟨rfl, hb2⟩; have hB2 : Below w.heap.size w w2 := B.bel_step (show Below w.heap.size w _ from (by (with_reducible repeat' first | exact Below.refl _ _ | assumption | apply B.belA | apply Below.drew | apply below_drewN | refine B.belS ?_ (by first | assumption | omega | (simp; done) | (simp; omega))))) hb2; have P2_m : B.Bx w2 w.heap.size [.int .i64 a, .int .i64 b, .int .i64 c, .int .i64 d, .slice p l.length q] := B.Bx.below (show B.Bx _ w.heap.size [.int .i64 a, .int .i64 b, .int .i64 c, .int .i64 d, .slice p l.length q] from (by (with_reducible repeat' first | assumption | exact B.Bx.new _ _ _ | refine B.Bx.newAt _ _ _ (by first | rfl | (simp; done)) | apply B.Bx.dr | apply B.Bx.drN | apply B.Bx.al | refine B.Bx.st ?_ (by first | assumption | omega | (simp; done) | (simp; omega))))) hb2; have r2_l : RS 1 u8V w2 p l := RS.below (show RS 1 u8V _ p l from (by (with_reducible repeat' first | assumption | apply B.rs_al | apply B.rs_drN | apply RS.drewN | apply B.rs_dr))) hb2; clear P1_m k1_m_0 g1_m_0 k1_m_1 g1_m_1 k1_m_2 g1_m_2 k1_m_3 g1_m_3 k1_m_4 g1_m_4 x1_m y1_m q1_m; obtain ⟨⟨k2_m_0, g2_m_0⟩, ⟨k2_m_1, g2_m_1⟩, ⟨k2_m_2, g2_m_2⟩, ⟨k2_m_3, g2_m_3⟩, ⟨k2_m_4, g2_m_4⟩, x2_m, y2_m, q2_m⟩ := id P2_m.x5; have hz2 := hB2.size)))
    go_ret
    exact ⟨rfl, (by (with_reducible repeat' first | exact Below.refl _ _ | assumption | apply B.belA | apply Below.drew | apply below_drewN | refine B.belS ?_ (by first | assumption | omega | (simp; done) | (simp; omega))))⟩
  | false =>
    have hV : AtV a b c d l x y = 0 := by simp [AtV, hv]
    rw [hv] at hva
    rw [hV]
    clear hV hv
    go_enter Try.func17, Try.ntmps17
    go_wp2_with (go_at_call 15; go_loud ((with_reducible refine (hva _).mono ?_); rintro e w1 ⟨rfl, hb1⟩; have hB1 : Below w.heap.size w w1 := B.bel_step (show Below w.heap.size w _ from (by (with_reducible repeat' first | exact Below.refl _ _ | assumption | apply B.belA | apply Below.drew | apply below_drewN | refine B.belS ?_ (by first | assumption | omega | (simp; done) | (simp; omega))))) hb1; have P1_m : B.Bx w1 w.heap.size [.int .i64 a, .int .i64 b, .int .i64 c, .int .i64 d, .slice p l.length q] := B.Bx.below (show B.Bx _ w.heap.size [.int .i64 a, .int .i64 b, .int .i64 c, .int .i64 d, .slice p l.length q] from (by (with_reducible repeat' first | assumption | exact B.Bx.new _ _ _ | refine B.Bx.newAt _ _ _ (by first | rfl | (simp; done)) | apply B.Bx.dr | apply B.Bx.drN | apply B.Bx.al | refine B.Bx.st ?_ (by first | assumption | omega | (simp; done) | (simp; omega))))) hb1; obtain ⟨⟨k1_m_0, g1_m_0⟩, ⟨k1_m_1, g1_m_1⟩, ⟨k1_m_2, g1_m_2⟩, ⟨k1_m_3, g1_m_3⟩, ⟨k1_m_4, g1_m_4⟩, x1_m, y1_m, q1_m⟩ := id P1_m.x5; have hz1 := hB1.size))
    go_ret
    exact ⟨rfl, (by (with_reducible repeat' first | exact Below.refl _ _ | assumption | apply B.belA | apply Below.drew | apply below_drewN | refine B.belS ?_ (by first | assumption | omega | (simp; done) | (simp; omega))))⟩
end Go.Proofs.Ytfbgfnebodabpaa
