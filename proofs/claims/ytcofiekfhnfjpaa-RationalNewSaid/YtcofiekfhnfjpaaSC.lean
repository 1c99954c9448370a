
import Derived.Test.YtcofiekfhnfjpaaSB
import Derived.Deep.CutRange
namespace Go.Proofs.Ytcofiekfhnfjpaa
open Go.RowKit
set_option linter.unusedVariables false
set_option linter.unusedSimpArgs false
attribute [local go_sem ↓] Go.wp_at_zero Go.wp_at_succ
attribute [local go_sem] rhoF_tmp rhoF_const rhoF_global rhoF_func
attribute [local go_sem] qV iV
attribute [local go_sem] qE
theorem small_any (s t : Bool) (a b : Option Addr) (n c m d : Nat) (w : World) (hn : n ≤ 9223372036854775807) (hm : m ≤ 9223372036854775807) :
    Calls Try.prog 8 #[.agg #[.bool s, .slice a n c, .bool t, .slice b m d]] w fun e w' => e = .returned (.bool (decide (n ≤ 40) && decide (m ≤ 40))) ∧ Below w.heap.size w w' := by
  have hb0 := Below.alloc (Below.refl w.heap.size w) (Nat.le_refl _) (.cells #[Value.bool s, Value.slice a n c, Value.bool t, Value.slice b m d] 26)
  by_cases h : n ≤ 40
  · by_cases h2 : m ≤ 40
    · have d1 : decide ((n : Int) ≤ 40) = true := by simp; omega
      have d2 : decide ((m : Int) ≤ 40) = true := by simp; omega
      have e1 : (decide (n ≤ 40) && decide (m ≤ 40)) = true := by simp; omega
      rw [e1]
      go_enter Try.func8, Try.ntmps8
      go_wp2
      go_ret
      exact ⟨rfl, hb0⟩
    · have d1 : decide ((n : Int) ≤ 40) = true := by simp; omega
      have d2 : decide ((m : Int) ≤ 40) = false := by simp; omega
      have e1 : (decide (n ≤ 40) && decide (m ≤ 40)) = false := by simp; omega
      rw [e1]
      go_enter Try.func8, Try.ntmps8
      go_wp2
      go_ret
      exact ⟨rfl, hb0⟩
  · have d1 : decide ((n : Int) ≤ 40) = false := by simp; omega
    have e1 : (decide (n ≤ 40) && decide (m ≤ 40)) = false := by simp; omega
    rw [e1]
    go_enter Try.func8, Try.ntmps8
    go_wp2
    go_ret
    exact ⟨rfl, hb0⟩
theorem sint_sg (s t : Bool) (a b : Option Addr) (c d : Nat) (l k : List (BitVec 32)) (w : World) (h : (s != t) = true) :
    Calls Try.prog 28 #[.agg #[.bool s, .slice a l.length c], .agg #[.bool t, .slice b k.length d]] w fun e w' => e = .returned (.bool false) ∧ Below w.heap.size w w' := by
  have hb2 := Below.alloc (Below.alloc (Below.refl w.heap.size w) (Nat.le_refl _) (.cells #[Value.bool s, Value.slice a l.length c] 24)) (by simp) (.cells #[Value.bool t, Value.slice b k.length d] 24)
  cases s <;> cases t <;> first | exact absurd h (by decide) | skip
  all_goals
    go_enter Try.func28, Try.ntmps28
    go_wp2
    go_ret
    exact ⟨rfl, hb2⟩
theorem sint_ln (s t : Bool) (a b : Option Addr) (c d : Nat) (l k : List (BitVec 32)) (w : World) (h : s = t) (h2 : ((l.length : Int) != (k.length : Int)) = true) (h3 : (l.length != k.length) = true) :
    Calls Try.prog 28 #[.agg #[.bool s, .slice a l.length c], .agg #[.bool t, .slice b k.length d]] w fun e w' => e = .returned (.bool false) ∧ Below w.heap.size w w' := by
  subst h
  have ss : (s != s) = false := by cases s <;> rfl
  have hb2 := Below.alloc (Below.alloc (Below.refl w.heap.size w) (Nat.le_refl _) (.cells #[Value.bool s, Value.slice a l.length c] 24)) (by simp) (.cells #[Value.bool s, Value.slice b k.length d] 24)
  go_enter Try.func28, Try.ntmps28
  go_wp2
  go_ret
  exact ⟨rfl, hb2⟩
def SnR (l k : List (BitVec 32)) (w : World) (i : Value) (wr : World) : Prop := ∃ j : Nat, j ≤ l.length ∧ i = .int .i64 j ∧ Hid (l.take j = k.take j) ∧ ∃ n, wr = w.drewN n
set_option maxRecDepth 50000 in
theorem sint_el (s t : Bool) (a b : Option Addr) (c d : Nat) (l k : List (BitVec 32)) (w : World) (h : s = t) (hlen : k.length = l.length) (hlk : l ≠ k) (hl : l.length ≤ 1000000) (hr : Rw w a l) (hs : Rw w b k) :
    Calls Try.prog 28 #[.agg #[.bool s, .slice a l.length c], .agg #[.bool t, .slice b k.length d]] w fun e w' => e = .returned (.bool false) ∧ Below w.heap.size w w' := by
  subst h
  have ss : (s != s) = false := by cases s <;> rfl
  have hb1 := Below.alloc (Below.refl w.heap.size w) (Nat.le_refl _) (.cells #[Value.bool s, Value.slice a l.length c] 24)
  have hb2 := Below.alloc hb1 (by simp) (.cells #[Value.bool s, Value.slice b k.length d] 24)
  have hr2 := hr.below hb2
  have hs2 := hs.below hb2
  have HL := Lib.hid hlen
  have f1 : ((l.length : Int) != (k.length : Int)) = false := by rw [hlen]; simp
  have f2 : (l.length != k.length) = false := by rw [hlen]; simp
  clear hlen
  go_enter Try.func28, Try.ntmps28
  go_wp2
  go_loopw [5] (fun i wr => SnR l k ((w.alloc (.cells #[Value.bool s, Value.slice a l.length c] 24)).alloc (.cells #[Value.bool s, Value.slice b k.length d] 24)) i wr) (fun i _ => l.length - (intOf i).toNat)
  case atStart => exact ⟨0, Nat.zero_le _, rfl, Lib.hid (by simp), 0, rfl⟩
  case round =>
    obtain ⟨j, hj, rfl, hT, n, rfl⟩ := hrel
    by_cases hlt : j < l.length
    · have hltk : j < k.length := by rw [HL.out]; exact hlt
      obtain ⟨ad, rfl, hc⟩ := hr2 j hlt
      obtain ⟨bd, rfl, hd⟩ := hs2 j hltk
      obtain ⟨x, hx⟩ : ∃ x, l[j] = x := ⟨_, rfl⟩
      obtain ⟨y, hy⟩ : ∃ x, k[j] = x := ⟨_, rfl⟩
      rw [hx] at hc
      rw [hy] at hd
      have HX := Lib.hid hx
      have HY := Lib.hid hy
      clear hx hy
      by_cases hxy : x = y
      · subst hxy
        have hn : Hid (l.take (j + 1) = k.take (j + 1)) := Lib.hid (by rw [List.take_succ_eq_append_getElem hlt, List.take_succ_eq_append_getElem hltk, hT.out, HX.out, HY.out])
        clear hT HX HY
        go_wp2
        go_quiet (fail)
        go_wp2
        go_roundw
        case rel => exact ⟨j + 1, by omega, by go_num, hn, _, rfl⟩
        case measure => (simp [intOf]; try omega)
      · have g1 : ((x.toNat : Int) != (y.toNat : Int)) = true := by
          rw [bne_iff_ne]
          intro e
          exact hxy (BitVec.eq_of_toNat_eq (by omega))
        have g2 : ¬ x.toNat = y.toNat := fun e => hxy (BitVec.eq_of_toNat_eq e)
        have g3 : (x.toNat != y.toNat) = true := by rw [bne_iff_ne]; exact g2
        clear hT HX HY hxy
        go_wp2
        go_quiet (fail)
        go_wp2
        go_ret
        exact ⟨rfl, below_drewN (below_drewN hb2 _) _⟩
    · have e1 := hT.out
      have e2 := HL.out
      exact absurd (by rw [List.take_of_length_le (by omega), List.take_of_length_le (by omega)] at e1; exact e1) hlk
theorem sint_no (s t : Bool) (a b : Option Addr) (c d : Nat) (l k : List (BitVec 32)) (w : World) (hlk : ¬ (s = t ∧ l = k)) (hl : l.length ≤ 1000000) (hl2 : k.length ≤ 1000000) (hr : Rw w a l) (hs : Rw w b k) :
    Calls Try.prog 28 #[.agg #[.bool s, .slice a l.length c], .agg #[.bool t, .slice b k.length d]] w fun e w' => e = .returned (.bool false) ∧ Below w.heap.size w w' := by
  by_cases h : s = t
  · have hst := h
    by_cases hln : k.length = l.length
    · exact sint_el s t a b c d l k w hst hln (fun e => hlk ⟨h, e⟩) hl hr hs
    · exact sint_ln s t a b c d l k w hst (by rw [bne_iff_ne]; omega) (by rw [bne_iff_ne]; omega)
  · exact sint_sg s t a b c d l k w (by rw [bne_iff_ne]; exact h)
set_option maxRecDepth 50000 in
set_option maxHeartbeats 4000000 in
theorem same_no1 (s t s2 t2 : Bool) (a b a2 b2 : Option Addr) (c d c2 d2 : Nat) (l k l2 m2 : List (BitVec 32)) (w : World) (ha : Rw w a l) (hb : Rw w b k) (hu : Rw w a2 l2) (hv : Rw w b2 m2) (hS : ∀ W, Rw W a l → Rw W a2 l2 → Calls Try.prog 28 #[.agg #[.bool s, .slice a l.length c], .agg #[.bool s2, .slice a2 l2.length c2]] W fun e w' => e = .returned (.bool false) ∧ Below W.heap.size W w') :
    Calls Try.prog 14 #[.agg #[.bool s, .slice a l.length c, .bool t, .slice b k.length d], .agg #[.bool s2, .slice a2 l2.length c2, .bool t2, .slice b2 m2.length d2]] w fun e w' => e = .returned (.bool false) ∧ Below w.heap.size w w' := by
  have HS := Lib.hid hS
  clear hS
  go_enter Try.func14, Try.ntmps14
  go_wp2_with (go_at_call 28; go_loud ((with_reducible refine (HS.out _ (ha.below (by (with_reducible repeat' first | exact Below.refl _ _ | assumption | apply belA | apply Below.drew | apply below_drewN | refine belS ?_ (by first | omega | (simp; done) | (simp; omega))))) (hu.below (by (with_reducible repeat' first | exact Below.refl _ _ | assumption | apply belA | apply Below.drew | apply below_drewN | refine belS ?_ (by first | omega | (simp; done) | (simp; omega)))))).mono ?_); rintro e w1 ⟨rfl, hc1⟩; have E1 : Below w.heap.size w w1 := bel_step (by (with_reducible repeat' first | exact Below.refl _ _ | assumption | apply belA | apply Below.drew | apply below_drewN | refine belS ?_ (by first | omega | (simp; done) | (simp; omega)))) hc1; have P1_p : Bx w1 w.heap.size [.bool s, .slice a l.length c, .bool t, .slice b k.length d] := Bx.below (show Bx _ w.heap.size [.bool s, .slice a l.length c, .bool t, .slice b k.length d] from (by (with_reducible repeat' first | assumption | exact Bx.new _ _ _ | refine Bx.newAt _ _ _ (by simp; done) | apply Bx.dr | apply Bx.drN | apply Bx.al | refine Bx.st ?_ (by first | assumption | omega | (simp; done) | (simp; omega))))) hc1; have P1_q : Bx w1 (w.heap.size + 1) [.bool s2, .slice a2 l2.length c2, .bool t2, .slice b2 m2.length d2] := Bx.below (show Bx _ (w.heap.size + 1) [.bool s2, .slice a2 l2.length c2, .bool t2, .slice b2 m2.length d2] from (by (with_reducible repeat' first | assumption | exact Bx.new _ _ _ | refine Bx.newAt _ _ _ (by simp; done) | apply Bx.dr | apply Bx.drN | apply Bx.al | refine Bx.st ?_ (by first | assumption | omega | (simp; done) | (simp; omega))))) hc1; have ha1 := ha.below E1; have hb1 := hb.below E1; have hu1 := hu.below E1; have hv1 := hv.below E1; have hbw1 : Below w.heap.size w w1 := E1; have hz1 := hbw1.size; obtain ⟨⟨k1_p_0, g1_p_0⟩, ⟨k1_p_1, g1_p_1⟩, ⟨k1_p_2, g1_p_2⟩, ⟨k1_p_3, g1_p_3⟩, x1_p, y1_p, q1_p⟩ := id P1_p.x4; obtain ⟨⟨k1_q_0, g1_q_0⟩, ⟨k1_q_1, g1_q_1⟩, ⟨k1_q_2, g1_q_2⟩, ⟨k1_q_3, g1_q_3⟩, x1_q, y1_q, q1_q⟩ := id P1_q.x4; clear E1))
  go_ret
  exact ⟨rfl, by (with_reducible repeat' first | exact Below.refl _ _ | assumption | apply belA | apply Below.drew | apply below_drewN | refine belS ?_ (by first | omega | (simp; done) | (simp; omega)))⟩
set_option maxRecDepth 50000 in
set_option maxHeartbeats 4000000 in
theorem same_no2 (s t s2 t2 : Bool) (a b a2 b2 : Option Addr) (c d c2 d2 : Nat) (l k l2 m2 : List (BitVec 32)) (w : World) (ha : Rw w a l) (hb : Rw w b k) (hu : Rw w a2 l2) (hv : Rw w b2 m2) (hS : ∀ W, Rw W a l → Rw W a2 l2 → Calls Try.prog 28 #[.agg #[.bool s, .slice a l.length c], .agg #[.bool s2, .slice a2 l2.length c2]] W fun e w' => e = .returned (.bool true) ∧ Below W.heap.size W w') (hT : ∀ W, Rw W b k → Rw W b2 m2 → Calls Try.prog 28 #[.agg #[.bool t, .slice b k.length d], .agg #[.bool t2, .slice b2 m2.length d2]] W fun e w' => e = .returned (.bool false) ∧ Below W.heap.size W w') :
    Calls Try.prog 14 #[.agg #[.bool s, .slice a l.length c, .bool t, .slice b k.length d], .agg #[.bool s2, .slice a2 l2.length c2, .bool t2, .slice b2 m2.length d2]] w fun e w' => e = .returned (.bool false) ∧ Below w.heap.size w w' := by
  have HS := Lib.hid hS
  have HT := Lib.hid hT
  clear hS hT
  go_enter Try.func14, Try.ntmps14
  go_wp2_with (go_at_call 28; go_loud ((with_reducible refine (HS.out _ (ha.below (by (with_reducible repeat' first | exact Below.refl _ _ | assumption | apply belA | apply Below.drew | apply below_drewN | refine belS ?_ (by first | omega | (simp; done) | (simp; omega))))) (hu.below (by (with_reducible repeat' first | exact Below.refl _ _ | assumption | apply belA | apply Below.drew | apply below_drewN | refine belS ?_ (by first | omega | (simp; done) | (simp; omega)))))).mono ?_); rintro e w1 ⟨rfl, hc1⟩; have E1 : Below w.heap.size w w1 := bel_step (by (with_reducible repeat' first | exact Below.refl _ _ | assumption | apply belA | apply Below.drew | apply below_drewN | refine belS ?_ (by first | omega | (simp; done) | (simp; omega)))) hc1; have P1_p : Bx w1 w.heap.size [.bool s, .slice a l.length c, .bool t, .slice b k.length d] := Bx.below (show Bx _ w.heap.size [.bool s, .slice a l.length c, .bool t, .slice b k.length d] from (by (with_reducible repeat' first | assumption | exact Bx.new _ _ _ | refine Bx.newAt _ _ _ (by simp; done) | apply Bx.dr | apply Bx.drN | apply Bx.al | refine Bx.st ?_ (by first | assumption | omega | (simp; done) | (simp; omega))))) hc1; have P1_q : Bx w1 (w.heap.size + 1) [.bool s2, .slice a2 l2.length c2, .bool t2, .slice b2 m2.length d2] := Bx.below (show Bx _ (w.heap.size + 1) [.bool s2, .slice a2 l2.length c2, .bool t2, .slice b2 m2.length d2] from (by (with_reducible repeat' first | assumption | exact Bx.new _ _ _ | refine Bx.newAt _ _ _ (by simp; done) | apply Bx.dr | apply Bx.drN | apply Bx.al | refine Bx.st ?_ (by first | assumption | omega | (simp; done) | (simp; omega))))) hc1; have ha1 := ha.below E1; have hb1 := hb.below E1; have hu1 := hu.below E1; have hv1 := hv.below E1; have hbw1 : Below w.heap.size w w1 := E1; have hz1 := hbw1.size; obtain ⟨⟨k1_p_0, g1_p_0⟩, ⟨k1_p_1, g1_p_1⟩, ⟨k1_p_2, g1_p_2⟩, ⟨k1_p_3, g1_p_3⟩, x1_p, y1_p, q1_p⟩ := id P1_p.x4; obtain ⟨⟨k1_q_0, g1_q_0⟩, ⟨k1_q_1, g1_q_1⟩, ⟨k1_q_2, g1_q_2⟩, ⟨k1_q_3, g1_q_3⟩, x1_q, y1_q, q1_q⟩ := id P1_q.x4; clear E1))
  go_wp2_with (go_at_call 28; go_loud ((with_reducible refine (HT.out _ (hb1.below (by (with_reducible repeat' first | exact Below.refl _ _ | assumption | apply belA | apply Below.drew | apply below_drewN | refine belS ?_ (by first | omega | (simp; done) | (simp; omega))))) (hv1.below (by (with_reducible repeat' first | exact Below.refl _ _ | assumption | apply belA | apply Below.drew | apply below_drewN | refine belS ?_ (by first | omega | (simp; done) | (simp; omega)))))).mono ?_); rintro e w2 ⟨rfl, hc2⟩; have E2 : Below w1.heap.size w1 w2 := bel_step (by (with_reducible repeat' first | exact Below.refl _ _ | assumption | apply belA | apply Below.drew | apply below_drewN | refine belS ?_ (by first | omega | (simp; done) | (simp; omega)))) hc2; have P2_p := P1_p.below E2; have P2_q := P1_q.below E2; have ha2 := ha1.below E2; have hb2 := hb1.below E2; have hu2 := hu1.below E2; have hv2 := hv1.below E2; have hbw2 : Below w.heap.size w w2 := bel_step hbw1 E2; have hz2 := hbw2.size; obtain ⟨⟨k2_p_0, g2_p_0⟩, ⟨k2_p_1, g2_p_1⟩, ⟨k2_p_2, g2_p_2⟩, ⟨k2_p_3, g2_p_3⟩, x2_p, y2_p, q2_p⟩ := id P2_p.x4; obtain ⟨⟨k2_q_0, g2_q_0⟩, ⟨k2_q_1, g2_q_1⟩, ⟨k2_q_2, g2_q_2⟩, ⟨k2_q_3, g2_q_3⟩, x2_q, y2_q, q2_q⟩ := id P2_q.x4; clear P1_p k1_p_0 g1_p_0 k1_p_1 g1_p_1 k1_p_2 g1_p_2 k1_p_3 g1_p_3 x1_p y1_p q1_p P1_q k1_q_0 g1_q_0 k1_q_1 g1_q_1 k1_q_2 g1_q_2 k1_q_3 g1_q_3 x1_q y1_q q1_q ha1 hb1 hu1 hv1 E2))
  go_ret
  exact ⟨rfl, by (with_reducible repeat' first | exact Below.refl _ _ | assumption | apply belA | apply Below.drew | apply below_drewN | refine belS ?_ (by first | omega | (simp; done) | (simp; omega)))⟩
theorem q_ext {p q : Rat} (h1 : qS p = qS q) (h2 : qX p = qX q) (h3 : qY p = qY q) : p = q := by
  rw [← Qv_of p, ← Qv_of q, h1, h2, h3]
theorem same_q (p q : Rat) (a b a2 b2 : Option Addr) (c d c2 d2 : Nat) (w : World) (h1 : Sz p 1000000) (h2 : Sz q 1000000) (ha : Rw w a (qX p)) (hb : Rw w b (qY p)) (hu : Rw w a2 (qX q)) (hv : Rw w b2 (qY q)) :
    Calls Try.prog 14 #[.agg #[.bool (qS p), .slice a (qX p).length c, .bool false, .slice b (qY p).length d], .agg #[.bool (qS q), .slice a2 (qX q).length c2, .bool false, .slice b2 (qY q).length d2]] w fun e w' => e = .returned (.bool (decide (p = q))) ∧ Below w.heap.size w w' := by
  obtain ⟨l1, l2⟩ := sz_len h1
  obtain ⟨l3, l4⟩ := sz_len h2
  by_cases h : p = q
  · subst h
    rw [decide_eq_true rfl]
    exact srat_yes (qS p) false a b a2 b2 c d c2 d2 _ _ w l1 l2 ha hb hu hv
  · rw [decide_eq_false h]
    by_cases hn : qS p = qS q ∧ qX p = qX q
    · refine same_no2 (qS p) false (qS q) false a b a2 b2 c d c2 d2 _ _ _ _ w ha hb hu hv (fun W p' q' => ?_) (fun W p' q' => sint_no _ _ b b2 d d2 _ _ W (fun e => h (q_ext hn.1 hn.2 e.2)) l2 l4 p' q')
      rw [← hn.1]
      rw [← hn.2] at q' ⊢
      exact sint_yes (qS p) a a2 _ c c2 (qX p) W rfl l1 p' q'
    · exact same_no1 (qS p) false (qS q) false a b a2 b2 c d c2 d2 _ _ _ _ w ha hb hu hv (fun W p' q' => sint_no _ _ a a2 c c2 _ _ W hn l1 l3 p' q')
end Go.Proofs.Ytcofiekfhnfjpaa
