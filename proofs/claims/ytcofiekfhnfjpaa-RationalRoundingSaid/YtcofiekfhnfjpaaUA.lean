
import Derived.Test.YtcofiekfhnfjpaaU4
import Derived.Test.YtcofiekfhnfjpaaU5
import Derived.StillTailTactics
import Derived.Below
import Derived.OneCell
import Derived.Deep.RegionHeld3
/- Z1 -/
namespace Go.Proofs.Ytcofiekfhnfjpaa
open Go.RowKit
set_option linter.unusedVariables false
set_option linter.unusedSimpArgs false
attribute [local go_sem ↓] Go.wp_at_zero Go.wp_at_succ
/-- The integer with a sign and a magnitude. -/
def zv (s : Bool) (K : Nat) : Int := if s then -(K : Int) else K
theorem zv_abs (s : Bool) (K : Nat) : (zv s K).natAbs = K := by cases s <;> simp [zv]
theorem zv_neg (s : Bool) (K : Nat) : decide (zv s K < 0) = (s && decide (0 < K)) := by cases s <;> simp [zv] <;> omega
theorem zv_of (z : Int) : zv (decide (z < 0)) z.natAbs = z := by
  by_cases h : z < 0
  · rw [show decide (z < 0) = true by simpa using h]; simp [zv]; omega
  · rw [show decide (z < 0) = false by simpa using h]; simp [zv]; omega
theorem zv_canon (z : Int) : zv (decide (z < 0)) (valD (canon z.natAbs)) = z := by rw [valD_canon]; exact zv_of z
theorem zv_not (s : Bool) (K : Nat) : zv (!s) K = -(zv s K) := by cases s <;> simp [zv]
theorem zv_add (s : Bool) (K L : Nat) : zv s (K + L) = zv s K + zv s L := by cases s <;> simp [zv] <;> omega
theorem zv_sub (s t : Bool) (K L : Nat) (hst : s ≠ t) (h : L ≤ K) : zv s (K - L) = zv s K + zv t L := by cases s <;> cases t <;> simp_all [zv] <;> omega
theorem zv_mul (s t : Bool) (K L : Nat) : zv (s != t) (K * L) = zv s K * zv t L := by cases s <;> cases t <;> simp [zv, Int.neg_mul, Int.mul_neg]
theorem zv_zero (s : Bool) : zv s 0 = 0 := by cases s <;> rfl
theorem zv_eq_zero {s : Bool} {K : Nat} : zv s K = 0 ↔ K = 0 := by cases s <;> simp [zv]
/-- An integer is answered: its sign, and its digits in a row of its own. -/
def FrZ (w : World) (z : Int) (e : Ending) (w' : World) : Prop := ∃ a c, e = .returned (.agg #[.bool (decide (z < 0)), .slice a (canon z.natAbs).length c]) ∧ w'.ownsRow w.heap.size 49 1 (.slice a (canon z.natAbs).length c) (canon z.natAbs).length (bv32 (canon z.natAbs)) ∧ Below w.heap.size w w'
theorem FrZ.eq {w w' : World} {y z : Int} {e : Ending} (h : FrZ w y e w') (hz : y = z) : FrZ w z e w' := hz ▸ h
theorem FrZ.mk' {w w' : World} {s : Bool} {K : Nat} {a : Option Addr} {c : Nat} {L : List (BitVec 32)} (hL : canon K = L) (σ : Bool) (hs : (s && decide (0 < K)) = σ) (ho : w'.ownsRow w.heap.size 49 1 (.slice a L.length c) L.length (bv32 L)) (hb : Below w.heap.size w w') : FrZ w (zv s K) (.returned (.agg #[.bool σ, .slice a L.length c])) w' := by
  subst hL hs
  refine ⟨a, c, ?_, ?_, hb⟩
  · rw [zv_abs, zv_neg]
  · rw [zv_abs]; exact ho
/- the same reads, whatever box is written -/
theorem own_set_other {w : World} {base : Nat} {e : TypeId} {a : Option Addr} {n c : Nat} {xs : List Value} (h : w.ownsRow base e 1 (.slice a n c) n xs) {b : Nat} (hb : b < base) (o : Nat) (v : Value) : (w.setCell ⟨b, o, none⟩ v).ownsRow base e 1 (.slice a n c) n xs := ownsRow_setCell_below h hb v
theorem znew_any (s : Bool) (a : Option Addr) (n c : Nat) (l : List (BitVec 32)) (w : World) (hn : l.length = n) (hc : n ≤ c) (hl : n ≤ 1000000) (hr : Rw w a l) :
    Calls Try.prog 76 #[.bool s, .slice a n c] w (FrZ w (zv s (valD l))) := by
  subst hn
  have hnc := canon_val l
  have hb0 := Below.alloc (Below.refl w.heap.size w) (Nat.le_refl _) (.cells #[Value.bool false, Value.slice none 0 0] 24)
  rcases Nat.eq_zero_or_pos (valD l) with h0 | h0
  · have hz : (canon (valD l)).length = 0 := canon_len_zero.2 h0
    rw [hnc] at hz
    have hv : Hid (canon (valD l) = trimD l ∧ (s && decide (0 < valD l)) = false) := ⟨hnc, by rw [h0]; simp⟩
    have HT := Lib.hid hz
    have hnz : decide (0 < (trimD l).length) = false := by rw [hz]; rfl
    have hnz2 : decide ((0 : Int) < ((trimD l).length : Int)) = false := by rw [hz]; rfl
    clear hz
    clear hnc h0
    cases s
    · go_enter Try.func76, Try.ntmps76
      go_wp2_with (go_at_call 81; (with_reducible refine (nnorm_any a _ c l _ rfl hc hl (hr.below hb0)).mono ?_); rintro e w1 ⟨a1, c1, rfl, hown1, hb1⟩; have k1_r_0 : w1.cell? ⟨w.heap.size, 0, none⟩ = some (.bool false) := bca hb1; have g1_r_0 : w1.frozen? ⟨w.heap.size, 0, none⟩ = false := bfa hb1 (v := .bool false); have k1_r_1 : w1.cell? ⟨w.heap.size, 1, none⟩ = some (.slice none 0 0) := bca hb1; have g1_r_1 : w1.frozen? ⟨w.heap.size, 1, none⟩ = false := bfa hb1 (v := .slice none 0 0); have x1_r : ¬ w.heap.size = w1.heap.size := qne k1_r_0; have y1_r : ¬ w1.heap.size = w.heap.size := fun h => qne k1_r_0 h.symm; have q1_r : w.heap.size < w1.heap.size := qlt k1_r_0; have hbw := hb0.trans (hb1.mono hb0.size); clear hb1 hr)
      refine bodyPost_ret (v := .agg #[.bool false, .slice a1 (trimD l).length c1]) (by simp [results, Try.results76, go_sem, *]) rfl ?_
      exact FrZ.mk' hv.out.1 _ hv.out.2 (own_mono (own_set_other (own_set_other hown1 (by simp) 0 _) (by simp) 1 _) (by simp)) ((hbw.setCell (Nat.le_refl _) _).setCell (Nat.le_refl _) _)
    · go_enter Try.func76, Try.ntmps76
      go_wp2_with (go_at_call 81; (with_reducible refine (nnorm_any a _ c l _ rfl hc hl (hr.below hb0)).mono ?_); rintro e w1 ⟨a1, c1, rfl, hown1, hb1⟩; have k1_r_0 : w1.cell? ⟨w.heap.size, 0, none⟩ = some (.bool false) := bca hb1; have g1_r_0 : w1.frozen? ⟨w.heap.size, 0, none⟩ = false := bfa hb1 (v := .bool false); have k1_r_1 : w1.cell? ⟨w.heap.size, 1, none⟩ = some (.slice none 0 0) := bca hb1; have g1_r_1 : w1.frozen? ⟨w.heap.size, 1, none⟩ = false := bfa hb1 (v := .slice none 0 0); have x1_r : ¬ w.heap.size = w1.heap.size := qne k1_r_0; have y1_r : ¬ w1.heap.size = w.heap.size := fun h => qne k1_r_0 h.symm; have q1_r : w.heap.size < w1.heap.size := qlt k1_r_0; have hbw := hb0.trans (hb1.mono hb0.size); clear hb1 hr)
      refine bodyPost_ret (v := .agg #[.bool false, .slice a1 (trimD l).length c1]) (by simp [results, Try.results76, go_sem, *]) rfl ?_
      exact FrZ.mk' hv.out.1 _ hv.out.2 (own_mono (own_set_other (own_set_other hown1 (by simp) 0 _) (by simp) 1 _) (by simp)) ((hbw.setCell (Nat.le_refl _) _).setCell (Nat.le_refl _) _)
  · have hz : 0 < (canon (valD l)).length := canon_len_pos h0
    rw [hnc] at hz
    have hv : Hid (canon (valD l) = trimD l ∧ (s && decide (0 < valD l)) = s) := ⟨hnc, by simp [h0]⟩
    clear hnc h0
    cases s
    · go_enter Try.func76, Try.ntmps76
      go_wp2_with (go_at_call 81; (with_reducible refine (nnorm_any a _ c l _ rfl hc hl (hr.below hb0)).mono ?_); rintro e w1 ⟨a1, c1, rfl, hown1, hb1⟩; have k1_r_0 : w1.cell? ⟨w.heap.size, 0, none⟩ = some (.bool false) := bca hb1; have g1_r_0 : w1.frozen? ⟨w.heap.size, 0, none⟩ = false := bfa hb1 (v := .bool false); have k1_r_1 : w1.cell? ⟨w.heap.size, 1, none⟩ = some (.slice none 0 0) := bca hb1; have g1_r_1 : w1.frozen? ⟨w.heap.size, 1, none⟩ = false := bfa hb1 (v := .slice none 0 0); have x1_r : ¬ w.heap.size = w1.heap.size := qne k1_r_0; have y1_r : ¬ w1.heap.size = w.heap.size := fun h => qne k1_r_0 h.symm; have q1_r : w.heap.size < w1.heap.size := qlt k1_r_0; have hbw := hb0.trans (hb1.mono hb0.size); clear hb1 hr)
      refine bodyPost_ret (v := .agg #[.bool false, .slice a1 (trimD l).length c1]) (by simp [results, Try.results76, go_sem, *]) rfl ?_
      exact FrZ.mk' hv.out.1 _ hv.out.2 (own_mono (own_set_other (own_set_other hown1 (by simp) 0 _) (by simp) 1 _) (by simp)) ((hbw.setCell (Nat.le_refl _) _).setCell (Nat.le_refl _) _)
    · go_enter Try.func76, Try.ntmps76
      go_wp2_with (go_at_call 81; (with_reducible refine (nnorm_any a _ c l _ rfl hc hl (hr.below hb0)).mono ?_); rintro e w1 ⟨a1, c1, rfl, hown1, hb1⟩; have k1_r_0 : w1.cell? ⟨w.heap.size, 0, none⟩ = some (.bool false) := bca hb1; have g1_r_0 : w1.frozen? ⟨w.heap.size, 0, none⟩ = false := bfa hb1 (v := .bool false); have k1_r_1 : w1.cell? ⟨w.heap.size, 1, none⟩ = some (.slice none 0 0) := bca hb1; have g1_r_1 : w1.frozen? ⟨w.heap.size, 1, none⟩ = false := bfa hb1 (v := .slice none 0 0); have x1_r : ¬ w.heap.size = w1.heap.size := qne k1_r_0; have y1_r : ¬ w1.heap.size = w.heap.size := fun h => qne k1_r_0 h.symm; have q1_r : w.heap.size < w1.heap.size := qlt k1_r_0; have hbw := hb0.trans (hb1.mono hb0.size); clear hb1 hr)
      refine bodyPost_ret (v := .agg #[.bool true, .slice a1 (trimD l).length c1]) (by simp [results, Try.results76, go_sem, *]) rfl ?_
      exact FrZ.mk' hv.out.1 _ hv.out.2 (own_mono (own_set_other (own_set_other hown1 (by simp) 0 _) (by simp) 1 _) (by simp)) ((hbw.setCell (Nat.le_refl _) _).setCell (Nat.le_refl _) _)
theorem zfrom_any (v : Int) (h0 : -9223372036854775808 ≤ v) (h1 : v ≤ 9223372036854775807) (w : World) :
    Calls Try.prog 54 #[.int .i64 v] w (FrZ w v) := by
  have hb0 := Below.alloc (Below.refl w.heap.size w) (Nat.le_refl _) (.cells #[Value.bool false, Value.slice none 0 0] 24)
  obtain ⟨n, hn⟩ : ∃ n, v.natAbs = n := ⟨_, rfl⟩
  have HN : Hid (n < 18446744073709551616) := by show _ < _; omega
  by_cases h : v < 0
  · have hw1 : IntKind.u64.wrap (-IntKind.u64.wrap v) = n := by rw [IntKind.wrap_u64, IntKind.wrap_u64]; omega
    have h5 : decide (v < 0) = true := by rw [decide_eq_true_iff]; exact h
    have hz : Hid (v = zv true n ∧ (true && decide (0 < n)) = true) := ⟨by simp [zv]; omega, by simp; omega⟩
    clear hn h0 h1
    go_enter Try.func54, Try.ntmps54
    go_wp2_with (go_at_call 83; (with_reducible refine (nfrom_any n HN.out _).mono ?_); rintro e w1 ⟨a1, c1, rfl, hown1, hb1⟩; have k1_r_0 : w1.cell? ⟨w.heap.size, 0, none⟩ = some (.bool false) := bca hb1; have g1_r_0 : w1.frozen? ⟨w.heap.size, 0, none⟩ = false := bfa hb1 (v := .bool false); have k1_r_1 : w1.cell? ⟨w.heap.size, 1, none⟩ = some (.slice none 0 0) := bca hb1; have g1_r_1 : w1.frozen? ⟨w.heap.size, 1, none⟩ = false := bfa hb1 (v := .slice none 0 0); have x1_r : ¬ w.heap.size = w1.heap.size := qne k1_r_0; have y1_r : ¬ w1.heap.size = w.heap.size := fun h => qne k1_r_0 h.symm; have q1_r : w.heap.size < w1.heap.size := qlt k1_r_0; have hbw := hb0.trans (hb1.mono hb0.size); clear hb1)
    refine bodyPost_ret (v := .agg #[.bool true, .slice a1 (canon n).length c1]) (by simp [results, Try.results54, go_sem, *]) rfl ?_
    rw [hz.out.1]
    exact FrZ.mk' rfl _ hz.out.2 (own_mono (own_set_other (own_set_other hown1 (by simp) 0 _) (by simp) 1 _) (by simp)) ((hbw.setCell (Nat.le_refl _) _).setCell (Nat.le_refl _) _)
  · have hw1 : IntKind.u64.wrap v = n := by rw [IntKind.wrap_u64]; omega
    have h5 : decide (v < 0) = false := by rw [decide_eq_false_iff_not]; exact h
    have hz : Hid (v = zv false n ∧ (false && decide (0 < n)) = false) := ⟨by simp [zv]; omega, rfl⟩
    clear hn h0 h1
    go_enter Try.func54, Try.ntmps54
    go_wp2_with (go_at_call 83; (with_reducible refine (nfrom_any n HN.out _).mono ?_); rintro e w1 ⟨a1, c1, rfl, hown1, hb1⟩; have k1_r_0 : w1.cell? ⟨w.heap.size, 0, none⟩ = some (.bool false) := bca hb1; have g1_r_0 : w1.frozen? ⟨w.heap.size, 0, none⟩ = false := bfa hb1 (v := .bool false); have k1_r_1 : w1.cell? ⟨w.heap.size, 1, none⟩ = some (.slice none 0 0) := bca hb1; have g1_r_1 : w1.frozen? ⟨w.heap.size, 1, none⟩ = false := bfa hb1 (v := .slice none 0 0); have x1_r : ¬ w.heap.size = w1.heap.size := qne k1_r_0; have y1_r : ¬ w1.heap.size = w.heap.size := fun h => qne k1_r_0 h.symm; have q1_r : w.heap.size < w1.heap.size := qlt k1_r_0; have hbw := hb0.trans (hb1.mono hb0.size); clear hb1)
    refine bodyPost_ret (v := .agg #[.bool false, .slice a1 (canon n).length c1]) (by simp [results, Try.results54, go_sem, *]) rfl ?_
    rw [hz.out.1]
    exact FrZ.mk' rfl _ hz.out.2 (own_mono (own_set_other (own_set_other hown1 (by simp) 0 _) (by simp) 1 _) (by simp)) ((hbw.setCell (Nat.le_refl _) _).setCell (Nat.le_refl _) _)
theorem zneg_any (s : Bool) (a : Option Addr) (n c : Nat) (l : List (BitVec 32)) (w : World) (hn : l.length = n) (hc : n ≤ c) (hl : n ≤ 1000000) (hr : Rw w a l) :
    Calls Try.prog 57 #[.agg #[.bool s, .slice a n c]] w (FrZ w (-(zv s (valD l)))) := by
  subst hn
  have hb0 := (Below.alloc (Below.refl w.heap.size w) (Nat.le_refl _) (.cells #[Value.bool s, Value.slice a l.length c] 24)).alloc (by simp) (.cells #[Value.bool false, Value.slice none 0 0] 24)
  go_enter Try.func57, Try.ntmps57
  go_wp2_with (go_at_call 76; (with_reducible refine (znew_any (!s) a _ c l _ rfl hc hl (hr.below hb0)).mono ?_); rintro e w1 ⟨a1, c1, rfl, hown1, hb1⟩; have k1_r_0 : w1.cell? ⟨(w.heap.size + 1), 0, none⟩ = some (.bool false) := bca hb1; have g1_r_0 : w1.frozen? ⟨(w.heap.size + 1), 0, none⟩ = false := bfa hb1 (v := .bool false); have k1_r_1 : w1.cell? ⟨(w.heap.size + 1), 1, none⟩ = some (.slice none 0 0) := bca hb1; have g1_r_1 : w1.frozen? ⟨(w.heap.size + 1), 1, none⟩ = false := bfa hb1 (v := .slice none 0 0); have x1_r : ¬ (w.heap.size + 1) = w1.heap.size := qne k1_r_0; have y1_r : ¬ w1.heap.size = (w.heap.size + 1) := fun h => qne k1_r_0 h.symm; have q1_r : (w.heap.size + 1) < w1.heap.size := qlt k1_r_0; have hbw := hb0.trans (hb1.mono hb0.size); clear hb1 hr)
  refine bodyPost_ret (v := .agg #[.bool (decide (zv (!s) (valD l) < 0)), .slice a1 (canon (zv (!s) (valD l)).natAbs).length c1]) (by simp [results, Try.results57, go_sem, *]) rfl ?_
  rw [← zv_not]
  exact ⟨a1, c1, rfl, own_mono (own_set_other (own_set_other hown1 (by simp) 0 _) (by simp) 1 _) (by simp; omega), (hbw.setCell (by simp) _).setCell (by simp) _⟩
end Go.Proofs.Ytcofiekfhnfjpaa

/- Z2 -/
namespace Go.Proofs.Ytcofiekfhnfjpaa
open Go.RowKit
set_option linter.unusedVariables false
set_option linter.unusedSimpArgs false
attribute [local go_sem ↓] Go.wp_at_zero Go.wp_at_succ
theorem negif_any (s : Bool) (w : World) :
    Calls Try.prog 100 #[.bool s] w fun e w' => e = .returned (.func (.func 116) #[] #[.pointer (some ⟨w.heap.size, 0, none⟩)]) ∧ w'.cell? ⟨w.heap.size, 0, none⟩ = some (.bool s) ∧ Below w.heap.size w w' := by
  go_enter Try.func100, Try.ntmps100
  go_wp2
  go_ret
  exact ⟨rfl, by go_simp, Below.alloc (Below.refl _ _) (Nat.le_refl _) _⟩
theorem negif1_any (s : Bool) (b : Nat) (a : Option Addr) (n c : Nat) (l : List (BitVec 32)) (w : World) (hn : l.length = n) (hc : n ≤ c) (hl : n ≤ 1000000) (hr : Rw w a l) (hs : w.cell? ⟨b, 0, none⟩ = some (.bool s)) :
    Calls Try.prog 116 #[.slice a n c, .pointer (some ⟨b, 0, none⟩)] w (FrZ w (zv s (valD l))) := by
  subst hn
  have hne : ¬ b = w.heap.size := qne hs
  have hne2 : ¬ w.heap.size = b := fun h => qne hs h.symm
  have hb0 := Below.alloc (Below.refl w.heap.size w) (Nat.le_refl _) (.cells #[Value.bool false, Value.slice none 0 0] 24)
  have hs0 := bcs hb0 hs
  go_enter Try.func116, Try.ntmps116
  go_wp2_with (go_at_call 76; (with_reducible refine (znew_any s a _ c l _ rfl hc hl (hr.below hb0)).mono ?_); rintro e w1 ⟨a1, c1, rfl, hown1, hb1⟩; have k1_r_0 : w1.cell? ⟨w.heap.size, 0, none⟩ = some (.bool false) := bca hb1; have g1_r_0 : w1.frozen? ⟨w.heap.size, 0, none⟩ = false := bfa hb1 (v := .bool false); have k1_r_1 : w1.cell? ⟨w.heap.size, 1, none⟩ = some (.slice none 0 0) := bca hb1; have g1_r_1 : w1.frozen? ⟨w.heap.size, 1, none⟩ = false := bfa hb1 (v := .slice none 0 0); have x1_r : ¬ w.heap.size = w1.heap.size := qne k1_r_0; have y1_r : ¬ w1.heap.size = w.heap.size := fun h => qne k1_r_0 h.symm; have q1_r : w.heap.size < w1.heap.size := qlt k1_r_0; have hbw := hb0.trans (hb1.mono hb0.size); clear hb1 hr)
  refine bodyPost_ret (v := .agg #[.bool (decide (zv s (valD l) < 0)), .slice a1 (canon (zv s (valD l)).natAbs).length c1]) (by simp [results, Try.results116, go_sem, *]) rfl ?_
  exact ⟨a1, c1, rfl, own_mono (own_set_other (own_set_other hown1 (by simp) 0 _) (by simp) 1 _) (by simp), (hbw.setCell (Nat.le_refl _) _).setCell (Nat.le_refl _) _⟩
set_option maxRecDepth 50000 in
theorem zmul_any (s t : Bool) (a b : Option Addr) (n c m d : Nat) (l k : List (BitVec 32)) (w : World) (hn : l.length = n) (hm : k.length = m) (hc : n ≤ c) (hd : m ≤ d) (hl : n ≤ 400000) (hl2 : m ≤ 400000) (hr : Rw w a l) (hs : Rw w b k) :
    Calls Try.prog 67 #[.agg #[.bool s, .slice a n c], .agg #[.bool t, .slice b m d]] w (FrZ w (zv s (valD l) * zv t (valD k))) := by
  have hfit : (canon (valD l * valD k)).length ≤ 1000000 := by
    rw [canon_len_le]
    refine Nat.lt_of_lt_of_le (Nat.mul_lt_mul_of_lt_of_lt (valD_lt l) (valD_lt k)) ?_
    rw [← pw_add]
    exact pw_mono (by omega)
  subst hn hm
  obtain ⟨T, hT⟩ := ex_canon (valD l * valD k)
  have hTv : Hid (valD T = valD l * valD k) := by show _ = _; rw [← hT.out, valD_canon]
  rw [hT.out] at hfit
  have hb1 := Below.alloc (Below.refl w.heap.size w) (Nat.le_refl _) (.cells #[Value.bool s, Value.slice a l.length c] 24)
  have hb2 := Below.alloc hb1 (by simp) (.cells #[Value.bool t, Value.slice b k.length d] 24)
  have hb3 := Below.alloc hb2 (by simp; omega) (.cells #[Value.bool false, Value.slice none 0 0] 24)
  have hb4 := hb3.drew
  have hz4 := hb4.size
  go_enter Try.func67, Try.ntmps67
  go_wp2
  go_region_held3 (fun w' => w'.cell? ⟨w.heap.size, 0, none⟩ = some (.bool s) ∧ w'.cell? ⟨w.heap.size, 1, none⟩ = some (.slice a l.length c) ∧ w'.cell? ⟨(w.heap.size + 1), 0, none⟩ = some (.bool t) ∧ w'.cell? ⟨(w.heap.size + 1), 1, none⟩ = some (.slice b k.length d)) (first | exact ⟨k3_p_0, k3_p_1, k3_q_0, k3_q_1⟩ | exact ⟨k2_p_0, k2_p_1, k2_q_0, k2_q_1⟩ | exact ⟨k1_p_0, k1_p_1, k1_q_0, k1_q_1⟩ | (refine ⟨?_, ?_, ?_, ?_⟩ <;> go_simp)) ((first
    | (go_at_call 100; (with_reducible refine (negif_any (!(s == t)) _).mono ?_); rintro e w1 ⟨rfl, hk1', hc1⟩; have hk1 : w1.cell? ⟨w.heap.size + 1 + 1 + 1, 0, none⟩ = some (.bool (!(s == t))) := (by first | (simpa [World.drew] using hk1') | (have h := hk1'; simp [World.drew, World.alloc] at h ⊢; exact h)); clear hk1'; have k1_p_0 : w1.cell? ⟨w.heap.size, 0, none⟩ = some (.bool s) := bca hc1; have g1_p_0 : w1.frozen? ⟨w.heap.size, 0, none⟩ = false := bfa hc1 (v := .bool s); have k1_p_1 : w1.cell? ⟨w.heap.size, 1, none⟩ = some (.slice a l.length c) := bca hc1; have g1_p_1 : w1.frozen? ⟨w.heap.size, 1, none⟩ = false := bfa hc1 (v := .slice a l.length c); have x1_p : ¬ w.heap.size = w1.heap.size := qne k1_p_0; have y1_p : ¬ w1.heap.size = w.heap.size := fun h => qne k1_p_0 h.symm; have q1_p : w.heap.size < w1.heap.size := qlt k1_p_0; have k1_q_0 : w1.cell? ⟨(w.heap.size + 1), 0, none⟩ = some (.bool t) := bca hc1; have g1_q_0 : w1.frozen? ⟨(w.heap.size + 1), 0, none⟩ = false := bfa hc1 (v := .bool t); have k1_q_1 : w1.cell? ⟨(w.heap.size + 1), 1, none⟩ = some (.slice b k.length d) := bca hc1; have g1_q_1 : w1.frozen? ⟨(w.heap.size + 1), 1, none⟩ = false := bfa hc1 (v := .slice b k.length d); have x1_q : ¬ (w.heap.size + 1) = w1.heap.size := qne k1_q_0; have y1_q : ¬ w1.heap.size = (w.heap.size + 1) := fun h => qne k1_q_0 h.symm; have q1_q : (w.heap.size + 1) < w1.heap.size := qlt k1_q_0; have k1_r_0 : w1.cell? ⟨(w.heap.size + 1 + 1), 0, none⟩ = some (.bool false) := bca hc1; have g1_r_0 : w1.frozen? ⟨(w.heap.size + 1 + 1), 0, none⟩ = false := bfa hc1 (v := .bool false); have k1_r_1 : w1.cell? ⟨(w.heap.size + 1 + 1), 1, none⟩ = some (.slice none 0 0) := bca hc1; have g1_r_1 : w1.frozen? ⟨(w.heap.size + 1 + 1), 1, none⟩ = false := bfa hc1 (v := .slice none 0 0); have x1_r : ¬ (w.heap.size + 1 + 1) = w1.heap.size := qne k1_r_0; have y1_r : ¬ w1.heap.size = (w.heap.size + 1 + 1) := fun h => qne k1_r_0 h.symm; have q1_r : (w.heap.size + 1 + 1) < w1.heap.size := qlt k1_r_0; have hbw1 := hb4.trans (hc1.mono hz4); have hz1 := hbw1.size; clear hc1)
    | (go_at_call 101; (with_reducible refine (nmul_any a b _ c _ d l k _ rfl rfl hc hd (by omega) (by omega) (hr.below hbw1) (hs.below hbw1)).mono ?_); rintro e w2 ⟨a2, c2, rfl, hca2, hr2, hc2⟩; have k2_p_0 : w2.cell? ⟨w.heap.size, 0, none⟩ = some (.bool s) := bca hc2; have g2_p_0 : w2.frozen? ⟨w.heap.size, 0, none⟩ = false := bfa hc2 (v := .bool s); have k2_p_1 : w2.cell? ⟨w.heap.size, 1, none⟩ = some (.slice a l.length c) := bca hc2; have g2_p_1 : w2.frozen? ⟨w.heap.size, 1, none⟩ = false := bfa hc2 (v := .slice a l.length c); have x2_p : ¬ w.heap.size = w2.heap.size := qne k2_p_0; have y2_p : ¬ w2.heap.size = w.heap.size := fun h => qne k2_p_0 h.symm; have q2_p : w.heap.size < w2.heap.size := qlt k2_p_0; have k2_q_0 : w2.cell? ⟨(w.heap.size + 1), 0, none⟩ = some (.bool t) := bca hc2; have g2_q_0 : w2.frozen? ⟨(w.heap.size + 1), 0, none⟩ = false := bfa hc2 (v := .bool t); have k2_q_1 : w2.cell? ⟨(w.heap.size + 1), 1, none⟩ = some (.slice b k.length d) := bca hc2; have g2_q_1 : w2.frozen? ⟨(w.heap.size + 1), 1, none⟩ = false := bfa hc2 (v := .slice b k.length d); have x2_q : ¬ (w.heap.size + 1) = w2.heap.size := qne k2_q_0; have y2_q : ¬ w2.heap.size = (w.heap.size + 1) := fun h => qne k2_q_0 h.symm; have q2_q : (w.heap.size + 1) < w2.heap.size := qlt k2_q_0; have k2_r_0 : w2.cell? ⟨(w.heap.size + 1 + 1), 0, none⟩ = some (.bool false) := bca hc2; have g2_r_0 : w2.frozen? ⟨(w.heap.size + 1 + 1), 0, none⟩ = false := bfa hc2 (v := .bool false); have k2_r_1 : w2.cell? ⟨(w.heap.size + 1 + 1), 1, none⟩ = some (.slice none 0 0) := bca hc2; have g2_r_1 : w2.frozen? ⟨(w.heap.size + 1 + 1), 1, none⟩ = false := bfa hc2 (v := .slice none 0 0); have x2_r : ¬ (w.heap.size + 1 + 1) = w2.heap.size := qne k2_r_0; have y2_r : ¬ w2.heap.size = (w.heap.size + 1 + 1) := fun h => qne k2_r_0 h.symm; have q2_r : (w.heap.size + 1 + 1) < w2.heap.size := qlt k2_r_0; have hk2 := bcs hc2 hk1; have hbw2 := hbw1.trans (hc2.mono hz1); have hz2 := hbw2.size; have hr2' := hr2.1; clear hc2 hr2; rw [hT.out] at hr2' hca2; rw [hT.out])
    | (go_at_call 116; (with_reducible refine (negif1_any (!(s == t)) _ a2 _ c2 T _ rfl hca2 hfit hr2' hk2).mono ?_); rintro e w3 ⟨a3, c3, rfl, hr3, hc3⟩; have k3_p_0 : w3.cell? ⟨w.heap.size, 0, none⟩ = some (.bool s) := bca hc3; have g3_p_0 : w3.frozen? ⟨w.heap.size, 0, none⟩ = false := bfa hc3 (v := .bool s); have k3_p_1 : w3.cell? ⟨w.heap.size, 1, none⟩ = some (.slice a l.length c) := bca hc3; have g3_p_1 : w3.frozen? ⟨w.heap.size, 1, none⟩ = false := bfa hc3 (v := .slice a l.length c); have x3_p : ¬ w.heap.size = w3.heap.size := qne k3_p_0; have y3_p : ¬ w3.heap.size = w.heap.size := fun h => qne k3_p_0 h.symm; have q3_p : w.heap.size < w3.heap.size := qlt k3_p_0; have k3_q_0 : w3.cell? ⟨(w.heap.size + 1), 0, none⟩ = some (.bool t) := bca hc3; have g3_q_0 : w3.frozen? ⟨(w.heap.size + 1), 0, none⟩ = false := bfa hc3 (v := .bool t); have k3_q_1 : w3.cell? ⟨(w.heap.size + 1), 1, none⟩ = some (.slice b k.length d) := bca hc3; have g3_q_1 : w3.frozen? ⟨(w.heap.size + 1), 1, none⟩ = false := bfa hc3 (v := .slice b k.length d); have x3_q : ¬ (w.heap.size + 1) = w3.heap.size := qne k3_q_0; have y3_q : ¬ w3.heap.size = (w.heap.size + 1) := fun h => qne k3_q_0 h.symm; have q3_q : (w.heap.size + 1) < w3.heap.size := qlt k3_q_0; have k3_r_0 : w3.cell? ⟨(w.heap.size + 1 + 1), 0, none⟩ = some (.bool false) := bca hc3; have g3_r_0 : w3.frozen? ⟨(w.heap.size + 1 + 1), 0, none⟩ = false := bfa hc3 (v := .bool false); have k3_r_1 : w3.cell? ⟨(w.heap.size + 1 + 1), 1, none⟩ = some (.slice none 0 0) := bca hc3; have g3_r_1 : w3.frozen? ⟨(w.heap.size + 1 + 1), 1, none⟩ = false := bfa hc3 (v := .slice none 0 0); have x3_r : ¬ (w.heap.size + 1 + 1) = w3.heap.size := qne k3_r_0; have y3_r : ¬ w3.heap.size = (w.heap.size + 1 + 1) := fun h => qne k3_r_0 h.symm; have q3_r : (w.heap.size + 1 + 1) < w3.heap.size := qlt k3_r_0; have hbw3 := hbw2.trans (hc3.mono hz2))
    ))
  go_wp2
  refine bodyPost_ret (v := .agg #[.bool (decide (zv (!(s == t)) (valD T) < 0)), .slice a3 (canon (zv (!(s == t)) (valD T)).natAbs).length c3]) (by simp [results, Try.results67, go_sem, *]) rfl ?_
  have hz : zv (!(s == t)) (valD T) = zv s (valD l) * zv t (valD k) := by rw [hTv.out]; exact zv_mul s t _ _
  rw [← hz]
  exact ⟨a3, c3, rfl, own_mono (own_set_other (own_set_other hr3 (by omega) 0 _) (by omega) 1 _) hbw2.size, (hbw3.setCell (by simp; omega) _).setCell (by simp; omega) _⟩
theorem zdif_any (s t : Bool) (hst : s ≠ t) (p q : Nat) (a b : Option Addr) (n c m d : Nat) (l k : List (BitVec 32)) (w : World) (hn : l.length = n) (hm : k.length = m) (hc : n ≤ c) (hd : m ≤ d) (hl : n ≤ 1000000) (hl2 : m ≤ 1000000) (hr : Rw w a l) (hs : Rw w b k) (hp : w.cell? ⟨p, 0, none⟩ = some (.bool s)) (hq : w.cell? ⟨q, 0, none⟩ = some (.bool t)) :
    Calls Try.prog 99 #[.slice a n c, .slice b m d, .func (.func 116) #[] #[.pointer (some ⟨p, 0, none⟩)], .func (.func 116) #[] #[.pointer (some ⟨q, 0, none⟩)]] w (FrZ w (zv s (valD l) + zv t (valD k))) := by
  have fl : (canon (valD l)).length ≤ 1000000 := by rw [canon_val]; exact Nat.le_trans (trim_len_le l) (by omega)
  have fk : (canon (valD k)).length ≤ 1000000 := by rw [canon_val]; exact Nat.le_trans (trim_len_le k) (by omega)
  have fD : ∀ x y : Nat, (canon x).length ≤ 1000000 → (canon (x - y)).length ≤ 1000000 := fun x y h => by
    rw [canon_len_le] at h ⊢; omega
  subst hn hm
  have hb0 := Below.alloc (Below.refl w.heap.size w) (Nat.le_refl _) (.cells #[Value.bool false, Value.slice none 0 0] 24)
  have hz0 := hb0.size
  have hra := hr.below hb0
  have hsa := hs.below hb0
  have hp0 := bcs hb0 hp
  have hq0 := bcs hb0 hq
  rcases Nat.lt_or_ge (valD l) (valD k) with h | h
  · have hge : valD l ≤ valD k := by omega
    obtain ⟨T, hT⟩ := ex_canon (valD k - valD l)
    have hTl : T.length ≤ 1000000 := by rw [← hT.out]; exact fD _ _ fk
    have hTv : Hid (zv t (valD T) = zv s (valD l) + zv t (valD k)) := by
      show _ = _; rw [← hT.out, valD_canon, zv_sub t s _ _ (Ne.symm hst) hge]; omega
    have HG := Lib.hid hge
    have HL := Lib.hid h
    clear h hge hst
    go_enter Try.func99, Try.ntmps99
    go_wp2_with (first
      | (go_at_call 90; (with_reducible refine (nsub_head a b _ c _ d l k _ rfl rfl hc hd hl hl2 hra hsa HL.out).mono ?_); rintro e w1 ⟨rfl, hc1⟩; have k1_r_0 : w1.cell? ⟨w.heap.size, 0, none⟩ = some (.bool false) := bca hc1; have g1_r_0 : w1.frozen? ⟨w.heap.size, 0, none⟩ = false := bfa hc1 (v := .bool false); have k1_r_1 : w1.cell? ⟨w.heap.size, 1, none⟩ = some (.slice none 0 0) := bca hc1; have g1_r_1 : w1.frozen? ⟨w.heap.size, 1, none⟩ = false := bfa hc1 (v := .slice none 0 0); have x1_r : ¬ w.heap.size = w1.heap.size := qne k1_r_0; have y1_r : ¬ w1.heap.size = w.heap.size := fun h => qne k1_r_0 h.symm; have q1_r : w.heap.size < w1.heap.size := qlt k1_r_0; have hr1 := hra.below hc1; have hs1 := hsa.below hc1; have hq1 := bcs hc1 hq0; have hbw1 := hb0.trans (hc1.mono hz0); have hz1 := hbw1.size; clear hc1)
      | (go_at_call 90; (with_reducible refine (nsub_any b a _ d _ c k l _ rfl rfl hd hc hl2 hl hs1 hr1 HG.out).mono ?_); rintro e w2 ⟨a2, c2, rfl, hca2, hr2, hc2⟩; have k2_r_0 : w2.cell? ⟨w.heap.size, 0, none⟩ = some (.bool false) := bca hc2; have g2_r_0 : w2.frozen? ⟨w.heap.size, 0, none⟩ = false := bfa hc2 (v := .bool false); have k2_r_1 : w2.cell? ⟨w.heap.size, 1, none⟩ = some (.slice none 0 0) := bca hc2; have g2_r_1 : w2.frozen? ⟨w.heap.size, 1, none⟩ = false := bfa hc2 (v := .slice none 0 0); have x2_r : ¬ w.heap.size = w2.heap.size := qne k2_r_0; have y2_r : ¬ w2.heap.size = w.heap.size := fun h => qne k2_r_0 h.symm; have q2_r : w.heap.size < w2.heap.size := qlt k2_r_0; have hq2 := bcs hc2 hq1; have hbw2 := hbw1.trans (hc2.mono hz1); have hz2 := hbw2.size; have hr2' := hr2.1; clear hc2 hr2; rw [hT.out] at hr2' hca2; rw [hT.out])
      | (go_at_call 116; (with_reducible refine (negif1_any t q a2 _ c2 T _ rfl hca2 hTl hr2' hq2).mono ?_); rintro e w3 ⟨a3, c3, rfl, hr3, hc3⟩; have k3_r_0 : w3.cell? ⟨w.heap.size, 0, none⟩ = some (.bool false) := bca hc3; have g3_r_0 : w3.frozen? ⟨w.heap.size, 0, none⟩ = false := bfa hc3 (v := .bool false); have k3_r_1 : w3.cell? ⟨w.heap.size, 1, none⟩ = some (.slice none 0 0) := bca hc3; have g3_r_1 : w3.frozen? ⟨w.heap.size, 1, none⟩ = false := bfa hc3 (v := .slice none 0 0); have x3_r : ¬ w.heap.size = w3.heap.size := qne k3_r_0; have y3_r : ¬ w3.heap.size = w.heap.size := fun h => qne k3_r_0 h.symm; have q3_r : w.heap.size < w3.heap.size := qlt k3_r_0; have hbw3 := hbw2.trans (hc3.mono hz2)))
    refine bodyPost_ret (v := .agg #[.bool (decide (zv t (valD T) < 0)), .slice a3 (canon (zv t (valD T)).natAbs).length c3]) (by simp [results, Try.results99, go_sem, *]) rfl ?_
    rw [← hTv.out]
    exact ⟨a3, c3, rfl, own_mono (own_set_other (own_set_other hr3 (by omega) 0 _) (by omega) 1 _) hbw2.size, (hbw3.setCell (by simp) _).setCell (by simp) _⟩
  · obtain ⟨T, hT⟩ := ex_canon (valD l - valD k)
    have hTl : T.length ≤ 1000000 := by rw [← hT.out]; exact fD _ _ fl
    have hTv : Hid (zv s (valD T) = zv s (valD l) + zv t (valD k)) := by
      show _ = _; rw [← hT.out, valD_canon, zv_sub s t _ _ hst h]
    have HG := Lib.hid h
    clear h hst
    go_enter Try.func99, Try.ntmps99
    go_wp2_with (first
      | (go_at_call 90; (with_reducible refine (nsub_any a b _ c _ d l k _ rfl rfl hc hd hl hl2 hra hsa HG.out).mono ?_); rintro e w2 ⟨a2, c2, rfl, hca2, hr2, hc2⟩; have k2_r_0 : w2.cell? ⟨w.heap.size, 0, none⟩ = some (.bool false) := bca hc2; have g2_r_0 : w2.frozen? ⟨w.heap.size, 0, none⟩ = false := bfa hc2 (v := .bool false); have k2_r_1 : w2.cell? ⟨w.heap.size, 1, none⟩ = some (.slice none 0 0) := bca hc2; have g2_r_1 : w2.frozen? ⟨w.heap.size, 1, none⟩ = false := bfa hc2 (v := .slice none 0 0); have x2_r : ¬ w.heap.size = w2.heap.size := qne k2_r_0; have y2_r : ¬ w2.heap.size = w.heap.size := fun h => qne k2_r_0 h.symm; have q2_r : w.heap.size < w2.heap.size := qlt k2_r_0; have hp2 := bcs hc2 hp0; have hbw2 := hb0.trans (hc2.mono hz0); have hz2 := hbw2.size; have hr2' := hr2.1; clear hc2 hr2; rw [hT.out] at hr2' hca2; rw [hT.out])
      | (go_at_call 116; (with_reducible refine (negif1_any s p a2 _ c2 T _ rfl hca2 hTl hr2' hp2).mono ?_); rintro e w3 ⟨a3, c3, rfl, hr3, hc3⟩; have k3_r_0 : w3.cell? ⟨w.heap.size, 0, none⟩ = some (.bool false) := bca hc3; have g3_r_0 : w3.frozen? ⟨w.heap.size, 0, none⟩ = false := bfa hc3 (v := .bool false); have k3_r_1 : w3.cell? ⟨w.heap.size, 1, none⟩ = some (.slice none 0 0) := bca hc3; have g3_r_1 : w3.frozen? ⟨w.heap.size, 1, none⟩ = false := bfa hc3 (v := .slice none 0 0); have x3_r : ¬ w.heap.size = w3.heap.size := qne k3_r_0; have y3_r : ¬ w3.heap.size = w.heap.size := fun h => qne k3_r_0 h.symm; have q3_r : w.heap.size < w3.heap.size := qlt k3_r_0; have hbw3 := hbw2.trans (hc3.mono hz2)))
    refine bodyPost_ret (v := .agg #[.bool (decide (zv s (valD T) < 0)), .slice a3 (canon (zv s (valD T)).natAbs).length c3]) (by simp [results, Try.results99, go_sem, *]) rfl ?_
    rw [← hTv.out]
    exact ⟨a3, c3, rfl, own_mono (own_set_other (own_set_other hr3 (by omega) 0 _) (by omega) 1 _) hbw2.size, (hbw3.setCell (by simp) _).setCell (by simp) _⟩
end Go.Proofs.Ytcofiekfhnfjpaa

/- Z3 -/
namespace Go.Proofs.Ytcofiekfhnfjpaa
open Go.RowKit
set_option linter.unusedVariables false
set_option linter.unusedSimpArgs false
attribute [local go_sem ↓] Go.wp_at_zero Go.wp_at_succ
set_option maxRecDepth 50000 in
theorem zadd_any (s t : Bool) (a b : Option Addr) (n c m d : Nat) (l k : List (BitVec 32)) (w : World) (hn : l.length = n) (hm : k.length = m) (hc : n ≤ c) (hd : m ≤ d) (hl : n ≤ 400000) (hl2 : m ≤ 400000) (hr : Rw w a l) (hs : Rw w b k) :
    Calls Try.prog 66 #[.agg #[.bool s, .slice a n c], .agg #[.bool t, .slice b m d]] w (FrZ w (zv s (valD l) + zv t (valD k))) := by
  subst hn hm
  by_cases hst : s = t
  · subst hst
    have hfit : (canon (valD l + valD k)).length ≤ 1000000 := by
      rw [canon_len_le]
      have e1 := valD_lt l
      have e2 := valD_lt k
      have e3 := pw_mono (show l.length ≤ 400000 by omega)
      have e4 := pw_mono (show k.length ≤ 400000 by omega)
      have e5 := pw_mono (show 400000 + 1 ≤ 1000000 by omega)
      rw [pw_succ] at e5
      omega
    obtain ⟨T, hT⟩ := ex_canon (valD l + valD k)
    have hTv : Hid (zv s (valD T) = zv s (valD l) + zv s (valD k)) := by show _ = _; rw [← hT.out, valD_canon, zv_add]
    rw [hT.out] at hfit
    have hb1 := Below.alloc (Below.refl w.heap.size w) (Nat.le_refl _) (.cells #[Value.bool s, Value.slice a l.length c] 24)
    have hb2 := Below.alloc hb1 (by simp) (.cells #[Value.bool s, Value.slice b k.length d] 24)
    have hb3 := Below.alloc hb2 (by simp; omega) (.cells #[Value.bool false, Value.slice none 0 0] 24)
    have hb4 := hb3.drew
    have hz4 := hb4.size
    go_enter Try.func66, Try.ntmps66
    go_wp2
    go_region_held3 (fun w' => w'.cell? ⟨w.heap.size, 0, none⟩ = some (.bool s) ∧ w'.cell? ⟨w.heap.size, 1, none⟩ = some (.slice a l.length c) ∧ w'.cell? ⟨(w.heap.size + 1), 0, none⟩ = some (.bool s) ∧ w'.cell? ⟨(w.heap.size + 1), 1, none⟩ = some (.slice b k.length d)) (first | exact ⟨k3_p_0, k3_p_1, k3_q_0, k3_q_1⟩ | exact ⟨k2_p_0, k2_p_1, k2_q_0, k2_q_1⟩ | exact ⟨k1_p_0, k1_p_1, k1_q_0, k1_q_1⟩ | (refine ⟨?_, ?_, ?_, ?_⟩ <;> go_simp)) ((first
      | (go_at_call 89; (with_reducible refine (nadd_any a b _ c _ d l k _ rfl rfl hc hd (by omega) (by omega) (hr.below hb4) (hs.below hb4)).mono ?_); rintro e w2 ⟨a2, c2, rfl, hca2, hr2, hc2⟩; have k2_p_0 : w2.cell? ⟨w.heap.size, 0, none⟩ = some (.bool s) := bca hc2; have g2_p_0 : w2.frozen? ⟨w.heap.size, 0, none⟩ = false := bfa hc2 (v := .bool s); have k2_p_1 : w2.cell? ⟨w.heap.size, 1, none⟩ = some (.slice a l.length c) := bca hc2; have g2_p_1 : w2.frozen? ⟨w.heap.size, 1, none⟩ = false := bfa hc2 (v := .slice a l.length c); have x2_p : ¬ w.heap.size = w2.heap.size := qne k2_p_0; have y2_p : ¬ w2.heap.size = w.heap.size := fun h => qne k2_p_0 h.symm; have q2_p : w.heap.size < w2.heap.size := qlt k2_p_0; have k2_q_0 : w2.cell? ⟨(w.heap.size + 1), 0, none⟩ = some (.bool s) := bca hc2; have g2_q_0 : w2.frozen? ⟨(w.heap.size + 1), 0, none⟩ = false := bfa hc2 (v := .bool s); have k2_q_1 : w2.cell? ⟨(w.heap.size + 1), 1, none⟩ = some (.slice b k.length d) := bca hc2; have g2_q_1 : w2.frozen? ⟨(w.heap.size + 1), 1, none⟩ = false := bfa hc2 (v := .slice b k.length d); have x2_q : ¬ (w.heap.size + 1) = w2.heap.size := qne k2_q_0; have y2_q : ¬ w2.heap.size = (w.heap.size + 1) := fun h => qne k2_q_0 h.symm; have q2_q : (w.heap.size + 1) < w2.heap.size := qlt k2_q_0; have k2_r_0 : w2.cell? ⟨(w.heap.size + 1 + 1), 0, none⟩ = some (.bool false) := bca hc2; have g2_r_0 : w2.frozen? ⟨(w.heap.size + 1 + 1), 0, none⟩ = false := bfa hc2 (v := .bool false); have k2_r_1 : w2.cell? ⟨(w.heap.size + 1 + 1), 1, none⟩ = some (.slice none 0 0) := bca hc2; have g2_r_1 : w2.frozen? ⟨(w.heap.size + 1 + 1), 1, none⟩ = false := bfa hc2 (v := .slice none 0 0); have x2_r : ¬ (w.heap.size + 1 + 1) = w2.heap.size := qne k2_r_0; have y2_r : ¬ w2.heap.size = (w.heap.size + 1 + 1) := fun h => qne k2_r_0 h.symm; have q2_r : (w.heap.size + 1 + 1) < w2.heap.size := qlt k2_r_0; have hbw2 := hb4.trans (hc2.mono hz4); have hz2 := hbw2.size; have hr2' := hr2.1; clear hc2 hr2; rw [hT.out] at hr2' hca2; rw [hT.out])
      | (go_at_call 76; (with_reducible refine (znew_any s a2 _ c2 T _ rfl hca2 hfit hr2').mono ?_); rintro e w3 ⟨a3, c3, rfl, hr3, hc3⟩; have k3_p_0 : w3.cell? ⟨w.heap.size, 0, none⟩ = some (.bool s) := bca hc3; have g3_p_0 : w3.frozen? ⟨w.heap.size, 0, none⟩ = false := bfa hc3 (v := .bool s); have k3_p_1 : w3.cell? ⟨w.heap.size, 1, none⟩ = some (.slice a l.length c) := bca hc3; have g3_p_1 : w3.frozen? ⟨w.heap.size, 1, none⟩ = false := bfa hc3 (v := .slice a l.length c); have x3_p : ¬ w.heap.size = w3.heap.size := qne k3_p_0; have y3_p : ¬ w3.heap.size = w.heap.size := fun h => qne k3_p_0 h.symm; have q3_p : w.heap.size < w3.heap.size := qlt k3_p_0; have k3_q_0 : w3.cell? ⟨(w.heap.size + 1), 0, none⟩ = some (.bool s) := bca hc3; have g3_q_0 : w3.frozen? ⟨(w.heap.size + 1), 0, none⟩ = false := bfa hc3 (v := .bool s); have k3_q_1 : w3.cell? ⟨(w.heap.size + 1), 1, none⟩ = some (.slice b k.length d) := bca hc3; have g3_q_1 : w3.frozen? ⟨(w.heap.size + 1), 1, none⟩ = false := bfa hc3 (v := .slice b k.length d); have x3_q : ¬ (w.heap.size + 1) = w3.heap.size := qne k3_q_0; have y3_q : ¬ w3.heap.size = (w.heap.size + 1) := fun h => qne k3_q_0 h.symm; have q3_q : (w.heap.size + 1) < w3.heap.size := qlt k3_q_0; have k3_r_0 : w3.cell? ⟨(w.heap.size + 1 + 1), 0, none⟩ = some (.bool false) := bca hc3; have g3_r_0 : w3.frozen? ⟨(w.heap.size + 1 + 1), 0, none⟩ = false := bfa hc3 (v := .bool false); have k3_r_1 : w3.cell? ⟨(w.heap.size + 1 + 1), 1, none⟩ = some (.slice none 0 0) := bca hc3; have g3_r_1 : w3.frozen? ⟨(w.heap.size + 1 + 1), 1, none⟩ = false := bfa hc3 (v := .slice none 0 0); have x3_r : ¬ (w.heap.size + 1 + 1) = w3.heap.size := qne k3_r_0; have y3_r : ¬ w3.heap.size = (w.heap.size + 1 + 1) := fun h => qne k3_r_0 h.symm; have q3_r : (w.heap.size + 1 + 1) < w3.heap.size := qlt k3_r_0; have hbw3 := hbw2.trans (hc3.mono hz2))
      ))
    go_wp2
    refine bodyPost_ret (v := .agg #[.bool (decide (zv s (valD T) < 0)), .slice a3 (canon (zv s (valD T)).natAbs).length c3]) (by simp [results, Try.results66, go_sem, *]) rfl ?_
    rw [← hTv.out]
    exact ⟨a3, c3, rfl, own_mono (own_set_other (own_set_other hr3 (by omega) 0 _) (by omega) 1 _) hbw2.size, (hbw3.setCell (by simp; omega) _).setCell (by simp; omega) _⟩
  · have hne : (s == t) = false := by rw [beq_eq_false_iff_ne]; exact hst
    have hb1 := Below.alloc (Below.refl w.heap.size w) (Nat.le_refl _) (.cells #[Value.bool s, Value.slice a l.length c] 24)
    have hb2 := Below.alloc hb1 (by simp) (.cells #[Value.bool t, Value.slice b k.length d] 24)
    have hb3 := Below.alloc hb2 (by simp; omega) (.cells #[Value.bool false, Value.slice none 0 0] 24)
    have hb4 := hb3.drew
    have hz4 := hb4.size
    go_enter Try.func66, Try.ntmps66
    go_wp2
    go_region_held3 (fun w' => w'.cell? ⟨w.heap.size, 0, none⟩ = some (.bool s) ∧ w'.cell? ⟨w.heap.size, 1, none⟩ = some (.slice a l.length c) ∧ w'.cell? ⟨(w.heap.size + 1), 0, none⟩ = some (.bool t) ∧ w'.cell? ⟨(w.heap.size + 1), 1, none⟩ = some (.slice b k.length d)) (first | exact ⟨k3_p_0, k3_p_1, k3_q_0, k3_q_1⟩ | exact ⟨k2_p_0, k2_p_1, k2_q_0, k2_q_1⟩ | exact ⟨k1_p_0, k1_p_1, k1_q_0, k1_q_1⟩ | (refine ⟨?_, ?_, ?_, ?_⟩ <;> go_simp)) ((first
      | (go_at_call 100; (with_reducible refine (negif_any s _).mono ?_); rintro e w1 ⟨rfl, hk1', hc1⟩; have hk1 : w1.cell? ⟨w.heap.size + 1 + 1 + 1, 0, none⟩ = some (.bool s) := (by first | (simpa [World.drew] using hk1') | (have h := hk1'; simp [World.drew, World.alloc] at h ⊢; exact h)); clear hk1'; have k1_p_0 : w1.cell? ⟨w.heap.size, 0, none⟩ = some (.bool s) := bca hc1; have g1_p_0 : w1.frozen? ⟨w.heap.size, 0, none⟩ = false := bfa hc1 (v := .bool s); have k1_p_1 : w1.cell? ⟨w.heap.size, 1, none⟩ = some (.slice a l.length c) := bca hc1; have g1_p_1 : w1.frozen? ⟨w.heap.size, 1, none⟩ = false := bfa hc1 (v := .slice a l.length c); have x1_p : ¬ w.heap.size = w1.heap.size := qne k1_p_0; have y1_p : ¬ w1.heap.size = w.heap.size := fun h => qne k1_p_0 h.symm; have q1_p : w.heap.size < w1.heap.size := qlt k1_p_0; have k1_q_0 : w1.cell? ⟨(w.heap.size + 1), 0, none⟩ = some (.bool t) := bca hc1; have g1_q_0 : w1.frozen? ⟨(w.heap.size + 1), 0, none⟩ = false := bfa hc1 (v := .bool t); have k1_q_1 : w1.cell? ⟨(w.heap.size + 1), 1, none⟩ = some (.slice b k.length d) := bca hc1; have g1_q_1 : w1.frozen? ⟨(w.heap.size + 1), 1, none⟩ = false := bfa hc1 (v := .slice b k.length d); have x1_q : ¬ (w.heap.size + 1) = w1.heap.size := qne k1_q_0; have y1_q : ¬ w1.heap.size = (w.heap.size + 1) := fun h => qne k1_q_0 h.symm; have q1_q : (w.heap.size + 1) < w1.heap.size := qlt k1_q_0; have k1_r_0 : w1.cell? ⟨(w.heap.size + 1 + 1), 0, none⟩ = some (.bool false) := bca hc1; have g1_r_0 : w1.frozen? ⟨(w.heap.size + 1 + 1), 0, none⟩ = false := bfa hc1 (v := .bool false); have k1_r_1 : w1.cell? ⟨(w.heap.size + 1 + 1), 1, none⟩ = some (.slice none 0 0) := bca hc1; have g1_r_1 : w1.frozen? ⟨(w.heap.size + 1 + 1), 1, none⟩ = false := bfa hc1 (v := .slice none 0 0); have x1_r : ¬ (w.heap.size + 1 + 1) = w1.heap.size := qne k1_r_0; have y1_r : ¬ w1.heap.size = (w.heap.size + 1 + 1) := fun h => qne k1_r_0 h.symm; have q1_r : (w.heap.size + 1 + 1) < w1.heap.size := qlt k1_r_0; have hbw1 := hb4.trans (hc1.mono hz4); have hz1 := hbw1.size; clear hc1)
      | (go_at_call 100; (with_reducible refine (negif_any t _).mono ?_); rintro e w2 ⟨rfl, hk2, hc2⟩; have hk1b := bcs hc2 hk1; have k2_p_0 : w2.cell? ⟨w.heap.size, 0, none⟩ = some (.bool s) := bca hc2; have g2_p_0 : w2.frozen? ⟨w.heap.size, 0, none⟩ = false := bfa hc2 (v := .bool s); have k2_p_1 : w2.cell? ⟨w.heap.size, 1, none⟩ = some (.slice a l.length c) := bca hc2; have g2_p_1 : w2.frozen? ⟨w.heap.size, 1, none⟩ = false := bfa hc2 (v := .slice a l.length c); have x2_p : ¬ w.heap.size = w2.heap.size := qne k2_p_0; have y2_p : ¬ w2.heap.size = w.heap.size := fun h => qne k2_p_0 h.symm; have q2_p : w.heap.size < w2.heap.size := qlt k2_p_0; have k2_q_0 : w2.cell? ⟨(w.heap.size + 1), 0, none⟩ = some (.bool t) := bca hc2; have g2_q_0 : w2.frozen? ⟨(w.heap.size + 1), 0, none⟩ = false := bfa hc2 (v := .bool t); have k2_q_1 : w2.cell? ⟨(w.heap.size + 1), 1, none⟩ = some (.slice b k.length d) := bca hc2; have g2_q_1 : w2.frozen? ⟨(w.heap.size + 1), 1, none⟩ = false := bfa hc2 (v := .slice b k.length d); have x2_q : ¬ (w.heap.size + 1) = w2.heap.size := qne k2_q_0; have y2_q : ¬ w2.heap.size = (w.heap.size + 1) := fun h => qne k2_q_0 h.symm; have q2_q : (w.heap.size + 1) < w2.heap.size := qlt k2_q_0; have k2_r_0 : w2.cell? ⟨(w.heap.size + 1 + 1), 0, none⟩ = some (.bool false) := bca hc2; have g2_r_0 : w2.frozen? ⟨(w.heap.size + 1 + 1), 0, none⟩ = false := bfa hc2 (v := .bool false); have k2_r_1 : w2.cell? ⟨(w.heap.size + 1 + 1), 1, none⟩ = some (.slice none 0 0) := bca hc2; have g2_r_1 : w2.frozen? ⟨(w.heap.size + 1 + 1), 1, none⟩ = false := bfa hc2 (v := .slice none 0 0); have x2_r : ¬ (w.heap.size + 1 + 1) = w2.heap.size := qne k2_r_0; have y2_r : ¬ w2.heap.size = (w.heap.size + 1 + 1) := fun h => qne k2_r_0 h.symm; have q2_r : (w.heap.size + 1 + 1) < w2.heap.size := qlt k2_r_0; have hbw2 := hbw1.trans (hc2.mono hz1); have hz2 := hbw2.size; clear hc2)
      | (go_at_call 99; (with_reducible refine (zdif_any s t hst _ _ a b _ c _ d l k _ rfl rfl hc hd (by omega) (by omega) (hr.below hbw2) (hs.below hbw2) hk1b hk2).mono ?_); rintro e w3 ⟨a3, c3, rfl, hr3, hc3⟩; have k3_p_0 : w3.cell? ⟨w.heap.size, 0, none⟩ = some (.bool s) := bca hc3; have g3_p_0 : w3.frozen? ⟨w.heap.size, 0, none⟩ = false := bfa hc3 (v := .bool s); have k3_p_1 : w3.cell? ⟨w.heap.size, 1, none⟩ = some (.slice a l.length c) := bca hc3; have g3_p_1 : w3.frozen? ⟨w.heap.size, 1, none⟩ = false := bfa hc3 (v := .slice a l.length c); have x3_p : ¬ w.heap.size = w3.heap.size := qne k3_p_0; have y3_p : ¬ w3.heap.size = w.heap.size := fun h => qne k3_p_0 h.symm; have q3_p : w.heap.size < w3.heap.size := qlt k3_p_0; have k3_q_0 : w3.cell? ⟨(w.heap.size + 1), 0, none⟩ = some (.bool t) := bca hc3; have g3_q_0 : w3.frozen? ⟨(w.heap.size + 1), 0, none⟩ = false := bfa hc3 (v := .bool t); have k3_q_1 : w3.cell? ⟨(w.heap.size + 1), 1, none⟩ = some (.slice b k.length d) := bca hc3; have g3_q_1 : w3.frozen? ⟨(w.heap.size + 1), 1, none⟩ = false := bfa hc3 (v := .slice b k.length d); have x3_q : ¬ (w.heap.size + 1) = w3.heap.size := qne k3_q_0; have y3_q : ¬ w3.heap.size = (w.heap.size + 1) := fun h => qne k3_q_0 h.symm; have q3_q : (w.heap.size + 1) < w3.heap.size := qlt k3_q_0; have k3_r_0 : w3.cell? ⟨(w.heap.size + 1 + 1), 0, none⟩ = some (.bool false) := bca hc3; have g3_r_0 : w3.frozen? ⟨(w.heap.size + 1 + 1), 0, none⟩ = false := bfa hc3 (v := .bool false); have k3_r_1 : w3.cell? ⟨(w.heap.size + 1 + 1), 1, none⟩ = some (.slice none 0 0) := bca hc3; have g3_r_1 : w3.frozen? ⟨(w.heap.size + 1 + 1), 1, none⟩ = false := bfa hc3 (v := .slice none 0 0); have x3_r : ¬ (w.heap.size + 1 + 1) = w3.heap.size := qne k3_r_0; have y3_r : ¬ w3.heap.size = (w.heap.size + 1 + 1) := fun h => qne k3_r_0 h.symm; have q3_r : (w.heap.size + 1 + 1) < w3.heap.size := qlt k3_r_0; have hbw3 := hbw2.trans (hc3.mono hz2))
      ))
    go_wp2
    refine bodyPost_ret (v := .agg #[.bool (decide (zv s (valD l) + zv t (valD k) < 0)), .slice a3 (canon (zv s (valD l) + zv t (valD k)).natAbs).length c3]) (by simp [results, Try.results66, go_sem, *]) rfl ?_
    exact ⟨a3, c3, rfl, own_mono (own_set_other (own_set_other hr3 (by omega) 0 _) (by omega) 1 _) hbw2.size, (hbw3.setCell (by simp; omega) _).setCell (by simp; omega) _⟩
end Go.Proofs.Ytcofiekfhnfjpaa

/- Z4 -/
namespace Go.Proofs.Ytcofiekfhnfjpaa
open Go.RowKit
set_option linter.unusedVariables false
set_option linter.unusedSimpArgs false
attribute [local go_sem ↓] Go.wp_at_zero Go.wp_at_succ
/-- The reference's answer: an integer, its digits above all that was there. -/
def FrQ (w : World) (z : Int) (e : Ending) (w' : World) : Prop := ∃ a c, e = .returned (.agg #[.bool (decide (z < 0)), .slice a (canon z.natAbs).length c]) ∧ RwF w.heap.size w' a (canon z.natAbs) ∧ Below w.heap.size w w'
theorem FrI.q {w w' : World} {s σ : Bool} {K : Nat} {e : Ending} (h : FrI w σ K e w') (hσ : σ = (s && decide (0 < K))) : FrQ w (zv s K) e w' := by
  subst hσ
  obtain ⟨a, c, h1, h2, h3⟩ := h
  exact ⟨a, c, by rw [zv_abs, zv_neg]; exact h1, by rw [zv_abs]; exact h2, h3⟩
theorem FrQ.eq {w w' : World} {y z : Int} {e : Ending} (h : FrQ w y e w') (hz : y = z) : FrQ w z e w' := hz ▸ h
theorem qnew_any (s : Bool) (a : Option Addr) (n c : Nat) (l : List (BitVec 32)) (w : World) (hn : l.length = n) (hl : n ≤ 1000000) (hr : Rw w a l) :
    Calls Try.prog 77 #[.bool s, .slice a n c] w (FrQ w (zv s (valD l))) := (inew_any s a n c l w hn (by omega) hr).mono fun _ _ h => h.q rfl
theorem qfrom_any (v : Int) (h0 : -9223372036854775808 ≤ v) (h1 : v ≤ 9223372036854775807) (w : World) :
    Calls Try.prog 55 #[.int .i64 v] w (FrQ w v) := (ifrom_any v h0 h1 w).mono fun _ _ ⟨a, c, e1, e2, e3⟩ => ⟨a, c, e1, e2, e3⟩
theorem sgV_sign (s : Bool) (K : Nat) : sgV s K = (zv s K).sign := by
  unfold sgV zv
  rcases Nat.eq_zero_or_pos K with h | h
  · subst h; cases s <;> rfl
  · cases s
    · rw [if_neg (by omega)]; exact (Int.sign_eq_one_of_pos (by simpa using h)).symm
    · rw [if_neg (by omega)]; exact (Int.sign_eq_neg_one_of_neg (by simp; omega)).symm
theorem qneg_any (s : Bool) (a : Option Addr) (n c : Nat) (l : List (BitVec 32)) (w : World) (hn : l.length = n) (hl : n ≤ 1000000) (hr : Rw w a l) :
    Calls Try.prog 60 #[.agg #[.bool s, .slice a n c]] w (FrQ w (-(zv s (valD l)))) := by
  subst hn
  have hb0 := (Below.alloc (Below.refl w.heap.size w) (Nat.le_refl _) (.cells #[Value.bool s, Value.slice a l.length c] 24)).alloc (by simp) (.cells #[Value.bool false, Value.slice none 0 0] 24)
  go_enter Try.func60, Try.ntmps60
  go_wp2_with (go_at_call 77; (with_reducible refine (qnew_any (!s) a _ c l _ rfl hl (hr.below hb0)).mono ?_); rintro e w1 ⟨a1, c1, rfl, hown1, hb1⟩; have k1_r_0 : w1.cell? ⟨(w.heap.size + 1), 0, none⟩ = some (.bool false) := bca hb1; have g1_r_0 : w1.frozen? ⟨(w.heap.size + 1), 0, none⟩ = false := bfa hb1 (v := .bool false); have k1_r_1 : w1.cell? ⟨(w.heap.size + 1), 1, none⟩ = some (.slice none 0 0) := bca hb1; have g1_r_1 : w1.frozen? ⟨(w.heap.size + 1), 1, none⟩ = false := bfa hb1 (v := .slice none 0 0); have x1_r : ¬ (w.heap.size + 1) = w1.heap.size := qne k1_r_0; have y1_r : ¬ w1.heap.size = (w.heap.size + 1) := fun h => qne k1_r_0 h.symm; have q1_r : (w.heap.size + 1) < w1.heap.size := qlt k1_r_0; have hbw := hb0.trans (hb1.mono hb0.size); clear hb1 hr)
  refine bodyPost_ret (v := .agg #[.bool (decide (zv (!s) (valD l) < 0)), .slice a1 (canon (zv (!s) (valD l)).natAbs).length c1]) (by simp [results, Try.results60, go_sem, *]) rfl ?_
  rw [← zv_not]
  exact ⟨a1, c1, rfl, ((hown1.set (by simp) 0 _).set (by simp) 1 _).mono (by simp; omega), (hbw.setCell (by simp) _).setCell (by simp) _⟩
set_option maxRecDepth 50000 in
theorem qadd_any (s t : Bool) (a b : Option Addr) (n c m d : Nat) (l k : List (BitVec 32)) (w : World) (hn : l.length = n) (hm : k.length = m) (hl : n ≤ 400000) (hl2 : m ≤ 400000) (hr : Rw w a l) (hs : Rw w b k) :
    Calls Try.prog 94 #[.agg #[.bool s, .slice a n c], .agg #[.bool t, .slice b m d]] w (FrQ w (zv s (valD l) + zv t (valD k))) := by
  have fl : (canon (valD l)).length ≤ 400000 := by rw [canon_val]; exact Nat.le_trans (trim_len_le l) (by omega)
  have fk : (canon (valD k)).length ≤ 400000 := by rw [canon_val]; exact Nat.le_trans (trim_len_le k) (by omega)
  have fD : ∀ x y : Nat, (canon x).length ≤ 400000 → (canon (x - y)).length ≤ 1000000 := fun x y h => by
    have e5 := pw_mono (show 400000 ≤ 1000000 by omega)
    rw [canon_len_le] at h ⊢; omega
  subst hn hm
  by_cases hst : s = t
  · subst hst
    have hfit : (canon (valD l + valD k)).length ≤ 1000000 := by
      rw [canon_len_le]
      have e1 := valD_lt l
      have e2 := valD_lt k
      have e3 := pw_mono (show l.length ≤ 400000 by omega)
      have e4 := pw_mono (show k.length ≤ 400000 by omega)
      have e5 := pw_mono (show 400000 + 1 ≤ 1000000 by omega)
      rw [pw_succ] at e5
      omega
    obtain ⟨T, hT⟩ := ex_canon (valD l + valD k)
    have hTv : Hid (zv s (valD T) = zv s (valD l) + zv s (valD k)) := by show _ = _; rw [← hT.out, valD_canon, zv_add]
    rw [hT.out] at hfit
    have hb1 := Below.alloc (Below.refl w.heap.size w) (Nat.le_refl _) (.cells #[Value.bool s, Value.slice a l.length c] 24)
    have hb2 := Below.alloc hb1 (by simp) (.cells #[Value.bool s, Value.slice b k.length d] 24)
    have hb3 := Below.alloc hb2 (by simp; omega) (.cells #[Value.bool false, Value.slice none 0 0] 24)
    have hb4 := hb3.drew
    have hz4 := hb4.size
    go_enter Try.func94, Try.ntmps94
    go_wp2
    go_region_held3 (fun w' => w'.cell? ⟨w.heap.size, 0, none⟩ = some (.bool s) ∧ w'.cell? ⟨w.heap.size, 1, none⟩ = some (.slice a l.length c) ∧ w'.cell? ⟨(w.heap.size + 1), 0, none⟩ = some (.bool s) ∧ w'.cell? ⟨(w.heap.size + 1), 1, none⟩ = some (.slice b k.length d)) (first | exact ⟨k3_p_0, k3_p_1, k3_q_0, k3_q_1⟩ | exact ⟨k2_p_0, k2_p_1, k2_q_0, k2_q_1⟩ | exact ⟨k1_p_0, k1_p_1, k1_q_0, k1_q_1⟩ | (refine ⟨?_, ?_, ?_, ?_⟩ <;> go_simp)) ((first
      | (go_at_call 95; (with_reducible refine (radd_any a b _ c _ d l k _ rfl rfl (by omega) (by omega) (hr.below hb4) (hs.below hb4)).mono ?_); rintro e w2 ⟨a2, c2, rfl, hr2, hc2⟩; have k2_p_0 : w2.cell? ⟨w.heap.size, 0, none⟩ = some (.bool s) := bca hc2; have g2_p_0 : w2.frozen? ⟨w.heap.size, 0, none⟩ = false := bfa hc2 (v := .bool s); have k2_p_1 : w2.cell? ⟨w.heap.size, 1, none⟩ = some (.slice a l.length c) := bca hc2; have g2_p_1 : w2.frozen? ⟨w.heap.size, 1, none⟩ = false := bfa hc2 (v := .slice a l.length c); have x2_p : ¬ w.heap.size = w2.heap.size := qne k2_p_0; have y2_p : ¬ w2.heap.size = w.heap.size := fun h => qne k2_p_0 h.symm; have q2_p : w.heap.size < w2.heap.size := qlt k2_p_0; have k2_q_0 : w2.cell? ⟨(w.heap.size + 1), 0, none⟩ = some (.bool s) := bca hc2; have g2_q_0 : w2.frozen? ⟨(w.heap.size + 1), 0, none⟩ = false := bfa hc2 (v := .bool s); have k2_q_1 : w2.cell? ⟨(w.heap.size + 1), 1, none⟩ = some (.slice b k.length d) := bca hc2; have g2_q_1 : w2.frozen? ⟨(w.heap.size + 1), 1, none⟩ = false := bfa hc2 (v := .slice b k.length d); have x2_q : ¬ (w.heap.size + 1) = w2.heap.size := qne k2_q_0; have y2_q : ¬ w2.heap.size = (w.heap.size + 1) := fun h => qne k2_q_0 h.symm; have q2_q : (w.heap.size + 1) < w2.heap.size := qlt k2_q_0; have k2_r_0 : w2.cell? ⟨(w.heap.size + 1 + 1), 0, none⟩ = some (.bool false) := bca hc2; have g2_r_0 : w2.frozen? ⟨(w.heap.size + 1 + 1), 0, none⟩ = false := bfa hc2 (v := .bool false); have k2_r_1 : w2.cell? ⟨(w.heap.size + 1 + 1), 1, none⟩ = some (.slice none 0 0) := bca hc2; have g2_r_1 : w2.frozen? ⟨(w.heap.size + 1 + 1), 1, none⟩ = false := bfa hc2 (v := .slice none 0 0); have x2_r : ¬ (w.heap.size + 1 + 1) = w2.heap.size := qne k2_r_0; have y2_r : ¬ w2.heap.size = (w.heap.size + 1 + 1) := fun h => qne k2_r_0 h.symm; have q2_r : (w.heap.size + 1 + 1) < w2.heap.size := qlt k2_r_0; have hbw2 := hb4.trans (hc2.mono hz4); have hz2 := hbw2.size; have hr2' := Rw.of_own hr2; clear hc2 hr2; rw [hT.out] at hr2'; rw [hT.out])
      | (go_at_call 77; (with_reducible refine (qnew_any s a2 _ c2 T _ rfl hfit hr2').mono ?_); rintro e w3 ⟨a3, c3, rfl, hr3, hc3⟩; have k3_p_0 : w3.cell? ⟨w.heap.size, 0, none⟩ = some (.bool s) := bca hc3; have g3_p_0 : w3.frozen? ⟨w.heap.size, 0, none⟩ = false := bfa hc3 (v := .bool s); have k3_p_1 : w3.cell? ⟨w.heap.size, 1, none⟩ = some (.slice a l.length c) := bca hc3; have g3_p_1 : w3.frozen? ⟨w.heap.size, 1, none⟩ = false := bfa hc3 (v := .slice a l.length c); have x3_p : ¬ w.heap.size = w3.heap.size := qne k3_p_0; have y3_p : ¬ w3.heap.size = w.heap.size := fun h => qne k3_p_0 h.symm; have q3_p : w.heap.size < w3.heap.size := qlt k3_p_0; have k3_q_0 : w3.cell? ⟨(w.heap.size + 1), 0, none⟩ = some (.bool s) := bca hc3; have g3_q_0 : w3.frozen? ⟨(w.heap.size + 1), 0, none⟩ = false := bfa hc3 (v := .bool s); have k3_q_1 : w3.cell? ⟨(w.heap.size + 1), 1, none⟩ = some (.slice b k.length d) := bca hc3; have g3_q_1 : w3.frozen? ⟨(w.heap.size + 1), 1, none⟩ = false := bfa hc3 (v := .slice b k.length d); have x3_q : ¬ (w.heap.size + 1) = w3.heap.size := qne k3_q_0; have y3_q : ¬ w3.heap.size = (w.heap.size + 1) := fun h => qne k3_q_0 h.symm; have q3_q : (w.heap.size + 1) < w3.heap.size := qlt k3_q_0; have k3_r_0 : w3.cell? ⟨(w.heap.size + 1 + 1), 0, none⟩ = some (.bool false) := bca hc3; have g3_r_0 : w3.frozen? ⟨(w.heap.size + 1 + 1), 0, none⟩ = false := bfa hc3 (v := .bool false); have k3_r_1 : w3.cell? ⟨(w.heap.size + 1 + 1), 1, none⟩ = some (.slice none 0 0) := bca hc3; have g3_r_1 : w3.frozen? ⟨(w.heap.size + 1 + 1), 1, none⟩ = false := bfa hc3 (v := .slice none 0 0); have x3_r : ¬ (w.heap.size + 1 + 1) = w3.heap.size := qne k3_r_0; have y3_r : ¬ w3.heap.size = (w.heap.size + 1 + 1) := fun h => qne k3_r_0 h.symm; have q3_r : (w.heap.size + 1 + 1) < w3.heap.size := qlt k3_r_0; have hbw3 := hbw2.trans (hc3.mono hz2))
      ))
    go_wp2
    refine bodyPost_ret (v := .agg #[.bool (decide (zv s (valD T) < 0)), .slice a3 (canon (zv s (valD T)).natAbs).length c3]) (by simp [results, Try.results94, go_sem, *]) rfl ?_
    rw [← hTv.out]
    exact ⟨a3, c3, rfl, ((hr3.set (by omega) 0 _).set (by omega) 1 _).mono hbw2.size, (hbw3.setCell (by simp; omega) _).setCell (by simp; omega) _⟩
  · have hne : (s == t) = false := by rw [beq_eq_false_iff_ne]; exact hst
    have hb1 := Below.alloc (Below.refl w.heap.size w) (Nat.le_refl _) (.cells #[Value.bool s, Value.slice a l.length c] 24)
    have hb2 := Below.alloc hb1 (by simp) (.cells #[Value.bool t, Value.slice b k.length d] 24)
    have hb3 := Below.alloc hb2 (by simp; omega) (.cells #[Value.bool false, Value.slice none 0 0] 24)
    have hz3 := hb3.size
    have hra := hr.below hb3
    have hsa := hs.below hb3
    rcases Nat.lt_or_ge (valD l) (valD k) with h | h
    · have hge : valD l ≤ valD k := by omega
      obtain ⟨T, hT⟩ := ex_canon (valD k - valD l)
      have hTl : T.length ≤ 1000000 := by rw [← hT.out]; exact fD _ _ fk
      have hTv : Hid (zv t (valD T) = zv s (valD l) + zv t (valD k)) := by
        show _ = _; rw [← hT.out, valD_canon, zv_sub t s _ _ (Ne.symm hst) hge]; omega
      have HG := Lib.hid hge
      have HL := Lib.hid h
      clear h hge hst
      go_enter Try.func94, Try.ntmps94
      go_wp2_with (first
        | (go_at_call 115; (with_reducible refine (rsub_no a b _ c _ d l k _ rfl rfl (by omega) (by omega) hra hsa HL.out).mono ?_); rintro e w1 ⟨rfl, rfl⟩)
        | (go_at_call 115; (with_reducible refine (rsub_yes b a _ d _ c k l _ rfl rfl (by omega) (by omega) hsa hra HG.out).mono ?_); rintro e w2 ⟨a2, c2, rfl, hr2, hc2⟩; have k2_p_0 : w2.cell? ⟨w.heap.size, 0, none⟩ = some (.bool s) := bca hc2; have g2_p_0 : w2.frozen? ⟨w.heap.size, 0, none⟩ = false := bfa hc2 (v := .bool s); have k2_p_1 : w2.cell? ⟨w.heap.size, 1, none⟩ = some (.slice a l.length c) := bca hc2; have g2_p_1 : w2.frozen? ⟨w.heap.size, 1, none⟩ = false := bfa hc2 (v := .slice a l.length c); have x2_p : ¬ w.heap.size = w2.heap.size := qne k2_p_0; have y2_p : ¬ w2.heap.size = w.heap.size := fun h => qne k2_p_0 h.symm; have q2_p : w.heap.size < w2.heap.size := qlt k2_p_0; have k2_q_0 : w2.cell? ⟨(w.heap.size + 1), 0, none⟩ = some (.bool t) := bca hc2; have g2_q_0 : w2.frozen? ⟨(w.heap.size + 1), 0, none⟩ = false := bfa hc2 (v := .bool t); have k2_q_1 : w2.cell? ⟨(w.heap.size + 1), 1, none⟩ = some (.slice b k.length d) := bca hc2; have g2_q_1 : w2.frozen? ⟨(w.heap.size + 1), 1, none⟩ = false := bfa hc2 (v := .slice b k.length d); have x2_q : ¬ (w.heap.size + 1) = w2.heap.size := qne k2_q_0; have y2_q : ¬ w2.heap.size = (w.heap.size + 1) := fun h => qne k2_q_0 h.symm; have q2_q : (w.heap.size + 1) < w2.heap.size := qlt k2_q_0; have k2_r_0 : w2.cell? ⟨(w.heap.size + 1 + 1), 0, none⟩ = some (.bool false) := bca hc2; have g2_r_0 : w2.frozen? ⟨(w.heap.size + 1 + 1), 0, none⟩ = false := bfa hc2 (v := .bool false); have k2_r_1 : w2.cell? ⟨(w.heap.size + 1 + 1), 1, none⟩ = some (.slice none 0 0) := bca hc2; have g2_r_1 : w2.frozen? ⟨(w.heap.size + 1 + 1), 1, none⟩ = false := bfa hc2 (v := .slice none 0 0); have x2_r : ¬ (w.heap.size + 1 + 1) = w2.heap.size := qne k2_r_0; have y2_r : ¬ w2.heap.size = (w.heap.size + 1 + 1) := fun h => qne k2_r_0 h.symm; have q2_r : (w.heap.size + 1 + 1) < w2.heap.size := qlt k2_r_0; have hbw2 := hb3.trans (hc2.mono hz3); have hz2 := hbw2.size; have hr2' := Rw.of_own hr2; clear hc2 hr2; rw [hT.out] at hr2'; rw [hT.out])
        | (go_at_call 77; (with_reducible refine (qnew_any t a2 _ c2 T _ rfl hTl hr2').mono ?_); rintro e w3 ⟨a3, c3, rfl, hr3, hc3⟩; have k3_p_0 : w3.cell? ⟨w.heap.size, 0, none⟩ = some (.bool s) := bca hc3; have g3_p_0 : w3.frozen? ⟨w.heap.size, 0, none⟩ = false := bfa hc3 (v := .bool s); have k3_p_1 : w3.cell? ⟨w.heap.size, 1, none⟩ = some (.slice a l.length c) := bca hc3; have g3_p_1 : w3.frozen? ⟨w.heap.size, 1, none⟩ = false := bfa hc3 (v := .slice a l.length c); have x3_p : ¬ w.heap.size = w3.heap.size := qne k3_p_0; have y3_p : ¬ w3.heap.size = w.heap.size := fun h => qne k3_p_0 h.symm; have q3_p : w.heap.size < w3.heap.size := qlt k3_p_0; have k3_q_0 : w3.cell? ⟨(w.heap.size + 1), 0, none⟩ = some (.bool t) := bca hc3; have g3_q_0 : w3.frozen? ⟨(w.heap.size + 1), 0, none⟩ = false := bfa hc3 (v := .bool t); have k3_q_1 : w3.cell? ⟨(w.heap.size + 1), 1, none⟩ = some (.slice b k.length d) := bca hc3; have g3_q_1 : w3.frozen? ⟨(w.heap.size + 1), 1, none⟩ = false := bfa hc3 (v := .slice b k.length d); have x3_q : ¬ (w.heap.size + 1) = w3.heap.size := qne k3_q_0; have y3_q : ¬ w3.heap.size = (w.heap.size + 1) := fun h => qne k3_q_0 h.symm; have q3_q : (w.heap.size + 1) < w3.heap.size := qlt k3_q_0; have k3_r_0 : w3.cell? ⟨(w.heap.size + 1 + 1), 0, none⟩ = some (.bool false) := bca hc3; have g3_r_0 : w3.frozen? ⟨(w.heap.size + 1 + 1), 0, none⟩ = false := bfa hc3 (v := .bool false); have k3_r_1 : w3.cell? ⟨(w.heap.size + 1 + 1), 1, none⟩ = some (.slice none 0 0) := bca hc3; have g3_r_1 : w3.frozen? ⟨(w.heap.size + 1 + 1), 1, none⟩ = false := bfa hc3 (v := .slice none 0 0); have x3_r : ¬ (w.heap.size + 1 + 1) = w3.heap.size := qne k3_r_0; have y3_r : ¬ w3.heap.size = (w.heap.size + 1 + 1) := fun h => qne k3_r_0 h.symm; have q3_r : (w.heap.size + 1 + 1) < w3.heap.size := qlt k3_r_0; have hbw3 := hbw2.trans (hc3.mono hz2)))
      refine bodyPost_ret (v := .agg #[.bool (decide (zv t (valD T) < 0)), .slice a3 (canon (zv t (valD T)).natAbs).length c3]) (by simp [results, Try.results94, go_sem, *]) rfl ?_
      rw [← hTv.out]
      exact ⟨a3, c3, rfl, ((hr3.set (by omega) 0 _).set (by omega) 1 _).mono hbw2.size, (hbw3.setCell (by simp; omega) _).setCell (by simp; omega) _⟩
    · obtain ⟨T, hT⟩ := ex_canon (valD l - valD k)
      have hTl : T.length ≤ 1000000 := by rw [← hT.out]; exact fD _ _ fl
      have hTv : Hid (zv s (valD T) = zv s (valD l) + zv t (valD k)) := by
        show _ = _; rw [← hT.out, valD_canon, zv_sub s t _ _ hst h]
      have HG := Lib.hid h
      clear h hst
      go_enter Try.func94, Try.ntmps94
      go_wp2_with (first
        | (go_at_call 115; (with_reducible refine (rsub_yes a b _ c _ d l k _ rfl rfl (by omega) (by omega) hra hsa HG.out).mono ?_); rintro e w2 ⟨a2, c2, rfl, hr2, hc2⟩; have k2_p_0 : w2.cell? ⟨w.heap.size, 0, none⟩ = some (.bool s) := bca hc2; have g2_p_0 : w2.frozen? ⟨w.heap.size, 0, none⟩ = false := bfa hc2 (v := .bool s); have k2_p_1 : w2.cell? ⟨w.heap.size, 1, none⟩ = some (.slice a l.length c) := bca hc2; have g2_p_1 : w2.frozen? ⟨w.heap.size, 1, none⟩ = false := bfa hc2 (v := .slice a l.length c); have x2_p : ¬ w.heap.size = w2.heap.size := qne k2_p_0; have y2_p : ¬ w2.heap.size = w.heap.size := fun h => qne k2_p_0 h.symm; have q2_p : w.heap.size < w2.heap.size := qlt k2_p_0; have k2_q_0 : w2.cell? ⟨(w.heap.size + 1), 0, none⟩ = some (.bool t) := bca hc2; have g2_q_0 : w2.frozen? ⟨(w.heap.size + 1), 0, none⟩ = false := bfa hc2 (v := .bool t); have k2_q_1 : w2.cell? ⟨(w.heap.size + 1), 1, none⟩ = some (.slice b k.length d) := bca hc2; have g2_q_1 : w2.frozen? ⟨(w.heap.size + 1), 1, none⟩ = false := bfa hc2 (v := .slice b k.length d); have x2_q : ¬ (w.heap.size + 1) = w2.heap.size := qne k2_q_0; have y2_q : ¬ w2.heap.size = (w.heap.size + 1) := fun h => qne k2_q_0 h.symm; have q2_q : (w.heap.size + 1) < w2.heap.size := qlt k2_q_0; have k2_r_0 : w2.cell? ⟨(w.heap.size + 1 + 1), 0, none⟩ = some (.bool false) := bca hc2; have g2_r_0 : w2.frozen? ⟨(w.heap.size + 1 + 1), 0, none⟩ = false := bfa hc2 (v := .bool false); have k2_r_1 : w2.cell? ⟨(w.heap.size + 1 + 1), 1, none⟩ = some (.slice none 0 0) := bca hc2; have g2_r_1 : w2.frozen? ⟨(w.heap.size + 1 + 1), 1, none⟩ = false := bfa hc2 (v := .slice none 0 0); have x2_r : ¬ (w.heap.size + 1 + 1) = w2.heap.size := qne k2_r_0; have y2_r : ¬ w2.heap.size = (w.heap.size + 1 + 1) := fun h => qne k2_r_0 h.symm; have q2_r : (w.heap.size + 1 + 1) < w2.heap.size := qlt k2_r_0; have hbw2 := hb3.trans (hc2.mono hz3); have hz2 := hbw2.size; have hr2' := Rw.of_own hr2; clear hc2 hr2; rw [hT.out] at hr2'; rw [hT.out])
        | (go_at_call 77; (with_reducible refine (qnew_any s a2 _ c2 T _ rfl hTl hr2').mono ?_); rintro e w3 ⟨a3, c3, rfl, hr3, hc3⟩; have k3_p_0 : w3.cell? ⟨w.heap.size, 0, none⟩ = some (.bool s) := bca hc3; have g3_p_0 : w3.frozen? ⟨w.heap.size, 0, none⟩ = false := bfa hc3 (v := .bool s); have k3_p_1 : w3.cell? ⟨w.heap.size, 1, none⟩ = some (.slice a l.length c) := bca hc3; have g3_p_1 : w3.frozen? ⟨w.heap.size, 1, none⟩ = false := bfa hc3 (v := .slice a l.length c); have x3_p : ¬ w.heap.size = w3.heap.size := qne k3_p_0; have y3_p : ¬ w3.heap.size = w.heap.size := fun h => qne k3_p_0 h.symm; have q3_p : w.heap.size < w3.heap.size := qlt k3_p_0; have k3_q_0 : w3.cell? ⟨(w.heap.size + 1), 0, none⟩ = some (.bool t) := bca hc3; have g3_q_0 : w3.frozen? ⟨(w.heap.size + 1), 0, none⟩ = false := bfa hc3 (v := .bool t); have k3_q_1 : w3.cell? ⟨(w.heap.size + 1), 1, none⟩ = some (.slice b k.length d) := bca hc3; have g3_q_1 : w3.frozen? ⟨(w.heap.size + 1), 1, none⟩ = false := bfa hc3 (v := .slice b k.length d); have x3_q : ¬ (w.heap.size + 1) = w3.heap.size := qne k3_q_0; have y3_q : ¬ w3.heap.size = (w.heap.size + 1) := fun h => qne k3_q_0 h.symm; have q3_q : (w.heap.size + 1) < w3.heap.size := qlt k3_q_0; have k3_r_0 : w3.cell? ⟨(w.heap.size + 1 + 1), 0, none⟩ = some (.bool false) := bca hc3; have g3_r_0 : w3.frozen? ⟨(w.heap.size + 1 + 1), 0, none⟩ = false := bfa hc3 (v := .bool false); have k3_r_1 : w3.cell? ⟨(w.heap.size + 1 + 1), 1, none⟩ = some (.slice none 0 0) := bca hc3; have g3_r_1 : w3.frozen? ⟨(w.heap.size + 1 + 1), 1, none⟩ = false := bfa hc3 (v := .slice none 0 0); have x3_r : ¬ (w.heap.size + 1 + 1) = w3.heap.size := qne k3_r_0; have y3_r : ¬ w3.heap.size = (w.heap.size + 1 + 1) := fun h => qne k3_r_0 h.symm; have q3_r : (w.heap.size + 1 + 1) < w3.heap.size := qlt k3_r_0; have hbw3 := hbw2.trans (hc3.mono hz2)))
      refine bodyPost_ret (v := .agg #[.bool (decide (zv s (valD T) < 0)), .slice a3 (canon (zv s (valD T)).natAbs).length c3]) (by simp [results, Try.results94, go_sem, *]) rfl ?_
      rw [← hTv.out]
      exact ⟨a3, c3, rfl, ((hr3.set (by omega) 0 _).set (by omega) 1 _).mono hbw2.size, (hbw3.setCell (by simp; omega) _).setCell (by simp; omega) _⟩
set_option maxRecDepth 50000 in
theorem qsub_any (s t : Bool) (a b : Option Addr) (n c m d : Nat) (l k : List (BitVec 32)) (w : World) (hn : l.length = n) (hm : k.length = m) (hl : n ≤ 400000) (hl2 : m ≤ 400000) (hr : Rw w a l) (hs : Rw w b k) :
    Calls Try.prog 93 #[.agg #[.bool s, .slice a n c], .agg #[.bool t, .slice b m d]] w (FrQ w (zv s (valD l) - zv t (valD k))) := by
  have fk : (canon (-(zv t (valD k))).natAbs).length ≤ 400000 := by rw [Int.natAbs_neg, zv_abs, canon_val]; exact Nat.le_trans (trim_len_le k) (by omega)
  subst hn hm
  obtain ⟨y, hy⟩ : ∃ y, -(zv t (valD k)) = y := ⟨_, rfl⟩
  have HY : Hid (zv s (valD l) + zv (decide (y < 0)) (valD (canon y.natAbs)) = zv s (valD l) - zv t (valD k)) := by show _ = _; rw [zv_canon, ← hy]; omega
  have Hy := Lib.hid hy
  rw [hy] at fk
  clear hy
  have hb1 := Below.alloc (Below.refl w.heap.size w) (Nat.le_refl _) (.cells #[Value.bool s, Value.slice a l.length c] 24)
  have hb2 := Below.alloc hb1 (by simp) (.cells #[Value.bool t, Value.slice b k.length d] 24)
  have hb3 := Below.alloc hb2 (by simp; omega) (.cells #[Value.bool false, Value.slice none 0 0] 24)
  have hb4 := hb3.drew
  have hz4 := hb4.size
  go_enter Try.func93, Try.ntmps93
  go_wp2
  go_region_held3 (fun w' => w'.cell? ⟨w.heap.size, 0, none⟩ = some (.bool s) ∧ w'.cell? ⟨w.heap.size, 1, none⟩ = some (.slice a l.length c) ∧ w'.cell? ⟨(w.heap.size + 1), 0, none⟩ = some (.bool t) ∧ w'.cell? ⟨(w.heap.size + 1), 1, none⟩ = some (.slice b k.length d)) (first | exact ⟨k3_p_0, k3_p_1, k3_q_0, k3_q_1⟩ | exact ⟨k2_p_0, k2_p_1, k2_q_0, k2_q_1⟩ | exact ⟨k1_p_0, k1_p_1, k1_q_0, k1_q_1⟩ | (refine ⟨?_, ?_, ?_, ?_⟩ <;> go_simp)) ((first
    | (go_at_call 60; (with_reducible refine (qneg_any t b _ d k _ rfl (by omega) (hs.below hb4)).mono ?_); rintro e w2 ⟨a2, c2, rfl, hr2, hc2⟩; have k2_p_0 : w2.cell? ⟨w.heap.size, 0, none⟩ = some (.bool s) := bca hc2; have g2_p_0 : w2.frozen? ⟨w.heap.size, 0, none⟩ = false := bfa hc2 (v := .bool s); have k2_p_1 : w2.cell? ⟨w.heap.size, 1, none⟩ = some (.slice a l.length c) := bca hc2; have g2_p_1 : w2.frozen? ⟨w.heap.size, 1, none⟩ = false := bfa hc2 (v := .slice a l.length c); have x2_p : ¬ w.heap.size = w2.heap.size := qne k2_p_0; have y2_p : ¬ w2.heap.size = w.heap.size := fun h => qne k2_p_0 h.symm; have q2_p : w.heap.size < w2.heap.size := qlt k2_p_0; have k2_q_0 : w2.cell? ⟨(w.heap.size + 1), 0, none⟩ = some (.bool t) := bca hc2; have g2_q_0 : w2.frozen? ⟨(w.heap.size + 1), 0, none⟩ = false := bfa hc2 (v := .bool t); have k2_q_1 : w2.cell? ⟨(w.heap.size + 1), 1, none⟩ = some (.slice b k.length d) := bca hc2; have g2_q_1 : w2.frozen? ⟨(w.heap.size + 1), 1, none⟩ = false := bfa hc2 (v := .slice b k.length d); have x2_q : ¬ (w.heap.size + 1) = w2.heap.size := qne k2_q_0; have y2_q : ¬ w2.heap.size = (w.heap.size + 1) := fun h => qne k2_q_0 h.symm; have q2_q : (w.heap.size + 1) < w2.heap.size := qlt k2_q_0; have k2_r_0 : w2.cell? ⟨(w.heap.size + 1 + 1), 0, none⟩ = some (.bool false) := bca hc2; have g2_r_0 : w2.frozen? ⟨(w.heap.size + 1 + 1), 0, none⟩ = false := bfa hc2 (v := .bool false); have k2_r_1 : w2.cell? ⟨(w.heap.size + 1 + 1), 1, none⟩ = some (.slice none 0 0) := bca hc2; have g2_r_1 : w2.frozen? ⟨(w.heap.size + 1 + 1), 1, none⟩ = false := bfa hc2 (v := .slice none 0 0); have x2_r : ¬ (w.heap.size + 1 + 1) = w2.heap.size := qne k2_r_0; have y2_r : ¬ w2.heap.size = (w.heap.size + 1 + 1) := fun h => qne k2_r_0 h.symm; have q2_r : (w.heap.size + 1 + 1) < w2.heap.size := qlt k2_r_0; have hbw2 := hb4.trans (hc2.mono hz4); have hz2 := hbw2.size; have hr2' := hr2.1; clear hc2 hr2; rw [Hy.out] at hr2'; rw [Hy.out])
    | (go_at_call 94; (with_reducible refine (qadd_any s (decide (y < 0)) a a2 _ c _ c2 l (canon y.natAbs) _ rfl rfl hl fk (hr.below hbw2) hr2').mono ?_); rintro e w3 ⟨a3, c3, rfl, hr3, hc3⟩; have k3_p_0 : w3.cell? ⟨w.heap.size, 0, none⟩ = some (.bool s) := bca hc3; have g3_p_0 : w3.frozen? ⟨w.heap.size, 0, none⟩ = false := bfa hc3 (v := .bool s); have k3_p_1 : w3.cell? ⟨w.heap.size, 1, none⟩ = some (.slice a l.length c) := bca hc3; have g3_p_1 : w3.frozen? ⟨w.heap.size, 1, none⟩ = false := bfa hc3 (v := .slice a l.length c); have x3_p : ¬ w.heap.size = w3.heap.size := qne k3_p_0; have y3_p : ¬ w3.heap.size = w.heap.size := fun h => qne k3_p_0 h.symm; have q3_p : w.heap.size < w3.heap.size := qlt k3_p_0; have k3_q_0 : w3.cell? ⟨(w.heap.size + 1), 0, none⟩ = some (.bool t) := bca hc3; have g3_q_0 : w3.frozen? ⟨(w.heap.size + 1), 0, none⟩ = false := bfa hc3 (v := .bool t); have k3_q_1 : w3.cell? ⟨(w.heap.size + 1), 1, none⟩ = some (.slice b k.length d) := bca hc3; have g3_q_1 : w3.frozen? ⟨(w.heap.size + 1), 1, none⟩ = false := bfa hc3 (v := .slice b k.length d); have x3_q : ¬ (w.heap.size + 1) = w3.heap.size := qne k3_q_0; have y3_q : ¬ w3.heap.size = (w.heap.size + 1) := fun h => qne k3_q_0 h.symm; have q3_q : (w.heap.size + 1) < w3.heap.size := qlt k3_q_0; have k3_r_0 : w3.cell? ⟨(w.heap.size + 1 + 1), 0, none⟩ = some (.bool false) := bca hc3; have g3_r_0 : w3.frozen? ⟨(w.heap.size + 1 + 1), 0, none⟩ = false := bfa hc3 (v := .bool false); have k3_r_1 : w3.cell? ⟨(w.heap.size + 1 + 1), 1, none⟩ = some (.slice none 0 0) := bca hc3; have g3_r_1 : w3.frozen? ⟨(w.heap.size + 1 + 1), 1, none⟩ = false := bfa hc3 (v := .slice none 0 0); have x3_r : ¬ (w.heap.size + 1 + 1) = w3.heap.size := qne k3_r_0; have y3_r : ¬ w3.heap.size = (w.heap.size + 1 + 1) := fun h => qne k3_r_0 h.symm; have q3_r : (w.heap.size + 1 + 1) < w3.heap.size := qlt k3_r_0; have hbw3 := hbw2.trans (hc3.mono hz2); rw [HY.out] at hr3; rw [HY.out])
    ))
  go_wp2
  refine bodyPost_ret (v := .agg #[.bool (decide (zv s (valD l) - zv t (valD k) < 0)), .slice a3 (canon (zv s (valD l) - zv t (valD k)).natAbs).length c3]) (by simp [results, Try.results93, go_sem, *]) rfl ?_
  exact ⟨a3, c3, rfl, ((hr3.set (by omega) 0 _).set (by omega) 1 _).mono hbw2.size, (hbw3.setCell (by simp; omega) _).setCell (by simp; omega) _⟩
end Go.Proofs.Ytcofiekfhnfjpaa

