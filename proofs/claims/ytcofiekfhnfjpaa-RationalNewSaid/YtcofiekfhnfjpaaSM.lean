import Derived.Test.YtcofiekfhnfjpaaSK
import Derived.Deep.CutRange
namespace Go.Proofs.Ytcofiekfhnfjpaa
open Go.RowKit
set_option linter.unusedVariables false
set_option linter.unusedSimpArgs false
attribute [local go_sem ↓] Go.wp_at_zero Go.wp_at_succ
attribute [local go_sem] rhoF_tmp rhoF_const rhoF_global rhoF_func
attribute [local go_sem] qV iV
attribute [local go_sem] qE
theorem isrow_le {k : IntKind} {w : World} {a : Option Addr} {l c : Nat} {z : List Int} (h : IsRow k w a l c z) : l ≤ 9223372036854775807 := by
  rcases h with ⟨_, h, _⟩ | ⟨ad, _, h1, h2, _⟩
  · omega
  · unfold maxLen at h2; omega
set_option maxRecDepth 50000 in
theorem ln_any (s t : Bool) (a b : Option Addr) (c d : Nat) (l k : List (BitVec 32)) (w : World) (ha : Rw w a l) (hb : Rw w b k) (cap_a : l.length ≤ c) (cap_b : k.length ≤ d) (m0 : l.length ≤ 9223372036854775807) (m1 : k.length ≤ 9223372036854775807) :
    Calls Try.prog 3 #[.agg #[.bool s, .slice a l.length c, .bool t, .slice b k.length d]] w fun e w' => e = .returned (.bool true) ∧ Below w.heap.size w w' := by
  have hA := fun W => small_any s t a b l.length c k.length d W m0 m1
  by_cases h1 : l.length ≤ 40 ∧ k.length ≤ 40
  case neg =>
    simp only [show (decide (l.length ≤ 40) && decide (k.length ≤ 40)) = false by simp; omega] at hA
    exact ln_sm s t a b c d l k w hA
  simp only [show (decide (l.length ≤ 40) && decide (k.length ≤ 40)) = true by simp; omega] at hA
  obtain ⟨u1, u2⟩ := h1
  have y : Sz (Qv s l t k) 40 := sz_Qv u1 u2 (by omega)
  obtain ⟨n1, n2⟩ := sz_len y
  obtain ⟨C, hC, _⟩ := bl_q s t a b c d l k w (by omega) (by omega) cap_a cap_b ha hb
  have hL : ∀ (W : World) (a b : Option Addr) (c d : Nat), l.length ≤ c → k.length ≤ d → Rw W a l → Rw W b k → Calls Try.prog 18 #[.agg #[.bool s, .slice a l.length c, .bool t, .slice b k.length d]] W fun e w' => e = .returned (.int .i64 (C : Int)) ∧ Below W.heap.size W w' := fun W a b c d g1 g2 p r => by
    obtain ⟨C', h3, h4⟩ := bl_q s t a b c d l k W (by omega) (by omega) g1 g2 p r
    rw [isB2_uniq h3 hC] at h4
    exact h4
  have hM : ∀ (W : World) (a b : Option Addr) (c d : Nat), Rw W a l → Rw W b k → Calls Try.prog 19 #[.agg #[.bool s, .slice a l.length c, .bool t, .slice b k.length d]] W fun e w' => e = .returned (.int .i64 (C : Int)) ∧ Below W.heap.size W w' := fun W a b c d p r => by
    obtain ⟨C', h3, h4⟩ := rbl_q s t a b c d l k W (by omega) (by omega) p r
    rw [isB2_uniq h3 hC] at h4
    exact h4
  by_cases hy : zv t (valD k) = 0
  · exact ln_no s t a b c d l k w ha hb cap_a cap_b (qS (Qv s l t k)) (qX (Qv s l t k)) (qY (Qv s l t k)) (rnB s t l k) (C : Int) (by omega) (by omega) (fun W a b c d g1 g2 p r => new_z s t a b c d l k W (by omega) (by omega) g1 g2 p r hy) (fun W a b c d p r => rnew_z s t a b c d l k W (by omega) (by omega) p r hy) (fun W => srat_yes false false none none none none 0 0 0 0 [] [] W (by decide) (by decide) (Rw.nil _ _) (Rw.nil _ _) (Rw.nil _ _) (Rw.nil _ _)) hA (fun W a b c d p r => clone_any s t a b c d l k W (by omega) (by omega) p r) (fun W a b c d g1 g2 p r => norm_q s t a b c d l k W (by omega) (by omega) g1 g2 p r) (fun W a b c d p r => rnorm_q s t a b c d l k W (by omega) (by omega) p r) (fun W a b a2 b2 c d c2 d2 p r u v => srat_yes _ _ a b a2 b2 c d c2 d2 _ _ W (by omega) (by omega) p r u v) (fun W a b c d g1 g2 p r => isn_q s t a b c d l k W (by omega) (by omega) g1 g2 p r) (fun W a b c d g1 g2 p r => risn_any s t a b _ c _ d l k W rfl rfl g1 g2 (by omega) (by omega) p r) hL hM (fun W a b a2 b2 c d c2 d2 p r u v => srat_yes s t a b a2 b2 c d c2 d2 _ _ W (by omega) (by omega) p r u v)
  · exact ln_ok s t a b c d l k w ha hb cap_a cap_b (qS (Qv s l t k)) (qS (Qv s l t k)) (qX (Qv s l t k)) (qY (Qv s l t k)) (qX (Qv s l t k)) (qY (Qv s l t k)) (rnB s t l k) (C : Int) (by omega) (by omega) (by omega) (by omega) (fun W a b c d g1 g2 p r => new_q s t a b c d l k W (by omega) (by omega) g1 g2 p r hy) (fun W a b c d p r => rnew_q s t a b c d l k W (by omega) (by omega) p r hy) (fun W a b a2 b2 c d c2 d2 p r u v => srat_yes _ _ a b a2 b2 c d c2 d2 _ _ W (by omega) (by omega) p r u v) hA (fun W a b c d p r => clone_any s t a b c d l k W (by omega) (by omega) p r) (fun W a b c d g1 g2 p r => norm_q s t a b c d l k W (by omega) (by omega) g1 g2 p r) (fun W a b c d p r => rnorm_q s t a b c d l k W (by omega) (by omega) p r) (fun W a b a2 b2 c d c2 d2 p r u v => srat_yes _ _ a b a2 b2 c d c2 d2 _ _ W (by omega) (by omega) p r u v) (fun W a b c d g1 g2 p r => isn_q s t a b c d l k W (by omega) (by omega) g1 g2 p r) (fun W a b c d g1 g2 p r => risn_any s t a b _ c _ d l k W rfl rfl g1 g2 (by omega) (by omega) p r) hL hM (fun W a b a2 b2 c d c2 d2 p r u v => srat_yes s t a b a2 b2 c d c2 d2 _ _ W (by omega) (by omega) p r u v)
end Go.Proofs.Ytcofiekfhnfjpaa
