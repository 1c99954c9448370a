
import Derived.Test.YtcofiekfhnfjpaaPH
namespace Go.Proofs.Ytcofiekfhnfjpaa
open Go.RowKit
set_option linter.unusedVariables false
set_option linter.unusedSimpArgs false
/-- The two numbers of Euclid's rounds, in the reference. -/
def RcR (w : World) (G : Nat) (x y : Value) (wr : World) : Prop := ∃ (a b : Option Addr) (c d : Nat) (X Y : List (BitVec 32)), x = .slice a X.length c ∧ y = .slice b Y.length d ∧ X.length ≤ 800000 ∧ Y.length ≤ 800000 ∧
  Hid (Nat.gcd (valD X) (valD Y) = G ∧ trimD X = X ∧ trimD Y = Y) ∧ Rw wr a X ∧ Rw wr b Y ∧ Below w.heap.size w wr
set_option maxRecDepth 50000 in
set_option maxHeartbeats 2000000 in
theorem rgcd_any (a b : Option Addr) (n c m d : Nat) (l k : List (BitVec 32)) (w : World) (hn : l.length = n) (hm : k.length = m) (hl : n ≤ 800000) (hl2 : m ≤ 800000) (hr : Rw w a l) (hs : Rw w b k) :
    Calls Try.prog 50 #[.slice a n c, .slice b m d] w fun e w' => ∃ a1 c1, e = .returned (.slice a1 (canon (Nat.gcd (valD l) (valD k))).length c1) ∧ Rw w' a1 (canon (Nat.gcd (valD l) (valD k))) ∧ Below w.heap.size w w' := by
  subst hn hm
  have f1 := trim_len_le l
  have f2 := trim_len_le k
  have t1 : trimD (trimD l) = trimD l := by rw [← canon_val l, trim_canon]
  have t2 : trimD (trimD k) = trimD k := by rw [← canon_val k, trim_canon]
  obtain ⟨G, hG⟩ : ∃ G, Nat.gcd (valD l) (valD k) = G := ⟨_, rfl⟩
  rw [hG]
  have HG : Hid (Nat.gcd (valD (trimD l)) (valD (trimD k)) = G ∧ trimD (trimD l) = trimD l ∧ trimD (trimD k) = trimD k) := ⟨by rw [valD_trim, valD_trim]; exact hG, t1, t2⟩
  clear hG t1 t2
  go_enter Try.func50, Try.ntmps50
  go_wp2_with (first
    | (go_at_call 86; go_loud ((with_reducible refine (norm_any a _ c l _ rfl (by omega) hr).mono ?_); rintro e w1 ⟨a1, c1, rfl, hx1, hb1⟩; have hs1 := hs.below hb1))
    | (go_at_call 86; (with_reducible refine (norm_any b _ d k _ rfl (by omega) hs1).mono ?_); rintro e w2 ⟨a2, c2, rfl, hx2, hb2⟩))
  have hF1 := (Rw.of_own hx1).below hb2
  have hF2 := Rw.of_own hx2
  have hb := hb1.trans (hb2.mono hb1.size)
  go_loopw [5, 6] (fun x y wr => RcR w G x y wr) (fun _ y wr => valD (rowOf wr y))
  case atStart => exact ⟨a1, a2, c1, c2, trimD l, trimD k, rfl, rfl, by omega, by omega, HG, hF1, hF2, hb⟩
  case round =>
    clear hF1 hF2 hx1 hx2 hb hb1 hb2 HG hs1
    obtain ⟨ax, ay, cx, cy, X, Y, rfl, rfl, hlx, hly, hg, hfx, hfy, hbr⟩ := hrel
    have hrow : valD (rowOf wr (.slice ay Y.length cy)) = valD Y := by rw [rowOf_eq hfy]
    by_cases h0 : Y.length = 0
    · have hY : Y = [] := List.length_eq_zero_iff.1 h0
      subst hY
      have hX : Hid (X = canon G) := by
        show _ = _
        obtain ⟨g1, g2, g3⟩ := hg.out
        rw [valD_nil, Nat.gcd_zero_right] at g1
        rw [← g1, canon_val, g2]
      clear hrow
      go_wp2
      go_ret
      exact ⟨ax, cx, by rw [← hX.out]; rfl, by rw [← hX.out]; exact hfx, hbr⟩
    have hyp : 0 < valD Y := by
      have h := valD_len Y hg.out.2.2 (by omega)
      have := pw_pos (Y.length - 1)
      omega
    have hm1 := Nat.mod_lt (valD X) hyp
    have HDM := rdm_any ax ay _ cx _ cy X Y wr rfl rfl hlx hly hfx hfy hyp
    obtain ⟨Z, E2⟩ := ex_canon (valD X % valD Y)
    have vZ : Hid (valD Z = valD X % valD Y) := by show _ = _; rw [← E2.out, valD_canon]
    have hZl : Z.length ≤ Y.length := by
      rw [← E2.out, canon_len_le]
      exact Nat.lt_trans hm1 (valD_lt Y)
    have hG2 : Hid (Nat.gcd (valD Y) (valD Z) = G ∧ trimD Y = Y ∧ trimD Z = Z) := ⟨by rw [vZ.out, gcd_step]; exact hg.out.1, hg.out.2.2, by rw [← E2.out, trim_canon]⟩
    have HMS : Hid (valD Z < valD Y) := by show _ < _; rw [vZ.out]; exact hm1
    have HROW := Lib.hid hrow
    rw [E2.out] at HDM
    have HDM' := Lib.hid HDM
    have hy1 : decide (0 < (Y.length : Int)) = true := by rw [decide_eq_true_iff]; omega
    clear HDM hm1 hyp hrow
    go_wp2_with (first
      | (go_at_call 87; go_loud ((with_reducible refine HDM'.out.mono ?_); rintro e we ⟨a3, c3, a4, c4, rfl, hf3, hf4, hbe⟩; have hfy2 := hfy.below hbe)))
    go_roundw
    case rel =>
      exact ⟨ay, a4, cy, c4, Y, Z, rfl, rfl, hly, by omega, hG2, hfy2, hf4, hbr.trans (hbe.mono hbr.size)⟩
    case measure =>
      rw [HROW.out, rowOf_eq hf4]
      exact HMS.out
end Go.Proofs.Ytcofiekfhnfjpaa
