
import Derived.Test.YtcofiekfhnfjpaaU7
namespace Go.Proofs.Ytcofiekfhnfjpaa
open Go.RowKit
set_option linter.unusedVariables false
set_option linter.unusedSimpArgs false
/-- The digits that a slice reads as. -/
def rowOf (w : World) (v : Value) : List (BitVec 32) := match v with
  | .slice a n _ => (List.range n).map fun i => match a.bind (fun ad => w.cell? (ad.add i)) with
    | some (.int _ z) => BitVec.ofNat 32 z.toNat
    | _ => 0#32
  | _ => []
theorem rowOf_eq {w : World} {a : Option Addr} {l : List (BitVec 32)} (h : Rw w a l) (c : Nat) : rowOf w (.slice a l.length c) = l := by
  apply List.ext_getElem
  · simp [rowOf]
  · intro i h1 h2
    obtain ⟨ad, rfl, hc⟩ := h i h2
    simp [rowOf, hc]
theorem to64_ex (a : Option Addr) (n c : Nat) (l : List (BitVec 32)) (w : World) (hn : l.length = n) (hl : n ≤ 1000000) (hr : Rw w a l) :
    Calls Try.prog 82 #[.slice a n c] w fun e w' => ∃ (v : Int) (bl : Bool), e = .returned (.tuple #[.int .u64 v, .bool bl]) ∧ ∃ k, w' = w.drewN k := by
  rcases Nat.lt_or_ge 2 n with h | h
  · exact (to64_big a n c w h hl).mono fun _ _ h => ⟨0, false, h⟩
  · exact (to64_small a n c l w hn (by omega) hr).mono fun _ _ h => ⟨_, true, h⟩
theorem gcd_step (x y : Nat) : Nat.gcd y (x % y) = Nat.gcd x y := by
  rw [Nat.gcd_comm x y, Nat.gcd_rec y x, Nat.gcd_comm]
set_option maxRecDepth 50000 in
theorem sgcd_any (x y : Nat) (w : World) (hx : x < 18446744073709551616) (hy : y < 18446744073709551616) :
    Calls Try.prog 84 #[.int .u64 x, .int .u64 y] w fun e w' => e = .returned (.int .u64 (Nat.gcd x y : Nat)) ∧ ∃ k, w' = w.drewN k := by
  obtain ⟨G, hG⟩ : ∃ G, Nat.gcd x y = G := ⟨_, rfl⟩
  rw [hG]
  have HG := Lib.hid hG
  clear hG
  go_enter Try.func84, Try.ntmps84
  go_wp2
  go_loopw [0, 1] (fun a b wr => ∃ (p q : Nat), a = .int .u64 p ∧ b = .int .u64 q ∧ p < 18446744073709551616 ∧ q < 18446744073709551616 ∧ Hid (Nat.gcd p q = G) ∧ ∃ k, wr = w.drewN k) (fun _ b _ => (intOf b).toNat)
  case atStart => exact ⟨x, y, rfl, rfl, hx, hy, HG, 0, rfl⟩
  case round =>
    obtain ⟨p, q, rfl, rfl, hp, hq, hg, kk, rfl⟩ := hrel
    by_cases h0 : q = 0
    · subst h0
      have hg2 := hg.out
      rw [Nat.gcd_zero_right] at hg2
      subst hg2
      go_wp2
      go_ret
      exact ⟨rfl, kk, rfl⟩
    · have hq0 : ((q : Int) == 0) = false := by rw [beq_eq_false_iff_ne]; omega
      have hq1 : ((q : Int) != 0) = true := by rw [bne, hq0]; rfl
      obtain ⟨r, hr⟩ : ∃ r, p % q = r := ⟨_, rfl⟩
      have hri : (p : Int) % (q : Int) = (r : Int) := by rw [← hr]; simp
      have hrt : (p : Int).tmod (q : Int) = (r : Int) := by rw [← hr, Int.tmod_eq_emod_of_nonneg (by omega)]; simp
      have hrb : r < q := by rw [← hr]; exact Nat.mod_lt _ (by omega)
      have HR := Lib.hid hr
      clear hr
      go_wp2
      go_region
      go_wp2
      go_roundw
      case rel =>
        exact ⟨q, r, rfl, rfl, hq, by omega, (by show _ = _; rw [← HR.out, gcd_step]; exact hg.out), kk + 1, rfl⟩
      case measure => simp [intOf] <;> omega
/-- The two numbers of Euclid's rounds. -/
def GcR (w : World) (G : Nat) (x y : Value) (wr : World) : Prop := ∃ (a b : Option Addr) (c d : Nat) (X Y : List (BitVec 32)), x = .slice a X.length c ∧ y = .slice b Y.length d ∧ X.length ≤ c ∧ Y.length ≤ d ∧ X.length ≤ 900000 ∧ Y.length ≤ 900000 ∧
  Hid (Nat.gcd (valD X) (valD Y) = G ∧ trimD X = X ∧ trimD Y = Y) ∧ RwF w.heap.size wr a X ∧ RwF w.heap.size wr b Y ∧ Below w.heap.size w wr
set_option maxRecDepth 50000 in
set_option maxHeartbeats 2000000 in
theorem ngcd_any (a b : Option Addr) (n c m d : Nat) (l k : List (BitVec 32)) (w : World) (hn : l.length = n) (hm : k.length = m) (hnc : n ≤ c) (hmd : m ≤ d) (hl : n ≤ 900000) (hl2 : m ≤ 900000) (hr : Rw w a l) (hs : Rw w b k) :
    Calls Try.prog 47 #[.slice a n c, .slice b m d] w (FrR w (canon (Nat.gcd (valD l) (valD k)))) := by
  subst hn hm
  have f1 := trim_len_le l
  have f2 := trim_len_le k
  have t1 : trimD (trimD l) = trimD l := by rw [← canon_val l, trim_canon]
  have t2 : trimD (trimD k) = trimD k := by rw [← canon_val k, trim_canon]
  obtain ⟨G, hG⟩ : ∃ G, Nat.gcd (valD l) (valD k) = G := ⟨_, rfl⟩
  rw [hG]
  have HG : Hid (Nat.gcd (valD (trimD l)) (valD (trimD k)) = G ∧ trimD (trimD l) = trimD l ∧ trimD (trimD k) = trimD k) := ⟨by rw [valD_trim, valD_trim]; exact hG, t1, t2⟩
  clear hG t1 t2
  go_enter Try.func47, Try.ntmps47
  go_wp2_with (first
    | (go_at_call 81; (with_reducible refine (nnorm_any a _ c l _ rfl hnc (by omega) hr).mono ?_); rintro e w1 ⟨a1, c1, rfl, hx1, hb1⟩; have hs1 := hs.below hb1)
    | (go_at_call 81; (with_reducible refine (nnorm_any b _ d k _ rfl hmd (by omega) hs1).mono ?_); rintro e w2 ⟨a2, c2, rfl, hx2, hb2⟩))
  have hF1 := (RwF.of_own hx1).below hb2
  have hF2 := RwF.of_own hx2
  have hb := hb1.trans (hb2.mono hb1.size)
  have hc1 := own_cap hx1
  have hc2 := own_cap hx2
  go_loopw [0, 1] (fun x y wr => GcR w G x y wr) (fun _ y wr => valD (rowOf wr y))
  case atStart => exact ⟨a1, a2, c1, c2, trimD l, trimD k, rfl, rfl, hc1, hc2, by omega, by omega, HG, hF1, hF2.mono hb1.size, hb⟩
  case round =>
    clear hF1 hF2 hc1 hc2 hx1 hx2 hb hb1 hb2 HG hs1
    obtain ⟨ax, ay, cx, cy, X, Y, rfl, rfl, hcx, hcy, hlx, hly, hg, hfx, hfy, hbr⟩ := hrel
    have hrx := hfx.1
    have hry := hfy.1
    have hrow : valD (rowOf wr (.slice ay Y.length cy)) = valD Y := by rw [rowOf_eq hfy.1]
    by_cases h0 : Y.length = 0
    · have hY : Y = [] := List.length_eq_zero_iff.1 h0
      subst hY
      have hX : Hid (X = canon G) := by
        show _ = _
        obtain ⟨g1, g2, g3⟩ := hg.out
        rw [valD_nil, Nat.gcd_zero_right] at g1
        rw [← g1, canon_val, g2]
      clear hrow
      go_wp2
      go_ret
      exact ⟨ax, cx, by rw [← hX.out]; rfl, by rw [← hX.out]; exact hcx, by rw [← hX.out]; exact hfx, hbr⟩
    have hyp : 0 < valD Y := by
      have h := valD_len Y hg.out.2.2 (by omega)
      have := pw_pos (Y.length - 1)
      omega
    by_cases hsm : X.length ≤ 2 ∧ Y.length ≤ 2
    · obtain ⟨hs1, hs2⟩ := hsm
      have vx := val_two hs1
      have vy := val_two hs2
      obtain ⟨x, hx⟩ : ∃ x, valD X = x := ⟨_, rfl⟩
      obtain ⟨y, hy⟩ : ∃ y, valD Y = y := ⟨_, rfl⟩
      have HX := Lib.hid hx
      have HY := Lib.hid hy
      rw [hx] at vx
      rw [hy] at vy
      have hgv : Hid (Nat.gcd x y = G) := by show _ = _; rw [← hx, ← hy]; exact hg.out.1
      have hGb : G < 18446744073709551616 := by
        have := Nat.gcd_le_right x (n := y) (by rw [← hy]; exact hyp)
        rw [hgv.out] at this
        omega
      clear hx hy hrow hyp
      go_wp2_with (first
        | (go_at_call 82; go_loud ((with_reducible refine (to64_small ax _ cx X wr rfl hs1 hrx).mono ?_); rintro e wc ⟨rfl, hw2⟩; have hbc := drew_below hw2; rw [HX.out]; clear hw2))
        | (go_at_call 82; (with_reducible refine (to64_small ay _ cy Y wc rfl hs2 (hry.below hbc)).mono ?_); rintro e wd ⟨rfl, hw2⟩; have hbd := hbc.trans ((drew_below hw2).mono hbc.size); rw [HY.out]; clear hw2)
        | (go_at_call 84; (with_reducible refine (sgcd_any x y _ vx vy).mono ?_); rintro e we ⟨rfl, hw2⟩; have hbe := hbd.trans ((drew_below hw2).mono hbd.size); rw [hgv.out]; clear hw2)
        | (go_at_call 83; (with_reducible refine (nfromR G hGb _).mono ?_); rintro e wf ⟨a3, c3, rfl, hc3, hf3, hbf⟩))
      go_ret
      have hbw := hbr.trans (hbe.mono hbr.size)
      exact ⟨a3, c3, rfl, hc3, hf3.mono hbw.size, hbw.trans (hbf.mono hbw.size)⟩
    · have hm1 := Nat.mod_lt (valD X) hyp
      have HDM := fun W (h1 : Rw W ax X) (h2 : Rw W ay Y) => ndm_any ax ay _ cx _ cy X Y W rfl rfl hcx hcy hlx hly h1 h2 hyp
      obtain ⟨Z, E2⟩ := ex_canon (valD X % valD Y)
      obtain ⟨Q, E1⟩ := ex_canon (valD X / valD Y)
      have vZ : Hid (valD Z = valD X % valD Y) := by show _ = _; rw [← E2.out, valD_canon]
      have hZl : Z.length ≤ Y.length := by
        rw [← E2.out, canon_len_le]
        exact Nat.lt_trans hm1 (valD_lt Y)
      have hG2 : Hid (Nat.gcd (valD Y) (valD Z) = G ∧ trimD Y = Y ∧ trimD Z = Z) := ⟨by rw [vZ.out, gcd_step]; exact hg.out.1, hg.out.2.2, by rw [← E2.out, trim_canon]⟩
      have HMS : Hid (valD Z < valD Y) := by show _ < _; rw [vZ.out]; exact hm1
      have HROW := Lib.hid hrow
      have HDM' := Lib.hid HDM
      have hy1 : decide (0 < (Y.length : Int)) = true := by rw [decide_eq_true_iff]; omega
      clear HDM hm1 hyp hrow
      by_cases hx2 : 2 < X.length
      · go_wp2_with (first
          | (go_at_call 82; (with_reducible refine (to64_big ax _ cx wr hx2 (by omega)).mono ?_); rintro e wc ⟨rfl, hw2⟩; have hbc := drew_below hw2; clear hw2)
          | (go_at_call 82; (with_reducible refine (to64_ex ay _ cy Y wc rfl (by omega) (hry.below hbc)).mono ?_); rintro e wd ⟨v, bl, rfl, hw2⟩; have hbd := hbc.trans ((drew_below hw2).mono hbc.size); clear hw2)
          | (go_at_call 75; go_loud ((with_reducible refine (HDM'.out _ (hrx.below hbd) (hry.below hbd)).mono ?_); rintro e we ⟨a3, c3, a4, c4, rfl, hc3, hc4, hf3, hf4, hbe'⟩; have hfy2 := (hfy.below hbd).below hbe'; have hbe := hbd.trans (hbe'.mono hbd.size); rw [E1.out, E2.out]; rw [E2.out] at hc4 hf4)))
        go_roundw
        case rel =>
          have hbw := hbr.trans (hbe.mono hbr.size)
          exact ⟨ay, a4, cy, c4, Y, Z, rfl, rfl, hcy, hc4, hly, by omega, hG2, hfy2, hf4.mono (Nat.le_trans hbr.size hbd.size), hbw⟩
        case measure =>
          rw [HROW.out, rowOf_eq hf4.1]
          exact HMS.out
      · have hx3 : X.length ≤ 2 := by omega
        have hy3 : 2 < Y.length := by omega
        go_wp2_with (first
          | (go_at_call 82; (with_reducible refine (to64_small ax _ cx X wr rfl hx3 hrx).mono ?_); rintro e wc ⟨rfl, hw2⟩; have hbc := drew_below hw2; clear hw2)
          | (go_at_call 82; (with_reducible refine (to64_big ay _ cy wc hy3 (by omega)).mono ?_); rintro e wd ⟨rfl, hw2⟩; have hbd := hbc.trans ((drew_below hw2).mono hbc.size); clear hw2)
          | (go_at_call 75; go_loud ((with_reducible refine (HDM'.out _ (hrx.below hbd) (hry.below hbd)).mono ?_); rintro e we ⟨a3, c3, a4, c4, rfl, hc3, hc4, hf3, hf4, hbe'⟩; have hfy2 := (hfy.below hbd).below hbe'; have hbe := hbd.trans (hbe'.mono hbd.size); rw [E1.out, E2.out]; rw [E2.out] at hc4 hf4)))
        go_roundw
        case rel =>
          have hbw := hbr.trans (hbe.mono hbr.size)
          exact ⟨ay, a4, cy, c4, Y, Z, rfl, rfl, hcy, hc4, hly, by omega, hG2, hfy2, hf4.mono (Nat.le_trans hbr.size hbd.size), hbw⟩
        case measure =>
          rw [HROW.out, rowOf_eq hf4.1]
          exact HMS.out
end Go.Proofs.Ytcofiekfhnfjpaa
