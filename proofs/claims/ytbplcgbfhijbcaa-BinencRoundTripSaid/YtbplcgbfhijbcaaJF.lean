import Derived.Test.YtbplcgbfhijbcaaJE
namespace Go.Proofs.Ytbplcgbfhijbcaa
open Go.RowKit
set_option linter.unusedVariables false
set_option linter.unusedSimpArgs false
theorem canon_one_len : (canon 1).length ≤ 1 := canon_le_of (l := [1#32]) (by first | decide | simp [valD])
theorem rnN_len (s t : Bool) (l k : List (BitVec 32)) : (canon (rnN (zv s (valD l)) (zv t (valD k))).natAbs).length ≤ l.length := by
  unfold rnN
  split
  · exact canon_le_of (Nat.zero_le _)
  · rw [zv_abs, zv_abs]
    exact canon_le_of (Nat.div_le_self _ _)
theorem rnD_len (s t : Bool) (l k : List (BitVec 32)) : (canon (rnD (zv s (valD l)) (zv t (valD k))).natAbs).length ≤ k.length + 1 := by
  unfold rnD
  split
  · have := canon_one_len
    show (canon 1).length ≤ _
    omega
  · rw [Int.natAbs_natCast, zv_abs, zv_abs]
    have : (canon (valD k / Nat.gcd (valD l) (valD k))).length ≤ k.length := canon_le_of (Nat.div_le_self _ _)
    omega
/-- PutRational, whatever its argument. -/
theorem prat_any (s t : Bool) (a b : Option Addr) (n c m d : Nat) (l k : List (BitVec 32)) (w : World) (hn : l.length = n) (hm : k.length = m) (hc : n ≤ c) (hd : m ≤ d) (hl : n ≤ 300000) (hl2 : m ≤ 300000) (hr : Rw w a l) (hs : Rw w b k) :
    Calls Try.prog 30 #[.agg #[.bool s, .slice a n c, .bool t, .slice b m d]] w (FrB w (putF (rnN (zv s (valD l)) (zv t (valD k))) (rnD (zv s (valD l)) (zv t (valD k))))) := by
  subst hn hm
  have h1 := rnN_len s t l k
  have h2 := rnD_len s t l k
  have hN : ∀ W, Below w.heap.size w W → Calls Try.prog 56 #[.agg #[.bool s, .slice a l.length c, .bool t, .slice b k.length d]] W (FrF W (rnN (zv s (valD l)) (zv t (valD k))) (rnD (zv s (valD l)) (zv t (valD k)))) := fun W hW => ratn_any s t a b _ c _ d l k W rfl rfl hc hd (by omega) (by omega) (hr.below hW) (hs.below hW)
  by_cases h : rnN (zv s (valD l)) (zv t (valD k)) < 0
  · exact pr_neg s t a b _ c _ d _ _ _ _ w h rfl rfl (by omega) (by omega) hN
  · exact pr_pos s t a b _ c _ d _ _ _ _ w h rfl rfl (by omega) (by omega) hN
theorem rprat_any (s t : Bool) (a b : Option Addr) (n c m d : Nat) (l k : List (BitVec 32)) (w : World) (hn : l.length = n) (hm : k.length = m) (hl : n ≤ 300000) (hl2 : m ≤ 300000) (hr : Rw w a l) (hs : Rw w b k) :
    Calls Try.prog 31 #[.agg #[.bool s, .slice a n c, .bool t, .slice b m d]] w (FrB w (putF (rnN (zv s (valD l)) (zv t (valD k))) (rnD (zv s (valD l)) (zv t (valD k))))) := by
  subst hn hm
  have h1 := rnN_len s t l k
  have h2 := rnD_len s t l k
  have hN : ∀ W, Below w.heap.size w W → Calls Try.prog 33 #[.agg #[.bool s, .slice a l.length c, .bool t, .slice b k.length d]] W (FrG W (rnN (zv s (valD l)) (zv t (valD k))) (rnD (zv s (valD l)) (zv t (valD k)))) := fun W hW => rnorm_any s t a b _ c _ d l k W rfl rfl (by omega) (by omega) (hr.below hW) (hs.below hW)
  by_cases h : rnN (zv s (valD l)) (zv t (valD k)) < 0
  · exact rpr_neg s t a b _ c _ d _ _ _ _ w h rfl rfl (by omega) (by omega) hN
  · exact rpr_pos s t a b _ c _ d _ _ _ _ w h rfl rfl (by omega) (by omega) hN
end Go.Proofs.Ytbplcgbfhijbcaa
