import Derived.Test.YtbnialhpflaoaaaDoorN2
namespace Go.Proofs.YtbnialhpflaoaaaDoor
open Go.RowKit
set_option linter.unusedVariables false
set_option linter.unusedSimpArgs false
theorem isnorm_any (a : Option Addr) (n c : Nat) (l : List (BitVec 32)) (w : World) (hn : l.length = n) (hl : l.length ≤ 10000000) (hr : Rw w a l) :
    Calls Tryd.prog 18 #[.slice a n c] w fun e w' => e = .returned (.bool (decide (trimD l = l))) ∧ w = w' := by
  subst hn
  rcases Nat.eq_zero_or_pos l.length with h | h
  · have hl0 := List.length_eq_zero_iff.1 h
    subst hl0
    go_enter Tryd.func18, Tryd.ntmps18
    go_wp2
    go_ret
    exact ⟨rfl, rfl⟩
  · obtain ⟨ad, rfl, hc⟩ := hr (l.length - 1) (by omega)
    have h1 : ((l.length : Int) == 0) = false := by rw [beq_eq_false_iff_ne]; omega
    by_cases hz : l[l.length - 1] = 0#32
    · have hq : decide (trimD l = l) = false := by
        rw [decide_eq_false_iff_not]
        intro e
        have h2 := last_split l h
        rw [hz] at h2
        have h3 := trim_snoc0 (l.take (l.length - 1))
        rw [← h2, e] at h3
        have h4 := congrArg List.length h3
        have h5 := trim_len_le (l.take (l.length - 1))
        rw [List.length_take] at h5
        omega
      rw [hq]
      rw [hz] at hc
      clear hz hq
      go_enter Tryd.func18, Tryd.ntmps18
      go_wp2
      go_ret
      exact ⟨rfl, rfl⟩
    · have hq : decide (trimD l = l) = true := by
        rw [decide_eq_true_iff]
        have h2 := last_split l h
        have h3 := trim_snoc (l.take (l.length - 1)) _ hz
        rwa [← h2] at h3
      have h6 : ((l[l.length - 1].toNat : Int) == 0) = false := by
        rw [beq_eq_false_iff_ne]
        intro e
        exact hz (BitVec.eq_of_toNat_eq (by simpa using e))
      have h7 : ((l[l.length - 1].toNat : Int) != 0) = true := by rw [bne, h6]; rfl
      rw [hq]
      clear hz hq
      go_enter Tryd.func18, Tryd.ntmps18
      go_wp2
      go_ret
      exact ⟨rfl, rfl⟩
set_option maxRecDepth 50000 in
theorem from_any (n : Nat) (hn : n < 18446744073709551616) (w : World) : Calls Tryd.prog 16 #[.int .u64 n] w (FrW w (canon n)) := by
  go_enter Tryd.func16, Tryd.ntmps16
  go_wp2_with (go_at_call 20; (with_reducible refine (norm_any _ _ _ [BitVec.ofNat 32 n, BitVec.ofNat 32 (n / 4294967296)] _ (two_len _ _) (two_le _ _) (Rw.of_alloc rfl (two_bv n hn))).mono ?_); rintro e w2 ⟨a1, c1, rfl, hown, hb⟩)
  go_ret
  have hb0 := Below.alloc (Below.refl w.heap.size w) (Nat.le_refl _) (.cells #[Value.int IntKind.u32 ((n : Int) % 4294967296), Value.int IntKind.u32 ((n : Int) / 4294967296)] 39)
  refine FrW.eq (FrW.up ⟨a1, c1, rfl, hown, hb⟩ hb0) ?_
  rw [← canon_val]
  congr 1
  simp only [valD_cons, valD_nil, BitVec.toNat_ofNat]
  omega
end Go.Proofs.YtbnialhpflaoaaaDoor
