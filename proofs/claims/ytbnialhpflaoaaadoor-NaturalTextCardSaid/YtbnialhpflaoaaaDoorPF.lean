import Derived.Test.YtbnialhpflaoaaaDoorPE
import Derived.Test.YtbnialhpflaoaaaDoorLs
import Derived.Laws.CopyOwn
namespace Go.Proofs.YtbnialhpflaoaaaDoor
open Go.RowKit
set_option linter.unusedVariables false
set_option linter.unusedSimpArgs false
theorem shV_up (V s : Nat) (hs : s ≤ 31) : shV V (s : Int) = V * 2 ^ s := by
  unfold shV
  rw [if_pos (by omega), show min (s : Int).toNat 4096 = s by omega]
theorem shV_down (V s : Nat) (hs : s ≤ 31) : shV (V * 2 ^ s) (-(s : Int)) = V := by
  unfold shV
  rcases Nat.eq_zero_or_pos s with h | h
  · subst h; simp
  · rw [if_neg (by omega), show (-(s : Int)).natAbs = s by omega, Nat.mul_div_cancel _ (Nat.two_pow_pos s)]
/-- The shift of the divisor keeps its length. -/
theorem ld_shift (k : List (BitVec 32)) (m s : Nat) (hm : k.length = m) (h0 : 0 < m) (ht : trimD k = k) (x : Nat) (hx : digD k (m - 1) = x) (hs : 32 - Lib.bitLen x = s) :
    s ≤ 31 ∧ (canon (valD k * 2 ^ s)).length = m ∧ pw (m - 1) ≤ valD k ∧ (32 - (Lib.bitLen x : Int)) = (s : Int) := by
  subst hm
  have hp := valD_len k ht h0
  have hx0 : 0 < x := by
    have h := top_pos (valD k)
    rw [canon_val, ht] at h
    rw [← hx]
    exact h h0
  have hx1 : x < 4294967296 := by rw [← hx]; exact digD_lt _ _
  have hb := isBl_len hx1
  have hb32 := isBl_32 hx1 hb
  obtain ⟨hb1, hb2⟩ := hb.2.2 hx0
  have hk := isBl_top k h0 (Lib.bitLen x) (by rw [← digD_in k _ (by omega), hx]; exact hb) (by rw [← digD_in k _ (by omega), hx]; omega)
  refine ⟨by omega, ?_, hp, by omega⟩
  have h1 : valD k * 2 ^ s < pw k.length := by
    rw [pw_two, show 32 * k.length = (32 * (k.length - 1) + Lib.bitLen x) + s by omega, Nat.pow_add 2 (32 * (k.length - 1) + Lib.bitLen x)]
    exact Nat.mul_lt_mul_of_pos_right hk.1 (Nat.two_pow_pos s)
  have h2 := (canon_len_le _ _).2 h1
  rcases Nat.lt_or_ge (canon (valD k * 2 ^ s)).length k.length with h | h
  · exfalso
    have h3 := (canon_len_le (valD k * 2 ^ s) (k.length - 1)).1 (by omega)
    have h4 : valD k * 1 ≤ valD k * 2 ^ s := Nat.mul_le_mul_left _ (Nat.two_pow_pos s)
    omega
  · omega
theorem ld_step (A X : Nat) : A / X = A / (X * 4294967296) * 4294967296 + A % (X * 4294967296) / X := by
  rw [Nat.mod_mul_right_div_self, ← Nat.div_div_eq_div_mul, Nat.mul_comm]
  exact (Nat.div_add_mod _ _).symm
theorem bv32_take (l : List (BitVec 32)) (n : Nat) : (bv32 l).take n = bv32 (l.take n) := by simp [bv32, List.map_take]
theorem bv32_drop (l : List (BitVec 32)) (n : Nat) : (bv32 l).drop n = bv32 (l.drop n) := by simp [bv32, List.map_drop]
theorem own_all {W : World} {g N : Nat} {l : List (BitVec 32)} {B : Nat} (h : W.heap[g]? = some (.cells (bv32 l).toArray 39 (0, 0))) (hl : l.length = N) (hB : B ≤ g) (hN : N ≤ 1000000) : W.ownsRow B 39 1 (.slice (some ⟨g, 0, none⟩) N N) N (bv32 l) := by
  refine ⟨by rw [bv32_len, hl, Nat.mul_one], .inr ⟨g, N, (bv32 l).toArray, rfl, hB, h, Nat.le_refl _, by unfold maxLen; omega, by simp [bv32_len, hl], ?_⟩⟩
  rw [Nat.mul_one]
  exact List.take_of_length_le (by simp [bv32_len, hl])
theorem made_cells (n : Nat) : madeCells #[Value.int .u32 0] n = (bv32 (zer n)).toArray := by
  apply Array.ext
  · simp [madeCells, bv32, zer]
  · intro i h1 h2
    simp [madeCells, bv32, zer, Nat.mod_one]
theorem splice_zer (N : Nat) (A : List (BitVec 32)) : splice (bv32 (zer N)) 0 (bv32 A) = bv32 (A ++ zer (N - A.length)) := by
  unfold splice
  rw [List.take_zero, List.nil_append, Nat.zero_add, bv32_len, bv32_drop, bv32_append]
  congr 2
  simp [zer, List.drop_replicate]
theorem size32 : (Tryd.prog.info? 39).map (·.size) = some 1 := by kernel_rfl
theorem ld_start (A K n m M s : Nat) (hM : n + 1 = m + M) (hm : 0 < m) (hA : A < pw n) (hK : pw (m - 1) ≤ K) : A * 2 ^ s < K * 2 ^ s * pw M := by
  have h1 : A * 2 ^ s < pw n * 2 ^ s := Nat.mul_lt_mul_of_pos_right hA (Nat.two_pow_pos s)
  have h2 : pw (m - 1) * (2 ^ s * pw M) ≤ K * (2 ^ s * pw M) := Nat.mul_le_mul_right _ hK
  have h3 : pw n = pw (m - 1) * pw M := by rw [← pw_add, show m - 1 + M = n by omega]
  rw [h3] at h1
  rw [Nat.mul_assoc]
  have h4 : pw (m - 1) * pw M * 2 ^ s = pw (m - 1) * (2 ^ s * pw M) := by rw [Nat.mul_assoc, Nat.mul_comm (pw M)]
  omega
/-- A halt of the walk. -/
structure Stand (p : Prop) : Prop where
  out : p
theorem Stop.mk {p : Prop} (h : Stand p) : p := h.out
/-- The rest and the quotient, p places still to come. -/
def LdR (w : World) (A N M g g2 : Nat) (D : List (BitVec 32)) (b1 : Option Addr) (i : Value) (wr : World) : Prop := ∃ (p : Nat) (Q K : List (BitVec 32)), p ≤ M ∧ i = .int .i64 ((p : Int) - 1) ∧
  Hid (Q.length = N ∧ K.length = M ∧ valD Q = A % (valD D * pw p) ∧ valD K = A / (valD D * pw p) * pw p ∧ ∀ z, z < p → K[z]? = some 0#32) ∧
  wr.ownsRow w.heap.size 39 1 (.slice (some ⟨g, 0, none⟩) N N) N (bv32 Q) ∧ wr.ownsRow w.heap.size 39 1 (.slice (some ⟨g2, 0, none⟩) M M) M (bv32 K) ∧ Rw wr b1 D ∧ Below w.heap.size w wr
set_option maxRecDepth 50000 in
set_option maxHeartbeats 2000000 in
theorem longdiv_any (a b : Option Addr) (n c m d : Nat) (l k : List (BitVec 32)) (w : World) (hn : l.length = n) (hm : k.length = m) (hnc : n ≤ c) (hmd : m ≤ d) (hl : n ≤ 900000) (h2 : 2 ≤ m) (hmn : m ≤ n) (ht : trimD k = k) (hr : Rw w a l) (hs : Rw w b k) :
    Calls Tryd.prog 49 #[.slice a n c, .slice b m d] w fun e w' => ∃ a1 c1 a2 c2, e = .returned (.tuple #[.slice a1 (canon (valD l / valD k)).length c1, .slice a2 (canon (valD l % valD k)).length c2]) ∧ (canon (valD l / valD k)).length ≤ c1 ∧ (canon (valD l % valD k)).length ≤ c2 ∧ RwF w.heap.size w' a1 (canon (valD l / valD k)) ∧ RwF w.heap.size w' a2 (canon (valD l % valD k)) ∧ Below w.heap.size w w' := by
  obtain ⟨x, hx⟩ : ∃ x, digD k (m - 1) = x := ⟨_, rfl⟩
  obtain ⟨s, hsx⟩ : ∃ s, 32 - Lib.bitLen x = s := ⟨_, rfl⟩
  obtain ⟨hs31, hDl, hkp, hsi⟩ := ld_shift k m s hm (by omega) ht x hx hsx
  obtain ⟨bd, rfl, hcx⟩ := hs (m - 1) (by omega)
  have ex := digD_lt k (m - 1)
  rw [← digD_in k _ (by omega), hx] at hcx
  rw [hx] at ex
  have HLZ : ∀ W, Calls Tryd.prog 62 #[.int .u32 x] W fun e w' => e = .returned (.int .i64 s) ∧ W = w' := by
    intro W
    have h := Tryd.bits_LeadingZeros32 (x : Int) W (by omega) (by omega)
    rw [Int.toNat_natCast, hsi] at h
    exact h.mono fun _ _ h => ⟨h.1, h.2.symm⟩
  have HS1 := nshift_any (some bd) m d s k w hm hmd (by omega) hs (by omega)
  rw [shV_up _ _ hs31] at HS1
  have HL := Lib.hid hn
  have HK := Lib.hid hm
  have HKP := Lib.hid hkp
  have HT := Lib.hid ht
  obtain ⟨D, hD⟩ : ∃ D, canon (valD k * 2 ^ s) = D := ⟨_, rfl⟩
  rw [hD] at HS1 hDl
  unfold FrR at HS1
  rw [hDl] at HS1
  have HD := Lib.hid hD
  have HDL := Lib.hid hDl
  clear hn hm hkp ht hD hDl hsx hsi hx
  have hmk := run_make_row' (P := Tryd.prog) 22 39 (.int .u32 0) 4 Tryd.underlying22 info32 rfl .i64 .i64 (n + 1) (by omega) (by omega)
  have hcast : ((n + 1 : Nat) : Int) = (n : Int) + 1 := by omega
  rw [hcast] at hmk
  clear hcast
  obtain ⟨A, hA⟩ : ∃ A, valD l * 2 ^ s = A := ⟨_, rfl⟩
  obtain ⟨A', hA'⟩ : ∃ L, canon A = L := ⟨_, rfl⟩
  have hAl : A'.length ≤ n + 1 := by
    rw [← hA', canon_len_le, pw_succ, ← hA]
    have h1 := valD_lt l
    rw [HL.out] at h1
    have h2 : 2 ^ s ≤ 2 ^ 32 := Nat.pow_le_pow_right (by decide) (by omega)
    exact Nat.lt_of_lt_of_le (Nat.mul_lt_mul_of_pos_right h1 (Nat.two_pow_pos s)) (Nat.mul_le_mul_left _ h2)
  have HS2 : ∀ W, Rw W a l → Calls Tryd.prog 34 #[.slice a n c, .int .i64 s] W (FrR W A') := by
    intro W h
    have h2 := nshift_any a n c s l W HL.out hnc (by omega) h (by omega)
    rw [shV_up _ _ hs31, hA, hA'] at h2
    exact h2
  have HA := Lib.hid hA
  have HA' := Lib.hid hA'
  obtain ⟨M, hM⟩ : ∃ M, n + 1 = m + M := ⟨n + 1 - m, by omega⟩
  have hMi : (n : Int) + 1 - (m : Int) = (M : Int) := by omega
  have hmk2 := run_make_row' (P := Tryd.prog) 22 39 (.int .u32 0) 4 Tryd.underlying22 info32 rfl .i64 .i64 M (by omega) (by omega)
  have HM := Lib.hid hM
  have hMM : M ≤ 1000000 := by omega
  clear hA hA' hM
  go_enter Tryd.func49, Tryd.ntmps49
  go_wp2_with (first
    | (go_at_call 62; (with_reducible refine (HLZ _).mono ?_); rintro e w1 ⟨rfl, rfl⟩)
    | (go_at_call 34; (with_reducible refine HS1.mono ?_); rintro e w1 ⟨b1, c1, rfl, hc1, hf1, hb1⟩)
    | (go_at_call 34; (with_reducible refine (HS2 _ ((hr.below hb1).below (Below.alloc (Below.refl _ _) (Nat.le_refl _) _))).mono ?_); rintro e w3 ⟨a2, c2, rfl, hc2, hf2, hb2⟩)
    | (with_reducible show wpList _ _ _ (⟨some 30, _, _, _, _, _⟩ :: _) _ _; with_reducible refine Stop.mk ?_))
  refine ⟨?_⟩
  refine wpList_copy_splice rfl (.tmp 26) (.tmp 29) 22 22 rfl 39 Tryd.underlying22 size32 (some ⟨w1.heap.size, 0, none⟩) a2 (n + 1) (n + 1) A'.length c2 (by rfl) (by rfl) w1.heap.size 0 (bv32 (zer (n + 1))) 39 ?hg (bv32 A') ?hn ?hpos ?hfit (bv32_one _) w1.heap.size w3 (Below.refl _ _) (Nat.le_refl _) ?_
  case hg =>
    have h := hb2.block w1.heap.size (by simp)
    rw [h, heap_alloc_new, made_cells]
  case hn => rw [bv32_len]; exact (Nat.min_eq_left hAl).symm
  case hpos =>
    intro h0
    rw [bv32_len] at h0
    obtain ⟨ad, rfl, _⟩ := hf2.1 0 h0
    exact ⟨rfl, ad, rfl, hf2.1.news⟩
  case hfit => rw [bv32_len, bv32_len, Nat.zero_add]; simp [zer]; exact hAl
  intro w4 hrow hb4
  have hrow2 := hrow.out
  rw [splice_zer] at hrow2
  have hb13 : Below w1.heap.size w1 w3 := (Below.alloc (Below.refl _ _) (Nat.le_refl _) _).trans (hb2.mono (by simp))
  have hb14 := hb13.trans hb4
  have hbw := hb1.trans (hb14.mono hb1.size)
  have hDw := hf1.1.below hb14
  have hlow : ∀ ad, b1 = some ad → some ad.block ≠ some w1.heap.size := by
    intro ad e h
    obtain ⟨a0, e0, hc0⟩ := hf1.1 0 (by rw [HDL.out]; omega)
    rw [e] at e0
    cases e0
    have := World.block_lt_of_cell? w1 _ hc0
    rw [block_add] at this
    injection h with h
    omega
  have hQ0l : (A' ++ zer (n + 1 - A'.length)).length = n + 1 := by rw [List.length_append]; simp [zer]; omega
  have hQ0v : valD (A' ++ zer (n + 1 - A'.length)) = A := by
    rw [valD_append]
    unfold zer
    rw [valD_zeros, Nat.mul_zero, Nat.add_zero, ← HA'.out, valD_canon]
  have hown := own_all hrow2 hQ0l hb1.size (by omega)
  have hDv : valD D = valD k * 2 ^ s := by rw [← HD.out, valD_canon]
  have hAlt : A < valD D * pw M := by
    rw [hDv, ← HA.out]
    exact ld_start _ _ n m M s HM.out (by omega) (by have := valD_lt l; rwa [HL.out] at this) HKP.out
  obtain ⟨Q0, hQ0⟩ : ∃ Q0, A' ++ zer (n + 1 - A'.length) = Q0 := ⟨_, rfl⟩
  rw [hQ0] at hown hQ0l hQ0v
  have HQ0 := Lib.hid (show Q0.length = n + 1 ∧ valD Q0 = A ∧ A < valD D * pw M from ⟨hQ0l, hQ0v, hAlt⟩)
  have HDV := Lib.hid hDv
  obtain ⟨g, hg⟩ : ∃ g, w1.heap.size = g := ⟨_, rfl⟩
  have hgw : w.heap.size ≤ g := by have := hb1.size; omega
  have hg4 : g < w4.heap.size := by have := hb2.size; have := hb4.size; simp at *; omega
  rw [hg] at hown hlow ⊢
  clear hf1 hf2 hb2 hb4 hb13 hb14 hrow hrow2 HS2 HLZ HS1 hQ0 hQ0l hQ0v hAlt hDv hmk hcx hg hc2 hAl HA'
  obtain ⟨m2, hm2⟩ : ∃ m2, m = m2 + 2 := ⟨m - 2, by omega⟩
  have HM2 := Lib.hid hm2
  clear hm2
  have hd1 : 0 < digD D (m2 + 1) := by
    have h := top_pos (valD k * 2 ^ s)
    rw [HD.out, HDL.out, HM2.out] at h
    exact h (by omega)
  have HD1 := Lib.hid hd1
  have hDpos : 0 < valD D := by
    have h := valD_take D (m2 + 1) (by rw [HDL.out, HM2.out]; omega)
    rw [← digD_in, show m2 + 1 + 1 = D.length by rw [HDL.out, HM2.out], List.take_length] at h
    have h3 : pw (m2 + 1) * 1 ≤ pw (m2 + 1) * digD D (m2 + 1) := Nat.mul_le_mul_left _ hd1
    have h4 := pw_pos (m2 + 1)
    omega
  have HDP := Lib.hid hDpos
  clear hd1 hDpos
  obtain ⟨g2, hg2⟩ : ∃ g2, w4.heap.size = g2 := ⟨_, rfl⟩
  have hm4 := made32 w4 M (by omega)
  rw [hg2] at hm4
  have hm4' := own_mono hm4 (base' := w.heap.size) (by omega)
  have ho4 := hown.alloc (.cells (madeCells #[Value.int .u32 0] M) 39)
  have hb4 := Below.alloc hbw hbw.size (.cells (madeCells #[Value.int .u32 0] M) 39)
  have hD4 := hDw.below (Below.alloc (Below.refl w4.heap.size w4) (Nat.le_refl _) (.cells (madeCells #[Value.int .u32 0] M) 39))
  have hg24 : g < g2 := by omega
  have hlow2 : ∀ ad, b1 = some ad → some ad.block ≠ some g2 := by
    intro ad e h
    obtain ⟨a0, e0, hc0⟩ := hDw 0 (by rw [HDL.out]; omega)
    rw [e] at e0
    cases e0
    have := World.block_lt_of_cell? w4 _ hc0
    rw [block_add] at this
    injection h with h
    omega
  have hgne : (Value.slice (some ⟨g2, 0, none⟩) M M).ownBlock ≠ some g := by intro h; have h2 : g2 = g := Option.some.inj h; omega
  have hgnf : (Value.slice (some ⟨g, 0, none⟩) (n + 1) (n + 1)).ownBlock ≠ some g2 := by intro h; have h2 : g = g2 := Option.some.inj h; omega
  clear hm4
  go_wp2
  go_loopw [11] (fun i wr => LdR w A (n + 1) M g g2 D b1 i wr) (fun i _ => (intOf i + 1).toNat)
  case atStart =>
    obtain ⟨k1, k2, k3⟩ := HQ0.out
    exact ⟨M, Q0, zer M, Nat.le_refl _, rfl, ⟨k1, by simp [zer], by rw [k2, Nat.mod_eq_of_lt k3], by rw [Nat.div_eq_of_lt k3, Nat.zero_mul]; exact valD_zeros M, fun z hz => by rw [zer, List.getElem?_replicate, if_pos hz]⟩, ho4, hm4', hD4, hb4⟩
  case round =>
    obtain ⟨p, Q, K, hp, rfl, hq, hoQ, hoK, hDr, hbr⟩ := hrel
    rcases Nat.eq_zero_or_pos p with rfl | hp0
    · obtain ⟨q1, q2, q3, q4, q5⟩ := hq.out
      rw [pw_zero, Nat.mul_one] at q3 q4
      rw [Nat.mul_one, ← HA.out, HDV.out] at q4
      rw [← HA.out, HDV.out] at q3
      rw [Nat.mul_div_mul_right _ _ (Nat.two_pow_pos s)] at q4
      rw [Nat.mul_mod_mul_right] at q3
      have hK : Hid (trimD K = canon (valD l / valD k)) := by show _ = _; rw [← canon_val, q4]
      have hFK := RwF.of_own hoK
      have hFQ := RwF.of_own hoQ
      have hK5 := hFK.take (trimD K).length
      rw [← trim_prefix, hK.out] at hK5
      have hKl := trim_len_le K
      rw [hK.out, q2] at hKl
      have hQl := trim_len_le Q
      rw [q1] at hQl
      have HSH := nshift_any (some ⟨g, 0, none⟩) (trimD Q).length (n + 1) (-(s : Int)) (trimD Q) wr rfl hQl (by omega) hFQ.1.trim (by omega)
      rw [valD_trim, q3, shV_down _ _ hs31] at HSH
      have TK := trim_any (some ⟨g2, 0, none⟩) M M K wr q2 (Nat.le_refl _) (by rw [q2]; omega) hFK.1
      rw [hK.out] at TK
      have TQ := trim_any (some ⟨g, 0, none⟩) (n + 1) (n + 1) Q wr q1 (Nat.le_refl _) (by rw [q1]; omega) hFQ.1
      obtain ⟨tl, htl⟩ : ∃ t, (trimD Q).length = t := ⟨_, rfl⟩
      rw [htl] at HSH TQ
      have H1 := Lib.hid TK
      have H2 := Lib.hid TQ
      have H3 := Lib.hid HSH
      clear TK TQ HSH q1 q2 q3 q4 q5 htl hQl
      go_wp2_with (first
        | (go_at_call 43; (with_reducible refine H1.out.mono ?_); rintro e w1 ⟨rfl, rfl⟩)
        | (go_at_call 43; (with_reducible refine H2.out.mono ?_); rintro e w1 ⟨rfl, rfl⟩)
        | (go_at_call 34; (with_reducible refine H3.out.mono ?_); rintro e w9 ⟨a9, c9, rfl, hc9, hf9, hb9⟩))
      go_ret2
      exact ⟨some ⟨g2, 0, none⟩, M, a9, c9, rfl, hKl, hc9, hK5.below hb9, hf9.mono hbr.size, hbr.trans (hb9.mono hbr.size)⟩
    · obtain ⟨j, rfl⟩ : ∃ j, p = j + 1 := ⟨p - 1, by omega⟩
      obtain ⟨q1, q2, q3, q4, q5⟩ := hq.out
      have hlt : valD Q < valD D * pw (j + 1) := by rw [q3]; exact Nat.mod_lt _ (Nat.mul_pos HDP.out (pw_pos _))
      have HSM := fun c => subm_any w.heap.size g (n + 1) (n + 1) j m2 m c c1 b1 Q D wr q1 HDL.out HM2.out (by have := HM.out; omega) (by omega) hoQ hDr hlow HD1.out hlt
      obtain ⟨qv, hqv⟩ : ∃ qv, valD Q / (valD D * pw j) = qv := ⟨_, rfl⟩
      simp only [hqv] at HSM
      have hqvb : qv < 4294967296 := by
        rw [← hqv, Nat.div_lt_iff_lt_mul (Nat.mul_pos HDP.out (pw_pos _)), Nat.mul_comm, Nat.mul_assoc, ← pw_succ]
        exact hlt
      have HSM' := Lib.hid HSM
      have HQV := Lib.hid hqv
      have hjK : j < K.length := by omega
      have hz0 := q5 j (by omega)
      have HZ0 := Lib.hid hz0
      have HJK := Lib.hid hjK
      have hjn : j + m < n + 1 := by have := HM.out; omega
      have hjm : j + m + 1 - j = m + 1 := by omega
      clear HSM hqv q1 q2 q3 q4 q5 hlt
      go_wp2_with (go_at_call 63; go_loud ((with_reducible refine (HSM'.out _).mono ?_); rintro e w6 ⟨rfl, Q2, hq2l, hq2v, hoQ2, hgr⟩; have hoK2 := hoK.kept hgr (.inr hgne); have hck := own_cell hoK2 j (.int .u32 0) (by rw [bv32, List.getElem?_map, HZ0.out]; rfl); have hfk := hoK2.frozenAt j))
      go_roundw
      case rel =>
        obtain ⟨q1, q2, q3, q4, q5⟩ := hq.out
        have hgs := grownBy_set w6 g2 j (.int .u32 (qv : Int))
        have hDX : valD D * pw (j + 1) = valD D * pw j * 4294967296 := by rw [pw_succ, Nat.mul_assoc]
        refine ⟨j, Q2, K.set j (BitVec.ofNat 32 qv), by omega, rfl, ⟨hq2l, by rw [List.length_set]; exact q2, ?_, ?_, ?_⟩, hoQ2.kept hgs (.inr hgnf), ?_, (hDr.grown hgr hlow).grown hgs hlow2, ?_⟩
        · rw [hq2v, q3, hDX, Nat.mod_mul_right_mod]
        · have hv := valD_set K j (BitVec.ofNat 32 qv) HJK.out
          have e00 : (0#32).toNat = 0 := rfl
          rw [get_of HZ0.out HJK.out, e00, Nat.mul_zero, Nat.add_zero, BitVec.toNat_ofNat, Nat.mod_eq_of_lt hqvb, q4] at hv
          have e1 : A / (valD D * pw j) = A / (valD D * pw (j + 1)) * 4294967296 + qv := by rw [hDX, ← HQV.out, q3, hDX]; exact ld_step _ _
          rw [hv, e1]
          generalize A / (valD D * pw (j + 1)) = u
          rw [pw_succ]
          grind
        · intro z hz
          rw [List.getElem?_set_ne (by omega)]
          exact q5 z (by omega)
        · rw [bv32_set, show ((BitVec.ofNat 32 qv).toNat : Int) = (qv : Int) by rw [toNat32]; omega]
          exact own_set hoK2 _ _
        · exact Below.setCell (hbr.grown hgr hbr.size (fun k e => by injection e with e; omega)) (p := ⟨g2, j, none⟩) (by show _ ≤ g2; omega) _
      case measure => simp [intOf] <;> omega
end Go.Proofs.YtbnialhpflaoaaaDoor
