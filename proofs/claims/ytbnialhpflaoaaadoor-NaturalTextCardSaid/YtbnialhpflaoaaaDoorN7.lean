import Derived.Test.YtbnialhpflaoaaaDoorN6
namespace Go.Proofs.YtbnialhpflaoaaaDoor
open Go.RowKit
set_option linter.unusedVariables false
set_option linter.unusedSimpArgs false
theorem own_below {w w' : World} {base : Nat} {e : TypeId} {size : Nat} {v : Value} {n : Nat} {xs : List Value} (h : w.ownsRow base e size v n xs) (hb : Below w.heap.size w w') : w'.ownsRow base e size v n xs := by
  refine ⟨h.1, ?_⟩
  rcases h.2 with h' | ⟨g, cap, cur, h1, h2, h3, h4⟩
  · exact .inl h'
  · refine .inr ⟨g, cap, cur, h1, h2, ?_, h4⟩
    have hlt : g < w.heap.size := by
      rcases Nat.lt_or_ge g w.heap.size with h | h
      · exact h
      · rw [Array.getElem?_eq_none h] at h3; cases h3
    rw [hb.block g hlt, h3]
theorem top_pos (n : Nat) (h : 0 < (canon n).length) : 0 < digD (canon n) ((canon n).length - 1) := by
  rcases Nat.eq_zero_or_pos (digD (canon n) ((canon n).length - 1)) with h1 | h1
  · exfalso
    rw [digD_in _ _ (by omega)] at h1
    have h2 := last_split (canon n) h
    rw [show (canon n)[(canon n).length - 1] = 0#32 from BitVec.eq_of_toNat_eq (by simpa using h1)] at h2
    have h3 := trim_snoc0 ((canon n).take ((canon n).length - 1))
    rw [← h2, trim_canon] at h3
    have h4 := trim_len_le ((canon n).take ((canon n).length - 1))
    rw [← h3, List.length_take] at h4
    omega
  · exact h1
theorem canon_len_pos {n : Nat} (h : 0 < n) : 0 < (canon n).length := by
  rcases Nat.eq_zero_or_pos (canon n).length with h1 | h1
  · have h2 := valD_canon n
    rw [List.length_eq_zero_iff.1 h1] at h2
    simp [valD_nil] at h2
    omega
  · exact h1
theorem shl_fit {A n s : Nat} (hA : A < pw n) (hs : s ≤ 31) (hn : n ≤ 800000) : (canon (A * 2 ^ s)).length ≤ 800001 := by
  have : (canon (A * 2 ^ s)).length ≤ n + 1 := by
    rw [canon_len_le, pw_succ]
    have h1 : 2 ^ s ≤ 4294967295 := Nat.le_trans (Nat.pow_le_pow_right (by decide) hs) (by decide)
    exact Nat.lt_of_le_of_lt (Nat.mul_le_mul_left _ h1) (by omega)
  omega
theorem rsh_any (a : Option Addr) (m c s : Nat) (l : List (BitVec 32)) (w : World) (hn : l.length = m) (hl : m ≤ 1000000) (hr : Rw w a l) :
    Calls Tryd.prog 35 #[.slice a m c, .int .i64 (-(s : Int))] w (FrW w (canon (valD l / 2 ^ s))) := by
  rcases Nat.eq_zero_or_pos s with rfl | h0
  · have h := rsh_up a m c 0 l w hn hl hr
    rw [show min 0 4096 = 0 from rfl, Nat.pow_zero, Nat.mul_one] at h
    rw [show -((0 : Nat) : Int) = ((0 : Nat) : Int) from rfl, Nat.pow_zero, Nat.div_one]
    exact h
  · rcases Nat.lt_or_ge (32 * m) s with h | h
    · have h1 := rsh_out a m c (-(s : Int)) l w hn hl (by omega) hr
      rw [show (-(s : Int)).natAbs = s by omega] at h1
      exact h1
    · exact rsh_dn a m c s l w hn hl h0 h hr
set_option maxRecDepth 50000 in
theorem rdm_zero (a b : Option Addr) (n c m d : Nat) (l k : List (BitVec 32)) (w : World) (hn : l.length = n) (hm : k.length = m) (hl2 : m ≤ 800000) (hs : Rw w b k) (h : valD k = 0) :
    Calls Tryd.prog 51 #[.slice a n c, .slice b m d] w fun e w' => e = .returned (.tuple #[.slice none 0 0, .slice none 0 0, .int .i64 9]) ∧ Below w.heap.size w w' := by
  subst hn hm
  have h0 : trimD k = [] := by rw [← canon_val, h, canon_zero]
  have H0 := Lib.hid h0
  clear h h0
  go_enter Tryd.func51, Tryd.ntmps51
  go_wp2_with (go_at_call 20; (with_reducible refine (norm_any _ _ _ k _ rfl (by omega) hs).mono ?_); rintro e w1 ⟨a1, c1, rfl, hown, hb⟩; rw [H0.out, List.length_nil])
  go_ret3
  exact ⟨rfl, hb⟩
theorem often_nm (a b : Option Addr) (n c m d dq r : Nat) (l k : List (BitVec 32)) (w : World) (hn : l.length = n) (hm : k.length = m) (hl : n ≤ 900000) (hl2 : m ≤ 900000) (hr : Rw w a l) (hs : Rw w b k) (h0 : 0 < m) (htop : 0 < digD k (m - 1)) (hlt : valD l < 4294967296 * valD k) (hd : valD l / valD k = dq) (hrr : valD l % valD k = r) :
    Calls Tryd.prog 64 #[.slice a n c, .slice b m d] w fun e w' => ∃ a' c', e = .returned (.tuple #[.int .u64 (dq : Nat), .slice a' (canon r).length c']) ∧ w'.ownsRow w.heap.size 39 1 (.slice a' (canon r).length c') (canon r).length (bv32 (canon r)) ∧ Below w.heap.size w w' := by
  refine (often_any a b n c m d l k w hn hm hl hl2 hr hs h0 htop hlt).mono ?_
  rintro e w' ⟨a', c', h1, h2, h3⟩
  rw [hrr] at h1 h2
  rw [hd] at h1
  exact ⟨a', c', h1, h2, h3⟩
/-- One round's state of the long division. -/
def DmRel (w : World) (U V : List (BitVec 32)) (r i : Value) (wr : World) : Prop := ∃ (p ρ : Nat) (a : Option Addr) (c : Nat) (Q : List (BitVec 32)), p ≤ U.length ∧ ((p = 0 ∧ i = .int .i64 (-1)) ∨ ∃ q : Nat, p = q + 1 ∧ i = .int .i64 (q : Int)) ∧ Hid (ρ < valD V) ∧ r = .slice a (canon ρ).length c ∧ Rw wr a (canon ρ) ∧
  Hid (Q.length = U.length ∧ valD (U.drop p) = valD V * valD (Q.drop p) + ρ) ∧
  wr.ownsRow w.heap.size 39 1 (.slice (some ⟨w.heap.size, 0, none⟩) U.length U.length) U.length (bv32 Q) ∧ Below w.heap.size w wr
def NxRel (w : World) (u : BitVec 32) (R : List (BitVec 32)) (v k : Value) (wr : World) : Prop := ∃ j : Nat, j ≤ R.length ∧ k = .int .i64 j ∧ wr.ownsRow w.heap.size 39 1 v (j + 1) (bv32 (u :: R.take j)) ∧ Below w.heap.size w wr
theorem dm_num (K Qd ρ u dq r B : Nat) (h : u + B * ρ = K * dq + r) : u + B * (K * Qd + ρ) = K * (dq + B * Qd) + r := by grind
theorem dm_lt {u ρ K : Nat} (hu : u < 4294967296) (h : ρ < K) : u + 4294967296 * ρ < 4294967296 * K := by
  have := Nat.mul_le_mul_left 4294967296 (Nat.succ_le_of_lt h)
  omega
theorem ex_canon (n : Nat) : ∃ U, Hid (canon n = U) := ⟨_, rfl⟩
theorem fit_eq {A n s : Nat} {U : List (BitVec 32)} (h : Hid (canon (A * 2 ^ s) = U)) (hA : A < pw n) (hs : s ≤ 31) (hn : n ≤ 800000) : U.length ≤ 800001 := by
  rw [← h.out]; exact shl_fit hA hs hn
theorem rsh_by (a : Option Addr) (m c s : Nat) (l U : List (BitVec 32)) (w : World) (hn : l.length = m) (hl : m ≤ 1000000) (hs : s ≤ 31) (hU : canon (valD l * 2 ^ s) = U) (hr : Rw w a l) :
    Calls Tryd.prog 35 #[.slice a m c, .int .i64 s] w (FrW w U) := by
  have h := rsh_up a m c s l w hn hl hr
  rw [Nat.min_eq_left (by omega), hU] at h
  exact h
theorem by_num {T V L x : Nat} (e : T = V) (ht : ∀ x, IsBl V x → x ≤ 32 * L → 32 * (L - 1) < x) (h0 : 0 < L) (hx : IsBl T x) (h2 : x ≤ 32 * L) : ∃ s : Nat, s ≤ 31 ∧ 32 * (L : Int) - (x : Int) = (s : Int) := by
  subst e
  have := ht x hx h2
  exact ⟨32 * L - x, by omega, by omega⟩
set_option maxRecDepth 50000 in
set_option maxHeartbeats 2000000 in
theorem rdm_any (a b : Option Addr) (n c m d : Nat) (l k : List (BitVec 32)) (w : World) (hn : l.length = n) (hm : k.length = m) (hl : n ≤ 800000) (hl2 : m ≤ 800000) (hr : Rw w a l) (hs : Rw w b k) (h : 0 < valD k) :
    Calls Tryd.prog 51 #[.slice a n c, .slice b m d] w fun e w' => ∃ a1 c1 a2 c2, e = .returned (.tuple #[.slice a1 (canon (valD l / valD k)).length c1, .slice a2 (canon (valD l % valD k)).length c2, .int .i64 0]) ∧ Rw w' a1 (canon (valD l / valD k)) ∧ Rw w' a2 (canon (valD l % valD k)) ∧ Below w.heap.size w w' := by
  subst hn hm
  have hvp := Lib.hid h
  have htl := trim_len_le k
  have htp : 0 < (trimD k).length := by rw [← canon_val]; exact canon_len_pos h
  have htv := Lib.hid (valD_trim k)
  have htn : ((trimD k).length == 0) = false := by rw [beq_eq_false_iff_ne]; omega
  have htni : (((trimD k).length : Int) == 0) = false := by rw [beq_eq_false_iff_ne]; omega
  have htk : Hid (∀ x, IsBl (valD k) x → x ≤ 32 * (trimD k).length → 32 * ((trimD k).length - 1) < x) := by
    intro x hx _
    have h1 := valD_len (trimD k) (by rw [← canon_val k, trim_canon]) htp
    rw [valD_trim, pw_two] at h1
    rcases Nat.lt_or_ge (32 * ((trimD k).length - 1)) x with h2 | h2
    · exact h2
    · have h3 : 2 ^ x ≤ 2 ^ (32 * ((trimD k).length - 1)) := Nat.pow_le_pow_right (by decide) h2
      have := hx.1
      omega
  clear h
  go_enter Tryd.func51, Tryd.ntmps51
  go_wp2_with (first
    | (go_at_call 20; (with_reducible refine (norm_any _ _ _ k _ rfl (by omega) hs).mono ?_); rintro e w1 ⟨a1, c1, rfl, hown1, hb1⟩; have hr1 := Rw.of_own hown1)
    | (go_at_call 24; (with_reducible refine (rbl_any _ _ _ (trimD k) _ rfl (by omega) hr1).mono ?_); rintro e w2 ⟨x, rfl, hx, hx2, hb2⟩; obtain ⟨s, hs3, hs4⟩ := by_num htv.out htk.out htp hx hx2; clear hx hx2; obtain ⟨U, hU⟩ := ex_canon (valD l * 2 ^ s); obtain ⟨V, hV⟩ := ex_canon (valD k * 2 ^ s); have hUl := fit_eq hU (valD_lt l) hs3 hl; have hVl := fit_eq hV (valD_lt k) hs3 hl2; have hmk := run_make_row' (P := Tryd.prog) 22 39 (.int .u32 0) 4 Tryd.underlying22 info32 rfl .i64 .i64 U.length (by omega) (by omega))
    | (go_at_call 35; (with_reducible refine (rsh_by a _ _ s l U _ rfl (by omega) hs3 hU.out ((hr.below hb1).below hb2)).mono ?_); rintro e w3 ⟨a3, c3, rfl, hown3, hb3⟩)
    | (go_at_call 35; (with_reducible refine (rsh_by a1 _ _ s (trimD k) V _ rfl (by omega) hs3 (by rw [htv.out]; exact hV.out) ((hr1.below hb2).below hb3)).mono ?_); rintro e w4 ⟨a4, c4, rfl, hown4, hb4⟩))
  have hb5 : Below w.heap.size w w4 := ((hb1.trans (hb2.mono hb1.size)).trans (hb3.mono (Nat.le_trans hb1.size hb2.size))).trans (hb4.mono (Nat.le_trans (Nat.le_trans hb1.size hb2.size) hb3.size))
  have hru := (Rw.of_own hown3).below hb4
  have hrv := Rw.of_own hown4
  have hVp : Hid (0 < valD V) := by
    show 0 < _
    rw [← hV.out, valD_canon]
    exact Nat.mul_pos hvp.out (Nat.two_pow_pos s)
  have hV0 : 0 < V.length := by
    rw [← hV.out]
    exact canon_len_pos (by have := hVp.out; rwa [← hV.out, valD_canon] at this)
  have hVt : Hid (0 < digD V (V.length - 1)) := by
    have := top_pos (valD k * 2 ^ s)
    rw [hV.out] at this
    exact this hV0
  go_loopw [12, 13] (fun r i wr => DmRel w4 U V r i wr) (fun _ i _ => (intOf i + 1).toNat)
  case atStart =>
    refine ⟨U.length, 0, _, _, zer U.length, Nat.le_refl _, ?_, hVp.out, by rw [canon_zero]; rfl, by rw [canon_zero]; exact Rw.nil _ _, ⟨by simp [zer], by simp [zer, valD_nil]⟩, (made32 w4 _ (by omega)).alloc _, Below.alloc (Below.alloc (Below.refl _ _) (Nat.le_refl _) _) (by simp) _⟩
    rcases Nat.eq_zero_or_pos U.length with h | h
    · exact .inl ⟨h, by rw [h]; rfl⟩
    · exact .inr ⟨U.length - 1, by omega, by go_num⟩
  case round =>
    obtain ⟨p, ρ, a5, c5, Q, hp, hpi, hρ, rfl, hr5, hQ, hownq, hbq⟩ := hrel
    have hρl : (canon ρ).length ≤ 800001 := by
      have : (canon ρ).length ≤ V.length := by
        rw [canon_len_le]
        exact Nat.lt_trans hρ.out (valD_lt V)
      omega
    rcases hpi with ⟨hp0, rfl⟩ | ⟨q, hq, rfl⟩
    · have HP := Lib.hid hp0
      clear hp0
      have hvals : Hid (trimD Q = canon (valD l / valD k) ∧ canon (valD (canon ρ) / 2 ^ s) = canon (valD l % valD k)) := by
        have h1 := hQ.out.2
        rw [HP.out, List.drop_zero, List.drop_zero] at h1
        have h2 : valD U = valD l * 2 ^ s := by rw [← hU.out, valD_canon]
        have h3 : valD V = valD k * 2 ^ s := by rw [← hV.out, valD_canon]
        have h4 := hρ.out
        have h5 : valD U / valD V = valD Q := by
          rw [h1, Nat.mul_add_div (by have := hVp.out; omega), Nat.div_eq_of_lt h4, Nat.add_zero]
        have h6 : valD U % valD V = ρ := by
          rw [h1, Nat.mul_add_mod, Nat.mod_eq_of_lt h4]
        rw [h2, h3, Nat.mul_div_mul_right _ _ (Nat.two_pow_pos s)] at h5
        rw [h2, h3, Nat.mul_mod_mul_right] at h6
        refine ⟨by rw [← canon_val, ← h5], ?_⟩
        rw [valD_canon, ← h6, Nat.mul_div_cancel _ (Nat.two_pow_pos s)]
      have hQl := snoc_own_le hownq
      go_wp2_with (first
        | (go_at_call 20; (with_reducible refine (norm_any _ _ _ Q _ hQl (by omega) (Rw.of_own hownq)).mono ?_); rintro e w7 ⟨a7, c7, rfl, hown7, hb7⟩; rw [hvals.out.1] at hown7; rw [hvals.out.1])
        | (go_at_call 35; (with_reducible refine (rsh_any _ _ _ s (canon ρ) _ rfl (by omega) (hr5.below hb7)).mono ?_); rintro e w8 ⟨a8, c8, rfl, hown8, hb8⟩; rw [hvals.out.2] at hown8; rw [hvals.out.2]))
      go_ret3
      exact ⟨a7, c7, a8, c8, rfl, (Rw.of_own hown7).below hb8, Rw.of_own hown8, hb5.trans ((hbq.trans ((hb7.trans (hb8.mono hb7.size)).mono hbq.size)).mono hb5.size)⟩
    · have hqU : q < U.length := by omega
      have hruw := hru.below hbq
      have hrvw := hrv.below hbq
      obtain ⟨ad3, rfl, hc3⟩ := hruw q hqU
      obtain ⟨u, hu⟩ : ∃ u, U[q] = u := ⟨_, rfl⟩
      rw [hu] at hc3
      have HU := Lib.hid hu
      have HP := Lib.hid hq
      clear hu hq
      have hrow0 := own_made wr #[Value.int .u32 (u.toNat : Int)] 39 1 rfl (by unfold maxLen; omega)
      have hbr0 := Below.alloc (Below.refl wr.heap.size wr) (Nat.le_refl _) (.cells #[Value.int .u32 (u.toNat : Int)] 39)
      go_wp2
      go_loopw [14, 15] (fun v k w2 => NxRel wr u (canon ρ) v k w2) (fun _ k _ => (canon ρ).length - (intOf k).toNat)
      case atStart => exact ⟨0, Nat.zero_le _, rfl, by exact hrow0, hbr0⟩
      case round =>
        obtain ⟨j, hj, rfl, hown, hb⟩ := hrel
        have hj2 : j + 1 + 1 ≤ 20000000 := by omega
        by_cases hlt : j < (canon ρ).length
        · obtain ⟨ad6, rfl, hc6⟩ := (hr5.below hb) j hlt
          go_wp2_with (at_builtin; refine wpList_snoc32 rfl _ _ rfl hown hb hj2 (canon ρ)[j] rfl rfl rfl ?_; intro v' w6 hown6 hb6)
          go_roundw
          case rel => exact ⟨j + 1, by omega, by go_num, by rw [List.take_succ_eq_append_getElem hlt, ← List.cons_append]; exact hown6, hb6⟩
          case measure => simp [intOf] <;> omega
        · obtain ⟨a6, c6, rfl⟩ := own_slice hown
          have hjl : j = (canon ρ).length := by omega
          have hL : Hid ((u :: (canon ρ).take j).length = j + 1) := by
            show _ = _
            rw [List.length_cons, List.length_take]; omega
          have hX : Hid (valD (trimD (u :: (canon ρ).take j)) = u.toNat + 4294967296 * ρ) := by
            show _ = _
            rw [valD_trim, valD_cons, List.take_of_length_le (by omega), valD_canon]
          have hXl : Hid (valD (trimD (u :: (canon ρ).take j)) < 4294967296 * valD V) := by
            show _ < _
            rw [hX.out]
            exact dm_lt u.isLt hρ.out
          have hfit := trim_len_le (u :: (canon ρ).take j)
          rw [hL.out] at hfit
          obtain ⟨dq, hdq⟩ : ∃ dq, Hid (valD (trimD (u :: (canon ρ).take j)) / valD V = dq) := ⟨_, rfl⟩
          obtain ⟨r', hr'⟩ : ∃ r', Hid (valD (trimD (u :: (canon ρ).take j)) % valD V = r') := ⟨_, rfl⟩
          have hdq2 : dq < 4294967296 := by
            rw [← hdq.out]
            exact Nat.div_lt_of_lt_mul (by rw [Nat.mul_comm]; exact hXl.out)
          obtain ⟨z, hz⟩ : ∃ z, Hid (Q[q]? = some z) := ⟨_, List.getElem?_eq_getElem (by have := hQ.out.1; omega)⟩
          have HJ := Lib.hid hjl
          clear hjl
          go_wp2_with (first
            | (go_at_call 20; (with_reducible refine (norm_any _ _ _ (u :: (canon ρ).take j) _ hL.out (by rw [hL.out]; omega) (Rw.of_own hown)).mono ?_); rintro e w7 ⟨a7, c7, rfl, hown7, hb7⟩)
            | (go_at_call 64; (with_reducible refine (often_nm _ _ _ _ _ _ dq r' (trimD (u :: (canon ρ).take j)) V _ rfl rfl (by omega) (by omega) (Rw.of_own hown7) ((hrvw.below hb).below hb7) hV0 hVt.out hXl.out hdq.out hr'.out).mono ?_); rintro e w8 ⟨a8, c8, rfl, hown8, hb8⟩; have hbt := (hb.trans (hb7.mono hb.size)).trans (hb8.mono (Nat.le_trans hb.size hb7.size)); have hownq8 := own_below hownq hbt; have hc8 := own_cell hownq8 q (.int .u32 (z.toNat : Int)) (by rw [bv32, List.getElem?_map, hz.out]; rfl); have hf8 := hownq8.frozenAt q))
          go_roundw
          case rel =>
            have hQl : q < Q.length := by have := hQ.out.1; omega
            have e1 : (BitVec.ofNat 32 dq).toNat = dq := by rw [BitVec.toNat_ofNat]; omega
            refine ⟨q, r', a8, c8, Q.set q (BitVec.ofNat 32 dq), by omega, ?_, ?_, rfl, ?_, ⟨?_, ?_⟩, ?_, ?_⟩
            · rcases Nat.eq_zero_or_pos q with h | h
              · exact .inl ⟨h, by rw [h]; rfl⟩
              · exact .inr ⟨q - 1, by omega, by go_num⟩
            · show _ < _
              rw [← hr'.out]
              exact Nat.mod_lt _ hVp.out
            · refine Rw.of_own (ownsRow_setCell_below hown8 ?_ _)
              have h1 := hownq.lt w4.heap.size rfl
              exact Nat.lt_of_lt_of_le h1.2 (Nat.le_trans hb.size hb7.size)
            · rw [List.length_set]; exact hQ.out.1
            · have h2 := hQ.out.2
              rw [HP.out] at h2
              rw [drop_dig, digD_in _ _ hqU, HU.out, h2, drop_dig (Q.set q _) q, digD_in _ _ (by rw [List.length_set]; exact hQl), List.getElem_set_self, e1, List.drop_set_of_lt (by omega)]
              apply dm_num
              rw [← hX.out, ← hdq.out, ← hr'.out]
              exact (Nat.div_add_mod _ _).symm
            · rw [bv32_set, e1]
              exact own_set hownq8 _ _
            · exact Below.setCell (hbq.trans (hbt.mono hbq.size)) (p := ⟨w4.heap.size, q, none⟩) (Nat.le_refl _) _
          case measure => simp [intOf] <;> omega
end Go.Proofs.YtbnialhpflaoaaaDoor
