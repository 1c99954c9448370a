import Derived.Test.YtbplcgbfhijbcaaLf1
namespace Go.Proofs.Ytbplcgbfhijbcaa
open Go.RowKit
set_option linter.unusedVariables false
set_option linter.unusedSimpArgs false
/-- Both decoders of byte strings answer alike. -/
theorem by_pair (l : List (BitVec 8)) (at' most : Int) (hl : l.length ≤ 20000) (hm : most ≤ 9223372036854775807) :
    (∃ p e : Int, (∀ (a : Option Addr) (n c : Nat) (W : World), l.length = n → n ≤ c → Rd W a l → Calls Try.prog 23 #[.slice a n c, .int .i64 at', .int .i64 most] W fun e' W' => e' = trs (.slice none 0 0) p e ∧ Below W.heap.size W W') ∧
      (∀ (a : Option Addr) (n c : Nat) (W : World), l.length = n → n ≤ c → Rd W a l → Calls Try.prog 24 #[.slice a n c, .int .i64 at', .int .i64 most] W fun e' W' => e' = trs (.slice none 0 0) p e ∧ W = W')) ∨
    (∃ k : Nat, k ≤ l.length ∧ uvN (l.drop k) + uvV (l.drop k) ≤ (l.drop k).length ∧ (∀ (a : Option Addr) (n c : Nat) (W : World), l.length = n → n ≤ c → Rd W a l → Calls Try.prog 23 #[.slice a n c, .int .i64 at', .int .i64 most] W (TkA W (l.drop k) k)) ∧
      (∀ (a : Option Addr) (n c : Nat) (W : World), l.length = n → n ≤ c → Rd W a l → Calls Try.prog 24 #[.slice a n c, .int .i64 at', .int .i64 most] W (TkA W (l.drop k) k))) := by
  by_cases h : at' < 0 ∨ (l.length : Int) < at'
  · exact .inl ⟨0, 2, fun a n c W hn _ _ => bb_out a n c at' most W (by omega) (by omega), fun a n c W hn _ _ => rb_out a n c at' most W (by omega) (by omega)⟩
  · obtain ⟨k, rfl⟩ := Int.eq_ofNat_of_zero_le (show 0 ≤ at' by omega)
    have hk : k ≤ l.length := by omega
    by_cases hu : bytE (l.drop k) most = 0
    · exact .inr ⟨k, hk, (bytE_ok hu).2, fun a n c W hn hc hr => bb_ok a n c k most l W hn hc (by omega) hm hr (by omega) hu, fun a n c W hn hc hr => rb_ok a n c k most l W hn (by omega) hm hr (by omega) hu⟩
    · exact .inl ⟨0, _, fun a n c W hn hc hr => bb_bad a n c k most l W hn hc (by omega) hm hr (by omega) hu, fun a n c W hn hc hr => rb_bad a n c k most l W hn (by omega) hm hr (by omega) hu⟩
theorem putB_len2 (l : List (BitVec 8)) (h : l.length ≤ 20000) : (putB l).length ≤ 1000000000 := by
  have := putB_len l (by omega)
  omega
theorem lby_big (a b : Option Addr) (n c m d : Nat) (at' most : Int) (w : World) (h : 20000 < n ∨ 20000 < m) (hn : n ≤ 9223372036854775807) (hm : m ≤ 9223372036854775807) :
    Calls Try.prog 5 #[.slice a n c, .slice b m d, .agg #[.int .i64 at', .int .i64 most]] w fun e w' => e = .returned (.bool true) ∧ Below w.heap.size w w' := by
  have hb0 := Below.alloc (Below.refl w.heap.size w) (Nat.le_refl _) (.cells #[Value.int .i64 at', Value.int .i64 most] 36)
  have hz0 := hb0.size
  have hs : 20000 < n ∨ (n ≤ 20000 ∧ 20000 < m) := by omega
  clear h
  rcases hs with h | ⟨h, h2⟩
  all_goals
    go_enter Try.func5, Try.ntmps5
    go_wp2_with (go_at_call 18; go_loud ((with_reducible refine (ex_any _).mono ?_); rintro e w6 ⟨rfl, hb6⟩))
    go_ret
    exact ⟨rfl, hb0.trans (hb6.mono hz0)⟩
set_option maxRecDepth 50000 in
set_option maxHeartbeats 1000000 in
theorem lby_bad (a b : Option Addr) (n c m d : Nat) (l k : List (BitVec 8)) (at' most p q : Int) (w : World) (hn : l.length = n) (hc : n ≤ c) (hm : k.length = m) (hd : m ≤ d) (hn2 : n ≤ 20000) (hm2 : m ≤ 20000) (hr : Rd w a l) (hs : Rd w b k)
    (h1 : ∀ (a : Option Addr) (n c : Nat) (W : World), k.length = n → n ≤ c → Rd W a k → Calls Try.prog 23 #[.slice a n c, .int .i64 at', .int .i64 most] W fun e' W' => e' = trs (.slice none 0 0) p q ∧ Below W.heap.size W W')
    (h2 : ∀ (a : Option Addr) (n c : Nat) (W : World), k.length = n → n ≤ c → Rd W a k → Calls Try.prog 24 #[.slice a n c, .int .i64 at', .int .i64 most] W fun e' W' => e' = trs (.slice none 0 0) p q ∧ W = W') :
    Calls Try.prog 5 #[.slice a n c, .slice b m d, .agg #[.int .i64 at', .int .i64 most]] w fun e w' => e = .returned (.bool true) ∧ Below w.heap.size w w' := by
  subst hn hm
  have H1 := Lib.hid h1
  have H2 := Lib.hid h2
  have HP := Lib.hid (putB_len2 l hn2)
  have hn9 : l.length ≤ 90000000 := by omega
  clear h1 h2
  have hb0 := Below.alloc (Below.refl w.heap.size w) (Nat.le_refl _) (.cells #[Value.int .i64 at', Value.int .i64 most] 36)
  have hb1 := Below.alloc hb0 (by simp) (.cells #[] 5)
  have hz1 := hb1.size
  have hrb := hr.below hb1
  have hsb := hs.below hb1
  have hown : ((w.alloc (.cells #[Value.int .i64 at', Value.int .i64 most] 36)).alloc (.cells #[] 5)).ownsRow (w.heap.size + 1) 5 1 (.slice (some ⟨w.heap.size + 1, 0, none⟩) 0 0) 0 (bv8 []) := by simpa [bv8] using fresh_row8 (w.alloc (.cells #[Value.int .i64 at', Value.int .i64 most] 36))
  have hz2 : w.heap.size + 1 ≤ ((w.alloc (.cells #[Value.int .i64 at', Value.int .i64 most] 36)).alloc (.cells #[] 5)).heap.size := by simp
  have hk0 : 0 + k.length ≤ 100000000 := by omega
  have hk9 : k.length ≤ 1000000000 := by omega
  have kc0 : ((w.alloc (.cells #[Value.int .i64 at', Value.int .i64 most] 36)).alloc (.cells #[] 5)).cell? ⟨w.heap.size, 0, none⟩ = some (.int .i64 at') := by go_simp
  have kc1 : ((w.alloc (.cells #[Value.int .i64 at', Value.int .i64 most] 36)).alloc (.cells #[] 5)).cell? ⟨w.heap.size, 1, none⟩ = some (.int .i64 most) := by go_simp
  go_enter Try.func5, Try.ntmps5
  go_wp2_with (first
    | (at_builtin; go_loud (refine wpList_apps8 (B := w.heap.size + 1) (l := []) rfl _ _ rfl hown hz2 (k := k) rfl hsb hk0 rfl rfl ?_; intro v1 w1 hown1 hbw1; rw [Nat.zero_add, List.nil_append] at hown1; obtain ⟨a1, c1, rfl⟩ := own_slice hown1; have hc1 := own_cap hown1; have hbx1 : Below w.heap.size w w1 := hb1.trans (hbw1.mono (by simp)); have k1_0 := (hbw1.cell (p := ⟨w.heap.size, 0, none⟩) (by simp)).trans kc0; have k1_1 := (hbw1.cell (p := ⟨w.heap.size, 1, none⟩) (by simp)).trans kc1; have hq1 : w.heap.size < w1.heap.size := (by have := hbw1.size; simp at this; omega)))
    | (go_at_call 23; go_loud ((with_reducible refine (H1.out _ _ _ _ rfl hc1 (Rd.of_own hown1)).mono ?_); unfold trs; rintro e w2 ⟨rfl, hbw2⟩; have k2_0 := bcs hbw2 k1_0; have k2_1 := bcs hbw2 k1_1; have hbx2 := bel_step hbx1 hbw2; have hown2 := own_below hown1 hbw2; have hs2 := hs.below hbx2; have hr2 := hr.below hbx2))
    | (go_at_call 24; go_loud ((with_reducible refine (H2.out _ _ _ _ rfl hd hs2).mono ?_); unfold trs; rintro e w2' ⟨rfl, rfl⟩))
    | (go_at_call 25; go_loud ((with_reducible refine (pb_any _ _ _ _ _ rfl hn9 hr2).mono ?_); rintro e w3 ⟨a3, c3, rfl, hc3, ho3, hbw3⟩; have hbx3 := bel_step hbx2 hbw3; have hr3 := hr2.below hbw3; have hown3 := own_below hown2 hbw3))
    | (go_at_call 26; go_loud ((with_reducible refine (rpb_any _ _ _ _ _ rfl hn9 hr3).mono ?_); rintro e w4 ⟨a4, c4, rfl, hc4, ho4, hbw4⟩; have hbx4 := bel_step hbx3 hbw4; have ho3b := Rd.of_own (own_below ho3 hbw4); have ho4b := Rd.of_own ho4; have hown4 := own_below hown3 hbw4))
    | (go_at_call 15; (first
      | (go_loud ((with_reducible refine (same8_yes _ _ _ _ _ _ _ _ _ rfl rfl HP.out ho3b ho4b rfl).mono ?_); rintro e w5 ⟨rfl, hbw5⟩; have hbx5 := bel_step hbx4 hbw5; have hown5 := own_below hown4 hbw5))
      | (go_loud ((with_reducible refine (same8_yes none none 0 0 0 0 [] [] _ rfl rfl (by decide) (Rd.nil _ _) (Rd.nil _ _) rfl).mono ?_); rintro e w6 ⟨rfl, hbw6⟩; have hbx6 := bel_step hbx5 hbw6; have hown6 := own_below hown5 hbw6; have hs6 := hs.below hbx6)))))
  refine wp_loop_rounds 1 ?_
  rw [rounds_succ]
  go_wp2_with (first
    | (go_at_call 15; go_loud ((with_reducible refine (same8_yes _ _ _ _ _ _ _ _ _ rfl rfl hk9 (Rd.of_own hown6) hs6 rfl).mono ?_); rintro e w7 ⟨rfl, hbw7⟩; have hbx7 := bel_step hbx6 hbw7))
    | (go_at_call 18; go_loud ((with_reducible refine (ex_any _).mono ?_); rintro e w8 ⟨rfl, hbw8⟩; have hbx8 := bel_step hbx7 hbw8)))
  go_ret
  exact ⟨rfl, hbx8⟩
set_option maxRecDepth 50000 in
set_option maxHeartbeats 1000000 in
theorem lby_ok (a b : Option Addr) (n c m d : Nat) (l k : List (BitVec 8)) (at' most : Int) (K : Nat) (w : World) (hn : l.length = n) (hc : n ≤ c) (hm : k.length = m) (hd : m ≤ d) (hn2 : n ≤ 20000) (hm2 : m ≤ 20000) (hr : Rd w a l) (hs : Rd w b k)
    (hK : K ≤ m) (hU : uvN (k.drop K) + uvV (k.drop K) ≤ (k.drop K).length) (h1 : ∀ (a : Option Addr) (n c : Nat) (W : World), k.length = n → n ≤ c → Rd W a k → Calls Try.prog 23 #[.slice a n c, .int .i64 at', .int .i64 most] W (TkA W (k.drop K) K))
    (h2 : ∀ (a : Option Addr) (n c : Nat) (W : World), k.length = n → n ≤ c → Rd W a k → Calls Try.prog 24 #[.slice a n c, .int .i64 at', .int .i64 most] W (TkA W (k.drop K) K)) :
    Calls Try.prog 5 #[.slice a n c, .slice b m d, .agg #[.int .i64 at', .int .i64 most]] w fun e w' => e = .returned (.bool true) ∧ Below w.heap.size w w' := by
  subst hn hm
  have hT : (((k.drop K).drop (uvN (k.drop K))).take (uvV (k.drop K))).length = uvV (k.drop K) := by rw [List.length_take, List.length_drop]; omega
  unfold TkA at h1 h2
  have hxl : uvV (k.drop K) ≤ 20000 := by rw [List.length_drop] at hU; omega
  obtain ⟨T, hTT⟩ : ∃ T, ((k.drop K).drop (uvN (k.drop K))).take (uvV (k.drop K)) = T := ⟨_, rfl⟩
  obtain ⟨x, hxx⟩ : ∃ x, uvV (k.drop K) = x := ⟨_, rfl⟩
  obtain ⟨P, hPP⟩ : ∃ P : Int, ((K + (uvN (k.drop K) + uvV (k.drop K)) : Nat) : Int) = P := ⟨_, rfl⟩
  simp only [hTT] at h1 h2 hT
  simp only [hPP] at h1 h2
  simp only [hxx] at h1 h2 hT hxl
  have hx9 : x ≤ 1000000000 := by omega
  have HT := Lib.hid hT
  clear hTT hxx hPP hU hK hT
  have H1 := Lib.hid h1
  have H2 := Lib.hid h2
  have HP := Lib.hid (putB_len2 l hn2)
  have hn9 : l.length ≤ 90000000 := by omega
  clear h1 h2
  have hb0 := Below.alloc (Below.refl w.heap.size w) (Nat.le_refl _) (.cells #[Value.int .i64 at', Value.int .i64 most] 36)
  have hb1 := Below.alloc hb0 (by simp) (.cells #[] 5)
  have hz1 := hb1.size
  have hrb := hr.below hb1
  have hsb := hs.below hb1
  have hown : ((w.alloc (.cells #[Value.int .i64 at', Value.int .i64 most] 36)).alloc (.cells #[] 5)).ownsRow (w.heap.size + 1) 5 1 (.slice (some ⟨w.heap.size + 1, 0, none⟩) 0 0) 0 (bv8 []) := by simpa [bv8] using fresh_row8 (w.alloc (.cells #[Value.int .i64 at', Value.int .i64 most] 36))
  have hz2 : w.heap.size + 1 ≤ ((w.alloc (.cells #[Value.int .i64 at', Value.int .i64 most] 36)).alloc (.cells #[] 5)).heap.size := by simp
  have hk0 : 0 + k.length ≤ 100000000 := by omega
  have hk9 : k.length ≤ 1000000000 := by omega
  have kc0 : ((w.alloc (.cells #[Value.int .i64 at', Value.int .i64 most] 36)).alloc (.cells #[] 5)).cell? ⟨w.heap.size, 0, none⟩ = some (.int .i64 at') := by go_simp
  have kc1 : ((w.alloc (.cells #[Value.int .i64 at', Value.int .i64 most] 36)).alloc (.cells #[] 5)).cell? ⟨w.heap.size, 1, none⟩ = some (.int .i64 most) := by go_simp
  go_enter Try.func5, Try.ntmps5
  go_wp2_with (first
    | (at_builtin; go_loud (refine wpList_apps8 (B := w.heap.size + 1) (l := []) rfl _ _ rfl hown hz2 (k := k) rfl hsb hk0 rfl rfl ?_; intro v1 w1 hown1 hbw1; rw [Nat.zero_add, List.nil_append] at hown1; obtain ⟨a1, c1, rfl⟩ := own_slice hown1; have hc1 := own_cap hown1; have hbx1 : Below w.heap.size w w1 := hb1.trans (hbw1.mono (by simp)); have k1_0 := (hbw1.cell (p := ⟨w.heap.size, 0, none⟩) (by simp)).trans kc0; have k1_1 := (hbw1.cell (p := ⟨w.heap.size, 1, none⟩) (by simp)).trans kc1; have hq1 : w.heap.size < w1.heap.size := (by have := hbw1.size; simp at this; omega)))
    | (go_at_call 23; go_loud ((with_reducible refine (H1.out _ _ _ _ rfl hc1 (Rd.of_own hown1)).mono ?_); unfold trs; rintro e w2 ⟨a2, c2, rfl, hc2, _, ho2, hbw2⟩; have k2_0 := bcs hbw2 k1_0; have k2_1 := bcs hbw2 k1_1; have hbx2 := bel_step hbx1 hbw2; have hown2 := own_below hown1 hbw2; have hs2 := hs.below hbx2; have hr2 := hr.below hbx2))
    | (go_at_call 24; go_loud ((with_reducible refine (H2.out _ _ _ _ rfl hd hs2).mono ?_); unfold trs; rintro e w2' ⟨a2', c2', rfl, hc2', _, ho2', hbw2'⟩; have hbx2' := bel_step hbx2 hbw2'; have ho2b := own_below ho2 hbw2'; have hown2' := own_below hown2 hbw2'; have hr2' := hr2.below hbw2'))
    | (go_at_call 25; go_loud ((with_reducible refine (pb_any _ _ _ _ _ rfl hn9 hr2').mono ?_); rintro e w3 ⟨a3, c3, rfl, hc3, ho3, hbw3⟩; have hbx3 := bel_step hbx2' hbw3; have hr3 := hr2'.below hbw3; have hown3 := own_below hown2' hbw3; have ho2c := own_below ho2b hbw3; have ho2c' := own_below ho2' hbw3))
    | (go_at_call 26; go_loud ((with_reducible refine (rpb_any _ _ _ _ _ rfl hn9 hr3).mono ?_); rintro e w4 ⟨a4, c4, rfl, hc4, ho4, hbw4⟩; have hbx4 := bel_step hbx3 hbw4; have ho3b := Rd.of_own (own_below ho3 hbw4); have ho4b := Rd.of_own ho4; have hown4 := own_below hown3 hbw4; have ho2d := own_below ho2c hbw4; have ho2d' := own_below ho2c' hbw4))
    | (go_at_call 15; (first
      | (go_loud ((with_reducible refine (same8_yes _ _ _ _ _ _ _ _ _ rfl rfl HP.out ho3b ho4b rfl).mono ?_); rintro e w5 ⟨rfl, hbw5⟩; have hbx5 := bel_step hbx4 hbw5; have hown5 := own_below hown4 hbw5; have ho2e := own_below ho2d hbw5; have ho2e' := own_below ho2d' hbw5))
      | (go_loud ((with_reducible refine (same8_yes _ _ _ _ _ _ _ _ _ HT.out HT.out hx9 (Rd.of_own ho2e) (Rd.of_own ho2e') rfl).mono ?_); rintro e w6 ⟨rfl, hbw6⟩; have hbx6 := bel_step hbx5 hbw6; have hown6 := own_below hown5 hbw6; have hs6 := hs.below hbx6; have ho2f := own_below ho2e hbw6)))))
  have hw26 := (((hbw2'.trans (hbw3.mono hbw2'.size)).trans (hbw4.mono (Nat.le_trans hbw2'.size hbw3.size))).trans (hbw5.mono (Nat.le_trans (Nat.le_trans hbw2'.size hbw3.size) hbw4.size))).trans (hbw6.mono (Nat.le_trans (Nat.le_trans (Nat.le_trans hbw2'.size hbw3.size) hbw4.size) hbw5.size))
  have hfar : ∀ g, a2 = some g → some g.block ≠ a1.map (·.block) := by
    intro g hg e
    have h3 := own_blk ho2 g hg
    rcases a1 with _ | p
    · cases e
    · have h4 := own_blk hown1 p rfl
      injection e with e
      have e : g.block = p.block := e
      omega
  have hba2 := own_blk ho2
  go_loopw [71] (fun i wr => ∃ (j : Nat) (T' : List (BitVec 8)), j ≤ x ∧ i = .int .i64 j ∧ T'.length = x ∧ wr.ownsRow w1.heap.size 5 1 (.slice a2 x c2) x (bv8 T') ∧ w6.grownBy wr (a2.map (·.block))) (fun i _ => x - (intOf i).toNat)
  case atStart => exact ⟨0, T, Nat.zero_le _, rfl, HT.out, ho2f, grown_refl _ _⟩
  case round =>
    obtain ⟨j, T', hj, rfl, hTl, hro, hgr⟩ := hrel
    by_cases hlt : j < x
    · obtain ⟨g, rfl, hgb⟩ := own_form hro (by omega)
      have hjT : j < T'.length := by omega
      obtain ⟨y, hy⟩ : ∃ y, T'[j] = y := ⟨_, rfl⟩
      have hyl := y.isLt
      have hcell := own_cell hro j (.int .u8 (y.toNat : Int)) (by simp [bv8, hjT, hy])
      have hfz := hro.frozenAt j
      have HTL := Lib.hid hTl
      have HYY := Lib.hid hy
      clear hy hTl
      go_wp2
      go_roundw
      case rel =>
        refine ⟨j + 1, T'.set j (BitVec.ofNat 8 (y.toNat + 1)), by omega, by go_num, by rw [List.length_set]; exact HTL.out, ?_, grown_trans hgr (grown_set _ _ _ _)⟩
        have := own_set hro j (.int .u8 (((y.toNat : Int) + 1) % 256))
        rw [show bv8 (T'.set j (BitVec.ofNat 8 (y.toNat + 1))) = (bv8 T').set j (.int .u8 (((y.toNat : Int) + 1) % 256)) by
          simp only [bv8, List.map_set, BitVec.toNat_ofNat]
          congr 2]
        exact this
      case measure => (simp [intOf]; try omega)
    · obtain rfl : j = x := by omega
      have hrow : ∀ q, a2.map (·.block) = some q → w1.heap.size ≤ q := by
        intro q hq
        rcases a2 with _ | p2
        · cases hq
        · have h3 := hba2 p2 rfl
          have e : p2.block = q := Option.some.inj hq
          omega
      have hownr : Rd wr a1 k := (Rd.of_own hown6).grown0 hgr (fun h0 ad e e2 => by
        have h4 := own_blk hown1 ad e
        have h5 := hrow _ e2.symm
        omega)
      have hsr : Rd wr b k := hs6.grown0 hgr (fun h0 ad e e2 => by
        have h4 := hs.blk h0 ad e
        have h5 := hrow _ e2.symm
        omega)
      have hbxr : Below w.heap.size w wr := hbx6.grown hgr hbx6.size (fun q hq => by have := hrow q hq; omega)
      go_wp2_with (first
        | (go_at_call 15; go_loud ((with_reducible refine (same8_yes _ _ _ _ _ _ _ _ _ rfl rfl hk9 hownr hsr rfl).mono ?_); rintro e w7 ⟨rfl, hbw7⟩; have hbx7 := bel_step hbxr hbw7))
        | (go_at_call 18; go_loud ((with_reducible refine (ex_any _).mono ?_); rintro e w8 ⟨rfl, hbw8⟩; have hbx8 := bel_step hbx7 hbw8)))
      go_ret
      exact ⟨rfl, hbx8⟩
theorem lby_w (a b : Option Addr) (n c m d : Nat) (l k : List (BitVec 8)) (at' most : Int) (w : World) (hn : l.length = n) (hc : n ≤ c) (hm : k.length = m) (hd : m ≤ d) (hn9 : n ≤ 9223372036854775807) (hm9 : m ≤ 9223372036854775807) (hmo : most ≤ 9223372036854775807) (hr : Rd w a l) (hs : Rd w b k) :
    Calls Try.prog 5 #[.slice a n c, .slice b m d, .agg #[.int .i64 at', .int .i64 most]] w fun e w' => e = .returned (.bool true) ∧ Below w.heap.size w w' := by
  by_cases h : 20000 < n ∨ 20000 < m
  · exact lby_big a b n c m d at' most w h hn9 hm9
  · rcases by_pair k at' most (by omega) hmo with ⟨p, e, h1, h2⟩ | ⟨K, hK, hU, h1, h2⟩
    · exact lby_bad a b n c m d l k at' most p e w hn hc hm hd (by omega) (by omega) hr hs h1 h2
    · exact lby_ok a b n c m d l k at' most K w hn hc hm hd (by omega) (by omega) hr hs (by omega) hU h1 h2
end Go.Proofs.Ytbplcgbfhijbcaa
