import Derived.Test.YtciaidlkhlgflaaLp
import Derived.Test.YtciaidlkhlgflaaPt
import Derived.Test.YtciaidlkhlgflaaR7
namespace Go.Proofs.Ytciaidlkhlgflaa
open Go.RowKit
set_option linter.unusedVariables false
set_option linter.unusedSimpArgs false
theorem cn_zero (e : Bool) (x : Int) (h : e = true) : cn e x = 0 := by rw [h]; rfl
/-- The rectangles that Pack gives are good ones. -/
theorem packR_good {q h : Int} {l : List (Int × Int)} {r : List (Int × Int × Int × Int)} (hr : packR q h l = some r) :
    r.map (fun t => (t.2.2.1 - t.1, t.2.2.2 - t.2.1)) = l ∧ (∀ i (hi : i < r.length), 0 ≤ r[i].1 ∧ r[i].1 < r[i].2.2.1 ∧ r[i].2.2.1 ≤ q ∧ 0 ≤ r[i].2.1 ∧ r[i].2.1 < r[i].2.2.2 ∧ r[i].2.2.2 ≤ h) ∧ r.Pairwise apR ∧ 1 ≤ q ∧ q ≤ 4096 ∧ 1 ≤ h ∧ h ≤ 4096 := by
  unfold packR at hr
  split at hr
  · rename_i h1
    simp at h1
    have h2 := (sideB_iff q).1 h1.1.1
    have h3 := (sideB_iff h).1 h1.1.2
    obtain ⟨h4, h5⟩ := packL_good h2.1 h2.2 (by omega) h3.2 hr
    exact ⟨packL_size _ _ _ _ hr, h4, h5, h2.1, h2.2, h3.1, h3.2⟩
  · cases hr
set_option maxRecDepth 50000 in
set_option maxHeartbeats 4000000 in
theorem rectPackDisjoint_w (q h : Int) (a : Option Addr) (n c : Nat) (l : List (Int × Int)) (w : World) (hn : l.length = n) (hr : RS 2 ptV w a l) :
    Calls Try.prog 7 #[.int .i64 q, .int .i64 h, .slice a n c] w fun e w' => e = .returned (.bool true) ∧ Below w.heap.size w w' := by
  have hx := fun W => rex_any W
  by_cases hbig : 40 < n
  · go_enter Try.func7, Try.ntmps7
    go_wp2_with (go_at_call 13; go_loud ((with_reducible refine (hx _).mono ?_); rintro e w1 ⟨rfl, hb1⟩))
    go_ret
    exact ⟨rfl, hb1⟩
  cases hP : packR q h l with
  | none =>
    have h1 := Lib.hid (fun W (hr' : RS 2 ptV W a l) => (pack_any a n c q h l W hn hr').mono fun e w' x => x.a (L := []) (ok := false) (by rw [hP]; rfl) (by rw [hP]; rfl))
    clear hP
    go_enter Try.func7, Try.ntmps7
    go_wp2_with (first
      | (go_at_call 22; go_loud ((with_reducible refine (h1.out _ hr).mono ?_); rintro e w1 ⟨a1, c1, rfl, hc1, hr1, hb1⟩))
      | (go_at_call 13; go_loud ((with_reducible refine (hx _).mono ?_); rintro e w6 ⟨rfl, hb6⟩)))
    go_ret
    exact ⟨rfl, hb1.trans (hb6.mono hb1.size)⟩
  | some L =>
    have hLl := packR_len hP
    have hLn : L.length = n := by omega
    obtain ⟨hsz, hgd, hap, hq0, hq1, hh0, hh1⟩ := packR_good hP
    have h1 : Hid (∀ W, RS 2 ptV W a l → Calls Try.prog 22 #[.int .i64 q, .int .i64 h, .slice a n c] W fun e w' => ∃ a2 c2, e = .returned (.tuple #[.slice a2 n c2, .bool true]) ∧ RS 4 rcV w' a2 L ∧ Below W.heap.size W w') := fun W hr' =>
      (pack_any a n c q h l W hn hr').mono fun e w' x => by
        obtain ⟨a2, c2, h5, h6, h7, h8⟩ := x.a (L := L) (ok := true) (by rw [hP]; rfl) (by rw [hP]; rfl)
        rw [hLn] at h5
        exact ⟨a2, c2, h5, h7, h8⟩
    have HLN := Lib.hid hLn
    have HSZ := Lib.hid hsz
    have HGD := Lib.hid hgd
    have HAP := Lib.hid (List.pairwise_iff_getElem.1 hap)
    clear hP hLl hLn hsz hgd hap
    go_enter Try.func7, Try.ntmps7
    go_wp2_with (go_at_call 22; go_loud ((with_reducible refine (h1.out _ hr).mono ?_); rintro e w1 ⟨a1, c1, rfl, hr1, hb1⟩))
    go_loopw [37] (fun i wr => ∃ j : Nat, j ≤ n ∧ i = .int .i64 j ∧ Below w1.heap.size w1 wr) (fun i _ => n - (intOf i).toNat)
    case atStart => exact ⟨0, Nat.zero_le _, rfl, Below.refl _ _⟩
    case round =>
      obtain ⟨j, hj, rfl, hbj⟩ := hrel
      by_cases hlt : j < n
      · have hj1 : j < L.length := by rw [HLN.out]; exact hlt
        have hj2 : j < l.length := by omega
        obtain ⟨ad, rfl, hc1⟩ := hr1 j hj1
        obtain ⟨bd, rfl, hc2⟩ := hr j hj2
        obtain ⟨t, ht⟩ : ∃ t, L[j] = t := ⟨_, rfl⟩
        have hg := HGD.out j hj1
        have hs : l[j] = (L[j].2.2.1 - L[j].1, L[j].2.2.2 - L[j].2.1) := by
          have := HSZ.out
          subst this
          simp
        rw [hs] at hc2
        rw [ht] at hc1 hg hc2
        obtain ⟨x0, y0, x1, y1⟩ := t
        obtain ⟨g0, g1, g2, g3, g4, g5⟩ : 0 ≤ x0 ∧ x0 < x1 ∧ x1 ≤ q ∧ 0 ≤ y0 ∧ y0 < y1 ∧ y1 ≤ h := hg
        obtain ⟨dx, hdx⟩ : ∃ dx, x1 - x0 = dx := ⟨_, rfl⟩
        obtain ⟨dy, hdy⟩ : ∃ dy, y1 - y0 = dy := ⟨_, rfl⟩
        have hcell : ∀ W, Below w1.heap.size w1 W → W.cell? (ad.add (j * 4)) = some (.int .i64 x0) ∧ W.cell? ⟨(ad.add (j * 4)).block, (ad.add (j * 4)).off + 1, none⟩ = some (.int .i64 y0) ∧ W.cell? ⟨(ad.add (j * 4)).block, (ad.add (j * 4)).off + 2, none⟩ = some (.int .i64 x1) ∧ W.cell? ⟨(ad.add (j * 4)).block, (ad.add (j * 4)).off + 3, none⟩ = some (.int .i64 y1) ∧ W.cell? (bd.add (j * 2)) = some (.int .i64 dx) ∧ W.cell? ⟨(bd.add (j * 2)).block, (bd.add (j * 2)).off + 1, none⟩ = some (.int .i64 dy) := fun W hW => by
          have e : ∀ A v, w1.cell? A = some v → W.cell? A = some v := fun A v hA => (hW.cell (World.block_lt_of_cell? w1 _ hA)).trans hA
          have e2 : ∀ A v, w.cell? A = some v → W.cell? A = some v := fun A v hA => e A v ((hb1.cell (World.block_lt_of_cell? w _ hA)).trans hA)
          exact ⟨e _ _ (hc1 0 _ rfl), e _ _ (hc1 1 _ rfl), e _ _ (hc1 2 _ rfl), e _ _ (hc1 3 _ rfl), e2 _ _ (hc2 0 _ (by rw [← hdx]; rfl)), e2 _ _ (hc2 1 _ (by rw [← hdy]; rfl))⟩
        have hwi : ∀ W, Calls Try.prog 25 #[.agg #[.int .i64 x0, .int .i64 y0, .int .i64 x1, .int .i64 y1], .agg #[.int .i64 0, .int .i64 0, .int .i64 q, .int .i64 h]] W fun e w' => e = .returned (.bool true) ∧ Below W.heap.size W w' := fun W => by
          have := within_any x0 y0 x1 y1 0 0 q h W
          rwa [(wB_true _ _ _ _ _ _ _ _).2 (.inr ⟨(eR_false _ _ _ _).2 (by omega), by omega⟩)] at this
        have hem : ∀ W, Calls Try.prog 19 #[.agg #[.int .i64 x0, .int .i64 y0, .int .i64 x1, .int .i64 y1]] W fun e w' => e = .returned (.bool false) ∧ Below W.heap.size W w' := fun W => by
          have := empty_any x0 y0 x1 y1 W
          rwa [(eR_false _ _ _ _).2 (by omega)] at this
        have t0 : IntKind.i64.wrap (x1 - x0) = dx := by rw [hdx]; exact IntWalk.i64_in _ (by omega)
        have t1 : IntKind.i64.wrap (y1 - y0) = dy := by rw [hdy]; exact IntWalk.i64_in _ (by omega)
        obtain ⟨k0, k1, k2, k3, k4, k5⟩ := hcell wr hbj
        have HC := Lib.hid hcell
        have HW := Lib.hid hwi
        have HE := Lib.hid hem
        have HT := Lib.hid ht
        clear hcell hwi hem hdx hdy ht hs hc1 hc2
        go_wp2
        go_region_held3 (fun W => W.cell? (ad.add (j * 4)) = some (.int .i64 x0) ∧ W.cell? ⟨(ad.add (j * 4)).block, (ad.add (j * 4)).off + 1, none⟩ = some (.int .i64 y0) ∧ W.cell? ⟨(ad.add (j * 4)).block, (ad.add (j * 4)).off + 2, none⟩ = some (.int .i64 x1) ∧ W.cell? ⟨(ad.add (j * 4)).block, (ad.add (j * 4)).off + 3, none⟩ = some (.int .i64 y1) ∧ W.cell? (bd.add (j * 2)) = some (.int .i64 dx) ∧ W.cell? ⟨(bd.add (j * 2)).block, (bd.add (j * 2)).off + 1, none⟩ = some (.int .i64 dy)) (first | go_keep | (with_reducible exact KP) | fail) (first
          | ((with_reducible refine (HW.out _).mono ?_); rintro e w5 ⟨rfl, hb5⟩; have hb6 := hbj.drew.trans (hb5.mono hbj.drew.size); have KP := HC.out w5 hb6)
          | ((with_reducible refine (HE.out _).mono ?_); rintro e w7 ⟨rfl, hb7⟩; have hb8 := hb6.trans (hb7.mono hb6.size); have KP := HC.out w7 hb8))
        have hbk := hb8
        clear KP k0 k1 k2 k3 k4 k5 HW HE HC t0 t1
        go_wp2
        go_loopw [95] (fun i wr => ∃ k : Nat, k ≤ j ∧ i = .int .i64 k ∧ Below w1.heap.size w1 wr) (fun i _ => j - (intOf i).toNat)
        case atStart => exact ⟨0, Nat.zero_le _, rfl, hbk⟩
        case round =>
          clear hbk hb8 hb7 hb6 hb5 hbj
          obtain ⟨i, hi, rfl, hbi⟩ := hrel
          by_cases hlti : i < j
          · have hi1 : i < L.length := by omega
            obtain ⟨ad', e9, hc3⟩ := hr1 i hi1
            obtain rfl : ad = ad' := Option.some.inj e9
            obtain ⟨ad', e9, hc1⟩ := hr1 j hj1
            obtain rfl : ad = ad' := Option.some.inj e9
            obtain ⟨t, ht2⟩ : ∃ t, L[i] = t := ⟨_, rfl⟩
            have hg := HGD.out i hi1
            have hap := HAP.out i j hi1 hj1 hlti
            rw [HT.out, ht2] at hap
            rw [ht2] at hc3 hg
            rw [HT.out] at hc1
            obtain ⟨u0, v0, u1, v1⟩ := t
            obtain ⟨f0, f1, f2, f3, f4, f5⟩ : 0 ≤ u0 ∧ u0 < u1 ∧ u1 ≤ q ∧ 0 ≤ v0 ∧ v0 < v1 ∧ v1 ≤ h := hg
            have hcell : ∀ W, Below w1.heap.size w1 W → W.cell? (ad.add (j * 4)) = some (.int .i64 x0) ∧ W.cell? ⟨(ad.add (j * 4)).block, (ad.add (j * 4)).off + 1, none⟩ = some (.int .i64 y0) ∧ W.cell? ⟨(ad.add (j * 4)).block, (ad.add (j * 4)).off + 2, none⟩ = some (.int .i64 x1) ∧ W.cell? ⟨(ad.add (j * 4)).block, (ad.add (j * 4)).off + 3, none⟩ = some (.int .i64 y1) ∧ W.cell? (ad.add (i * 4)) = some (.int .i64 u0) ∧ W.cell? ⟨(ad.add (i * 4)).block, (ad.add (i * 4)).off + 1, none⟩ = some (.int .i64 v0) ∧ W.cell? ⟨(ad.add (i * 4)).block, (ad.add (i * 4)).off + 2, none⟩ = some (.int .i64 u1) ∧ W.cell? ⟨(ad.add (i * 4)).block, (ad.add (i * 4)).off + 3, none⟩ = some (.int .i64 v1) := fun W hW => by
              have e : ∀ A v, w1.cell? A = some v → W.cell? A = some v := fun A v hA => (hW.cell (World.block_lt_of_cell? w1 _ hA)).trans hA
              exact ⟨e _ _ (hc1 0 _ rfl), e _ _ (hc1 1 _ rfl), e _ _ (hc1 2 _ rfl), e _ _ (hc1 3 _ rfl), e _ _ (hc3 0 _ rfl), e _ _ (hc3 1 _ rfl), e _ _ (hc3 2 _ rfl), e _ _ (hc3 3 _ rfl)⟩
            have ea : eR x0 y0 x1 y1 = false := (eR_false _ _ _ _).2 (by omega)
            have eb : eR u0 v0 u1 v1 = false := (eR_false _ _ _ _).2 (by omega)
            have hap2 : apR (x0, y0, x1, y1) (u0, v0, u1, v1) := by simp only [apR] at hap ⊢; omega
            have hin : ∀ W, Calls Try.prog 17 #[.agg #[.int .i64 x0, .int .i64 y0, .int .i64 x1, .int .i64 y1], .agg #[.int .i64 u0, .int .i64 v0, .int .i64 u1, .int .i64 v1]] W fun e w' => e = .returned (.agg #[.int .i64 0, .int .i64 0, .int .i64 0, .int .i64 0]) ∧ Below W.heap.size W w' := fun W => by
              have h5 := intersect_any x0 y0 x1 y1 u0 v0 u1 v1 _ _ _ _ rfl rfl rfl rfl W
              rw [ea, eb] at h5
              simp only [cn_false] at h5
              have h6 := ap_empty hap2 rfl rfl rfl rfl
              simp only at h6
              rw [h6] at h5
              exact h5
            have hem : ∀ W, Calls Try.prog 19 #[.agg #[.int .i64 0, .int .i64 0, .int .i64 0, .int .i64 0]] W fun e w' => e = .returned (.bool true) ∧ Below W.heap.size W w' := fun W => empty_any 0 0 0 0 W
            obtain ⟨k0, k1, k2, k3, k4, k5, k6, k7⟩ := hcell wr hbi
            have HC := Lib.hid hcell
            have HW := Lib.hid hin
            have HE := Lib.hid hem
            have hi9 : i < n := by omega
            clear hcell hin hem ht2 hc1 hc3 hap hap2 ea eb
            go_wp2
            go_region_held3 (fun W => W.cell? (ad.add (j * 4)) = some (.int .i64 x0) ∧ W.cell? ⟨(ad.add (j * 4)).block, (ad.add (j * 4)).off + 1, none⟩ = some (.int .i64 y0) ∧ W.cell? ⟨(ad.add (j * 4)).block, (ad.add (j * 4)).off + 2, none⟩ = some (.int .i64 x1) ∧ W.cell? ⟨(ad.add (j * 4)).block, (ad.add (j * 4)).off + 3, none⟩ = some (.int .i64 y1) ∧ W.cell? (ad.add (i * 4)) = some (.int .i64 u0) ∧ W.cell? ⟨(ad.add (i * 4)).block, (ad.add (i * 4)).off + 1, none⟩ = some (.int .i64 v0) ∧ W.cell? ⟨(ad.add (i * 4)).block, (ad.add (i * 4)).off + 2, none⟩ = some (.int .i64 u1) ∧ W.cell? ⟨(ad.add (i * 4)).block, (ad.add (i * 4)).off + 3, none⟩ = some (.int .i64 v1)) (first | go_keep | (with_reducible exact KP) | fail) (first
              | ((with_reducible refine (HW.out _).mono ?_); rintro e w5 ⟨rfl, hb5⟩; have hb6 := hbi.drew.trans (hb5.mono hbi.drew.size); have KP := HC.out w5 hb6)
              | ((with_reducible refine (HE.out _).mono ?_); rintro e w7 ⟨rfl, hb7⟩; have hb8 := hb6.trans (hb7.mono hb6.size); have KP := HC.out w7 hb8))
            clear KP k0 k1 k2 k3 k4 k5 k6 k7 HW HE HC
            go_wp2
            go_roundw
            case rel => exact ⟨i + 1, by omega, by go_num, hb8⟩
            case measure => (simp [intOf]; try omega)
          · obtain rfl : i = j := by omega
            go_wp2
            go_roundw
            case rel => exact ⟨i + 1, by omega, by go_num, hbi⟩
            case measure => (simp [intOf]; try omega)
      · obtain rfl : j = n := by omega
        go_wp2_with (go_at_call 13; go_loud ((with_reducible refine (hx _).mono ?_); rintro e w6 ⟨rfl, hb6⟩))
        go_ret
        exact ⟨rfl, hb1.trans ((hbj.trans (hb6.mono hbj.size)).mono hb1.size)⟩
end Go.Proofs.Ytciaidlkhlgflaa
