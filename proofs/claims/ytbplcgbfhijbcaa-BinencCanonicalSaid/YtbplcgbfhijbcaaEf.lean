import Derived.Test.YtbplcgbfhijbcaaEd
namespace Go.Proofs.Ytbplcgbfhijbcaa
open Go.RowKit
set_option linter.unusedVariables false
set_option linter.unusedSimpArgs false
theorem lowv_split (l : List (BitVec 8)) (m : Nat) (h : m ≤ l.length) : lowv l = lowv (l.take m) + 128 ^ m * lowv (l.drop m) := by
  have := lowv_append (l.take m) (l.drop m)
  rw [List.take_append_drop, List.length_take, Nat.min_eq_left h] at this
  exact this
theorem lowv_drop_le (l : List (BitVec 8)) (m : Nat) (h : m ≤ l.length) : lowv (l.drop m) ≤ lowv l := by
  rw [lowv_split l m h]
  have : 1 * lowv (l.drop m) ≤ 128 ^ m * lowv (l.drop m) := Nat.mul_le_mul_right _ (Nat.pow_pos (by omega))
  omega
/-- One more group in front. -/
theorem lowv_front (l : List (BitVec 8)) (m : Nat) (h : m < l.length) : lowv (l.drop m) = lowv (l.drop (m + 1)) * 128 + byA l m % 128 := by
  rw [lowv_drop l m h]; omega
def tri (v p e : Int) : Ending := .returned (.tuple #[.int .u64 v, .int .i64 p, .int .i64 e])
theorem byA_cell {w : World} {a : Option Addr} {l : List (BitVec 8)} (hr : Rd w a l) (k : Nat) (h : k < l.length) : ∃ ad, a = some ad ∧ w.cell? (ad.add k) = some (.int .u8 (byA l k : Int)) := by
  obtain ⟨ad, e, hc⟩ := hr k h
  exact ⟨ad, e, by rw [byA_in l k h]; exact hc⟩
theorem kof_cond (d : List (BitVec 8)) (j : Nat) (h1 : ∀ i, i < j → 127 < byA d i) (hj : j ≤ 9) (hl : j ≤ d.length) (h : ¬ (j < 9 ∧ j < d.length ∧ 127 < byA d j)) : kof d = j := by
  refine kof_is d j h1 hj ?_
  omega
theorem tri_ok {x : Nat} {p : Int} {V q : Nat} (h1 : V = x) (h2 : p = q) : Ending.returned (.tuple #[.int .u64 (x : Int), .int .i64 p, .int .i64 0]) = tri V (q : Int) 0 := by rw [h1, ← h2]; rfl
theorem uvN_cast (k j : Nat) : ((k + (j + 1) : Nat) : Int) = (k : Int) + (j : Int) + 1 := by omega
set_option maxRecDepth 50000 in
set_option maxHeartbeats 2000000 in
theorem ruv_any (a : Option Addr) (n c k : Nat) (l : List (BitVec 8)) (w : World) (hn : l.length = n) (hl : n ≤ 4611686018427387904) (hr : Rd w a l) (hk : k ≤ n) :
    Calls Try.prog 14 #[.slice a n c, .int .i64 k] w fun e w' => w = w' ∧
      ((uvE (l.drop k) = 0 ∧ e = tri (uvV (l.drop k)) ((k + uvN (l.drop k) : Nat) : Int) 0) ∨ (uvE (l.drop k) ≠ 0 ∧ e = tri 0 0 (uvE (l.drop k)))) := by
  subst hn
  obtain ⟨d, hd⟩ : ∃ d, l.drop k = d := ⟨_, rfl⟩
  have hdl : d.length = l.length - k := by rw [← hd, List.length_drop]
  have hby : ∀ j, j < d.length → ∃ ad, a = some ad ∧ w.cell? (ad.add (k + j)) = some (.int .u8 (byA d j : Int)) := by
    intro j hj
    obtain ⟨ad, e, hc⟩ := byA_cell hr (k + j) (by omega)
    exact ⟨ad, e, by rw [hc, ← hd, byA_drop]⟩
  rw [hd]
  have HD := Lib.hid hdl
  clear hdl
  go_enter Try.func14, Try.ntmps14
  go_wp2
  go_loop [7] (fun i => ∃ j : Nat, j ≤ 9 ∧ k + j ≤ l.length ∧ i = .int .i64 j ∧ Hid (∀ i, i < j → 127 < byA d i)) (fun i => 10 - (intOf i).toNat)
  case atStart => exact ⟨0, by omega, by omega, rfl, fun i h => by omega⟩
  case round =>
    obtain ⟨j, hj, hjl, rfl, hall⟩ := hrel
    have hdl := HD.out
    by_cases hgo : j < 9 ∧ k + j < l.length ∧ 127 < byA d j
    · obtain ⟨h1, h2, h3⟩ := hgo
      obtain ⟨ad, rfl, hc⟩ := hby j (by omega)
      obtain ⟨b, hb⟩ : ∃ b, byA d j = b := ⟨_, rfl⟩
      rw [hb] at hc h3
      have HB := Lib.hid hb
      clear hb hdl
      go_wp2
      go_round
      case rel =>
        refine ⟨j + 1, by omega, by omega, by go_num, fun i hi => ?_⟩
        rcases Nat.lt_or_ge i j with h | h
        · exact hall.out i h
        · obtain rfl : i = j := by omega
          rw [HB.out]; exact h3
      case measure => (simp [intOf]; try omega)
    · have HK := Lib.hid (kof_cond d j hall.out hj (by omega) (by omega))
      have hkl := kof_len d
      by_cases he : k + j = l.length
      · have hE : uvE d = 4 := by unfold uvE; rw [if_pos (by have := HK.out; omega)]
        have HE := Lib.hid hE
        clear hE hdl hgo hkl
        go_wp2
        all_goals (first | go_ret3 | skip)
        all_goals exact ⟨rfl, .inr ⟨by rw [HE.out]; decide, by rw [HE.out]; rfl⟩⟩
      · have hjd : j < d.length := by omega
        obtain ⟨ad, rfl, hc⟩ := hby j hjd
        obtain ⟨b, hb⟩ : ∃ b, byA d j = b := ⟨_, rfl⟩
        have hbl := byA_lt d j
        rw [hb] at hc hgo hbl
        by_cases hbad : (j = 9 ∧ 1 < b) ∨ (0 < j ∧ b = 0)
        · have hE := Lib.hid (uv_syn d j b hall.out hj hjd hb hbad)
          have HB := Lib.hid hb
          clear hb hdl hkl
          have hbad' : (9 ≤ j ∧ 1 < b) ∨ (0 < j ∧ j < 9 ∧ b < 1) ∨ (9 ≤ j ∧ b < 1) := by omega
          clear hbad hgo
          have hq : ((k : Int) + (j : Int) == (l.length : Int)) = false := by simp; omega
          rcases hbad' with ⟨h1, h2⟩ | ⟨h1, h2, h3⟩ | ⟨h1, h2⟩
          · have g1 : ((j : Int) == 9) = true := by simp; omega
            go_wp2
            go_ret3
            exact ⟨rfl, .inr ⟨by rw [hE.out]; decide, by rw [hE.out]; rfl⟩⟩
          · have g1 : ((j : Int) == 9) = false := by simp; omega
            have g2 : ((b : Int) == 0) = true := by simp; omega
            go_wp2
            go_ret3
            exact ⟨rfl, .inr ⟨by rw [hE.out]; decide, by rw [hE.out]; rfl⟩⟩
          · have g1 : ((j : Int) == 9) = true := by simp; omega
            have g2 : ((b : Int) == 0) = true := by simp; omega
            go_wp2
            go_ret3
            exact ⟨rfl, .inr ⟨by rw [hE.out]; decide, by rw [hE.out]; rfl⟩⟩
        · have hb7 : b ≤ 127 := by omega
          have hF := Lib.hid (uv_fine d j b _ hall.out hj hjd hb hbad (by omega) rfl)
          have HB := Lib.hid hb
          clear hb hdl hkl
          have hgood : (9 ≤ j ∧ b ≤ 1 ∧ 0 < b) ∨ (0 < j ∧ j < 9 ∧ 0 < b) ∨ (j < 1) := by omega
          have hq : ((k : Int) + (j : Int) == (l.length : Int)) = false := by simp; omega
          clear hbad hgo
          have g2 : 0 < j → ((b : Int) == 0) = false := by intro h; simp; omega
          rcases hgood with ⟨h1, h2, h3⟩ | ⟨h1, h2, h3⟩ | h1
          · have g1 : ((j : Int) == 9) = true := by simp; omega
            have g2 := g2 (by omega)
            go_wp2
            go_loop [8, 9] (fun n i => ∃ (m : Nat) (z : Int) (x : Nat), m ≤ j + 1 ∧ i = .int .i64 z ∧ Hid (z = (m : Int) - 1) ∧ n = .int .u64 x ∧ Hid (x = lowv ((d.take (j + 1)).drop m))) (fun _ i => (intOf i + 1).toNat)
            case atStart => exact ⟨j + 1, j, 0, by omega, rfl, by show _ = _; omega, rfl, by show _ = _; rw [List.drop_of_length_le (by simp; omega)]; rfl⟩
            case round =>
              obtain ⟨m, z, x, hm, rfl, hz, rfl, hx⟩ := hrel
              rcases m with _ | q
              · obtain rfl : z = -1 := by have := hz.out; omega
                go_wp2
                go_ret3
                exact ⟨rfl, .inl ⟨hF.out.1, tri_ok (x := x) (p := (k : Int) + (j : Int) + 1) (by rw [hx.out, List.drop_zero]; unfold uvV; rw [HK.out]) (by rw [hF.out.2.2]; exact (uvN_cast k j).symm)⟩⟩
              · obtain rfl : z = (q : Int) := by have := hz.out; omega
                have hqd : q < d.length := by omega
                obtain ⟨ad', e', hc'⟩ := hby q hqd
                cases e'
                obtain ⟨y, hy⟩ : ∃ y, byA d q = y := ⟨_, rfl⟩
                have hyl := byA_lt d q
                rw [hy] at hc' hyl
                have hfr : lowv ((d.take (j + 1)).drop q) = x * 128 + y % 128 := by
                  rw [lowv_front _ q (by rw [List.length_take]; omega), ← hx.out]
                  rw [← hy]
                  simp [byA, List.getD, List.getElem?_take, show q < j + 1 by omega]
                have hlt : x * 128 + y % 128 < 18446744073709551616 := by
                  have h1 := lowv_drop_le (d.take (j + 1)) q (by rw [List.length_take]; omega)
                  have h2 := uvV_lt d hF.out.1
                  have h3 : uvV d = lowv (d.take (j + 1)) := by unfold uvV; rw [HK.out]
                  omega
                have HFR := Lib.hid hfr
                clear hfr hy
                go_wp2
                go_round
                case rel => exact ⟨q, (q : Int) - 1, x * 128 + y % 128, by omega, rfl, rfl, by go_num, HFR.out.symm⟩
                case measure => (simp [intOf]; try omega)
          · have g1 : ((j : Int) == 9) = false := by simp; omega
            have g2 := g2 (by omega)
            go_wp2
            go_loop [8, 9] (fun n i => ∃ (m : Nat) (z : Int) (x : Nat), m ≤ j + 1 ∧ i = .int .i64 z ∧ Hid (z = (m : Int) - 1) ∧ n = .int .u64 x ∧ Hid (x = lowv ((d.take (j + 1)).drop m))) (fun _ i => (intOf i + 1).toNat)
            case atStart => exact ⟨j + 1, j, 0, by omega, rfl, by show _ = _; omega, rfl, by show _ = _; rw [List.drop_of_length_le (by simp; omega)]; rfl⟩
            case round =>
              obtain ⟨m, z, x, hm, rfl, hz, rfl, hx⟩ := hrel
              rcases m with _ | q
              · obtain rfl : z = -1 := by have := hz.out; omega
                go_wp2
                go_ret3
                exact ⟨rfl, .inl ⟨hF.out.1, tri_ok (x := x) (p := (k : Int) + (j : Int) + 1) (by rw [hx.out, List.drop_zero]; unfold uvV; rw [HK.out]) (by rw [hF.out.2.2]; exact (uvN_cast k j).symm)⟩⟩
              · obtain rfl : z = (q : Int) := by have := hz.out; omega
                have hqd : q < d.length := by omega
                obtain ⟨ad', e', hc'⟩ := hby q hqd
                cases e'
                obtain ⟨y, hy⟩ : ∃ y, byA d q = y := ⟨_, rfl⟩
                have hyl := byA_lt d q
                rw [hy] at hc' hyl
                have hfr : lowv ((d.take (j + 1)).drop q) = x * 128 + y % 128 := by
                  rw [lowv_front _ q (by rw [List.length_take]; omega), ← hx.out]
                  rw [← hy]
                  simp [byA, List.getD, List.getElem?_take, show q < j + 1 by omega]
                have hlt : x * 128 + y % 128 < 18446744073709551616 := by
                  have h1 := lowv_drop_le (d.take (j + 1)) q (by rw [List.length_take]; omega)
                  have h2 := uvV_lt d hF.out.1
                  have h3 : uvV d = lowv (d.take (j + 1)) := by unfold uvV; rw [HK.out]
                  omega
                have HFR := Lib.hid hfr
                clear hfr hy
                go_wp2
                go_round
                case rel => exact ⟨q, (q : Int) - 1, x * 128 + y % 128, by omega, rfl, rfl, by go_num, HFR.out.symm⟩
                case measure => (simp [intOf]; try omega)
          · have g1 : ((j : Int) == 9) = false := by simp; omega
            clear g2
            go_wp2
            go_loop [8, 9] (fun n i => ∃ (m : Nat) (z : Int) (x : Nat), m ≤ j + 1 ∧ i = .int .i64 z ∧ Hid (z = (m : Int) - 1) ∧ n = .int .u64 x ∧ Hid (x = lowv ((d.take (j + 1)).drop m))) (fun _ i => (intOf i + 1).toNat)
            case atStart => exact ⟨j + 1, j, 0, by omega, rfl, by show _ = _; omega, rfl, by show _ = _; rw [List.drop_of_length_le (by simp; omega)]; rfl⟩
            case round =>
              obtain ⟨m, z, x, hm, rfl, hz, rfl, hx⟩ := hrel
              rcases m with _ | q
              · obtain rfl : z = -1 := by have := hz.out; omega
                go_wp2
                go_ret3
                exact ⟨rfl, .inl ⟨hF.out.1, tri_ok (x := x) (p := (k : Int) + (j : Int) + 1) (by rw [hx.out, List.drop_zero]; unfold uvV; rw [HK.out]) (by rw [hF.out.2.2]; exact (uvN_cast k j).symm)⟩⟩
              · obtain rfl : z = (q : Int) := by have := hz.out; omega
                have hqd : q < d.length := by omega
                obtain ⟨ad', e', hc'⟩ := hby q hqd
                cases e'
                obtain ⟨y, hy⟩ : ∃ y, byA d q = y := ⟨_, rfl⟩
                have hyl := byA_lt d q
                rw [hy] at hc' hyl
                have hfr : lowv ((d.take (j + 1)).drop q) = x * 128 + y % 128 := by
                  rw [lowv_front _ q (by rw [List.length_take]; omega), ← hx.out]
                  rw [← hy]
                  simp [byA, List.getD, List.getElem?_take, show q < j + 1 by omega]
                have hlt : x * 128 + y % 128 < 18446744073709551616 := by
                  have h1 := lowv_drop_le (d.take (j + 1)) q (by rw [List.length_take]; omega)
                  have h2 := uvV_lt d hF.out.1
                  have h3 : uvV d = lowv (d.take (j + 1)) := by unfold uvV; rw [HK.out]
                  omega
                have HFR := Lib.hid hfr
                clear hfr hy
                go_wp2
                go_round
                case rel => exact ⟨q, (q : Int) - 1, x * 128 + y % 128, by omega, rfl, rfl, by go_num, HFR.out.symm⟩
                case measure => (simp [intOf]; try omega)
end Go.Proofs.Ytbplcgbfhijbcaa
