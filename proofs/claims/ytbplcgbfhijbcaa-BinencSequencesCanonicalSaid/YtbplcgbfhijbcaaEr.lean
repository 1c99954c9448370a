import Derived.Test.YtbplcgbfhijbcaaEq
namespace Go.Proofs.Ytbplcgbfhijbcaa
open Go.RowKit
set_option linter.unusedVariables false
set_option linter.unusedSimpArgs false
/-- The reference's outer loop. -/
def RrR (w : World) (l : List (BitVec 8)) (out co i : Value) (wr : World) : Prop := ∃ (I cnt : Nat) (acc : List (BitVec 8)), i = .int .i64 I ∧ co = .int .i64 cnt ∧
  Hid (renc l = acc ++ renc (l.drop I) ∧ rcnt l = cnt + rcnt (l.drop I) ∧ I ≤ l.length ∧ acc.length + 11 * (l.length - I) ≤ 11 * l.length ∧ cnt + (l.length - I) ≤ l.length) ∧ wr.ownsRow w.heap.size 5 1 out acc.length (bv8 acc) ∧ Below w.heap.size w wr
theorem RrR.step {w w3 : World} {l acc : List (BitVec 8)} {x : BitVec 8} {q cnt I : Nat} {v3 : Value} {y y2 : Int} (hy : y = ((cnt + 1 : Nat) : Int)) (hy2 : y2 = ((I + q : Nat) : Int)) (hI : I < l.length) (hx : byA l I = x.toNat) (hq1 : 1 ≤ q) (hq2 : I + q ≤ l.length) (HR : runA x (l.drop (I + 1)) + 1 = q) (hl : l.length ≤ 1000000)
    (hinv : Hid (renc l = acc ++ renc (l.drop I) ∧ rcnt l = cnt + rcnt (l.drop I) ∧ I ≤ l.length ∧ acc.length + 11 * (l.length - I) ≤ 11 * l.length ∧ cnt + (l.length - I) ≤ l.length))
    (hown : w3.ownsRow w.heap.size 5 1 v3 (acc.length + (putU q).length + 1) (bv8 (acc ++ putU q ++ [x]))) (hb : Below w.heap.size w w3) :
    RrR w l v3 (.int .i64 y) (.int .i64 y2) w3 := by
  subst hy hy2
  obtain ⟨h1, h2, h3, h4, h5⟩ := hinv.out
  have hqL := putU_len10 (n := q) (by omega)
  have e0 : l.drop I = x :: l.drop (I + 1) := by
    rw [List.drop_eq_getElem_cons hI]
    rw [byA_in _ _ hI] at hx
    rw [BitVec.eq_of_toNat_eq hx]
  have e1 : l.drop (I + q) = (l.drop (I + 1)).drop (runA x (l.drop (I + 1))) := by rw [List.drop_drop]; congr 1; omega
  refine ⟨I + q, cnt + 1, acc ++ putU q ++ [x], rfl, rfl, ⟨?_, ?_, hq2, ?_, ?_⟩, by simpa [Nat.add_assoc] using hown, hb⟩
  · rw [h1, e0, renc_cons, e1, HR]; simp [List.append_assoc]
  · rw [h2, e0, rcnt_cons, e1]; omega
  · simp only [List.length_append, List.length_cons, List.length_nil]; omega
  · omega
theorem runA_from (l : List (BitVec 8)) (x : BitVec 8) (I q : Nat) (hI : I < l.length) (hx : byA l I = x.toNat) (h1 : 1 ≤ q) (hq : I + q ≤ l.length) (hall : ∀ j, j < q → byA l (I + j) = x.toNat) (hstop : I + q = l.length ∨ byA l (I + q) ≠ x.toNat) : runA x (l.drop (I + 1)) + 1 = q := by
  have e0 : l.drop I = x :: l.drop (I + 1) := by
    rw [List.drop_eq_getElem_cons hI]
    rw [byA_in _ _ hI] at hx
    rw [BitVec.eq_of_toNat_eq hx]
  refine runA_head x _ q h1 (by rw [List.length_drop]; omega) (fun j _ h => by rw [← e0, byA_drop]; exact hall j h) ?_
  rcases hstop with h | h
  · exact .inl (by rw [List.length_drop]; omega)
  · exact .inr (by rw [← e0, byA_drop]; exact h)
set_option maxRecDepth 50000 in
set_option maxHeartbeats 1000000 in
theorem rpru_any (a : Option Addr) (n c : Nat) (l : List (BitVec 8)) (w : World) (hn : l.length = n) (hl : n ≤ 1000000) (hr : Rd w a l) :
    Calls Try.prog 44 #[.slice a n c] w (FrB w (putR l)) := by
  subst hn
  go_enter Try.func44, Try.ntmps44
  go_wp2
  go_loopw [3, 4, 5] (fun out co i wr => RrR w l out co i wr) (fun _ _ i _ => l.length - (intOf i).toNat)
  case atStart => exact ⟨0, 0, [], rfl, rfl, ⟨by simp, by simp, by omega, by simp, by simp⟩, fresh_row8 _, Below.alloc (Below.refl _ _) (Nat.le_refl _) _⟩
  case round =>
    obtain ⟨I, cnt, acc, rfl, rfl, hinv, hown, hb⟩ := hrel
    obtain ⟨a3, c3, rfl⟩ := own_slice hown
    have hz := hb.size
    have hrw := hr.below hb
    have hIl : I ≤ l.length := hinv.out.2.2.1
    by_cases hI : I < l.length
    · obtain ⟨ad, e1, hcell⟩ := byA_cell hrw I hI
      obtain rfl := e1
      obtain ⟨x, hxx⟩ : ∃ x : BitVec 8, l[I] = x := ⟨_, rfl⟩
      have hx : byA l I = x.toNat := by rw [byA_in _ _ hI, hxx]
      have hcx : Hid (∀ W, Below w.heap.size w W → W.cell? (ad.add I) = some (.int .u8 (byA l I : Int))) := fun W hW => by
        obtain ⟨ad', e2, h2⟩ := byA_cell (hr.below hW) I hI
        cases e2
        exact h2
      obtain ⟨z, hzx⟩ : ∃ z, byA l I = z := ⟨_, rfl⟩
      rw [hzx] at hcell hcx
      have HZ := Lib.hid hzx
      have HX := Lib.hid hx
      have HX2 := Lib.hid (show (z : Int) = (x.toNat : Int) by rw [← hzx, hx])
      clear hzx hx hxx
      have d1 : decide ((I : Int) < (l.length : Int)) = true := by simp; omega
      go_wp2
      go_loopw [6] (fun kk w2 => ∃ (K q k : Nat), Hid (K = I + q) ∧ K ≤ l.length ∧ kk = .int .i64 K ∧ Hid (∀ j, j < q → byA l (I + j) = x.toNat) ∧ w2 = wr.drewN k) (fun kk _ => l.length - (intOf kk).toNat)
      case atStart => exact ⟨I, 0, 0, rfl, hIl, rfl, fun j h => by omega, rfl⟩
      case round =>
        obtain ⟨K, q, k, hKq, hq2, rfl, hall, rfl⟩ := hrel
        by_cases hlt : K < l.length
        · obtain ⟨ad', e', hcq⟩ := byA_cell hrw K hlt
          cases e'
          obtain ⟨y, hy⟩ : ∃ y, byA l K = y := ⟨_, rfl⟩
          rw [hy] at hcq
          have d0 : decide ((K : Int) < (l.length : Int)) = true := by simp; omega
          by_cases hyz : y = z
          · subst hyz
            have HY := Lib.hid hy
            clear hy
            go_wp2
            go_quiet (fail)
            go_wp2
            go_roundw
            case rel =>
              refine ⟨K + 1, q + 1, _, by have := hKq.out; exact (by omega : K + 1 = I + (q + 1)), by omega, by go_num, fun j h2 => ?_, rfl⟩
              rcases Nat.lt_or_ge j q with h | h
              · exact hall.out j h
              · obtain rfl : j = q := by omega
                rw [← hKq.out, HY.out, ← HZ.out, HX.out]
            case measure => (simp [intOf]; try omega)
          · have hq1 : 1 ≤ q := by
              rcases q with _ | q
              · exact absurd (show y = z by rw [← hy, ← HZ.out, hKq.out]; rfl) hyz
              · omega
            have HR := Lib.hid (runA_from l x I q hI HX.out hq1 (by have := hKq.out; omega) hall.out (.inr (by rw [← hKq.out, hy, ← HX.out, HZ.out]; exact hyz)))
            have f1 : ((y : Int) == (z : Int)) = false := by rw [beq_eq_false_iff_ne]; omega
            clear hy
            go_wp2
            go_quiet (fail)
            have hK9 := hKq.out
            have hqL := putU_len10 (n := q) (by omega)
            have hqq : q < 18446744073709551616 := by omega
            have hal : 11 * (l.length - I) + acc.length ≤ 11000000 := by have h9 := hinv.out.2.2.2.1; omega
            have HK := Lib.hid (show acc.length + (putU q).length ≤ 100000000 by omega)
            have HK2 := Lib.hid (show acc.length + (putU q).length + 1 ≤ 100000000 by omega)
            have d9 : IntKind.u64.wrap ((K : Int) - (I : Int)) = (q : Int) := by rw [IntWalk.u64_in _ (by omega)]; omega
            clear hqL hal hK9
            go_wp2_with (first
              | (go_at_call 17; go_loud ((with_reducible refine (rputu_any _ _ hqq).mono ?_); rintro e1 w1 ⟨a1, c1, rfl, hc1, ho1, hb1⟩; have hbw1 := (below_drewN hb _).trans (hb1.mono hz); have hown1 := own_below (own_drewN hown _) hb1))
              | (at_builtin; go_loud (refine wpList_snoc8 (B := w.heap.size) rfl _ _ rfl hown2 hbw2.size HK2.out x HX2.out rfl rfl ?_; intro v3 w3 hown3 hb3 _ _))
              | (at_builtin; go_loud (refine wpList_apps8 (B := w.heap.size) rfl _ _ rfl hown1 hbw1.size rfl (Rd.of_own ho1) HK.out rfl rfl ?_; intro v2 w2 hown2 hb2; have hbw2 := hbw1.trans hb2; have hcz := hcx.out _ hbw2)))
            have hK9 := hKq.out
            have hc9 := hinv.out.2.2.2.2
            refine ⟨RrR.step (q := q) (by rw [IntWalk.wrap64_in _ (by omega)]; rfl) (by rw [hK9]) hI HX.out hq1 (by omega) HR.out hl hinv hown3 (hbw2.trans hb3), ?_⟩
            (show _ - (intOf _).toNat < _ - (intOf _).toNat; simp only [intOf, Int.toNat_natCast]; omega)
        · have hq1 : 1 ≤ q := by have := hKq.out; omega
          have HR := Lib.hid (runA_from l x I q hI HX.out hq1 (by have := hKq.out; omega) hall.out (.inl (by have := hKq.out; omega)))
          have d0 : decide ((K : Int) < (l.length : Int)) = false := by simp; omega
          go_wp2
          go_quiet (fail)
          have hK9 := hKq.out
          have hqL := putU_len10 (n := q) (by omega)
          have hqq : q < 18446744073709551616 := by omega
          have hal : 11 * (l.length - I) + acc.length ≤ 11000000 := by have h9 := hinv.out.2.2.2.1; omega
          have HK := Lib.hid (show acc.length + (putU q).length ≤ 100000000 by omega)
          have HK2 := Lib.hid (show acc.length + (putU q).length + 1 ≤ 100000000 by omega)
          have d9 : IntKind.u64.wrap ((K : Int) - (I : Int)) = (q : Int) := by rw [IntWalk.u64_in _ (by omega)]; omega
          clear hqL hal hK9
          go_wp2_with (first
            | (go_at_call 17; go_loud ((with_reducible refine (rputu_any _ _ hqq).mono ?_); rintro e1 w1 ⟨a1, c1, rfl, hc1, ho1, hb1⟩; have hbw1 := (below_drewN hb _).trans (hb1.mono hz); have hown1 := own_below (own_drewN hown _) hb1))
            | (at_builtin; go_loud (refine wpList_snoc8 (B := w.heap.size) rfl _ _ rfl hown2 hbw2.size HK2.out x HX2.out rfl rfl ?_; intro v3 w3 hown3 hb3 _ _))
            | (at_builtin; go_loud (refine wpList_apps8 (B := w.heap.size) rfl _ _ rfl hown1 hbw1.size rfl (Rd.of_own ho1) HK.out rfl rfl ?_; intro v2 w2 hown2 hb2; have hbw2 := hbw1.trans hb2; have hcz := hcx.out _ hbw2)))
          have hK9 := hKq.out
          have hc9 := hinv.out.2.2.2.2
          refine ⟨RrR.step (q := q) (by rw [IntWalk.wrap64_in _ (by omega)]; rfl) (by rw [hK9]) hI HX.out hq1 (by omega) HR.out hl hinv hown3 (hbw2.trans hb3), ?_⟩
          (show _ - (intOf _).toNat < _ - (intOf _).toNat; simp only [intOf, Int.toNat_natCast]; omega)
    · have hE : I = l.length := by omega
      have d1 : decide ((I : Int) < (l.length : Int)) = false := by simp; omega
      have hcl : cnt < 18446744073709551616 := by have := hinv.out.2.2.2.2; omega
      have hq := Lib.hid (show (putU cnt).length + acc.length ≤ 100000000 by have h1 := putU_len10 hcl; have h2 := hinv.out.2.2.2.1; omega)
      have HE := Lib.hid hE
      clear hE
      have d9 : IntKind.u64.wrap (cnt : Int) = (cnt : Int) := IntWalk.u64_in _ (by omega)
      go_wp2_with (first
        | (go_at_call 17; go_loud ((with_reducible refine (rputu_any _ _ hcl).mono ?_); rintro e1 w1 ⟨a1, c1, rfl, hc1, ho1, hb1⟩; have hown1 := own_below hown hb1; have hz1 := Nat.le_trans hz hb1.size))
        | (at_builtin; go_loud (refine wpList_apps8 (B := w.heap.size) (l := putU cnt) rfl _ _ rfl (own_mono ho1 hz) hz1 (k := acc) rfl (Rd.of_own hown1) hq.out rfl rfl ?_; intro v' w2 hown2 hb2)))
      go_ret
      refine (FrB.mk' (by rw [List.length_append]) hown2 ((hb.trans (hb1.mono hz)).trans hb2)).eq ?_
      have h1 := hinv.out.1
      have h2 := hinv.out.2.1
      rw [HE.out, List.drop_length, renc_nil, List.append_nil] at h1
      rw [HE.out, List.drop_length, rcnt_nil] at h2
      unfold putR
      rw [h1, h2]; rfl
end Go.Proofs.Ytbplcgbfhijbcaa
