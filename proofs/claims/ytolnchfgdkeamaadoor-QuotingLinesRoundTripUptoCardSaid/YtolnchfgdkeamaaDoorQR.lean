import Derived.Test.YtolnchfgdkeamaaDoorQN
import Derived.WalkKit
import Derived.WalkSpells
import Derived.WalkLawsBesides
import Derived.Lib.Hide
import Derived.Below
import Derived.Deep.QuietTactic
import Derived.BigQuiet
import Derived.IntWalk
import Derived.Laws.BitsAllLaws
namespace Go.Proofs.YtolnchfgdkeamaaDoor
open Go.RowKit
set_option linter.unusedVariables false
set_option linter.unusedSimpArgs false
def plC (s : List UInt8) : Bool := s.all fun b => b != 10
def plB (xs : List ByteArray) : Bool := xs.all fun x => plC x.data.toList
theorem plB_at {xs : List ByteArray} {j : Nat} {x : ByteArray} (h : xs[j]? = some x) : plB (xs.take (j + 1)) = (plB (xs.take j) && plC x.data.toList) := by
  unfold plB
  rw [List.take_add_one, h]
  simp
theorem plC_at {s : List UInt8} {p : Nat} (h : p < s.length) : plC (s.take (p + 1)) = (plC (s.take p) && (s[p] != 10)) := by
  unfold plC
  rw [List.take_succ_eq_append_getElem h, List.all_append, List.all_cons, List.all_nil, Bool.and_true]
theorem plB_all {xs : List ByteArray} (h : plB xs = true) : ∀ x ∈ xs, ∀ b ∈ x.data.toList, b ≠ 10 := by
  intro x hx b hb
  have h1 := List.all_eq_true.1 h x hx
  have h2 := List.all_eq_true.1 h1 b hb
  simpa using h2
def LoR (w : World) (xs : List ByteArray) (n : Nat) (pl k : Value) (wr : World) : Prop := ∃ (j : Nat) (q : Bool), j ≤ n ∧ k = .int .i64 j ∧ pl = .bool q ∧ Hid (q = plB (xs.take j)) ∧ wr = w
def LiR (w : World) (x : ByteArray) (t : Nat) (q : Bool) (pl i : Value) (wr : World) : Prop := ∃ (p : Nat) (q2 : Bool), p ≤ t ∧ i = .int .i64 p ∧ pl = .bool q2 ∧ Hid (q2 = (q && plC (x.data.toList.take p))) ∧ wr = w
set_option maxRecDepth 50000 in
set_option maxHeartbeats 8000000 in
theorem quotingLinesRoundTrip_walk (a : Option Addr) (xs : List ByteArray) (c : Nat) (S : ByteArray) (w : World) (hM : Mx w) (hr : RdV w a (strV xs)) (hc : xs.length ≤ c) (hx : c ≤ maxLen) (hb : tot xs + xs.length + S.size ≤ 1048576) :
    Calls Tryd.prog 8 #[.slice a xs.length c, .string S] w fun e w' => e = .returned (.bool true) ∧ Below w.heap.size w w' := by
  have hxl : xs.length ≤ 9223372036854775807 := Nat.le_trans hc hx
  cases hfew : fewB xs with
  | false =>
    go_enter Tryd.func8, Tryd.ntmps8
    go_wp2_with (first | (go_at_call 14; (with_reducible refine (few_any xs a c _ hr hxl).mono ?_); rintro e w0 ⟨rfl, rfl⟩; rw [hfew]) | (go_at_call 9; (with_reducible refine (example_any _ hM).mono ?_); rintro e w1 ⟨rfl, hb1⟩))
    go_ret
    exact ⟨rfl, hb1⟩
  | true =>
  by_cases hs : S.size ≤ 5000
  case neg =>
    have d1 : decide ((5000 : Int) < (S.size : Int)) = true := by rw [decide_eq_true_iff]; omega
    go_enter Tryd.func8, Tryd.ntmps8
    go_wp2_with (first | (go_at_call 14; (with_reducible refine (few_any xs a c _ hr hxl).mono ?_); rintro e w0 ⟨rfl, rfl⟩; rw [hfew]) | (go_at_call 9; (with_reducible refine (example_any _ hM).mono ?_); rintro e w1 ⟨rfl, hb1⟩))
    go_ret
    exact ⟨rfl, hb1⟩
  have hn3 := few_len hfew
  obtain ⟨ls, hS⟩ : ∃ ls, S.data.toList = ls := ⟨_, rfl⟩
  have hls := str_size hS
  have hK : ∀ x ∈ xs, x.size ≤ 2000000 := fun x hx => by have := tot_mem hx; omega
  have hjs := jl_len xs
  obtain ⟨Q, hQ⟩ : ∃ Q : ByteArray, (⟨(jlL xs).toArray⟩ : ByteArray) = Q := ⟨_, rfl⟩
  have hQd : Q.data.toList = jlL xs := by rw [← hQ]
  obtain ⟨ys, hg1, hyl, hP⟩ := good_lines xs
  have hyc := lines_cnt hg1
  have J1 := fun (a : Option Addr) (c : Nat) W (h : RdV W a (strV xs)) => jlines_any xs a c _ W h (by omega) (Nat.le_refl _) (by omega)
  rw [hQ] at J1
  have J2 := fun W (h : Mx W) => lines_good Q (jlL xs) ys W hQd (by omega) h hg1
  have F1 := few_any xs a c w hr (by omega)
  obtain ⟨n, hn⟩ : ∃ n, xs.length = n := ⟨_, rfl⟩
  obtain ⟨m, hm⟩ : ∃ m, ys.length = m := ⟨_, rfl⟩
  obtain ⟨n2, hsz⟩ : ∃ n2, S.size = n2 := ⟨_, rfl⟩
  rw [hfew, hn] at F1
  rw [hn, hm] at hyl
  rw [hm, hjs, hn] at hyc
  rw [hn] at hc hxl hn3 J1
  rw [hm] at J2
  rw [hn]
  rw [hsz] at hs hls
  have d1 : decide ((5000 : Int) < (n2 : Int)) = false := by rw [decide_eq_false_iff_not]; omega
  have hnm : decide ((m : Int) < (n : Int)) = false := by rw [decide_eq_false_iff_not]; omega
  have hm3 : m ≤ 2000000 := by omega
  have HN := Lib.hid hn
  have HYL := Lib.hid hm
  have HP := Lib.hid (fun h : plB xs = true => hP (plB_all h))
  have HK := Lib.hid hK
  have HR := Lib.hid hr
  have HJ1 := Lib.hid J1
  have HJ2 := Lib.hid J2
  have HF := Lib.hid F1
  have HS := Lib.hid hS
  have hl4 : ls.length ≤ 5000 := by omega
  have HLS := Lib.hid hls
  clear J1 J2 F1 hQ hQd hn hm hfew hb hK hS hjs hP hg1 hyc hr hls
  rcases ln_cases ls with ⟨zs, hg⟩ | hg
  · have hjl := jl_good hg
    have hzl := lines_cnt hg
    have HZ := Lib.hid (fun (a : Option Addr) (c : Nat) W (h : RdV W a (strV zs)) => by
      have := jlines_any zs a c _ W h (by omega) (Nat.le_refl _) (by rw [hjl]; omega)
      rw [hjl, ← eq_arr HS.out] at this
      exact this)
    clear hjl hzl
    have HG := Lib.hid hg
    clear hg
    go_enter Tryd.func8, Tryd.ntmps8
    go_wp2_with (go_at_call 14; (with_reducible refine HF.out.mono ?_); rintro e w0 ⟨rfl, hw0⟩; have hw1 := hw0.symm; subst hw1)
    go_loopw [5, 7, 8, 24] (fun pl _ _ k wr => LoR w xs n pl k wr) (fun _ _ _ k _ => n - (intOf k).toNat)
    case atStart => exact ⟨0, true, Nat.zero_le _, rfl, rfl, rfl, rfl⟩
    case round =>
      obtain ⟨j, q, hj, rfl, rfl, hq, hwr⟩ := hrel
      obtain rfl : w = wr := hwr.symm
      by_cases hlt : j < n
      · have hjw : j < xs.length := by have := HN.out; omega
        obtain ⟨x, hxj⟩ : ∃ x, xs[j]? = some x := ⟨_, List.getElem?_eq_getElem hjw⟩
        obtain ⟨ad, rfl, hc⟩ := HR.out j (.string x) (strV_get hxj)
        have hxs := HK.out x (List.mem_of_getElem? hxj)
        have hat := Lib.hid (plB_at hxj)
        obtain ⟨t, ht⟩ : ∃ t, x.size = t := ⟨_, rfl⟩
        have hxd : x.data.toList.length = t := by rw [← ht]; exact (str_size rfl).symm
        have HXD := Lib.hid hxd
        rw [ht] at hxs
        clear hxj hjw hxd
        go_wp2
        go_loopw [5, 8] (fun pl i wr => LiR w x t q pl i wr) (fun _ i _ => t - (intOf i).toNat)
        case atStart => exact ⟨0, q, Nat.zero_le _, rfl, rfl, (by show _ = _; simp [plC]), rfl⟩
        case round =>
          obtain ⟨p, q2, hp, rfl, rfl, hq2, hwr⟩ := hrel
          obtain rfl : w = wr := hwr.symm
          by_cases hlt2 : p < t
          · have hpl : p < x.data.toList.length := by have := HXD.out; omega
            have hps : p < x.size := by omega
            obtain ⟨y, hy⟩ : ∃ y, (x[p]'hps).toNat = y := ⟨_, rfl⟩
            have hpa := plC_at hpl
            have hyl : (x.data.toList[p] != 10) = (y != 10) := by
              rw [← hy, str_get rfl p hps hpl, Bool.eq_iff_iff]
              simp only [bne_iff_ne, ne_eq]
              exact not_congr ⟨fun h => by rw [h]; rfl, fun h => UInt8.toNat_inj.1 h⟩
            rw [hyl] at hpa
            have HPA := Lib.hid hpa
            clear hpa hyl hpl
            cases q2 with
            | false =>
              have hq3 : Hid (false = (q && plC (x.data.toList.take (p + 1)))) := by
                show _ = _
                rw [HPA.out, ← Bool.and_assoc, ← hq2.out]
                rfl
              go_wp2
              go_roundw
              case rel => exact ⟨p + 1, false, by omega, by go_num, rfl, hq3, rfl⟩
              case measure => simp [intOf] <;> omega
            | true =>
              by_cases hy10 : y = 10
              · have hq3 : Hid (false = (q && plC (x.data.toList.take (p + 1)))) := by
                  show _ = _
                  rw [HPA.out, ← Bool.and_assoc, ← hq2.out, hy10]
                  rfl
                subst hy10
                go_wp2
                go_roundw
                case rel => exact ⟨p + 1, false, by omega, by go_num, rfl, hq3, rfl⟩
                case measure => simp [intOf] <;> omega
              · have hq3 : Hid (true = (q && plC (x.data.toList.take (p + 1)))) := by
                  show _ = _
                  rw [HPA.out, ← Bool.and_assoc, ← hq2.out, show (y != 10) = true by simp [hy10]]
                  rfl
                have hyi : ¬ (y : Int) = 10 := by omega
                have hyb : ((y : Int) != 10) = true := by rw [bne_iff_ne]; exact hyi
                go_wp2
                go_roundw
                case rel => exact ⟨p + 1, true, by omega, by go_num, rfl, hq3, rfl⟩
                case measure => simp [intOf] <;> omega
          · obtain rfl : p = t := by omega
            have hq3 : Hid (q2 = plB (xs.take (j + 1))) := by
              show _ = _
              rw [hat.out, ← hq.out, hq2.out, ← HXD.out, List.take_length]
            go_wp2
            go_roundw
            case rel => exact ⟨j + 1, q2, by omega, by go_num, rfl, hq3, rfl⟩
            case measure => simp [intOf] <;> omega
      · obtain rfl : j = n := by omega
        have hqa : q = plB xs := by rw [hq.out, ← HN.out, List.take_length]
        cases q with
        | true =>
          have HJ3 := Lib.hid (fun (a b : Option Addr) (c d : Nat) W (h1 : RdV W a (strV ys)) (h2 : RdV W b (strV xs)) => by
            have := same_yes ys xs a b c d W h1 h2 (by rw [HP.out hqa.symm, HN.out]; omega) (HP.out hqa.symm)
            rw [HN.out, HYL.out] at this
            exact this)
          clear hqa
          go_wp2_with (first
              | (go_at_call 22; (with_reducible refine (HJ1.out _ _ _ HR.out).mono ?_); rintro e w1 ⟨rfl, hb1⟩; have hz1 := hb1.size)
              | (go_at_call 20; (with_reducible refine (HJ2.out _ (hM.below hb1)).mono ?_); rintro e w2 ⟨a2, c2, rfl, Y2, hb2'⟩; have hb2 := hb1.trans (hb2'.mono hz1); have hz2 := hb2.size; clear hb2')
              | (go_at_call 19; (with_reducible refine (HJ3.out _ _ _ _ _ Y2 (HR.out.below hb2)).mono ?_); rintro e w3 ⟨rfl, hb3'⟩; have hb3 := hb2.trans (hb3'.mono hz2); have hz3 := hb3.size; clear hb3' Y2)
              | (go_at_call 20; (with_reducible refine (lines_good S ls zs _ HS.out (by omega) (hM.below hb3) HG.out).mono ?_); rintro e w4 ⟨a4, c4, rfl, Y4, hb4'⟩; have hb4 := hb3.trans (hb4'.mono hz3); have hz4 := hb4.size; clear hb4')
              | (go_at_call 22; (with_reducible refine (HZ.out _ _ _ Y4).mono ?_); rintro e w5 ⟨rfl, hb5'⟩; have hb5 := hb4.trans (hb5'.mono hz4); have hz5 := hb5.size; clear hb5' Y4)
              | (go_at_call 9; (with_reducible refine (example_any _ (hM.below hb5)).mono ?_); rintro e w8 ⟨rfl, hb8'⟩; have hb8 := hb5.trans (hb8'.mono hz5)))
          go_ret
          exact ⟨rfl, hb8⟩
        | false =>
          clear hqa
          go_wp2_with (first
              | (go_at_call 22; (with_reducible refine (HJ1.out _ _ _ HR.out).mono ?_); rintro e w1 ⟨rfl, hb1⟩; have hz1 := hb1.size)
              | (go_at_call 20; (with_reducible refine (HJ2.out _ (hM.below hb1)).mono ?_); rintro e w2 ⟨a2, c2, rfl, Y2, hb2'⟩; have hb2 := hb1.trans (hb2'.mono hz1); have hz2 := hb2.size; clear hb2')
              | (go_at_call 20; (with_reducible refine (lines_good S ls zs _ HS.out (by omega) (hM.below hb2) HG.out).mono ?_); rintro e w4 ⟨a4, c4, rfl, Y4, hb4'⟩; have hb4 := hb2.trans (hb4'.mono hz2); have hz4 := hb4.size; clear hb4')
              | (go_at_call 22; (with_reducible refine (HZ.out _ _ _ Y4).mono ?_); rintro e w5 ⟨rfl, hb5'⟩; have hb5 := hb4.trans (hb5'.mono hz4); have hz5 := hb5.size; clear hb5' Y4)
              | (go_at_call 9; (with_reducible refine (example_any _ (hM.below hb5)).mono ?_); rintro e w8 ⟨rfl, hb8'⟩; have hb8 := hb5.trans (hb8'.mono hz5)))
          go_ret
          exact ⟨rfl, hb8⟩
  · have hls := HLS.out
    have hS0 : 0 < ls.length := List.length_pos_iff.2 hg.1
    obtain ⟨m1, hm1⟩ : ∃ m1, n2 = m1 + 1 := ⟨n2 - 1, by omega⟩
    have i1 : IntKind.i64.wrap ((n2 : Int) - 1) = (m1 : Int) := by rw [hm1]; rw [IntWalk.i64_in _ (by omega)]; omega
    have i2 : m1 < n2 := by omega
    have i3 : (0 : Int) < (n2 : Int) := by omega
    have hps : m1 < S.size := by omega
    have hpl : m1 < ls.length := by omega
    obtain ⟨y, hy⟩ : ∃ y, (S[m1]'hps).toNat = y := ⟨_, rfl⟩
    have hy10 : ¬ y = 10 := by
      intro e
      rw [e, str_get HS.out m1 hps hpl] at hy
      apply hg.2
      refine ⟨ls.take m1, ?_⟩
      have h1 : ls[m1] = 10 := UInt8.toNat_inj.1 hy
      have h2 := List.take_succ_eq_append_getElem hpl
      rw [h1, List.take_of_length_le (by omega)] at h2
      exact h2
    have hyi : ¬ (y : Int) = 10 := by omega
    have hyb : ((y : Int) != 10) = true := by rw [bne_iff_ne]; exact hyi
    clear hm1 hpl hls
    have HG := Lib.hid hg
    clear hg
    go_enter Tryd.func8, Tryd.ntmps8
    go_wp2_with (go_at_call 14; (with_reducible refine HF.out.mono ?_); rintro e w0 ⟨rfl, hw0⟩; have hw1 := hw0.symm; subst hw1)
    go_loopw [5, 7, 8, 24] (fun pl _ _ k wr => LoR w xs n pl k wr) (fun _ _ _ k _ => n - (intOf k).toNat)
    case atStart => exact ⟨0, true, Nat.zero_le _, rfl, rfl, rfl, rfl⟩
    case round =>
      obtain ⟨j, q, hj, rfl, rfl, hq, hwr⟩ := hrel
      obtain rfl : w = wr := hwr.symm
      by_cases hlt : j < n
      · have hjw : j < xs.length := by have := HN.out; omega
        obtain ⟨x, hxj⟩ : ∃ x, xs[j]? = some x := ⟨_, List.getElem?_eq_getElem hjw⟩
        obtain ⟨ad, rfl, hc⟩ := HR.out j (.string x) (strV_get hxj)
        have hxs := HK.out x (List.mem_of_getElem? hxj)
        have hat := Lib.hid (plB_at hxj)
        obtain ⟨t, ht⟩ : ∃ t, x.size = t := ⟨_, rfl⟩
        have hxd : x.data.toList.length = t := by rw [← ht]; exact (str_size rfl).symm
        have HXD := Lib.hid hxd
        rw [ht] at hxs
        clear hxj hjw hxd
        go_wp2
        go_loopw [5, 8] (fun pl i wr => LiR w x t q pl i wr) (fun _ i _ => t - (intOf i).toNat)
        case atStart => exact ⟨0, q, Nat.zero_le _, rfl, rfl, (by show _ = _; simp [plC]), rfl⟩
        case round =>
          obtain ⟨p, q2, hp, rfl, rfl, hq2, hwr⟩ := hrel
          obtain rfl : w = wr := hwr.symm
          by_cases hlt2 : p < t
          · have hpl : p < x.data.toList.length := by have := HXD.out; omega
            have hps : p < x.size := by omega
            obtain ⟨y, hy⟩ : ∃ y, (x[p]'hps).toNat = y := ⟨_, rfl⟩
            have hpa := plC_at hpl
            have hyl : (x.data.toList[p] != 10) = (y != 10) := by
              rw [← hy, str_get rfl p hps hpl, Bool.eq_iff_iff]
              simp only [bne_iff_ne, ne_eq]
              exact not_congr ⟨fun h => by rw [h]; rfl, fun h => UInt8.toNat_inj.1 h⟩
            rw [hyl] at hpa
            have HPA := Lib.hid hpa
            clear hpa hyl hpl
            cases q2 with
            | false =>
              have hq3 : Hid (false = (q && plC (x.data.toList.take (p + 1)))) := by
                show _ = _
                rw [HPA.out, ← Bool.and_assoc, ← hq2.out]
                rfl
              go_wp2
              go_roundw
              case rel => exact ⟨p + 1, false, by omega, by go_num, rfl, hq3, rfl⟩
              case measure => simp [intOf] <;> omega
            | true =>
              by_cases hy10 : y = 10
              · have hq3 : Hid (false = (q && plC (x.data.toList.take (p + 1)))) := by
                  show _ = _
                  rw [HPA.out, ← Bool.and_assoc, ← hq2.out, hy10]
                  rfl
                subst hy10
                go_wp2
                go_roundw
                case rel => exact ⟨p + 1, false, by omega, by go_num, rfl, hq3, rfl⟩
                case measure => simp [intOf] <;> omega
              · have hq3 : Hid (true = (q && plC (x.data.toList.take (p + 1)))) := by
                  show _ = _
                  rw [HPA.out, ← Bool.and_assoc, ← hq2.out, show (y != 10) = true by simp [hy10]]
                  rfl
                have hyi : ¬ (y : Int) = 10 := by omega
                have hyb : ((y : Int) != 10) = true := by rw [bne_iff_ne]; exact hyi
                go_wp2
                go_roundw
                case rel => exact ⟨p + 1, true, by omega, by go_num, rfl, hq3, rfl⟩
                case measure => simp [intOf] <;> omega
          · obtain rfl : p = t := by omega
            have hq3 : Hid (q2 = plB (xs.take (j + 1))) := by
              show _ = _
              rw [hat.out, ← hq.out, hq2.out, ← HXD.out, List.take_length]
            go_wp2
            go_roundw
            case rel => exact ⟨j + 1, q2, by omega, by go_num, rfl, hq3, rfl⟩
            case measure => simp [intOf] <;> omega
      · obtain rfl : j = n := by omega
        have hqa : q = plB xs := by rw [hq.out, ← HN.out, List.take_length]
        cases q with
        | true =>
          have HJ3 := Lib.hid (fun (a b : Option Addr) (c d : Nat) W (h1 : RdV W a (strV ys)) (h2 : RdV W b (strV xs)) => by
            have := same_yes ys xs a b c d W h1 h2 (by rw [HP.out hqa.symm, HN.out]; omega) (HP.out hqa.symm)
            rw [HN.out, HYL.out] at this
            exact this)
          clear hqa
          go_wp2_with (first
              | (go_at_call 22; (with_reducible refine (HJ1.out _ _ _ HR.out).mono ?_); rintro e w1 ⟨rfl, hb1⟩; have hz1 := hb1.size)
              | (go_at_call 20; (with_reducible refine (HJ2.out _ (hM.below hb1)).mono ?_); rintro e w2 ⟨a2, c2, rfl, Y2, hb2'⟩; have hb2 := hb1.trans (hb2'.mono hz1); have hz2 := hb2.size; clear hb2')
              | (go_at_call 19; (with_reducible refine (HJ3.out _ _ _ _ _ Y2 (HR.out.below hb2)).mono ?_); rintro e w3 ⟨rfl, hb3'⟩; have hb3 := hb2.trans (hb3'.mono hz2); have hz3 := hb3.size; clear hb3' Y2)
              | (go_at_call 20; (with_reducible refine (lines_bad S ls  _ HS.out (by omega) (hM.below hb3) HG.out).mono ?_); rintro e w4 ⟨rfl, hb4'⟩; have hb4 := hb3.trans (hb4'.mono hz3); have hz4 := hb4.size; clear hb4')
              | (go_at_call 9; (with_reducible refine (example_any _ (hM.below hb4)).mono ?_); rintro e w8 ⟨rfl, hb8'⟩; have hb8 := hb4.trans (hb8'.mono hz4)))
          go_ret
          exact ⟨rfl, hb8⟩
        | false =>
          clear hqa
          go_wp2_with (first
              | (go_at_call 22; (with_reducible refine (HJ1.out _ _ _ HR.out).mono ?_); rintro e w1 ⟨rfl, hb1⟩; have hz1 := hb1.size)
              | (go_at_call 20; (with_reducible refine (HJ2.out _ (hM.below hb1)).mono ?_); rintro e w2 ⟨a2, c2, rfl, Y2, hb2'⟩; have hb2 := hb1.trans (hb2'.mono hz1); have hz2 := hb2.size; clear hb2')
              | (go_at_call 20; (with_reducible refine (lines_bad S ls  _ HS.out (by omega) (hM.below hb2) HG.out).mono ?_); rintro e w4 ⟨rfl, hb4'⟩; have hb4 := hb2.trans (hb4'.mono hz2); have hz4 := hb4.size; clear hb4')
              | (go_at_call 9; (with_reducible refine (example_any _ (hM.below hb4)).mono ?_); rintro e w8 ⟨rfl, hb8'⟩; have hb8 := hb4.trans (hb8'.mono hz4)))
          go_ret
          exact ⟨rfl, hb8⟩
end Go.Proofs.YtolnchfgdkeamaaDoor
