import Derived.Test.YtolnchfgdkeamaaDoorQA
import Derived.WalkKit
import Derived.WalkSpells
import Derived.WalkLawsBesides
import Derived.Lib.Hide
import Derived.Below
import Derived.Deep.QuietTactic
import Derived.BigQuiet
import Derived.IntWalk
import Derived.Laws.BitsAllLaws
namespace Go.Proofs.YtolnchfgdkeamaaDoor
open Go.RowKit
set_option linter.unusedVariables false
set_option linter.unusedSimpArgs false
theorem cat_data (A B : ByteArray) : (A ++ B).data.toList = A.data.toList ++ B.data.toList := by
  simp [ByteArray.data_append]
theorem ext1 {S : ByteArray} {l : List UInt8} (h : S.data.toList = l) (i : Nat) (hi : i < l.length) : (S.extract i (i + 1)).data.toList = [l[i]] := by
  rw [Lib.extract_data, h, List.drop_eq_getElem_cons hi, show i + 1 - i = 1 by omega]
  rfl
theorem hex_ext (k : Nat) (h : k < 16) : ((⟨#[48, 49, 50, 51, 52, 53, 54, 55, 56, 57, 97, 98, 99, 100, 101, 102]⟩ : ByteArray).extract k (k + 1)).data.toList = [hexd k] := by
  have key : ∀ i : Fin 16, ((⟨#[48, 49, 50, 51, 52, 53, 54, 55, 56, 57, 97, 98, 99, 100, 101, 102]⟩ : ByteArray).extract i.val (i.val + 1)).data.toList = [hexd i.val] := by decide +kernel
  exact key ⟨k, h⟩
theorem eq_arr {S : ByteArray} {l : List UInt8} (h : S.data.toList = l) : S = ⟨l.toArray⟩ := by
  apply ByteArray.ext
  rw [← h, Array.toArray_toList]
def RqR (w : World) (l : List UInt8) (n : Nat) (sv i : Value) (wr : World) : Prop := ∃ (p : Nat) (W : ByteArray), p ≤ n ∧ i = .int .i64 p ∧ sv = .string W ∧ W.size ≤ 3 * p ∧ Hid (W.data.toList = (l.take p).flatMap esc) ∧ wr = w
set_option maxRecDepth 50000 in
set_option maxHeartbeats 4000000 in
theorem rquote_any (S : ByteArray) (l : List UInt8) (w : World) (hS : S.data.toList = l) (hl : l.length ≤ 10000000) :
    Calls Tryd.prog 13 #[.string S] w fun e w' => e = .returned (.string ⟨(quoteL l).toArray⟩) ∧ ∃ m, w' = w.drewN m := by
  rcases Nat.eq_zero_or_pos l.length with h0 | h0
  · have hl0 := List.length_eq_zero_iff.1 h0
    subst hl0
    have := str_nil hS
    subst this
    clear hS h0
    go_enter Tryd.func13, Tryd.ntmps13
    go_wp2
    go_ret
    exact ⟨rfl, 0, rfl⟩
  have hne2 : ¬ S.toList = [] := by
    rw [ByteArray.toList_eq, hS]
    intro e
    rw [e] at h0
    simp at h0
  have hne : S.toList.isEmpty = false := by
    cases hq : S.toList with
    | nil => exact absurd hq hne2
    | cons _ _ => rfl
  have hsz0 := str_size hS
  obtain ⟨n, hn⟩ : ∃ n, l.length = n := ⟨_, rfl⟩
  have hsz : S.size = n := by rw [hsz0, hn]
  have HS := Lib.hid hS
  have HN := Lib.hid hn
  have hnb : n ≤ 10000000 := by omega
  have hq0 : Hid (quoteL l = l.flatMap esc) := by
    show _ = _
    unfold quoteL
    rw [if_neg (by intro e; rw [e] at h0; simp at h0)]
  clear hS hsz0 hl h0 hn
  go_enter Tryd.func13, Tryd.ntmps13
  go_wp2
  clear hne2 hne
  go_loopw [4, 5, 6] (fun sv i _ wr => ∃ m, RqR (w.drewN m) l n sv i wr) (fun _ i _ _ => n - (intOf i).toNat)
  case atStart => exact ⟨0, 0, ⟨#[]⟩, Nat.zero_le _, rfl, rfl, Nat.le_refl _, rfl, rfl⟩
  case round =>
    obtain ⟨m, p, W, hp, rfl, rfl, hwl, hq, rfl⟩ := hrel
    by_cases hlt : p < n
    · have hpl : p < l.length := by have := HN.out; omega
      have hps : p < S.size := by omega
      have gp := str_get HS.out p hps hpl
      obtain ⟨c, hc⟩ : ∃ c, l[p] = c := ⟨_, rfl⟩
      obtain ⟨x, hx⟩ : ∃ x, c.toNat = x := ⟨_, rfl⟩
      have hgp : (S[p]'hps).toNat = x := by rw [gp, hc, hx]
      have hx256 : x < 256 := by rw [← hx]; exact c.toNat_lt
      have HL' : Hid (∀ W, Calls Tryd.prog 29 #[.int .u8 x] W fun e w' => e = .returned (.bool (lit c)) ∧ W = w') := fun W => by
        have := stands_any c W
        rwa [hx] at this
      have HC := Lib.hid hc
      have HX := Lib.hid hx
      have HE : Hid ((S.extract p (p + 1)).data.toList = [c]) := by
        show _ = _
        rw [ext1 HS.out p hpl, hc]
      clear gp hc hx
      cases hlit : lit c with
      | true =>
        have hes : Hid (esc c = [c]) := by show _ = _; unfold esc; rw [hlit]; rfl
        go_wp2_with (go_at_call 29; (with_reducible refine (HL'.out _).mono ?_); rintro e w1 ⟨rfl, rfl⟩; rw [hlit])
        go_roundw
        case rel =>
          refine ⟨m, p + 1, W ++ S.extract p (p + 1), by omega, by go_num, rfl, ?_, ?_, rfl⟩
          · rw [str_size (cat_data _ _), List.length_append, HE.out, ← str_size rfl]
            simp
            omega
          · show _ = _
            rw [cat_data, HE.out, hq.out, take_flat (by have := HN.out; omega), HC.out, hes.out]
        case measure => simp [intOf] <;> omega
      | false =>
        obtain ⟨q, hqv⟩ : ∃ q, x / 16 = q := ⟨_, rfl⟩
        obtain ⟨r, hrv⟩ : ∃ r, x % 16 = r := ⟨_, rfl⟩
        have hq16 : q < 16 := by omega
        have hr16 : r < 16 := by omega
        have a1 : IntKind.u8.wrap ((x : Int) / 16) = (q : Int) := by rw [IntKind.wrap_u8]; omega
        have a2 : IntKind.u8.wrap ((q : Int) + 1) = (q : Int) + 1 := by rw [IntKind.wrap_u8]; omega
        have a3 : (q : Int) + 1 ≤ 16 := by omega
        have a4 : (q : Int) ≤ (q : Int) + 1 := by omega
        have b1 : (x : Int).tmod 16 = (r : Int) := by rw [Int.tmod_eq_emod_of_nonneg (by omega)]; omega
        have b0 : (0 : Int) ≤ (r : Int) := by omega
        have b2 : IntKind.u8.wrap ((r : Int) + 1) = (r : Int) + 1 := by rw [IntKind.wrap_u8]; omega
        have b3 : (r : Int) + 1 ≤ 16 := by omega
        have b4 : (r : Int) ≤ (r : Int) + 1 := by omega
        obtain ⟨H1, h1⟩ : ∃ H1, (⟨#[48, 49, 50, 51, 52, 53, 54, 55, 56, 57, 97, 98, 99, 100, 101, 102]⟩ : ByteArray).extract q (q + 1) = H1 := ⟨_, rfl⟩
        obtain ⟨H2, h2⟩ : ∃ H2, (⟨#[48, 49, 50, 51, 52, 53, 54, 55, 56, 57, 97, 98, 99, 100, 101, 102]⟩ : ByteArray).extract r (r + 1) = H2 := ⟨_, rfl⟩
        have e1 : Hid (H1.data.toList = [hexd q]) := by show _ = _; rw [← h1]; exact hex_ext q hq16
        have e2 : Hid (H2.data.toList = [hexd r]) := by show _ = _; rw [← h2]; exact hex_ext r hr16
        have k1 : H1.size = 1 := str_size e1.out
        have k2 : H2.size = 1 := str_size e2.out
        have k3 : ¬ 9223372036854775807 < W.size + 3 := by omega
        have hes : Hid (esc c = [42, hexd q, hexd r]) := by show _ = _; unfold esc; rw [hlit, if_neg (by decide), HX.out, hqv, hrv]
        clear hqv hrv
        go_wp2_with (go_at_call 29; (with_reducible refine (HL'.out _).mono ?_); rintro e w1 ⟨rfl, rfl⟩; rw [hlit])
        go_quiet (fail)
        clear a1 a2 a3 a4 b1 b2 b3 b4 h1 h2
        go_wp2
        go_roundw
        case rel =>
          have hd : (W ++ ((⟨#[42]⟩ : ByteArray) ++ H1 ++ H2)).data.toList = W.data.toList ++ [42, hexd q, hexd r] := by
            rw [cat_data, cat_data, cat_data, e1.out, e2.out]
            rfl
          refine ⟨m + nq, p + 1, W ++ ((⟨#[42]⟩ : ByteArray) ++ H1 ++ H2), by omega, by go_num, rfl, ?_, ?_, rfl⟩
          · rw [str_size hd, List.length_append, ← str_size rfl]
            simp
            omega
          · show _ = _
            rw [hd, hq.out, take_flat (by have := HN.out; omega), HC.out, hes.out]
        case measure => simp [intOf] <;> omega
    · obtain rfl : p = n := by omega
      have hres : Hid (W = ⟨(quoteL l).toArray⟩) := by
        show _ = _
        refine eq_arr ?_
        rw [hq0.out, hq.out, ← HN.out, List.take_length]
      go_wp2
      go_ret
      exact ⟨by rw [← hres.out]; rfl, m, rfl⟩
end Go.Proofs.YtolnchfgdkeamaaDoor
