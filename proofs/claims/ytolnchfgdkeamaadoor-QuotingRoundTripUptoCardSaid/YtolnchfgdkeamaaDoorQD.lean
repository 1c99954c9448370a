import Derived.Test.YtolnchfgdkeamaaDoorQC
import Derived.WalkKit
import Derived.WalkSpells
import Derived.WalkLawsBesides
import Derived.Lib.Hide
import Derived.Below
import Derived.Deep.QuietTactic
import Derived.BigQuiet
import Derived.IntWalk
import Derived.Laws.BitsAllLaws
namespace Go.Proofs.YtolnchfgdkeamaaDoor
open Go.RowKit
set_option linter.unusedVariables false
set_option linter.unusedSimpArgs false
def preL (p : List UInt8) : List (List UInt8) → List (List UInt8)
  | q :: qs => (p ++ q) :: qs
  | [] => [p]
theorem preL_nil {L : List (List UInt8)} (h : L ≠ []) : preL [] L = L := by
  cases L with
  | nil => exact absurd rfl h
  | cons q qs => rfl
theorem preL_preL (p q : List UInt8) {L : List (List UInt8)} (h : L ≠ []) : preL p (preL q L) = preL (p ++ q) L := by
  cases L with
  | nil => exact absurd rfl h
  | cons x xs => simp [preL]
theorem cutL_hit (c : UInt8) (t : List UInt8) : cutL c (c :: t) = [] :: cutL c t := by rw [cutL, if_pos rfl]
theorem cutL_miss (c b : UInt8) (t : List UInt8) (h : b ≠ c) : cutL c (b :: t) = preL [b] (cutL c t) := by
  rw [cutL, if_neg h]
  cases hq : cutL c t with
  | nil => rfl
  | cons q qs => rfl
theorem cut_hit (c : UInt8) (l : List UInt8) (k i : Nat) (P : List (List UInt8)) (hi : i < l.length) (hc : l[i] = c) (h : cutL c l = P ++ preL ((l.drop k).take (i - k)) (cutL c (l.drop i))) :
    cutL c l = (P ++ [(l.drop k).take (i - k)]) ++ preL ((l.drop (i + 1)).take (i + 1 - (i + 1))) (cutL c (l.drop (i + 1))) := by
  rw [h, List.drop_eq_getElem_cons hi, hc, cutL_hit, Nat.sub_self, List.take_zero, preL_nil (cutL_ne _ _)]
  simp [preL]
theorem cut_miss (c : UInt8) (l : List UInt8) (k i : Nat) (P : List (List UInt8)) (hi : i < l.length) (hk : k ≤ i) (hc : l[i] ≠ c) (h : cutL c l = P ++ preL ((l.drop k).take (i - k)) (cutL c (l.drop i))) :
    cutL c l = P ++ preL ((l.drop k).take (i + 1 - k)) (cutL c (l.drop (i + 1))) := by
  have e : (l.drop k).take (i + 1 - k) = (l.drop k).take (i - k) ++ [l[i]] := by
    rw [show i + 1 - k = (i - k) + 1 by omega, List.take_succ_eq_append_getElem (by rw [List.length_drop]; omega)]
    simp [show k + (i - k) = i by omega]
  rw [h, List.drop_eq_getElem_cons hi, cutL_miss _ _ _ hc, preL_preL _ _ (cutL_ne _ _), e]
theorem cut_end (c : UInt8) (l : List UInt8) (k n : Nat) (P : List (List UInt8)) (hn : l.length = n) (h : cutL c l = P ++ preL ((l.drop k).take (n - k)) (cutL c (l.drop n))) : cutL c l = P ++ [l.drop k] := by
  subst hn
  rw [h, List.drop_length, List.take_of_length_le (by simp)]
  simp [cutL, preL]
def CuR (w : World) (S : ByteArray) (c : UInt8) (l : List UInt8) (n : Nat) (ov av iv : Value) (wr : World) : Prop := ∃ (k i : Nat) (xs : List ByteArray), k ≤ i ∧ i ≤ n ∧ av = .int .i64 k ∧ iv = .int .i64 i ∧ xs.length ≤ i ∧ Hid (cutL c l = xs.map (·.data.toList) ++ preL ((l.drop k).take (i - k)) (cutL c (l.drop i))) ∧ wr.ownsRow w.heap.size 9 1 ov xs.length (strV xs) ∧ Below w.heap.size w wr
theorem oneS (b : ByteArray) : ∀ u ∈ [Value.string b], u.oneCell' = true := by
  intro u hu
  simp at hu
  subst hu
  rfl
set_option maxRecDepth 50000 in
set_option maxHeartbeats 4000000 in
theorem rcut_any (S : ByteArray) (l : List UInt8) (c : UInt8) (w : World) (hS : S.data.toList = l) (hl : l.length ≤ 4000000) :
    Calls Tryd.prog 31 #[.string S, .int .u8 c.toNat] w fun e w' => ∃ (a : Option Addr) (cp : Nat) (xs : List ByteArray), e = .returned (.slice a xs.length cp) ∧ xs.map (·.data.toList) = cutL c l ∧ w'.ownsRow w.heap.size 9 1 (.slice a xs.length cp) xs.length (strV xs) ∧ Below w.heap.size w w' := by
  obtain ⟨i0, hi, hz0, hz1, hz2⟩ := info_parts infoS
  obtain ⟨x, hx⟩ : ∃ x, c.toNat = x := ⟨_, rfl⟩
  rw [hx]
  have hsz0 := str_size hS
  obtain ⟨n, hn⟩ : ∃ n, l.length = n := ⟨_, rfl⟩
  have hsz : S.size = n := by rw [hsz0, hn]
  have hnb : n ≤ 4000000 := by omega
  have HS := Lib.hid hS
  have HN := Lib.hid hn
  have HX := Lib.hid hx
  clear hS hsz0 hl hn hx
  go_enter Tryd.func31, Tryd.ntmps31
  go_wp2
  go_loopw [5, 6, 7] (fun ov av iv wr => CuR w S c l n ov av iv wr) (fun _ _ iv _ => n - (intOf iv).toNat)
  case atStart => exact ⟨0, 0, [], Nat.le_refl _, Nat.zero_le _, rfl, rfl, Nat.le_refl _, (by show _ = _; rw [List.drop_zero]; exact (preL_nil (cutL_ne _ _)).symm), World.ownsRow_nil _ _ _ _, Below.refl _ _⟩
  case round =>
    obtain ⟨k, i, xs, hk, hin, rfl, rfl, hxl, hcu, hown, hb⟩ := hrel
    obtain ⟨a, cp, rfl⟩ := own_slice hown
    have hz := hb.size
    by_cases hlt : i < n
    · have hpl : i < l.length := by have := HN.out; omega
      have hps : i < S.size := by omega
      have gp := str_get HS.out i hps hpl
      obtain ⟨d, hd⟩ : ∃ d, l[i] = d := ⟨_, rfl⟩
      obtain ⟨y, hy⟩ : ∃ y, d.toNat = y := ⟨_, rfl⟩
      have hgp : (S[i]'hps).toNat = y := by rw [gp, hd, hy]
      have HD := Lib.hid hd
      have HY := Lib.hid hy
      clear gp hd hy
      by_cases hxy : y = x
      · have hcu2 := cut_hit c l k i _ hpl (by rw [HD.out]; exact UInt8.toNat_inj.1 (by rw [HY.out, hxy, HX.out])) hcu.out
        have hex : (S.extract k i).data.toList = (l.drop k).take (i - k) := by rw [Lib.extract_data, HS.out]
        rw [← hex] at hcu2
        have HC2 := Lib.hid hcu2
        clear hcu2 hex
        subst hxy
        go_wp2_with (at_builtin; go_loud (refine wpList_append_rd _ rfl _ _ _ rfl w.heap.size 9 i0 (.string ⟨#[]⟩) 16 Tryd.underlying28 hi hz0 hz1 hz2 rfl (.slice a xs.length cp) xs.length (strV xs) rfl (hown.alloc _) _ 1 1 [.string (S.extract k i)] rfl rfl (fun j u hu => ⟨_, rfl, cell_one_new _ _ _ j u hu⟩) (oneS _) (by unfold maxLen; omega) (by omega) (hb.alloc hb.size _).size ?_; intro v' w6 hown6 hg6 hv6; have hb3a := hb.alloc hb.size (.cells #[.string (S.extract k i)] 9); have hb6 : Below w.heap.size w w6 := hb3a.grown hg6 hb3a.size (fun q hq => (hown.lt q hq).1)))
        go_roundw
        case rel => exact ⟨i + 1, i + 1, xs ++ [S.extract k i], Nat.le_refl _, by omega, by go_num, by go_num, by simp; omega, (by show _ = _; rw [HC2.out]; simp), (by simpa [strV] using hown6), hb6⟩
        case measure => simp [intOf] <;> omega
      · have hcu2 := cut_miss c l k i _ hpl hk (by rw [HD.out]; intro e; subst e; exact hxy (by rw [← HY.out, HX.out])) hcu.out
        have HC2 := Lib.hid hcu2
        clear hcu2
        go_wp2
        go_roundw
        case rel => exact ⟨k, i + 1, xs, by omega, by omega, rfl, by go_num, by omega, HC2, hown, hb⟩
        case measure => simp [intOf] <;> omega
    · obtain rfl : i = n := by omega
      have hcu2 := cut_end c l k i _ HN.out hcu.out
      have hex : (S.extract k i).data.toList = l.drop k := by
        rw [Lib.extract_data, HS.out, List.take_of_length_le (by rw [List.length_drop, HN.out]; exact Nat.le_refl _)]
      rw [← hex] at hcu2
      have HC2 := Lib.hid hcu2
      clear hcu2 hex
      go_wp2_with (at_builtin; go_loud (refine wpList_append_rd _ rfl _ _ _ rfl w.heap.size 9 i0 (.string ⟨#[]⟩) 16 Tryd.underlying28 hi hz0 hz1 hz2 rfl (.slice a xs.length cp) xs.length (strV xs) rfl (hown.alloc _) _ 1 1 [.string (S.extract k i)] rfl rfl (fun j u hu => ⟨_, rfl, cell_one_new _ _ _ j u hu⟩) (oneS _) (by unfold maxLen; omega) (by omega) (hb.alloc hb.size _).size ?_; intro v' w6 hown6 hg6 hv6; have hb3a := hb.alloc hb.size (.cells #[.string (S.extract k i)] 9); have hb6 : Below w.heap.size w w6 := hb3a.grown hg6 hb3a.size (fun q hq => (hown.lt q hq).1)))
      obtain ⟨a', c', rfl⟩ := own_slice hown6
      go_ret
      have e9 : (xs ++ [S.extract k i]).length = xs.length + 1 := by simp
      refine ⟨a', c', xs ++ [S.extract k i], by rw [e9]; rfl, by rw [HC2.out]; simp, ?_, hb6⟩
      rw [e9]
      simpa [strV] using hown6
end Go.Proofs.YtolnchfgdkeamaaDoor
