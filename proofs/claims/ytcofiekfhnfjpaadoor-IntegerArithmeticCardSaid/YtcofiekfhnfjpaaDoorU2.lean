
import Derived.Test.YtcofiekfhnfjpaaDoorU1
import Derived.WalkSpells
import Derived.WalkLawsBesides
import Derived.Lib.Hide
import Derived.Deep.QuietTactic
import Derived.BigQuiet
import Derived.Outline
import Derived.Deep.OwnRows
import Derived.Lib.SliceRun
import Derived.Laws.MakeOwn
import Derived.IntWalk
import Derived.Deep.RegionHeld3
/- N1 -/
namespace Go.Proofs.YtcofiekfhnfjpaaDoor
open Go.RowKit
set_option linter.unusedVariables false
set_option linter.unusedSimpArgs false
set_option maxRecDepth 50000 in
set_option maxHeartbeats 400000 in
theorem norm_any (a : Option Addr) (n c : Nat) (l : List (BitVec 32)) (w : World) (hn : l.length = n) (hl : l.length ≤ 10000000) (hr : Rw w a l) :
    Calls Tryd.prog 51 #[.slice a n c] w (FrW w (trimD l)) := by
  subst hn
  obtain ⟨i0, hi, hz0, hz1, hz2⟩ := info_parts info32
  go_enter Tryd.func51, Tryd.ntmps51
  go_wp2
  go_loop [3] (fun n => ∃ k : Nat, k ≤ l.length ∧ n = .int .i64 k ∧ Hid (trimD (l.take k) = trimD l)) (fun n => (intOf n).toNat)
  case atStart => exact ⟨l.length, Nat.le_refl _, rfl, by rw [List.take_length]; exact rfl⟩
  case round =>
    obtain ⟨k, hk, rfl, ht⟩ := hrel
    by_cases hz : 0 < k ∧ l[k - 1]? = some 0#32
    · obtain ⟨hk0, hz⟩ := hz
      obtain ⟨hk1, hz⟩ := List.getElem?_eq_some_iff.1 hz
      obtain ⟨ad, rfl, hc⟩ := hr (k - 1) hk1
      rw [hz] at hc
      have HZ := Lib.hid hz
      clear hz
      go_wp2
      go_round
      case rel => exact ⟨k - 1, by omega, by go_num, by refine trim_step l (k - 1) hk1 ?_ HZ.out; rw [show k - 1 + 1 = k by omega]; exact ht.out⟩
      case measure => simp [intOf]; omega
    · have hx : Hid (trimD l = l.take k) := by
        refine trim_take l k hk ht.out ?_
        rcases Nat.eq_zero_or_pos k with h | h
        · exact .inl h
        · exact .inr ⟨by omega, fun e => hz ⟨h, by rw [List.getElem?_eq_getElem (by omega), e]⟩⟩
      have hcase : k = 0 ∨ (0 < k ∧ ∃ ad d, a = some ad ∧ w.cell? (ad.add (k - 1)) = some (.int .u32 d) ∧ (d == 0) = false) := by
        rcases Nat.eq_zero_or_pos k with h | hp
        · exact .inl h
        · obtain ⟨ad, e, hc⟩ := hr (k - 1) (by omega)
          refine .inr ⟨hp, ad, _, e, hc, ?_⟩
          rw [beq_eq_false_iff_ne]
          intro h
          refine hz ⟨hp, ?_⟩
          rw [List.getElem?_eq_getElem (by omega)]
          exact congrArg some (BitVec.eq_of_toNat_eq (by simpa using h))
      clear hz ht
      rcases hcase with rfl | ⟨hp, ad, d, rfl, hc, hd⟩
      · go_wp2
        go_loopw [4, 5] (fun v i wr => ∃ j : Nat, j ≤ 0 ∧ i = .int .i64 j ∧ wr.ownsRow w.heap.size 32 1 v (l.take j).length (bv32 (l.take j)) ∧ Below w.heap.size w wr) (fun _ i _ => 0 - (intOf i).toNat)
        case atStart => exact ⟨0, by omega, rfl, fresh_row32 w, Below.alloc (Below.refl _ _) (Nat.le_refl _) _⟩
        case round =>
          obtain ⟨j, hj, rfl, hown, hb⟩ := hrel
          have ej : Hid (j = 0) := show j = 0 by omega
          go_wp2
          rw [ej.out, ← hx.out] at hown
          obtain ⟨a', c', rfl⟩ := own_slice hown
          go_ret
          exact ⟨a', c', rfl, hown, hb⟩
      · go_wp2
        go_loopw [4, 5] (fun v i wr => ∃ j : Nat, j ≤ k ∧ i = .int .i64 j ∧ wr.ownsRow w.heap.size 32 1 v (l.take j).length (bv32 (l.take j)) ∧ Below w.heap.size w wr) (fun _ i _ => k - (intOf i).toNat)
        case atStart => exact ⟨0, by omega, rfl, fresh_row32 w, Below.alloc (Below.refl _ _) (Nat.le_refl _) _⟩
        case round =>
          obtain ⟨j, hj, rfl, hown, hb⟩ := hrel
          have hlj := Lib.hid (show (l.take j).length + 1 ≤ 20000000 by rw [List.length_take]; omega)
          by_cases hlt : j < k
          · have hjl : j < l.length := by omega
            obtain ⟨ad2, e2, hc2⟩ := hr j hjl
            have hc3 := (hb.cell (p := ad2.add j) (World.block_lt_of_cell? w _ hc2)).trans hc2
            clear hc2
            first
              | (cases e2)
              | (subst e2)
            go_wp2_with (at_builtin; refine wpList_snoc32 rfl _ _ rfl hown hb hlj.out l[j] rfl rfl rfl ?_; intro v' w2 hown2 hb2)
            go_roundw
            case rel => exact ⟨j + 1, by omega, by go_num, by rw [List.take_succ_eq_append_getElem hjl, List.length_append]; exact hown2, hb2⟩
            case measure => simp [intOf]; omega
          · have ej : Hid (j = k) := show j = k by omega
            go_wp2
            rw [ej.out, ← hx.out] at hown
            obtain ⟨a', c', rfl⟩ := own_slice hown
            go_ret
            exact ⟨a', c', rfl, hown, hb⟩
end Go.Proofs.YtcofiekfhnfjpaaDoor

/- N2 -/
namespace Go.Proofs.YtcofiekfhnfjpaaDoor
open Go.RowKit
set_option linter.unusedVariables false
set_option linter.unusedSimpArgs false
def digD (l : List (BitVec 32)) (i : Nat) : Nat := (l.getD i 0#32).toNat
theorem digD_lt (l : List (BitVec 32)) (i : Nat) : digD l i < 4294967296 := (l.getD i 0#32).isLt
theorem digD_in (l : List (BitVec 32)) (i : Nat) (h : i < l.length) : digD l i = l[i].toNat := by simp [digD, List.getD, h]
theorem digD_out (l : List (BitVec 32)) (i : Nat) (h : l.length ≤ i) : digD l i = 0 := by simp [digD, List.getD, List.getElem?_eq_none h]
theorem snoc_len {out : List (BitVec 32)} {j : Nat} (d : BitVec 32) (h : out.length = j) : (out ++ [d]).length = j + 1 := by rw [List.length_append, h]; rfl
theorem snoc_le {out : List (BitVec 32)} {j : Nat} (d : BitVec 32) (h : out.length = j) (hj : j < 10000000) : (out ++ [d]).length ≤ 10000000 := by rw [snoc_len d h]; omega
theorem last_split (l : List (BitVec 32)) (h : 0 < l.length) : l = l.take (l.length - 1) ++ [l[l.length - 1]] := by
  have := List.take_succ_eq_append_getElem (l := l) (i := l.length - 1) (by omega)
  rwa [show l.length - 1 + 1 = l.length by omega, List.take_length] at this
theorem valD_dig (l : List (BitVec 32)) (k : Nat) : valD (l.take (k + 1)) = valD (l.take k) + pw k * digD l k := by
  rcases Nat.lt_or_ge k l.length with h | h
  · rw [valD_take _ _ h, digD_in _ _ h]
  · rw [digD_out _ _ h, List.take_of_length_le (by omega), List.take_of_length_le h]; omega
theorem toNat32 (x : Nat) : ((BitVec.ofNat 32 x).toNat : Int) = (x : Int) % 4294967296 := by rw [BitVec.toNat_ofNat]; omega
theorem toNat32' {y : Int} {x : Nat} (h : y = (x : Int) % 4294967296) : y = ((BitVec.ofNat 32 x).toNat : Int) := by rw [h, toNat32]
theorem dig_any (a : Option Addr) (n c i : Nat) (l : List (BitVec 32)) (w : World) (hn : l.length = n) (hr : Rw w a l) :
    Calls Tryd.prog 52 #[.slice a n c, .int .i64 i] w fun e w' => e = .returned (.int .u64 (digD l i : Nat)) ∧ w = w' := by
  subst hn
  rcases Nat.lt_or_ge i l.length with h | h
  · obtain ⟨ad, rfl, hc⟩ := hr i h
    rw [digD_in _ _ h]
    go_enter Tryd.func52, Tryd.ntmps52
    go_wp2
    go_ret
    exact ⟨rfl, rfl⟩
  · rw [digD_out _ _ h]
    go_enter Tryd.func52, Tryd.ntmps52
    go_wp2
    go_ret
    exact ⟨rfl, rfl⟩
theorem two_bv (n : Nat) (hn : n < 18446744073709551616) : #[Value.int IntKind.u32 ((n : Int) % 4294967296), Value.int IntKind.u32 ((n : Int) / 4294967296)].toList = bv32 [BitVec.ofNat 32 n, BitVec.ofNat 32 (n / 4294967296)] := by
  simp only [bv32, List.map_cons, List.map_nil, BitVec.toNat_ofNat]
  congr 1
  congr 1
  congr 1
  congr 1
  omega
def AddRel (w : World) (l m : List (BitVec 32)) (v c i : Value) (wr : World) : Prop := ∃ (k q : Nat) (out : List (BitVec 32)), k ≤ max l.length m.length ∧ i = .int .i64 k ∧ c = .int .u64 q ∧ q ≤ 1 ∧ Hid (out.length = k ∧ valD (l.take k) + valD (m.take k) = valD out + q * pw k) ∧ wr.ownsRow w.heap.size 32 1 v k (bv32 out) ∧ Below w.heap.size w wr
set_option maxRecDepth 50000 in
set_option maxHeartbeats 1000000 in
theorem radd_any (a b : Option Addr) (n c m d : Nat) (l k : List (BitVec 32)) (w : World) (hn : l.length = n) (hm : k.length = m) (hl : n ≤ 1000000) (hl2 : m ≤ 1000000) (hr : Rw w a l) (hs : Rw w b k) :
    Calls Tryd.prog 36 #[.slice a n c, .slice b m d] w (FrW w (canon (valD l + valD k))) := by
  subst hn hm
  go_enter Tryd.func36, Tryd.ntmps36
  go_wp2
  go_loopw [5, 6, 7] (fun v c i wr => AddRel w l k v c i wr) (fun _ _ i _ => max l.length k.length - (intOf i).toNat)
  case atStart => exact ⟨0, 0, [], Nat.zero_le _, rfl, rfl, by omega, ⟨rfl, by simp [valD_nil]⟩, fresh_row32 w, Below.alloc (Below.refl _ _) (Nat.le_refl _) _⟩
  case round =>
    obtain ⟨j, q, out, hj, rfl, rfl, hq, ho, hown, hb⟩ := hrel
    have hrb := hr.below hb
    have hsb := hs.below hb
    by_cases hlt : j < max l.length k.length
    · have e1 := digD_lt l j
      have e2 := digD_lt k j
      have hj2 : j + 1 ≤ 20000000 := by omega
      go_wp2_with (first
        | (go_at_call 52; (with_reducible refine (dig_any a _ _ j l _ rfl hrb).mono ?_); rintro e w2 ⟨rfl, rfl⟩)
        | (go_at_call 52; (with_reducible refine (dig_any b _ _ j k _ rfl hsb).mono ?_); rintro e w2 ⟨rfl, rfl⟩)
        | (at_builtin; refine wpList_snoc32 rfl _ _ rfl hown hb hj2 (BitVec.ofNat 32 (digD l j + digD k j + q)) (toNat32' (by omega)) rfl rfl ?_; intro v' w2 hown2 hb2))
      go_roundw
      case rel =>
        refine ⟨j + 1, (digD l j + digD k j + q) / 4294967296, out ++ [BitVec.ofNat 32 (digD l j + digD k j + q)], by omega, by go_num, by go_num, by omega, ⟨?_, ?_⟩, hown2, hb2⟩
        · rw [List.length_append, ho.out.1]; rfl
        · rw [valD_dig, valD_dig, valD_snoc, ho.out.1, BitVec.toNat_ofNat, pw_succ]
          exact add_num _ _ _ _ _ _ _ ho.out.2
      case measure => simp [intOf]; omega
    · have hj2 : j + 1 ≤ 20000000 := by omega
      go_wp2_with (first
        | (at_builtin; refine wpList_snoc32 rfl _ _ rfl hown hb hj2 (BitVec.ofNat 32 q) (toNat32' (by omega)) rfl rfl ?_; intro v' w2 hown2 hb2; obtain ⟨a2, c2, rfl⟩ := own_slice hown2)
        | (go_at_call 51; (with_reducible refine (norm_any _ _ _ (out ++ [BitVec.ofNat 32 q]) _ (snoc_len _ ho.out.1) (snoc_le _ ho.out.1 (by omega)) (Rw.of_own hown2)).mono ?_); rintro e w3 ⟨a3, c3, rfl, hown3, hb3⟩))
      all_goals
        go_ret
        refine FrW.eq (FrW.up ⟨a3, c3, rfl, hown3, hb3⟩ hb2) ?_
        rw [← canon_val]
        congr 1
        have e := ho.out.2
        rw [List.take_of_length_le (by omega), List.take_of_length_le (by omega)] at e
        rw [valD_snoc, ho.out.1, BitVec.toNat_ofNat, Nat.mod_eq_of_lt (by omega), e, Nat.mul_comm]
theorem mul_lt32 {x y : Nat} (hx : x < 4294967296) (hy : y < 4294967296) : x * y ≤ 18446744065119617025 := Nat.le_trans (Nat.mul_le_mul (Nat.le_of_lt_succ hx) (Nat.le_of_lt_succ hy)) (by decide)
def cmpN (x y : Nat) : Int := if x < y then -1 else if y < x then 1 else 0
theorem cmpN_lt {x y : Nat} (h : x < y) : cmpN x y = -1 := by simp [cmpN, h]
theorem cmpN_gt {x y : Nat} (h : y < x) : cmpN x y = 1 := by simp [cmpN, h, show ¬ x < y by omega]
theorem cmpN_eq (x : Nat) : cmpN x x = 0 := by simp [cmpN]
theorem drop_dig (l : List (BitVec 32)) (k : Nat) : valD (l.drop k) = digD l k + 4294967296 * valD (l.drop (k + 1)) := by
  rcases Nat.lt_or_ge k l.length with h | h
  · rw [List.drop_eq_getElem_cons h, valD_cons, digD_in _ _ h]
  · rw [digD_out _ _ h, List.drop_eq_nil_of_le h, List.drop_eq_nil_of_le (by omega)]; rfl
theorem dig_split (l : List (BitVec 32)) (k : Nat) : valD l = valD (l.take k) + pw k * valD (l.drop k) := by
  rcases Nat.lt_or_ge k l.length with h | h
  · exact valD_split l k (by omega)
  · rw [List.drop_eq_nil_of_le h, List.take_of_length_le h, valD_nil]; omega
theorem dig_cmp (l m : List (BitVec 32)) (i : Nat) (h : valD (l.drop (i + 1)) = valD (m.drop (i + 1))) (hlt : digD l i < digD m i) : valD l < valD m := by
  have h1 := dig_split l (i + 1)
  have h2 := dig_split m (i + 1)
  rw [valD_dig, h] at h1
  rw [valD_dig] at h2
  have h3 := valD_lt (l.take i)
  have h5 : pw (l.take i).length ≤ pw i := pw_mono (by rw [List.length_take]; omega)
  have h4 : pw i * (digD l i + 1) ≤ pw i * digD m i := Nat.mul_le_mul_left _ (by omega)
  rw [Nat.mul_add] at h4
  omega
def CmpRel (l k : List (BitVec 32)) (M : Nat) (i : Value) : Prop := (∃ p : Nat, p < M ∧ i = .int .i64 p ∧ valD (l.drop (p + 1)) = valD (k.drop (p + 1))) ∨ (i = .int .i64 (-1) ∧ valD l = valD k)
set_option maxRecDepth 50000 in
set_option maxHeartbeats 1000000 in
theorem rcmp_any (a b : Option Addr) (n c m d : Nat) (l k : List (BitVec 32)) (w : World) (hn : l.length = n) (hm : k.length = m) (hl : n ≤ 1000000) (hl2 : m ≤ 1000000) (hr : Rw w a l) (hs : Rw w b k) :
    Calls Tryd.prog 53 #[.slice a n c, .slice b m d] w fun e w' => e = .returned (.int .i64 (cmpN (valD l) (valD k))) ∧ w = w' := by
  subst hn hm
  obtain ⟨M, hM, hM1, hM2, hM3⟩ : ∃ M : Nat, (if (l.length : Nat) < k.length then (k.length : Int) else (l.length : Int)) = (M : Int) ∧ l.length ≤ M ∧ k.length ≤ M ∧ M ≤ 1000000 := ⟨max l.length k.length, by split <;> omega, by omega, by omega, by omega⟩
  have hMx : max (l.length : Int) (k.length : Int) = (M : Int) := by rw [← hM]; split <;> omega
  go_enter Tryd.func53, Tryd.ntmps53
  go_wp2
  go_loop [5] (fun i => CmpRel l k M i) (fun i => (intOf i + 1).toNat)
  case atStart =>
    rcases Nat.eq_zero_or_pos M with rfl | h
    · exact .inr ⟨rfl, by rw [List.length_eq_zero_iff.1 (show l.length = 0 by omega), List.length_eq_zero_iff.1 (show k.length = 0 by omega)]⟩
    · exact .inl ⟨M - 1, by omega, by go_num, by rw [show M - 1 + 1 = M by omega, List.drop_eq_nil_of_le hM1, List.drop_eq_nil_of_le hM2]⟩
  case round =>
    rcases hrel with ⟨p, hp, rfl, hd⟩ | ⟨rfl, hv⟩
    · have HD := Lib.hid hd
      clear hd
      have CL : ∀ W : World, W = w → Calls Tryd.prog 52 #[.slice a l.length c, .int .i64 p] W fun e w' => e = .returned (.int .u64 (digD l p : Nat)) ∧ W = w' := fun W h => by subst h; exact dig_any a _ _ p l _ rfl hr
      rcases Nat.lt_trichotomy (digD l p) (digD k p) with h | h | h
      · have hres := Lib.hid (cmpN_lt (dig_cmp l k p HD.out h))
        go_wp2_with (first
          | (go_at_call 52; (with_reducible refine (dig_any a _ _ p l _ rfl hr).mono ?_); rintro e w2 ⟨rfl, rfl⟩)
          | (go_at_call 52; (with_reducible refine (dig_any b _ _ p k _ rfl hs).mono ?_); rintro e w2 ⟨rfl, rfl⟩))
        go_ret
        exact ⟨by rw [hres.out]; rfl, rfl⟩
      · have HE := Lib.hid h
        obtain ⟨x, hx⟩ : ∃ x, digD l p = x := ⟨_, rfl⟩
        have h1 : ∀ W : World, W = w → Calls Tryd.prog 52 #[.slice a l.length c, .int .i64 p] W fun e w' => e = .returned (.int .u64 (x : Nat)) ∧ W = w' := fun W h2 => by subst h2; rw [← hx]; exact dig_any a _ _ p l _ rfl hr
        have h2 : ∀ W : World, W = w → Calls Tryd.prog 52 #[.slice b k.length d, .int .i64 p] W fun e w' => e = .returned (.int .u64 (x : Nat)) ∧ W = w' := fun W h2 => by subst h2; rw [← hx, h]; exact dig_any b _ _ p k _ rfl hs
        have H1 := Lib.hid h1
        have H2 := Lib.hid h2
        clear h1 h2 hx h CL
        go_wp2_with (first
          | (go_at_call 52; (with_reducible refine (H1.out _ rfl).mono ?_); rintro e w2 ⟨rfl, rfl⟩)
          | (go_at_call 52; (with_reducible refine (H2.out _ rfl).mono ?_); rintro e w2 ⟨rfl, rfl⟩))
        go_round
        case rel =>
          have he : valD (l.drop p) = valD (k.drop p) := by rw [drop_dig l p, drop_dig k p, HE.out, HD.out]
          rcases Nat.eq_zero_or_pos p with rfl | h
          · exact .inr ⟨rfl, by simpa using he⟩
          · exact .inl ⟨p - 1, by omega, by go_num, by rw [show p - 1 + 1 = p by omega]; exact he⟩
        case measure => simp [intOf] <;> omega
      · have hres := Lib.hid (cmpN_gt (dig_cmp k l p HD.out.symm h))
        go_wp2_with (first
          | (go_at_call 52; (with_reducible refine (dig_any a _ _ p l _ rfl hr).mono ?_); rintro e w2 ⟨rfl, rfl⟩)
          | (go_at_call 52; (with_reducible refine (dig_any b _ _ p k _ rfl hs).mono ?_); rintro e w2 ⟨rfl, rfl⟩))
        go_ret
        exact ⟨by rw [hres.out]; rfl, rfl⟩
    · have hres := Lib.hid (show cmpN (valD l) (valD k) = 0 by rw [hv, cmpN_eq])
      clear hv
      go_wp2
      go_ret
      exact ⟨by rw [hres.out]; rfl, rfl⟩
end Go.Proofs.YtcofiekfhnfjpaaDoor

/- N3 -/
namespace Go.Proofs.YtcofiekfhnfjpaaDoor
open Go.RowKit
set_option linter.unusedVariables false
set_option linter.unusedSimpArgs false
theorem rcmp_lt (a b : Option Addr) (n c m d : Nat) (l k : List (BitVec 32)) (w : World) (hn : l.length = n) (hm : k.length = m) (hl : n ≤ 1000000) (hl2 : m ≤ 1000000) (hr : Rw w a l) (hs : Rw w b k) (h : valD l < valD k) :
    Calls Tryd.prog 53 #[.slice a n c, .slice b m d] w fun e w' => e = .returned (.int .i64 (-1)) ∧ w = w' := by
  refine (rcmp_any a b n c m d l k w hn hm hl hl2 hr hs).mono ?_
  rintro e w' ⟨rfl, rfl⟩
  exact ⟨by rw [cmpN_lt h], rfl⟩
theorem rcmp_ge (a b : Option Addr) (n c m d : Nat) (l k : List (BitVec 32)) (w : World) (hn : l.length = n) (hm : k.length = m) (hl : n ≤ 1000000) (hl2 : m ≤ 1000000) (hr : Rw w a l) (hs : Rw w b k) (h : valD k ≤ valD l) :
    Calls Tryd.prog 53 #[.slice a n c, .slice b m d] w fun e w' => ∃ r : Int, 0 ≤ r ∧ r ≤ 1 ∧ e = .returned (.int .i64 r) ∧ w = w' := by
  refine (rcmp_any a b n c m d l k w hn hm hl hl2 hr hs).mono ?_
  rintro e w' ⟨rfl, rfl⟩
  refine ⟨_, ?_, ?_, rfl, rfl⟩ <;> (unfold cmpN; split <;> (try split) <;> omega)
theorem rsub_no (a b : Option Addr) (n c m d : Nat) (l k : List (BitVec 32)) (w : World) (hn : l.length = n) (hm : k.length = m) (hl : n ≤ 1000000) (hl2 : m ≤ 1000000) (hr : Rw w a l) (hs : Rw w b k) (h : valD l < valD k) :
    Calls Tryd.prog 37 #[.slice a n c, .slice b m d] w fun e w' => e = .returned (.tuple #[.slice none 0 0, .bool false]) ∧ w = w' := by
  subst hn hm
  go_enter Tryd.func37, Tryd.ntmps37
  go_wp2_with (go_at_call 53; (with_reducible refine (rcmp_lt _ _ _ _ _ _ l k _ rfl rfl hl hl2 hr hs h).mono ?_); rintro e w1 ⟨rfl, rfl⟩)
  go_ret2
  exact ⟨rfl, rfl⟩
theorem take_val {l k : List (BitVec 32)} (h : valD k ≤ valD l) : valD (k.take l.length) = valD k := by
  have h1 := dig_split k l.length
  have h2 := valD_lt l
  have h3 : valD (k.drop l.length) = 0 := by
    rcases Nat.eq_zero_or_pos (valD (k.drop l.length)) with h4 | h4
    · exact h4
    · have := Nat.mul_le_mul_left (pw l.length) h4
      omega
  rw [h3] at h1
  omega
def SubRel (w : World) (l k : List (BitVec 32)) (v c i : Value) (wr : World) : Prop := ∃ (j q : Nat) (out : List (BitVec 32)), j ≤ l.length ∧ i = .int .i64 j ∧ c = .int .u64 q ∧ q ≤ 1 ∧ Hid (out.length = j ∧ valD (l.take j) + q * pw j = valD (k.take j) + valD out) ∧ wr.ownsRow w.heap.size 32 1 v j (bv32 out) ∧ Below w.heap.size w wr
theorem snoc_own_le {w w2 : World} {v : Value} {j : Nat} {out : List (BitVec 32)} (h : w2.ownsRow w.heap.size 32 1 v j (bv32 out)) : out.length = j := by
  have := h.1
  rw [bv32_len] at this
  omega
theorem own_le {w w2 : World} {v : Value} {j : Nat} {out : List (BitVec 32)} (h : w2.ownsRow w.heap.size 32 1 v j (bv32 out)) (hj : j ≤ 10000000) : out.length ≤ 10000000 := by rw [snoc_own_le h]; exact hj
set_option maxRecDepth 50000 in
set_option maxHeartbeats 1000000 in
theorem rsub_yes (a b : Option Addr) (n c m d : Nat) (l k : List (BitVec 32)) (w : World) (hn : l.length = n) (hm : k.length = m) (hl : n ≤ 1000000) (hl2 : m ≤ 1000000) (hr : Rw w a l) (hs : Rw w b k) (h : valD k ≤ valD l) :
    Calls Tryd.prog 37 #[.slice a n c, .slice b m d] w fun e w' => ∃ a' c', e = .returned (.tuple #[.slice a' (canon (valD l - valD k)).length c', .bool true]) ∧ w'.ownsRow w.heap.size 32 1 (.slice a' (canon (valD l - valD k)).length c') (canon (valD l - valD k)).length (bv32 (canon (valD l - valD k))) ∧ Below w.heap.size w w' := by
  subst hn hm
  have HV := Lib.hid h
  clear h
  go_enter Tryd.func37, Tryd.ntmps37
  go_wp2_with (go_at_call 53; (with_reducible refine (rcmp_ge _ _ _ _ _ _ l k _ rfl rfl hl hl2 hr hs HV.out).mono ?_); rintro e w1 ⟨r, hr0, hr1, rfl, rfl⟩)
  go_loopw [6, 7, 8] (fun v c i wr => SubRel w l k v c i wr) (fun _ _ i _ => l.length - (intOf i).toNat)
  case atStart => exact ⟨0, 0, [], Nat.zero_le _, rfl, rfl, by omega, ⟨rfl, by simp [valD_nil]⟩, fresh_row32 w, Below.alloc (Below.refl _ _) (Nat.le_refl _) _⟩
  case round =>
    obtain ⟨j, q, out, hj, rfl, rfl, hq, ho, hown, hb⟩ := hrel
    have hrb := hr.below hb
    have hsb := hs.below hb
    have hj2 : j + 1 ≤ 20000000 := by omega
    by_cases hlt : j < l.length
    · have e1 := digD_lt l j
      have e2 := digD_lt k j
      obtain ⟨t, ht⟩ : ∃ t, t + digD k j + q = 4294967296 + digD l j := ⟨4294967296 + digD l j - digD k j - q, by omega⟩
      have ht2 : t < 8589934592 := by omega
      have ht3 : 4294967296 + (digD l j : Int) - (digD k j : Int) - (q : Int) = (t : Int) := by omega
      have HT := Lib.hid ht
      clear ht
      go_wp2_with (first
        | (go_at_call 52; (with_reducible refine (dig_any a _ _ j l _ rfl hrb).mono ?_); rintro e w2 ⟨rfl, rfl⟩)
        | (go_at_call 52; (with_reducible refine (dig_any b _ _ j k _ rfl hsb).mono ?_); rintro e w2 ⟨rfl, rfl⟩)
        | (at_builtin; refine wpList_snoc32 rfl _ _ rfl hown hb hj2 (BitVec.ofNat 32 t) (toNat32' (by omega)) rfl rfl ?_; intro v' w2 hown2 hb2))
      go_roundw
      case rel =>
        refine ⟨j + 1, 1 - t / 4294967296, out ++ [BitVec.ofNat 32 t], by omega, by go_num, ?_, by omega, ⟨?_, ?_⟩, hown2, hb2⟩
        · have := HT.out
          congr 1
          omega
        · rw [List.length_append, ho.out.1]; rfl
        · rw [valD_dig, valD_dig, valD_snoc, ho.out.1, BitVec.toNat_ofNat, pw_succ]
          exact sub_num _ _ _ _ _ _ _ _ _ ho.out.2 (by have := HT.out; omega)
      case measure => simp [intOf] <;> omega
    · obtain ⟨a2, c2, rfl⟩ := own_slice hown
      go_wp2_with ((go_at_call 51; (with_reducible refine (norm_any _ _ _ out _ (snoc_own_le hown) (own_le hown (by omega)) (Rw.of_own hown)).mono ?_); rintro e w3 ⟨a3, c3, rfl, hown3, hb3⟩))
      have hv : trimD out = canon (valD l - valD k) := by
        rw [← canon_val]
        congr 1
        have e := ho.out.2
        have hjl : j = l.length := by omega
        rw [hjl, List.take_length, take_val HV.out] at e
        have h1 := valD_lt out
        rw [ho.out.1, hjl] at h1
        have h2 := HV.out
        have h3 : q = 0 := by
          rcases Nat.eq_zero_or_pos q with h4 | h4
          · exact h4
          · rw [show q = 1 by omega] at e; omega
        subst h3
        omega
      rw [hv] at hown3
      go_ret2
      exact ⟨a3, c3, by rw [hv]; rfl, own_mono hown3 hb.size, hb.trans (hb3.mono hb.size)⟩
def zer (n : Nat) : List (BitVec 32) := List.replicate n 0#32
theorem made32 (w : World) (n : Nat) (hn : n ≤ 10000000) : (w.alloc (.cells (madeCells #[Value.int .u32 0] n) 32)).ownsRow w.heap.size 32 1 (.slice (some ⟨w.heap.size, 0, none⟩) n n) n (bv32 (zer n)) := by
  have h := own_made w (madeCells #[Value.int .u32 0] n) 32 n (size_madeCells _ _) (by unfold maxLen; omega)
  rw [show (madeCells #[Value.int .u32 0] n).toList = bv32 (zer n) from ?_] at h
  · exact h
  · apply List.ext_getElem
    · simp [madeCells, bv32, zer]
    · intro i h1 h2
      simp [madeCells, bv32, zer, Nat.mod_one]
theorem mul_num (Q Q' p r s x B f b q t V X c : Nat) (h : Q' + p * q = Q + p * (t % 4294967296)) (h0 : Q + c * p = V + f * X * r) (hp : p = r * s) (ht : t = f * b + q + c) : Q' + (t / 4294967296) * (p * 4294967296) = V + f * (X + s * b) * r := by
  have h1 := congrArg (p * ·) (Nat.mod_add_div t 4294967296)
  simp only [Nat.mul_add] at h1
  subst hp
  grind
theorem bv32_set (l : List (BitVec 32)) (k : Nat) (d : BitVec 32) : bv32 (l.set k d) = (bv32 l).set k (.int .u32 (d.toNat : Int)) := by simp [bv32, List.map_set]
/-- The row of a product: inner loop. -/
def MuIn (w : World) (l k : List (BitVec 32)) (i : Nat) (g cp : Nat) (c j : Value) (wr : World) : Prop := ∃ (m q : Nat) (Q : List (BitVec 32)), m ≤ k.length ∧ j = .int .i64 m ∧ c = .int .u64 q ∧ q < 4294967296 ∧
  Hid (Q.length = l.length + k.length + 1 ∧ valD Q + q * pw (i + m) = valD (l.take i) * valD k + digD l i * valD (k.take m) * pw i ∧ ∀ z, i + k.length ≤ z → z < Q.length → Q[z]? = some 0#32) ∧
  wr.ownsRow w.heap.size 32 1 (.slice (some ⟨g, 0, none⟩) (l.length + k.length + 1) cp) (l.length + k.length + 1) (bv32 Q) ∧ Below w.heap.size w wr
def MuOut (w : World) (l k : List (BitVec 32)) (g cp : Nat) (i : Value) (wr : World) : Prop := ∃ (m : Nat) (Q : List (BitVec 32)), m ≤ l.length ∧ i = .int .i64 m ∧
  Hid (Q.length = l.length + k.length + 1 ∧ valD Q = valD (l.take m) * valD k ∧ ∀ z, m + k.length ≤ z → z < Q.length → Q[z]? = some 0#32) ∧
  wr.ownsRow w.heap.size 32 1 (.slice (some ⟨g, 0, none⟩) (l.length + k.length + 1) cp) (l.length + k.length + 1) (bv32 Q) ∧ Below w.heap.size w wr
set_option maxRecDepth 50000 in
set_option maxHeartbeats 1000000 in
theorem rmul_any (a b : Option Addr) (n c m d : Nat) (l k : List (BitVec 32)) (w : World) (hn : l.length = n) (hm : k.length = m) (hl : n ≤ 1000000) (hl2 : m ≤ 1000000) (hr : Rw w a l) (hs : Rw w b k) :
    Calls Tryd.prog 38 #[.slice a n c, .slice b m d] w (FrW w (canon (valD l * valD k))) := by
  subst hn hm
  have hmk := run_make_row' (P := Tryd.prog) 22 32 (.int .u32 0) 4 Tryd.underlying22 info32 rfl .i64 .i64 (l.length + k.length + 1) (by omega) (by omega)
  have hcast : ((l.length + k.length + 1 : Nat) : Int) = (l.length : Int) + (k.length : Int) + 1 := by omega
  rw [hcast] at hmk
  clear hcast
  go_enter Tryd.func38, Tryd.ntmps38
  go_wp2
  go_loopw [6, 7, 8, 9] (fun i _ _ _ wr => MuOut w l k w.heap.size (l.length + k.length + 1) i wr) (fun i _ _ _ _ => l.length - (intOf i).toNat)
  case atStart =>
    refine ⟨0, zer (l.length + k.length + 1), Nat.zero_le _, rfl, ⟨by simp [zer], by simp [zer, valD_zeros, valD_nil], ?_⟩, made32 w _ (by omega), Below.alloc (Below.refl _ _) (Nat.le_refl _) _⟩
    intro z _ hz
    rw [zer, List.getElem?_replicate, if_pos (by simpa [zer] using hz)]
  case round =>
    obtain ⟨i, Q, hi, rfl, hq, hown, hb⟩ := hrel
    by_cases hlt : i < l.length
    · go_wp2
      go_loopw [7, 8, 9] (fun c j _ wr => MuIn w l k i w.heap.size (l.length + k.length + 1) c j wr) (fun _ j _ _ => k.length - (intOf j).toNat)
      case atStart => exact ⟨0, 0, Q, Nat.zero_le _, rfl, rfl, by omega, ⟨hq.out.1, by rw [hq.out.2.1]; simp [valD_nil], hq.out.2.2⟩, hown, hb⟩
      case round =>
        obtain ⟨j, q, Q2, hj, rfl, rfl, hq2, ho, hown2, hb2⟩ := hrel
        have hrb := hr.below hb2
        have hsb := hs.below hb2
        have hQl := ho.out.1
        by_cases hlt2 : j < k.length
        · obtain ⟨ad, rfl, hc1⟩ := hrb i hlt
          obtain ⟨bd, rfl, hc2⟩ := hsb j hlt2
          have hjq : i + j < Q2.length := by omega
          obtain ⟨z, hz⟩ : ∃ z, Q2[i + j] = z := ⟨_, rfl⟩
          have hc3 := own_cell hown2 (i + j) (.int .u32 (z.toNat : Int)) (by simp [bv32, hjq, hz])
          have hf3 := hown2.frozenAt (i + j)
          have e3 := z.isLt
          obtain ⟨x, hx⟩ : ∃ x, l[i].toNat = x := ⟨_, rfl⟩
          obtain ⟨y, hy⟩ : ∃ y, k[j].toNat = y := ⟨_, rfl⟩
          have e1 := l[i].isLt
          have e2 := k[j].isLt
          rw [hx] at hc1 e1
          rw [hy] at hc2 e2
          have e4 := mul_lt32 e1 e2
          obtain ⟨s, hs2⟩ : ∃ s, x * y = s := ⟨_, rfl⟩
          have hsi : (x : Int) * (y : Int) = (s : Int) := by rw [← hs2]; simp
          rw [hs2] at e4
          have HF := Lib.hid (show x = digD l i ∧ y = k[j].toNat ∧ x * y = s ∧ Q2[i + j]? = some z from ⟨by rw [digD_in _ _ hlt, hx], hy.symm, hs2, by rw [List.getElem?_eq_getElem hjq, hz]⟩)
          clear hx hy hs2 hz
          have HQ := Lib.hid hQl
          clear hQl hjq
          have w1 : IntKind.i64.wrap ((i : Int) + (j : Int)) = (i : Int) + (j : Int) := IntWalk.i64_in _ (by omega)
          have w2 : IntKind.u64.wrap ((s : Int) + (z.toNat : Int)) = (s : Int) + (z.toNat : Int) := IntWalk.u64_in _ (by omega)
          have w3 : IntKind.u64.wrap ((s : Int) + (z.toNat : Int) + (q : Int)) = (s : Int) + (z.toNat : Int) + (q : Int) := IntWalk.u64_in _ (by omega)
          have w4 : IntKind.u64.wrap (s : Int) = (s : Int) := IntWalk.u64_in _ (by omega)
          go_wp2
          go_quiet (fail)
          clear w1 w2 w3 w4
          go_wp2
          go_roundw
          case rel =>
            have hlen : i + j < Q2.length := by have := HQ.out; omega
            refine ⟨j + 1, (s + z.toNat + q) / 4294967296, Q2.set (i + j) (BitVec.ofNat 32 (s + z.toNat + q)), by omega, by go_num, by go_num, by omega, ⟨?_, ?_, ?_⟩, ?_, ?_⟩
            · rw [List.length_set]; exact HQ.out
            · have hv := valD_set Q2 (i + j) (BitVec.ofNat 32 (s + z.toNat + q)) hlen
              have hz2 := HF.out.2.2.2
              rw [List.getElem?_eq_getElem hlen] at hz2
              rw [Option.some.inj hz2, BitVec.toNat_ofNat] at hv
              rw [show i + (j + 1) = (i + j) + 1 by omega, pw_succ, valD_take _ _ hlt2]
              exact mul_num _ _ _ _ _ x 4294967296 _ _ _ _ _ _ _ hv ho.out.2.1 (pw_add _ _) (by rw [← HF.out.1, ← HF.out.2.1, HF.out.2.2.1])
            · intro z2 h1 h2
              rw [List.length_set] at h2
              rw [List.getElem?_set_ne (by omega)]
              exact ho.out.2.2 z2 h1 h2
            · rw [bv32_set]
              rw [show ((BitVec.ofNat 32 (s + z.toNat + q)).toNat : Int) = ((s : Int) + (z.toNat : Int) + (q : Int)) % 4294967296 by rw [toNat32]; omega]
              exact own_set (w := wr.drewN _) hown2 _ _
            · exact Below.setCell (below_drewN hb2 _) (p := ⟨w.heap.size, i + j, none⟩) (Nat.le_refl _) _
          case measure => simp [intOf] <;> omega
        · have hjk : j = k.length := by omega
          subst hjk
          have hz0 := ho.out.2.2 (i + k.length) (Nat.le_refl _) (by omega)
          have hc3 := own_cell hown2 (i + k.length) (.int .u32 0) (by rw [bv32, List.getElem?_map, hz0]; rfl)
          have hf3 := hown2.frozenAt (i + k.length)
          have HQ := Lib.hid hQl
          have HZ := Lib.hid hz0
          clear hQl hz0
          go_wp2
          go_roundw
          case rel =>
            have hlen : i + k.length < Q2.length := by have := HQ.out; omega
            refine ⟨i + 1, Q2.set (i + k.length) (BitVec.ofNat 32 q), by omega, by go_num, ⟨?_, ?_, ?_⟩, ?_, ?_⟩
            · rw [List.length_set]; exact HQ.out
            · have hv := valD_set Q2 (i + k.length) (BitVec.ofNat 32 q) hlen
              have hz2 := HZ.out
              rw [List.getElem?_eq_getElem hlen] at hz2
              have e0 : (BitVec.ofNat 32 q).toNat = q := by rw [BitVec.toNat_ofNat]; omega
              have e00 : (0#32).toNat = 0 := rfl
              rw [Option.some.inj hz2, e0, e00, Nat.mul_zero, Nat.add_zero] at hv
              have h4 := ho.out.2.1
              rw [List.take_length] at h4
              rw [valD_dig, Nat.add_mul]
              grind
            · intro z2 h1 h2
              rw [List.length_set] at h2
              rw [List.getElem?_set_ne (by omega)]
              exact ho.out.2.2 z2 (by omega) h2
            · have := own_set hown2 (i + k.length) (.int .u32 (q : Int))
              rw [bv32_set]
              rw [show ((BitVec.ofNat 32 q).toNat : Int) = (q : Int) by rw [toNat32]; omega]
              exact this
            · exact Below.setCell hb2 (p := ⟨w.heap.size, i + k.length, none⟩) (Nat.le_refl _) _
          case measure => simp [intOf] <;> omega
    · obtain rfl : i = l.length := by omega
      go_wp2_with ((go_at_call 51; (with_reducible refine (norm_any _ _ _ Q _ (snoc_own_le hown) (own_le hown (by omega)) (Rw.of_own hown)).mono ?_); rintro e w3 ⟨a3, c3, rfl, hown3, hb3⟩))
      have hv : trimD Q = canon (valD l * valD k) := by
        rw [← canon_val, hq.out.2.1, List.take_length]
      rw [hv] at hown3
      go_ret
      exact ⟨a3, c3, by rw [hv]; rfl, own_mono hown3 hb.size, hb.trans (hb3.mono hb.size)⟩
end Go.Proofs.YtcofiekfhnfjpaaDoor

/- N4 -/
namespace Go.Proofs.YtcofiekfhnfjpaaDoor
open Go.RowKit
set_option linter.unusedVariables false
set_option linter.unusedSimpArgs false
/-- b binary digits. -/
def IsBl (n b : Nat) : Prop := n < 2 ^ b ∧ (n = 0 → b = 0) ∧ (0 < n → 0 < b ∧ 2 ^ (b - 1) ≤ n)
theorem pw_two (k : Nat) : pw k = 2 ^ (32 * k) := by
  unfold pw
  rw [Nat.pow_mul]
/-- The top digit tells the number of binary digits. -/
theorem isBl_top (l : List (BitVec 32)) (h : 0 < l.length) (b : Nat) (hb : IsBl l[l.length - 1].toNat b) (hz : l[l.length - 1].toNat ≠ 0) : IsBl (valD l) (32 * (l.length - 1) + b) := by
  have h1 : valD l = valD (l.take (l.length - 1)) + pw (l.length - 1) * l[l.length - 1].toNat := by
    have := valD_take l (l.length - 1) (by omega)
    rwa [show l.length - 1 + 1 = l.length by omega, List.take_length] at this
  have h2 := valD_lt (l.take (l.length - 1))
  rw [List.length_take, Nat.min_eq_left (by omega)] at h2
  generalize l[l.length - 1].toNat = t at h1 hb hz
  generalize l.length - 1 = m at h1 h2
  have h3 : pw m * (t + 1) ≤ pw m * 2 ^ b := Nat.mul_le_mul_left _ hb.1
  have h4 := hb.2.2 (by omega)
  have h5 : pw m * 2 ^ (b - 1) ≤ pw m * t := Nat.mul_le_mul_left _ h4.2
  have e1 : pw m * 2 ^ b = 2 ^ (32 * m + b) := by rw [pw_two, Nat.pow_add]
  have e2 : pw m * 2 ^ (b - 1) = 2 ^ (32 * m + b - 1) := by rw [pw_two, ← Nat.pow_add]; congr 1; omega
  rw [Nat.mul_add] at h3
  rw [e1] at h3
  rw [e2] at h5
  have hp := pw_pos m
  refine ⟨by omega, fun h0 => ?_, fun _ => ⟨by omega, by omega⟩⟩
  have : pw m * t = 0 := by omega
  rcases Nat.mul_eq_zero.1 this with h | h
  · omega
  · exact absurd h hz
end Go.Proofs.YtcofiekfhnfjpaaDoor

/- N5 -/
namespace Go.Proofs.YtcofiekfhnfjpaaDoor
open Go.RowKit
set_option linter.unusedVariables false
set_option linter.unusedSimpArgs false
theorem drop_div (l : List (BitVec 32)) (k : Nat) : valD (l.drop k) = valD l / pw k := by
  have h := dig_split l k
  have h1 : valD (l.take k) < pw k := by
    have h2 := valD_lt (l.take k)
    have h3 := pw_mono (show (l.take k).length ≤ k by rw [List.length_take]; omega)
    omega
  rw [h, Nat.add_mul_div_left _ _ (pw_pos k), Nat.div_eq_of_lt h1, Nat.zero_add]
theorem shr_num (l : List (BitVec 32)) (s k d t : Nat) (ht : s % 32 = t) (hd : digD l (s / 32 + k + 1) * 4294967296 + digD l (s / 32 + k) = d) :
    (valD l / 2 ^ s) % pw (k + 1) = (valD l / 2 ^ s) % pw k + pw k * (d / 2 ^ t % 4294967296) := by
  rw [pw_succ, Nat.mod_mul]
  congr 2
  have h1 : valD l / 2 ^ s / pw k = valD (l.drop (s / 32 + k)) / 2 ^ t := by
    rw [drop_div, Nat.div_div_eq_div_mul, Nat.div_div_eq_div_mul, pw_two, pw_two, ← Nat.pow_add, ← Nat.pow_add]
    congr 2
    omega
  rw [h1, drop_dig, drop_dig l (s / 32 + k + 1)]
  have h2 : 4294967296 = 2 ^ t * 2 ^ (32 - t) := by rw [← Nat.pow_add, show t + (32 - t) = 32 by omega]
  generalize valD (l.drop (s / 32 + k + 1 + 1)) = r
  have h3 : digD l (s / 32 + k) + 4294967296 * (digD l (s / 32 + k + 1) + 4294967296 * r) = d + 2 ^ t * (2 ^ (32 - t) * r * 4294967296) := by
    have h4 : 2 ^ t * (2 ^ (32 - t) * r * 4294967296) = (2 ^ t * 2 ^ (32 - t)) * (4294967296 * r) := by grind
    rw [h4, ← h2]
    omega
  rw [h3, Nat.add_mul_div_left _ _ (Nat.two_pow_pos t), Nat.add_mul_mod_self_right]
end Go.Proofs.YtcofiekfhnfjpaaDoor

/- N6 -/
namespace Go.Proofs.YtcofiekfhnfjpaaDoor
open Go.RowKit
set_option linter.unusedVariables false
set_option linter.unusedSimpArgs false
end Go.Proofs.YtcofiekfhnfjpaaDoor

/- N7 -/
namespace Go.Proofs.YtcofiekfhnfjpaaDoor
open Go.RowKit
set_option linter.unusedVariables false
set_option linter.unusedSimpArgs false
theorem own_below {w w' : World} {base : Nat} {e : TypeId} {size : Nat} {v : Value} {n : Nat} {xs : List Value} (h : w.ownsRow base e size v n xs) (hb : Below w.heap.size w w') : w'.ownsRow base e size v n xs := by
  refine ⟨h.1, ?_⟩
  rcases h.2 with h' | ⟨g, cap, cur, h1, h2, h3, h4⟩
  · exact .inl h'
  · refine .inr ⟨g, cap, cur, h1, h2, ?_, h4⟩
    have hlt : g < w.heap.size := by
      rcases Nat.lt_or_ge g w.heap.size with h | h
      · exact h
      · rw [Array.getElem?_eq_none h] at h3; cases h3
    rw [hb.block g hlt, h3]
theorem top_pos (n : Nat) (h : 0 < (canon n).length) : 0 < digD (canon n) ((canon n).length - 1) := by
  rcases Nat.eq_zero_or_pos (digD (canon n) ((canon n).length - 1)) with h1 | h1
  · exfalso
    rw [digD_in _ _ (by omega)] at h1
    have h2 := last_split (canon n) h
    rw [show (canon n)[(canon n).length - 1] = 0#32 from BitVec.eq_of_toNat_eq (by simpa using h1)] at h2
    have h3 := trim_snoc0 ((canon n).take ((canon n).length - 1))
    rw [← h2, trim_canon] at h3
    have h4 := trim_len_le ((canon n).take ((canon n).length - 1))
    rw [← h3, List.length_take] at h4
    omega
  · exact h1
theorem canon_len_pos {n : Nat} (h : 0 < n) : 0 < (canon n).length := by
  rcases Nat.eq_zero_or_pos (canon n).length with h1 | h1
  · have h2 := valD_canon n
    rw [List.length_eq_zero_iff.1 h1] at h2
    simp [valD_nil] at h2
    omega
  · exact h1
theorem ex_canon (n : Nat) : ∃ U, Hid (canon n = U) := ⟨_, rfl⟩
end Go.Proofs.YtcofiekfhnfjpaaDoor

/- Fr -/
namespace Go.Proofs.YtcofiekfhnfjpaaDoor
open Go.RowKit
set_option linter.unusedVariables false
set_option linter.unusedSimpArgs false
/-- A row of digits that lies above all that was there. -/
def RwF (B : Nat) (w : World) (a : Option Addr) (l : List (BitVec 32)) : Prop := Rw w a l ∧ ∀ ad, a = some ad → l ≠ [] → B ≤ ad.block
theorem RwF.of_own {w : World} {base : Nat} {e : TypeId} {a : Option Addr} {n c : Nat} {l : List (BitVec 32)} (h : w.ownsRow base e 1 (.slice a n c) n (bv32 l)) : RwF base w a l := by
  refine ⟨Rw.of_own h, fun ad e hne => ?_⟩
  have hl := h.1
  rw [bv32_len] at hl
  obtain ⟨g, e2, hg⟩ := own_form h (by have := List.length_pos_iff.2 hne; omega)
  rw [e] at e2
  cases e2
  exact hg
theorem RwF.mono {B B' : Nat} {w : World} {a : Option Addr} {l : List (BitVec 32)} (h : RwF B w a l) (hb : B' ≤ B) : RwF B' w a l := ⟨h.1, fun ad e hne => Nat.le_trans hb (h.2 ad e hne)⟩
theorem RwF.below {B : Nat} {w w' : World} {a : Option Addr} {l : List (BitVec 32)} (h : RwF B w a l) (hb : Below w.heap.size w w') : RwF B w' a l := ⟨h.1.below hb, h.2⟩
theorem RwF.set {B b : Nat} {w : World} {a : Option Addr} {l : List (BitVec 32)} (h : RwF B w a l) (hb : b < B) (o : Nat) (v : Value) : RwF B (w.setCell ⟨b, o, none⟩ v) a l := by
  refine ⟨fun k hk => ?_, h.2⟩
  obtain ⟨ad, e, hc⟩ := h.1 k hk
  have := h.2 ad e (by rintro rfl; simp at hk)
  refine ⟨ad, e, ?_⟩
  rw [World.cell?_setCell_far _ _ _ _ (by rw [block_add]; show b ≠ _; omega)]
  exact hc
/-- A row of digits that the call has made, or a part of one, is returned; its capacity is known to reach. -/
def FrR (w : World) (l : List (BitVec 32)) (e : Ending) (w' : World) : Prop := ∃ a c, e = .returned (.slice a l.length c) ∧ l.length ≤ c ∧ RwF w.heap.size w' a l ∧ Below w.heap.size w w'
theorem FrR.of_own {w w' : World} {l : List (BitVec 32)} {e : Ending} (h : FrW w l e w') : FrR w l e w' := by
  obtain ⟨a, c, h1, h2, h3⟩ := h
  exact ⟨a, c, h1, own_cap h2, RwF.of_own h2, h3⟩
theorem FrR.up {w w1 w' : World} {l : List (BitVec 32)} {e : Ending} (h : FrR w1 l e w') (hb : Below w.heap.size w w1) : FrR w l e w' := by
  obtain ⟨a, c, h1, h2, h3, h4⟩ := h
  exact ⟨a, c, h1, h2, h3.mono hb.size, hb.trans (h4.mono hb.size)⟩
theorem RwF.take {B : Nat} {w : World} {a : Option Addr} {l : List (BitVec 32)} (h : RwF B w a l) (n : Nat) : RwF B w a (l.take n) := ⟨h.1.take n, fun ad e hne => h.2 ad e (by rintro rfl; simp at hne)⟩
end Go.Proofs.YtcofiekfhnfjpaaDoor

