
import Derived.Test.YtcofiekfhnfjpaaU1
import Derived.WalkSpells
import Derived.WalkLawsBesides
import Derived.Lib.Hide
import Derived.Deep.QuietTactic
import Derived.BigQuiet
import Derived.Outline
import Derived.Deep.OwnRows
import Derived.Lib.SliceRun
import Derived.Laws.MakeOwn
import Derived.IntWalk
import Derived.Deep.RegionHeld3
/- N1 -/
namespace Go.Proofs.Ytcofiekfhnfjpaa
open Go.RowKit
set_option linter.unusedVariables false
set_option linter.unusedSimpArgs false
set_option maxRecDepth 50000 in
set_option maxHeartbeats 400000 in
theorem norm_any (a : Option Addr) (n c : Nat) (l : List (BitVec 32)) (w : World) (hn : l.length = n) (hl : l.length ≤ 10000000) (hr : Rw w a l) :
    Calls Try.prog 86 #[.slice a n c] w (FrW w (trimD l)) := by
  subst hn
  obtain ⟨i0, hi, hz0, hz1, hz2⟩ := info_parts info32
  go_enter Try.func86, Try.ntmps86
  go_wp2
  go_loop [3] (fun n => ∃ k : Nat, k ≤ l.length ∧ n = .int .i64 k ∧ Hid (trimD (l.take k) = trimD l)) (fun n => (intOf n).toNat)
  case atStart => exact ⟨l.length, Nat.le_refl _, rfl, by rw [List.take_length]; exact rfl⟩
  case round =>
    obtain ⟨k, hk, rfl, ht⟩ := hrel
    by_cases hz : 0 < k ∧ l[k - 1]? = some 0#32
    · obtain ⟨hk0, hz⟩ := hz
      obtain ⟨hk1, hz⟩ := List.getElem?_eq_some_iff.1 hz
      obtain ⟨ad, rfl, hc⟩ := hr (k - 1) hk1
      rw [hz] at hc
      have HZ := Lib.hid hz
      clear hz
      go_wp2
      go_round
      case rel => exact ⟨k - 1, by omega, by go_num, by refine trim_step l (k - 1) hk1 ?_ HZ.out; rw [show k - 1 + 1 = k by omega]; exact ht.out⟩
      case measure => simp [intOf]; omega
    · have hx : Hid (trimD l = l.take k) := by
        refine trim_take l k hk ht.out ?_
        rcases Nat.eq_zero_or_pos k with h | h
        · exact .inl h
        · exact .inr ⟨by omega, fun e => hz ⟨h, by rw [List.getElem?_eq_getElem (by omega), e]⟩⟩
      have hcase : k = 0 ∨ (0 < k ∧ ∃ ad d, a = some ad ∧ w.cell? (ad.add (k - 1)) = some (.int .u32 d) ∧ (d == 0) = false) := by
        rcases Nat.eq_zero_or_pos k with h | hp
        · exact .inl h
        · obtain ⟨ad, e, hc⟩ := hr (k - 1) (by omega)
          refine .inr ⟨hp, ad, _, e, hc, ?_⟩
          rw [beq_eq_false_iff_ne]
          intro h
          refine hz ⟨hp, ?_⟩
          rw [List.getElem?_eq_getElem (by omega)]
          exact congrArg some (BitVec.eq_of_toNat_eq (by simpa using h))
      clear hz ht
      rcases hcase with rfl | ⟨hp, ad, d, rfl, hc, hd⟩
      · go_wp2
        go_loopw [4, 5] (fun v i wr => ∃ j : Nat, j ≤ 0 ∧ i = .int .i64 j ∧ wr.ownsRow w.heap.size 49 1 v (l.take j).length (bv32 (l.take j)) ∧ Below w.heap.size w wr) (fun _ i _ => 0 - (intOf i).toNat)
        case atStart => exact ⟨0, by omega, rfl, fresh_row32 w, Below.alloc (Below.refl _ _) (Nat.le_refl _) _⟩
        case round =>
          obtain ⟨j, hj, rfl, hown, hb⟩ := hrel
          have ej : Hid (j = 0) := show j = 0 by omega
          go_wp2
          rw [ej.out, ← hx.out] at hown
          obtain ⟨a', c', rfl⟩ := own_slice hown
          go_ret
          exact ⟨a', c', rfl, hown, hb⟩
      · go_wp2
        go_loopw [4, 5] (fun v i wr => ∃ j : Nat, j ≤ k ∧ i = .int .i64 j ∧ wr.ownsRow w.heap.size 49 1 v (l.take j).length (bv32 (l.take j)) ∧ Below w.heap.size w wr) (fun _ i _ => k - (intOf i).toNat)
        case atStart => exact ⟨0, by omega, rfl, fresh_row32 w, Below.alloc (Below.refl _ _) (Nat.le_refl _) _⟩
        case round =>
          obtain ⟨j, hj, rfl, hown, hb⟩ := hrel
          have hlj := Lib.hid (show (l.take j).length + 1 ≤ 20000000 by rw [List.length_take]; omega)
          by_cases hlt : j < k
          · have hjl : j < l.length := by omega
            obtain ⟨ad2, e2, hc2⟩ := hr j hjl
            have hc3 := (hb.cell (p := ad2.add j) (World.block_lt_of_cell? w _ hc2)).trans hc2
            clear hc2
            first
              | (cases e2)
              | (subst e2)
            go_wp2_with (at_builtin; refine wpList_snoc32 rfl _ _ rfl hown hb hlj.out l[j] rfl rfl rfl ?_; intro v' w2 hown2 hb2)
            go_roundw
            case rel => exact ⟨j + 1, by omega, by go_num, by rw [List.take_succ_eq_append_getElem hjl, List.length_append]; exact hown2, hb2⟩
            case measure => simp [intOf]; omega
          · have ej : Hid (j = k) := show j = k by omega
            go_wp2
            rw [ej.out, ← hx.out] at hown
            obtain ⟨a', c', rfl⟩ := own_slice hown
            go_ret
            exact ⟨a', c', rfl, hown, hb⟩
end Go.Proofs.Ytcofiekfhnfjpaa

/- N2 -/
namespace Go.Proofs.Ytcofiekfhnfjpaa
open Go.RowKit
set_option linter.unusedVariables false
set_option linter.unusedSimpArgs false
def digD (l : List (BitVec 32)) (i : Nat) : Nat := (l.getD i 0#32).toNat
theorem digD_lt (l : List (BitVec 32)) (i : Nat) : digD l i < 4294967296 := (l.getD i 0#32).isLt
theorem digD_in (l : List (BitVec 32)) (i : Nat) (h : i < l.length) : digD l i = l[i].toNat := by simp [digD, List.getD, h]
theorem digD_out (l : List (BitVec 32)) (i : Nat) (h : l.length ≤ i) : digD l i = 0 := by simp [digD, List.getD, List.getElem?_eq_none h]
theorem snoc_len {out : List (BitVec 32)} {j : Nat} (d : BitVec 32) (h : out.length = j) : (out ++ [d]).length = j + 1 := by rw [List.length_append, h]; rfl
theorem snoc_le {out : List (BitVec 32)} {j : Nat} (d : BitVec 32) (h : out.length = j) (hj : j < 10000000) : (out ++ [d]).length ≤ 10000000 := by rw [snoc_len d h]; omega
theorem last_split (l : List (BitVec 32)) (h : 0 < l.length) : l = l.take (l.length - 1) ++ [l[l.length - 1]] := by
  have := List.take_succ_eq_append_getElem (l := l) (i := l.length - 1) (by omega)
  rwa [show l.length - 1 + 1 = l.length by omega, List.take_length] at this
theorem valD_dig (l : List (BitVec 32)) (k : Nat) : valD (l.take (k + 1)) = valD (l.take k) + pw k * digD l k := by
  rcases Nat.lt_or_ge k l.length with h | h
  · rw [valD_take _ _ h, digD_in _ _ h]
  · rw [digD_out _ _ h, List.take_of_length_le (by omega), List.take_of_length_le h]; omega
theorem toNat32 (x : Nat) : ((BitVec.ofNat 32 x).toNat : Int) = (x : Int) % 4294967296 := by rw [BitVec.toNat_ofNat]; omega
theorem toNat32' {y : Int} {x : Nat} (h : y = (x : Int) % 4294967296) : y = ((BitVec.ofNat 32 x).toNat : Int) := by rw [h, toNat32]
theorem dig_any (a : Option Addr) (n c i : Nat) (l : List (BitVec 32)) (w : World) (hn : l.length = n) (hr : Rw w a l) :
    Calls Try.prog 85 #[.slice a n c, .int .i64 i] w fun e w' => e = .returned (.int .u64 (digD l i : Nat)) ∧ w = w' := by
  subst hn
  rcases Nat.lt_or_ge i l.length with h | h
  · obtain ⟨ad, rfl, hc⟩ := hr i h
    rw [digD_in _ _ h]
    go_enter Try.func85, Try.ntmps85
    go_wp2
    go_ret
    exact ⟨rfl, rfl⟩
  · rw [digD_out _ _ h]
    go_enter Try.func85, Try.ntmps85
    go_wp2
    go_ret
    exact ⟨rfl, rfl⟩
theorem two_len (x y : BitVec 32) : [x, y].length = 2 := rfl
theorem two_le (x y : BitVec 32) : [x, y].length ≤ 10000000 := by simp
theorem two_bv (n : Nat) (hn : n < 18446744073709551616) : #[Value.int IntKind.u32 ((n : Int) % 4294967296), Value.int IntKind.u32 ((n : Int) / 4294967296)].toList = bv32 [BitVec.ofNat 32 n, BitVec.ofNat 32 (n / 4294967296)] := by
  simp only [bv32, List.map_cons, List.map_nil, BitVec.toNat_ofNat]
  congr 1
  congr 1
  congr 1
  congr 1
  omega
def AddRel (w : World) (l m : List (BitVec 32)) (v c i : Value) (wr : World) : Prop := ∃ (k q : Nat) (out : List (BitVec 32)), k ≤ max l.length m.length ∧ i = .int .i64 k ∧ c = .int .u64 q ∧ q ≤ 1 ∧ Hid (out.length = k ∧ valD (l.take k) + valD (m.take k) = valD out + q * pw k) ∧ wr.ownsRow w.heap.size 49 1 v k (bv32 out) ∧ Below w.heap.size w wr
set_option maxRecDepth 50000 in
set_option maxHeartbeats 1000000 in
theorem radd_any (a b : Option Addr) (n c m d : Nat) (l k : List (BitVec 32)) (w : World) (hn : l.length = n) (hm : k.length = m) (hl : n ≤ 1000000) (hl2 : m ≤ 1000000) (hr : Rw w a l) (hs : Rw w b k) :
    Calls Try.prog 95 #[.slice a n c, .slice b m d] w (FrW w (canon (valD l + valD k))) := by
  subst hn hm
  go_enter Try.func95, Try.ntmps95
  go_wp2
  go_loopw [5, 6, 7] (fun v c i wr => AddRel w l k v c i wr) (fun _ _ i _ => max l.length k.length - (intOf i).toNat)
  case atStart => exact ⟨0, 0, [], Nat.zero_le _, rfl, rfl, by omega, ⟨rfl, by simp [valD_nil]⟩, fresh_row32 w, Below.alloc (Below.refl _ _) (Nat.le_refl _) _⟩
  case round =>
    obtain ⟨j, q, out, hj, rfl, rfl, hq, ho, hown, hb⟩ := hrel
    have hrb := hr.below hb
    have hsb := hs.below hb
    by_cases hlt : j < max l.length k.length
    · have e1 := digD_lt l j
      have e2 := digD_lt k j
      have hj2 : j + 1 ≤ 20000000 := by omega
      go_wp2_with (first
        | (go_at_call 85; (with_reducible refine (dig_any a _ _ j l _ rfl hrb).mono ?_); rintro e w2 ⟨rfl, rfl⟩)
        | (go_at_call 85; (with_reducible refine (dig_any b _ _ j k _ rfl hsb).mono ?_); rintro e w2 ⟨rfl, rfl⟩)
        | (at_builtin; refine wpList_snoc32 rfl _ _ rfl hown hb hj2 (BitVec.ofNat 32 (digD l j + digD k j + q)) (toNat32' (by omega)) rfl rfl ?_; intro v' w2 hown2 hb2))
      go_roundw
      case rel =>
        refine ⟨j + 1, (digD l j + digD k j + q) / 4294967296, out ++ [BitVec.ofNat 32 (digD l j + digD k j + q)], by omega, by go_num, by go_num, by omega, ⟨?_, ?_⟩, hown2, hb2⟩
        · rw [List.length_append, ho.out.1]; rfl
        · rw [valD_dig, valD_dig, valD_snoc, ho.out.1, BitVec.toNat_ofNat, pw_succ]
          exact add_num _ _ _ _ _ _ _ ho.out.2
      case measure => simp [intOf]; omega
    · have hj2 : j + 1 ≤ 20000000 := by omega
      go_wp2_with (first
        | (at_builtin; refine wpList_snoc32 rfl _ _ rfl hown hb hj2 (BitVec.ofNat 32 q) (toNat32' (by omega)) rfl rfl ?_; intro v' w2 hown2 hb2; obtain ⟨a2, c2, rfl⟩ := own_slice hown2)
        | (go_at_call 86; (with_reducible refine (norm_any _ _ _ (out ++ [BitVec.ofNat 32 q]) _ (snoc_len _ ho.out.1) (snoc_le _ ho.out.1 (by omega)) (Rw.of_own hown2)).mono ?_); rintro e w3 ⟨a3, c3, rfl, hown3, hb3⟩))
      all_goals
        go_ret
        refine FrW.eq (FrW.up ⟨a3, c3, rfl, hown3, hb3⟩ hb2) ?_
        rw [← canon_val]
        congr 1
        have e := ho.out.2
        rw [List.take_of_length_le (by omega), List.take_of_length_le (by omega)] at e
        rw [valD_snoc, ho.out.1, BitVec.toNat_ofNat, Nat.mod_eq_of_lt (by omega), e, Nat.mul_comm]
def TimRel (w : World) (l : List (BitVec 32)) (t : Nat) (v c i : Value) (wr : World) : Prop := ∃ (k q : Nat) (out : List (BitVec 32)), k ≤ l.length ∧ i = .int .i64 k ∧ c = .int .u64 q ∧ q < 4294967296 ∧ Hid (out.length = k ∧ valD (l.take k) * t = valD out + q * pw k) ∧ wr.ownsRow w.heap.size 49 1 v k (bv32 out) ∧ Below w.heap.size w wr
theorem tim_num (x t o c p a : Nat) (h : x * t = o + c * p) : (x + p * a) * t = (o + p * ((a * t + c) % 4294967296)) + ((a * t + c) / 4294967296) * (p * 4294967296) := by
  have h1 := congrArg (p * ·) (Nat.mod_add_div (a * t + c) 4294967296)
  simp only [Nat.mul_add] at h1
  grind
theorem mul_lt32 {x y : Nat} (hx : x < 4294967296) (hy : y < 4294967296) : x * y ≤ 18446744065119617025 := Nat.le_trans (Nat.mul_le_mul (Nat.le_of_lt_succ hx) (Nat.le_of_lt_succ hy)) (by decide)
set_option maxRecDepth 50000 in
set_option maxHeartbeats 1000000 in
theorem rtim_any (a : Option Addr) (n c : Nat) (l : List (BitVec 32)) (t : Nat) (w : World) (hn : l.length = n) (hl : n ≤ 1000000) (ht : t < 4294967296) (hr : Rw w a l) :
    Calls Try.prog 123 #[.slice a n c, .int .u64 t] w (FrW w (canon (valD l * t))) := by
  subst hn
  go_enter Try.func123, Try.ntmps123
  go_wp2
  go_loopw [5, 6, 7] (fun v c i wr => TimRel w l t v c i wr) (fun _ _ i _ => l.length - (intOf i).toNat)
  case atStart => exact ⟨0, 0, [], Nat.zero_le _, rfl, rfl, by omega, ⟨rfl, by simp [valD_nil]⟩, fresh_row32 w, Below.alloc (Below.refl _ _) (Nat.le_refl _) _⟩
  case round =>
    obtain ⟨j, q, out, hj, rfl, rfl, hq, ho, hown, hb⟩ := hrel
    have hrb := hr.below hb
    have hj2 : j + 1 ≤ 20000000 := by omega
    by_cases hlt : j < l.length
    · obtain ⟨ad, rfl, hc⟩ := hrb j hlt
      have e1 := l[j].isLt
      obtain ⟨x, hx⟩ : ∃ x, l[j].toNat = x := ⟨_, rfl⟩
      rw [hx] at hc e1
      have HX := Lib.hid hx
      clear hx
      have e2 := mul_lt32 e1 ht
      obtain ⟨y, hy⟩ : ∃ y, x * t = y := ⟨_, rfl⟩
      have hyi : (x : Int) * (t : Int) = (y : Int) := by rw [← hy]; simp
      have HY := Lib.hid hy
      rw [hy] at e2
      clear hy
      go_wp2_with (at_builtin; refine wpList_snoc32 rfl _ _ rfl hown hb hj2 (BitVec.ofNat 32 (y + q)) (toNat32' (by omega)) rfl rfl ?_; intro v' w2 hown2 hb2)
      go_roundw
      case rel =>
        refine ⟨j + 1, (y + q) / 4294967296, out ++ [BitVec.ofNat 32 (y + q)], by omega, by go_num, by go_num, by omega, ⟨?_, ?_⟩, hown2, hb2⟩
        · rw [List.length_append, ho.out.1]; rfl
        · rw [valD_take _ _ hlt, valD_snoc, ho.out.1, BitVec.toNat_ofNat, pw_succ, HX.out, ← HY.out]
          exact tim_num _ _ _ _ _ _ ho.out.2
      case measure => simp [intOf]; omega
    · go_wp2_with (first
        | (at_builtin; refine wpList_snoc32 rfl _ _ rfl hown hb hj2 (BitVec.ofNat 32 q) (toNat32' (by omega)) rfl rfl ?_; intro v' w2 hown2 hb2; obtain ⟨a2, c2, rfl⟩ := own_slice hown2)
        | (go_at_call 86; (with_reducible refine (norm_any _ _ _ (out ++ [BitVec.ofNat 32 q]) _ (snoc_len _ ho.out.1) (snoc_le _ ho.out.1 (by omega)) (Rw.of_own hown2)).mono ?_); rintro e w3 ⟨a3, c3, rfl, hown3, hb3⟩))
      go_ret
      refine FrW.eq (FrW.up ⟨a3, c3, rfl, hown3, hb3⟩ hb2) ?_
      rw [← canon_val]
      congr 1
      have e := ho.out.2
      rw [List.take_of_length_le (by omega)] at e
      rw [valD_snoc, ho.out.1, BitVec.toNat_ofNat, Nat.mod_eq_of_lt (by omega), e, Nat.mul_comm]
def cmpN (x y : Nat) : Int := if x < y then -1 else if y < x then 1 else 0
theorem cmpN_lt {x y : Nat} (h : x < y) : cmpN x y = -1 := by simp [cmpN, h]
theorem cmpN_gt {x y : Nat} (h : y < x) : cmpN x y = 1 := by simp [cmpN, h, show ¬ x < y by omega]
theorem cmpN_eq (x : Nat) : cmpN x x = 0 := by simp [cmpN]
theorem drop_dig (l : List (BitVec 32)) (k : Nat) : valD (l.drop k) = digD l k + 4294967296 * valD (l.drop (k + 1)) := by
  rcases Nat.lt_or_ge k l.length with h | h
  · rw [List.drop_eq_getElem_cons h, valD_cons, digD_in _ _ h]
  · rw [digD_out _ _ h, List.drop_eq_nil_of_le h, List.drop_eq_nil_of_le (by omega)]; rfl
theorem dig_split (l : List (BitVec 32)) (k : Nat) : valD l = valD (l.take k) + pw k * valD (l.drop k) := by
  rcases Nat.lt_or_ge k l.length with h | h
  · exact valD_split l k (by omega)
  · rw [List.drop_eq_nil_of_le h, List.take_of_length_le h, valD_nil]; omega
theorem dig_cmp (l m : List (BitVec 32)) (i : Nat) (h : valD (l.drop (i + 1)) = valD (m.drop (i + 1))) (hlt : digD l i < digD m i) : valD l < valD m := by
  have h1 := dig_split l (i + 1)
  have h2 := dig_split m (i + 1)
  rw [valD_dig, h] at h1
  rw [valD_dig] at h2
  have h3 := valD_lt (l.take i)
  have h5 : pw (l.take i).length ≤ pw i := pw_mono (by rw [List.length_take]; omega)
  have h4 : pw i * (digD l i + 1) ≤ pw i * digD m i := Nat.mul_le_mul_left _ (by omega)
  rw [Nat.mul_add] at h4
  omega
def CmpRel (l k : List (BitVec 32)) (M : Nat) (i : Value) : Prop := (∃ p : Nat, p < M ∧ i = .int .i64 p ∧ valD (l.drop (p + 1)) = valD (k.drop (p + 1))) ∨ (i = .int .i64 (-1) ∧ valD l = valD k)
set_option maxRecDepth 50000 in
set_option maxHeartbeats 1000000 in
theorem rcmp_any (a b : Option Addr) (n c m d : Nat) (l k : List (BitVec 32)) (w : World) (hn : l.length = n) (hm : k.length = m) (hl : n ≤ 1000000) (hl2 : m ≤ 1000000) (hr : Rw w a l) (hs : Rw w b k) :
    Calls Try.prog 49 #[.slice a n c, .slice b m d] w fun e w' => e = .returned (.int .i64 (cmpN (valD l) (valD k))) ∧ w = w' := by
  subst hn hm
  obtain ⟨M, hM, hM1, hM2, hM3⟩ : ∃ M : Nat, (if (l.length : Nat) < k.length then (k.length : Int) else (l.length : Int)) = (M : Int) ∧ l.length ≤ M ∧ k.length ≤ M ∧ M ≤ 1000000 := ⟨max l.length k.length, by split <;> omega, by omega, by omega, by omega⟩
  have hMx : max (l.length : Int) (k.length : Int) = (M : Int) := by rw [← hM]; split <;> omega
  go_enter Try.func49, Try.ntmps49
  go_wp2
  go_loop [5] (fun i => CmpRel l k M i) (fun i => (intOf i + 1).toNat)
  case atStart =>
    rcases Nat.eq_zero_or_pos M with rfl | h
    · exact .inr ⟨rfl, by rw [List.length_eq_zero_iff.1 (show l.length = 0 by omega), List.length_eq_zero_iff.1 (show k.length = 0 by omega)]⟩
    · exact .inl ⟨M - 1, by omega, by go_num, by rw [show M - 1 + 1 = M by omega, List.drop_eq_nil_of_le hM1, List.drop_eq_nil_of_le hM2]⟩
  case round =>
    rcases hrel with ⟨p, hp, rfl, hd⟩ | ⟨rfl, hv⟩
    · have HD := Lib.hid hd
      clear hd
      have CL : ∀ W : World, W = w → Calls Try.prog 85 #[.slice a l.length c, .int .i64 p] W fun e w' => e = .returned (.int .u64 (digD l p : Nat)) ∧ W = w' := fun W h => by subst h; exact dig_any a _ _ p l _ rfl hr
      rcases Nat.lt_trichotomy (digD l p) (digD k p) with h | h | h
      · have hres := Lib.hid (cmpN_lt (dig_cmp l k p HD.out h))
        go_wp2_with (first
          | (go_at_call 85; (with_reducible refine (dig_any a _ _ p l _ rfl hr).mono ?_); rintro e w2 ⟨rfl, rfl⟩)
          | (go_at_call 85; (with_reducible refine (dig_any b _ _ p k _ rfl hs).mono ?_); rintro e w2 ⟨rfl, rfl⟩))
        go_ret
        exact ⟨by rw [hres.out]; rfl, rfl⟩
      · have HE := Lib.hid h
        obtain ⟨x, hx⟩ : ∃ x, digD l p = x := ⟨_, rfl⟩
        have h1 : ∀ W : World, W = w → Calls Try.prog 85 #[.slice a l.length c, .int .i64 p] W fun e w' => e = .returned (.int .u64 (x : Nat)) ∧ W = w' := fun W h2 => by subst h2; rw [← hx]; exact dig_any a _ _ p l _ rfl hr
        have h2 : ∀ W : World, W = w → Calls Try.prog 85 #[.slice b k.length d, .int .i64 p] W fun e w' => e = .returned (.int .u64 (x : Nat)) ∧ W = w' := fun W h2 => by subst h2; rw [← hx, h]; exact dig_any b _ _ p k _ rfl hs
        have H1 := Lib.hid h1
        have H2 := Lib.hid h2
        clear h1 h2 hx h CL
        go_wp2_with (first
          | (go_at_call 85; (with_reducible refine (H1.out _ rfl).mono ?_); rintro e w2 ⟨rfl, rfl⟩)
          | (go_at_call 85; (with_reducible refine (H2.out _ rfl).mono ?_); rintro e w2 ⟨rfl, rfl⟩))
        go_round
        case rel =>
          have he : valD (l.drop p) = valD (k.drop p) := by rw [drop_dig l p, drop_dig k p, HE.out, HD.out]
          rcases Nat.eq_zero_or_pos p with rfl | h
          · exact .inr ⟨rfl, by simpa using he⟩
          · exact .inl ⟨p - 1, by omega, by go_num, by rw [show p - 1 + 1 = p by omega]; exact he⟩
        case measure => simp [intOf] <;> omega
      · have hres := Lib.hid (cmpN_gt (dig_cmp k l p HD.out.symm h))
        go_wp2_with (first
          | (go_at_call 85; (with_reducible refine (dig_any a _ _ p l _ rfl hr).mono ?_); rintro e w2 ⟨rfl, rfl⟩)
          | (go_at_call 85; (with_reducible refine (dig_any b _ _ p k _ rfl hs).mono ?_); rintro e w2 ⟨rfl, rfl⟩))
        go_ret
        exact ⟨by rw [hres.out]; rfl, rfl⟩
    · have hres := Lib.hid (show cmpN (valD l) (valD k) = 0 by rw [hv, cmpN_eq])
      clear hv
      go_wp2
      go_ret
      exact ⟨by rw [hres.out]; rfl, rfl⟩
end Go.Proofs.Ytcofiekfhnfjpaa

/- N3 -/
namespace Go.Proofs.Ytcofiekfhnfjpaa
open Go.RowKit
set_option linter.unusedVariables false
set_option linter.unusedSimpArgs false
theorem rcmp_lt (a b : Option Addr) (n c m d : Nat) (l k : List (BitVec 32)) (w : World) (hn : l.length = n) (hm : k.length = m) (hl : n ≤ 1000000) (hl2 : m ≤ 1000000) (hr : Rw w a l) (hs : Rw w b k) (h : valD l < valD k) :
    Calls Try.prog 49 #[.slice a n c, .slice b m d] w fun e w' => e = .returned (.int .i64 (-1)) ∧ w = w' := by
  refine (rcmp_any a b n c m d l k w hn hm hl hl2 hr hs).mono ?_
  rintro e w' ⟨rfl, rfl⟩
  exact ⟨by rw [cmpN_lt h], rfl⟩
theorem rcmp_gt (a b : Option Addr) (n c m d : Nat) (l k : List (BitVec 32)) (w : World) (hn : l.length = n) (hm : k.length = m) (hl : n ≤ 1000000) (hl2 : m ≤ 1000000) (hr : Rw w a l) (hs : Rw w b k) (h : valD k < valD l) :
    Calls Try.prog 49 #[.slice a n c, .slice b m d] w fun e w' => e = .returned (.int .i64 1) ∧ w = w' := by
  refine (rcmp_any a b n c m d l k w hn hm hl hl2 hr hs).mono ?_
  rintro e w' ⟨rfl, rfl⟩
  exact ⟨by rw [cmpN_gt h], rfl⟩
theorem rcmp_ge (a b : Option Addr) (n c m d : Nat) (l k : List (BitVec 32)) (w : World) (hn : l.length = n) (hm : k.length = m) (hl : n ≤ 1000000) (hl2 : m ≤ 1000000) (hr : Rw w a l) (hs : Rw w b k) (h : valD k ≤ valD l) :
    Calls Try.prog 49 #[.slice a n c, .slice b m d] w fun e w' => ∃ r : Int, 0 ≤ r ∧ r ≤ 1 ∧ e = .returned (.int .i64 r) ∧ w = w' := by
  refine (rcmp_any a b n c m d l k w hn hm hl hl2 hr hs).mono ?_
  rintro e w' ⟨rfl, rfl⟩
  refine ⟨_, ?_, ?_, rfl, rfl⟩ <;> (unfold cmpN; split <;> (try split) <;> omega)
theorem rcmp_le (a b : Option Addr) (n c m d : Nat) (l k : List (BitVec 32)) (w : World) (hn : l.length = n) (hm : k.length = m) (hl : n ≤ 1000000) (hl2 : m ≤ 1000000) (hr : Rw w a l) (hs : Rw w b k) (h : valD l ≤ valD k) :
    Calls Try.prog 49 #[.slice a n c, .slice b m d] w fun e w' => ∃ r : Int, -1 ≤ r ∧ r ≤ 0 ∧ e = .returned (.int .i64 r) ∧ w = w' := by
  refine (rcmp_any a b n c m d l k w hn hm hl hl2 hr hs).mono ?_
  rintro e w' ⟨rfl, rfl⟩
  refine ⟨_, ?_, ?_, rfl, rfl⟩ <;> (unfold cmpN; split <;> (try split) <;> omega)
theorem rsub_no (a b : Option Addr) (n c m d : Nat) (l k : List (BitVec 32)) (w : World) (hn : l.length = n) (hm : k.length = m) (hl : n ≤ 1000000) (hl2 : m ≤ 1000000) (hr : Rw w a l) (hs : Rw w b k) (h : valD l < valD k) :
    Calls Try.prog 115 #[.slice a n c, .slice b m d] w fun e w' => e = .returned (.tuple #[.slice none 0 0, .bool false]) ∧ w = w' := by
  subst hn hm
  go_enter Try.func115, Try.ntmps115
  go_wp2_with (go_at_call 49; (with_reducible refine (rcmp_lt _ _ _ _ _ _ l k _ rfl rfl hl hl2 hr hs h).mono ?_); rintro e w1 ⟨rfl, rfl⟩)
  go_ret2
  exact ⟨rfl, rfl⟩
theorem take_val {l k : List (BitVec 32)} (h : valD k ≤ valD l) : valD (k.take l.length) = valD k := by
  have h1 := dig_split k l.length
  have h2 := valD_lt l
  have h3 : valD (k.drop l.length) = 0 := by
    rcases Nat.eq_zero_or_pos (valD (k.drop l.length)) with h4 | h4
    · exact h4
    · have := Nat.mul_le_mul_left (pw l.length) h4
      omega
  rw [h3] at h1
  omega
def SubRel (w : World) (l k : List (BitVec 32)) (v c i : Value) (wr : World) : Prop := ∃ (j q : Nat) (out : List (BitVec 32)), j ≤ l.length ∧ i = .int .i64 j ∧ c = .int .u64 q ∧ q ≤ 1 ∧ Hid (out.length = j ∧ valD (l.take j) + q * pw j = valD (k.take j) + valD out) ∧ wr.ownsRow w.heap.size 49 1 v j (bv32 out) ∧ Below w.heap.size w wr
theorem snoc_own_le {w w2 : World} {v : Value} {j : Nat} {out : List (BitVec 32)} (h : w2.ownsRow w.heap.size 49 1 v j (bv32 out)) : out.length = j := by
  have := h.1
  rw [bv32_len] at this
  omega
theorem own_le {w w2 : World} {v : Value} {j : Nat} {out : List (BitVec 32)} (h : w2.ownsRow w.heap.size 49 1 v j (bv32 out)) (hj : j ≤ 10000000) : out.length ≤ 10000000 := by rw [snoc_own_le h]; exact hj
set_option maxRecDepth 50000 in
set_option maxHeartbeats 1000000 in
theorem rsub_yes (a b : Option Addr) (n c m d : Nat) (l k : List (BitVec 32)) (w : World) (hn : l.length = n) (hm : k.length = m) (hl : n ≤ 1000000) (hl2 : m ≤ 1000000) (hr : Rw w a l) (hs : Rw w b k) (h : valD k ≤ valD l) :
    Calls Try.prog 115 #[.slice a n c, .slice b m d] w fun e w' => ∃ a' c', e = .returned (.tuple #[.slice a' (canon (valD l - valD k)).length c', .bool true]) ∧ w'.ownsRow w.heap.size 49 1 (.slice a' (canon (valD l - valD k)).length c') (canon (valD l - valD k)).length (bv32 (canon (valD l - valD k))) ∧ Below w.heap.size w w' := by
  subst hn hm
  have HV := Lib.hid h
  clear h
  go_enter Try.func115, Try.ntmps115
  go_wp2_with (go_at_call 49; (with_reducible refine (rcmp_ge _ _ _ _ _ _ l k _ rfl rfl hl hl2 hr hs HV.out).mono ?_); rintro e w1 ⟨r, hr0, hr1, rfl, rfl⟩)
  go_loopw [6, 7, 8] (fun v c i wr => SubRel w l k v c i wr) (fun _ _ i _ => l.length - (intOf i).toNat)
  case atStart => exact ⟨0, 0, [], Nat.zero_le _, rfl, rfl, by omega, ⟨rfl, by simp [valD_nil]⟩, fresh_row32 w, Below.alloc (Below.refl _ _) (Nat.le_refl _) _⟩
  case round =>
    obtain ⟨j, q, out, hj, rfl, rfl, hq, ho, hown, hb⟩ := hrel
    have hrb := hr.below hb
    have hsb := hs.below hb
    have hj2 : j + 1 ≤ 20000000 := by omega
    by_cases hlt : j < l.length
    · have e1 := digD_lt l j
      have e2 := digD_lt k j
      obtain ⟨t, ht⟩ : ∃ t, t + digD k j + q = 4294967296 + digD l j := ⟨4294967296 + digD l j - digD k j - q, by omega⟩
      have ht2 : t < 8589934592 := by omega
      have ht3 : 4294967296 + (digD l j : Int) - (digD k j : Int) - (q : Int) = (t : Int) := by omega
      have HT := Lib.hid ht
      clear ht
      go_wp2_with (first
        | (go_at_call 85; (with_reducible refine (dig_any a _ _ j l _ rfl hrb).mono ?_); rintro e w2 ⟨rfl, rfl⟩)
        | (go_at_call 85; (with_reducible refine (dig_any b _ _ j k _ rfl hsb).mono ?_); rintro e w2 ⟨rfl, rfl⟩)
        | (at_builtin; refine wpList_snoc32 rfl _ _ rfl hown hb hj2 (BitVec.ofNat 32 t) (toNat32' (by omega)) rfl rfl ?_; intro v' w2 hown2 hb2))
      go_roundw
      case rel =>
        refine ⟨j + 1, 1 - t / 4294967296, out ++ [BitVec.ofNat 32 t], by omega, by go_num, ?_, by omega, ⟨?_, ?_⟩, hown2, hb2⟩
        · have := HT.out
          congr 1
          omega
        · rw [List.length_append, ho.out.1]; rfl
        · rw [valD_dig, valD_dig, valD_snoc, ho.out.1, BitVec.toNat_ofNat, pw_succ]
          exact sub_num _ _ _ _ _ _ _ _ _ ho.out.2 (by have := HT.out; omega)
      case measure => simp [intOf] <;> omega
    · obtain ⟨a2, c2, rfl⟩ := own_slice hown
      go_wp2_with ((go_at_call 86; (with_reducible refine (norm_any _ _ _ out _ (snoc_own_le hown) (own_le hown (by omega)) (Rw.of_own hown)).mono ?_); rintro e w3 ⟨a3, c3, rfl, hown3, hb3⟩))
      have hv : trimD out = canon (valD l - valD k) := by
        rw [← canon_val]
        congr 1
        have e := ho.out.2
        have hjl : j = l.length := by omega
        rw [hjl, List.take_length, take_val HV.out] at e
        have h1 := valD_lt out
        rw [ho.out.1, hjl] at h1
        have h2 := HV.out
        have h3 : q = 0 := by
          rcases Nat.eq_zero_or_pos q with h4 | h4
          · exact h4
          · rw [show q = 1 by omega] at e; omega
        subst h3
        omega
      rw [hv] at hown3
      go_ret2
      exact ⟨a3, c3, by rw [hv]; rfl, own_mono hown3 hb.size, hb.trans (hb3.mono hb.size)⟩
def zer (n : Nat) : List (BitVec 32) := List.replicate n 0#32
theorem made32 (w : World) (n : Nat) (hn : n ≤ 10000000) : (w.alloc (.cells (madeCells #[Value.int .u32 0] n) 49)).ownsRow w.heap.size 49 1 (.slice (some ⟨w.heap.size, 0, none⟩) n n) n (bv32 (zer n)) := by
  have h := own_made w (madeCells #[Value.int .u32 0] n) 49 n (size_madeCells _ _) (by unfold maxLen; omega)
  rw [show (madeCells #[Value.int .u32 0] n).toList = bv32 (zer n) from ?_] at h
  · exact h
  · apply List.ext_getElem
    · simp [madeCells, bv32, zer]
    · intro i h1 h2
      simp [madeCells, bv32, zer, Nat.mod_one]
theorem mul_num (Q Q' p r s x B f b q t V X c : Nat) (h : Q' + p * q = Q + p * (t % 4294967296)) (h0 : Q + c * p = V + f * X * r) (hp : p = r * s) (ht : t = f * b + q + c) : Q' + (t / 4294967296) * (p * 4294967296) = V + f * (X + s * b) * r := by
  have h1 := congrArg (p * ·) (Nat.mod_add_div t 4294967296)
  simp only [Nat.mul_add] at h1
  subst hp
  grind
theorem bv32_set (l : List (BitVec 32)) (k : Nat) (d : BitVec 32) : bv32 (l.set k d) = (bv32 l).set k (.int .u32 (d.toNat : Int)) := by simp [bv32, List.map_set]
end Go.Proofs.Ytcofiekfhnfjpaa

/- N4 -/
namespace Go.Proofs.Ytcofiekfhnfjpaa
open Go.RowKit
set_option linter.unusedVariables false
set_option linter.unusedSimpArgs false
/-- b binary digits. -/
def IsBl (n b : Nat) : Prop := n < 2 ^ b ∧ (n = 0 → b = 0) ∧ (0 < n → 0 < b ∧ 2 ^ (b - 1) ≤ n)
theorem isBl_uniq {n b c : Nat} (hb : IsBl n b) (hc : IsBl n c) : b = c := by
  have key : ∀ x y, IsBl n x → IsBl n y → ¬ x < y := by
    intro x y hx hy h
    rcases Nat.eq_zero_or_pos n with h0 | h0
    · have := hy.2.1 h0; omega
    · have h1 := (hy.2.2 h0).2
      have h2 := hx.1
      have h3 : 2 ^ x ≤ 2 ^ (y - 1) := Nat.pow_le_pow_right (by decide) (by omega)
      omega
  have := key b c hb hc
  have := key c b hc hb
  omega
theorem pw_two (k : Nat) : pw k = 2 ^ (32 * k) := by
  unfold pw
  rw [Nat.pow_mul]
/-- The top digit tells the number of binary digits. -/
theorem isBl_top (l : List (BitVec 32)) (h : 0 < l.length) (b : Nat) (hb : IsBl l[l.length - 1].toNat b) (hz : l[l.length - 1].toNat ≠ 0) : IsBl (valD l) (32 * (l.length - 1) + b) := by
  have h1 : valD l = valD (l.take (l.length - 1)) + pw (l.length - 1) * l[l.length - 1].toNat := by
    have := valD_take l (l.length - 1) (by omega)
    rwa [show l.length - 1 + 1 = l.length by omega, List.take_length] at this
  have h2 := valD_lt (l.take (l.length - 1))
  rw [List.length_take, Nat.min_eq_left (by omega)] at h2
  generalize l[l.length - 1].toNat = t at h1 hb hz
  generalize l.length - 1 = m at h1 h2
  have h3 : pw m * (t + 1) ≤ pw m * 2 ^ b := Nat.mul_le_mul_left _ hb.1
  have h4 := hb.2.2 (by omega)
  have h5 : pw m * 2 ^ (b - 1) ≤ pw m * t := Nat.mul_le_mul_left _ h4.2
  have e1 : pw m * 2 ^ b = 2 ^ (32 * m + b) := by rw [pw_two, Nat.pow_add]
  have e2 : pw m * 2 ^ (b - 1) = 2 ^ (32 * m + b - 1) := by rw [pw_two, ← Nat.pow_add]; congr 1; omega
  rw [Nat.mul_add] at h3
  rw [e1] at h3
  rw [e2] at h5
  have hp := pw_pos m
  refine ⟨by omega, fun h0 => ?_, fun _ => ⟨by omega, by omega⟩⟩
  have : pw m * t = 0 := by omega
  rcases Nat.mul_eq_zero.1 this with h | h
  · omega
  · exact absurd h hz
def BlRel (x b0 : Nat) (n t : Value) : Prop := ∃ j y m : Nat, j ≤ 32 ∧ m ≤ b0 + 32 ∧ n = .int .i64 (m : Int) ∧ t = .int .u32 (y : Int) ∧ y < 4294967296 ∧ Hid (m = b0 + j ∧ x / 2 ^ j = y ∧ (j = 0 ∨ 0 < x / 2 ^ (j - 1)))
set_option maxRecDepth 50000 in
set_option maxHeartbeats 1000000 in
theorem rbl_any (a : Option Addr) (n c : Nat) (l : List (BitVec 32)) (w : World) (hn : l.length = n) (hl : n ≤ 1000000) (hr : Rw w a l) :
    Calls Try.prog 88 #[.slice a n c] w fun e w' => ∃ b : Nat, e = .returned (.int .i64 b) ∧ IsBl (valD l) b ∧ b ≤ 32 * n ∧ Below w.heap.size w w' := by
  subst hn
  have htl := trim_len_le l
  rcases Nat.eq_zero_or_pos (trimD l).length with h0 | h0
  · have hv : valD l = 0 := by rw [← valD_trim, List.length_eq_zero_iff.1 h0]; rfl
    have HV := Lib.hid hv
    clear hv
    go_enter Try.func88, Try.ntmps88
    go_wp2_with (go_at_call 86; (with_reducible refine (norm_any _ _ _ l _ rfl (by omega) hr).mono ?_); rintro e w1 ⟨a1, c1, rfl, hown, hb⟩; rw [h0])
    go_ret
    exact ⟨0, rfl, by rw [HV.out]; exact ⟨by decide, fun _ => rfl, fun h => absurd h (by omega)⟩, by omega, hb⟩
  · have hlast : (trimD l)[(trimD l).length - 1].toNat ≠ 0 := by
      intro h
      have h1 := last_split (trimD l) h0
      have h2 : (trimD l)[(trimD l).length - 1] = 0#32 := BitVec.eq_of_toNat_eq (by simpa using h)
      rw [h2] at h1
      have h3 := trim_snoc0 ((trimD l).take ((trimD l).length - 1))
      rw [← h1, ← canon_val l, trim_canon] at h3
      have h4 := trim_len_le ((canon (valD l)).take ((canon (valD l)).length - 1))
      rw [← h3, List.length_take] at h4
      rw [← canon_val l] at h0
      omega
    obtain ⟨t, ht⟩ : ∃ t, trimD l = t := ⟨_, rfl⟩
    obtain ⟨x, hx⟩ : ∃ x, (trimD l)[(trimD l).length - 1].toNat = x := ⟨_, rfl⟩
    have hxl := (trimD l)[(trimD l).length - 1].isLt
    have htop := fun b hb => isBl_top (trimD l) h0 b hb hlast
    rw [valD_trim] at htop
    rw [hx] at hlast hxl
    have hget : Hid ((trimD l)[(trimD l).length - 1]? = some (BitVec.ofNat 32 x)) := by
      show _ = _
      rw [List.getElem?_eq_getElem (by omega), ← hx, BitVec.ofNat_toNat]; simp
    have hxx : (BitVec.ofNat 32 x).toNat = x := by rw [BitVec.toNat_ofNat]; omega
    have HT : Hid (∀ b, IsBl x b → IsBl (valD l) (32 * ((trimD l).length - 1) + b)) := by
      intro b hb
      exact htop b (by rw [hx]; exact hb)
    clear htop
    have HN := Lib.hid hlast
    have HX := Lib.hid hxx
    clear hlast hx ht hxx
    go_enter Try.func88, Try.ntmps88
    go_wp2_with (go_at_call 86; (with_reducible refine (norm_any _ _ _ l _ rfl (by omega) hr).mono ?_); rintro e w1 ⟨a1, c1, rfl, hown, hb⟩; obtain ⟨g, rfl, hg⟩ := own_form hown h0; have hc := own_cell hown ((trimD l).length - 1) (.int .u32 ((BitVec.ofNat 32 x).toNat : Int)) (by rw [bv32, List.getElem?_map, hget.out]; rfl); rw [HX.out] at hc)
    go_loop [4, 5] (fun n t => BlRel x (32 * ((trimD l).length - 1)) n t) (fun _ t => (intOf t).toNat)
    case atStart => exact ⟨0, x, _, by omega, by omega, by go_num, rfl, by omega, rfl, by simp, .inl rfl⟩
    case round =>
      obtain ⟨j, y, m, hj, hm, rfl, rfl, hy, hh⟩ := hrel
      have hb32 : 32 * ((trimD l).length - 1) + 32 ≤ 32000000 := by omega
      by_cases hz : 0 < y
      · have hj1 : j < 32 := by
          rcases Nat.lt_or_ge j 32 with h | h
          · exact h
          · have h1 : x < 2 ^ j := Nat.lt_of_lt_of_le hxl (Nat.pow_le_pow_right (by decide) h)
            have h2 := hh.out.2.1
            rw [Nat.div_eq_of_lt h1] at h2; omega
        have hm2 : m < 32 * ((trimD l).length - 1) + 32 := by have := hh.out.1; omega
        go_wp2
        go_round
        case rel =>
          refine ⟨j + 1, y / 2, m + 1, by omega, by omega, by go_num, by go_num, by omega, ?_, ?_, ?_⟩
          · have := hh.out.1; omega
          · rw [Nat.pow_succ, ← Nat.div_div_eq_div_mul, hh.out.2.1]
          · exact .inr (by rw [Nat.add_sub_cancel, hh.out.2.1]; exact hz)
        case measure => simp [intOf] <;> omega
      · go_wp2
        go_ret
        refine ⟨m, rfl, ?_, by omega, hb⟩
        rw [hh.out.1]
        apply HT.out
        have h1 := hh.out.2.1
        have h2 : x < 2 ^ j := by
          rcases Nat.lt_or_ge x (2 ^ j) with h | h
          · exact h
          · have := Nat.div_pos h (Nat.two_pow_pos j)
            omega
        refine ⟨h2, fun h => absurd h HN.out, fun _ => ?_⟩
        rcases hh.out.2.2 with h | h
        · subst h; have := HN.out; omega
        · refine ⟨?_, ?_⟩
          · rcases Nat.eq_zero_or_pos j with h3 | h3
            · subst h3; have := HN.out; simp at h2; omega
            · exact h3
          · rcases Nat.lt_or_ge x (2 ^ (j - 1)) with h3 | h3
            · rw [Nat.div_eq_of_lt h3] at h; omega
            · exact h3
end Go.Proofs.Ytcofiekfhnfjpaa

/- N5 -/
namespace Go.Proofs.Ytcofiekfhnfjpaa
open Go.RowKit
set_option linter.unusedVariables false
set_option linter.unusedSimpArgs false
theorem up_num (X O q x y p s r S T : Nat) (h : X * T = O + q * p) (hp : p = s * r) (hy : x * S = y) (hT : s * S = T) : (X + r * x) * T = O + p * ((y + q) % 4294967296) + (y + q) / 4294967296 * (p * 4294967296) := by
  have h1 := congrArg (p * ·) (Nat.mod_add_div (y + q) 4294967296)
  simp only [Nat.mul_add] at h1
  subst hy hT hp
  grind
def UpRel (w : World) (l : List (BitVec 32)) (n : Nat) (v c i : Value) (wr : World) : Prop := ∃ (k q : Nat) (out : List (BitVec 32)), k ≤ l.length ∧ i = .int .i64 k ∧ c = .int .u64 q ∧ q < 2147483648 ∧ Hid (out.length = n / 32 + k ∧ q < 2 ^ (n % 32) ∧ valD (l.take k) * 2 ^ n = valD out + q * pw (n / 32 + k)) ∧ wr.ownsRow w.heap.size 49 1 v (n / 32 + k) (bv32 out) ∧ Below w.heap.size w wr
set_option maxRecDepth 50000 in
set_option maxHeartbeats 1000000 in
theorem rup_any (a : Option Addr) (m c n : Nat) (l : List (BitVec 32)) (w : World) (hn : l.length = m) (hl : m ≤ 1000000) (hn2 : n ≤ 4096) (hr : Rw w a l) :
    Calls Try.prog 122 #[.slice a m c, .int .i64 n] w (FrW w (canon (valD l * 2 ^ n))) := by
  subst hn
  have hmk := run_make_row' (P := Try.prog) 22 49 (.int .u32 0) 4 Try.underlying22 info32 rfl .i64 .i64 (n / 32) (by omega) (by omega)
  have hcast : ((n / 32 : Nat) : Int) = (n : Int) / 32 := by omega
  rw [hcast] at hmk
  clear hcast
  go_enter Try.func122, Try.ntmps122
  go_wp2
  go_loopw [5, 6, 7] (fun v c i wr => UpRel w l n v c i wr) (fun _ _ i _ => l.length - (intOf i).toNat)
  case atStart =>
    exact ⟨0, 0, zer (n / 32), Nat.zero_le _, rfl, rfl, by omega, ⟨by simp [zer], Nat.two_pow_pos _, by simp [zer, valD_zeros, valD_nil]⟩, made32 w _ (by omega), Below.alloc (Below.refl _ _) (Nat.le_refl _) _⟩
  case round =>
    obtain ⟨j, q, out, hj, rfl, rfl, hq, ho, hown, hb⟩ := hrel
    have hrb := hr.below hb
    have hj2 : n / 32 + j + 1 ≤ 20000000 := by omega
    by_cases hlt : j < l.length
    · obtain ⟨ad, rfl, hc⟩ := hrb j hlt
      have e1 := l[j].isLt
      obtain ⟨x, hx⟩ : ∃ x, l[j].toNat = x := ⟨_, rfl⟩
      rw [hx] at hc e1
      have HX := Lib.hid hx
      clear hx
      have ep : 2 ^ (n % 32) ≤ 2147483648 := Nat.le_trans (Nat.pow_le_pow_right (by decide) (show n % 32 ≤ 31 by omega)) (by decide)
      have hy0 : x * 2 ^ (n % 32) ≤ 9223372034707292160 := Nat.le_trans (Nat.mul_le_mul (Nat.le_of_lt_succ e1) ep) (by decide)
      obtain ⟨y, hy⟩ : ∃ y, x * 2 ^ (n % 32) = y := ⟨_, rfl⟩
      have hyi : (x : Int) * 2 ^ (n % 32) = (y : Int) := by rw [← hy]; push_cast; rfl
      rw [hy] at hy0
      have hq2 : (y + q) / 4294967296 < 2 ^ (n % 32) := by
        have h1 := ho.out.2.1
        have h2 : y ≤ 4294967295 * 2 ^ (n % 32) := by rw [← hy]; exact Nat.mul_le_mul_right _ (Nat.le_of_lt_succ e1)
        exact Nat.div_lt_of_lt_mul (by omega)
      have HQ := Lib.hid hq2
      have HY := Lib.hid hy
      clear hy ep hq2
      go_wp2_with (at_builtin; refine wpList_snoc32 rfl _ _ rfl hown hb hj2 (BitVec.ofNat 32 (y + q)) (toNat32' (by omega)) rfl rfl ?_; intro v' w2 hown2 hb2)
      go_roundw
      case rel =>
        refine ⟨j + 1, (y + q) / 4294967296, out ++ [BitVec.ofNat 32 (y + q)], by omega, by go_num, by go_num, by omega, ⟨?_, HQ.out, ?_⟩, hown2, hb2⟩
        · rw [List.length_append, ho.out.1]; rfl
        · rw [valD_take _ _ hlt, valD_snoc, ho.out.1, BitVec.toNat_ofNat, HX.out, ← Nat.add_assoc, pw_succ]
          exact up_num _ _ _ _ _ _ _ _ _ _ ho.out.2.2 (by rw [pw_add]) HY.out (by rw [pw_two, ← Nat.pow_add]; congr 1; omega)
      case measure => simp [intOf] <;> omega
    · obtain ⟨a1, c1, rfl⟩ := own_slice hown
      go_wp2_with (first
        | (at_builtin; refine wpList_snoc32 rfl _ _ rfl hown hb hj2 (BitVec.ofNat 32 q) (toNat32' (by omega)) rfl rfl ?_; intro v' w2 hown2 hb2; obtain ⟨a2, c2, rfl⟩ := own_slice hown2)
        | (go_at_call 86; (with_reducible refine (norm_any _ _ _ (out ++ [BitVec.ofNat 32 q]) _ (snoc_len _ ho.out.1) (snoc_le _ ho.out.1 (by omega)) (Rw.of_own hown2)).mono ?_); rintro e w3 ⟨a3, c3, rfl, hown3, hb3⟩))
      go_ret
      refine FrW.eq (FrW.up ⟨a3, c3, rfl, hown3, hb3⟩ hb2) ?_
      rw [← canon_val]
      congr 1
      have e := ho.out.2.2
      rw [List.take_of_length_le (by omega)] at e
      rw [valD_snoc, ho.out.1, BitVec.toNat_ofNat, Nat.mod_eq_of_lt (by omega), e, Nat.mul_comm q]
theorem rup_top (a : Option Addr) (m c k : Nat) (hk : k = 4096) (l : List (BitVec 32)) (w : World) (hn : l.length = m) (hl : m ≤ 1000000) (hr : Rw w a l) :
    Calls Try.prog 122 #[.slice a m c, .int .i64 4096] w (FrW w (canon (valD l * 2 ^ k))) := by
  have h := rup_any a m c k l w hn hl (by omega) hr
  rw [show (4096 : Int) = (k : Int) by omega]
  exact h
set_option maxRecDepth 50000 in
theorem rsh_up (a : Option Addr) (m c n : Nat) (l : List (BitVec 32)) (w : World) (hn : l.length = m) (hl : m ≤ 1000000) (hr : Rw w a l) :
    Calls Try.prog 111 #[.slice a m c, .int .i64 n] w (FrW w (canon (valD l * 2 ^ (min n 4096)))) := by
  subst hn
  rcases Nat.le_total n 4096 with h | h
  · rw [Nat.min_eq_left h]
    have h1 : (if (n : Int) ≤ 4096 then (n : Int) else 4096) = (n : Int) := by rw [if_pos (by omega)]
    have h2 : (if (4096 : Int) < (n : Int) then 4096 else (n : Int)) = (n : Int) := by rw [if_neg (by omega)]
    have h3 : (if (n : Int) < 4096 then (n : Int) else 4096) = (n : Int) := by split <;> omega
    have h4 : min (n : Int) 4096 = (n : Int) := by omega
    go_enter Try.func111, Try.ntmps111
    go_wp2_with (go_at_call 122; (with_reducible refine (rup_any _ _ _ n l _ rfl hl h hr).mono ?_); rintro e w1 ⟨a1, c1, rfl, hown, hb⟩)
    go_ret
    exact ⟨a1, c1, rfl, hown, hb⟩
  · obtain ⟨k, hk⟩ : ∃ k : Nat, k = 4096 := ⟨_, rfl⟩
    rw [Nat.min_eq_right h, ← hk]
    have HK := Lib.hid hk
    clear hk
    have h1 : (if (n : Int) ≤ 4096 then (n : Int) else 4096) = 4096 := by split <;> omega
    have h2 : (if (4096 : Int) < (n : Int) then 4096 else (n : Int)) = 4096 := by split <;> omega
    have h3 : (if (n : Int) < 4096 then (n : Int) else 4096) = 4096 := by rw [if_neg (by omega)]
    have h4 : min (n : Int) 4096 = 4096 := by omega
    go_enter Try.func111, Try.ntmps111
    go_wp2_with (go_at_call 122; (with_reducible refine (rup_top _ _ _ k HK.out l _ rfl hl hr).mono ?_); rintro e w1 ⟨a1, c1, rfl, hown, hb⟩)
    go_ret
    exact ⟨a1, c1, rfl, hown, hb⟩
set_option maxRecDepth 50000 in
theorem rsh_out (a : Option Addr) (m c : Nat) (n : Int) (l : List (BitVec 32)) (w : World) (hn : l.length = m) (hl : m ≤ 1000000) (h : n < -32 * (m : Int)) (hr : Rw w a l) :
    Calls Try.prog 111 #[.slice a m c, .int .i64 n] w (FrW w (canon (valD l / 2 ^ n.natAbs))) := by
  subst hn
  have hv : canon (valD l / 2 ^ n.natAbs) = [] := by
    have h1 := valD_lt l
    rw [pw_two] at h1
    have h2 : 2 ^ (32 * l.length) ≤ 2 ^ n.natAbs := Nat.pow_le_pow_right (by decide) (by omega)
    rw [Nat.div_eq_of_lt (by omega), canon_zero]
  rw [hv]
  clear hv
  have hb0 := Below.alloc (Below.refl w.heap.size w) (Nat.le_refl _) (.cells #[] 49)
  have hro := fresh_row32 w
  go_enter Try.func111, Try.ntmps111
  go_wp2
  go_ret
  exact ⟨_, _, rfl, hro, hb0⟩
theorem dig_next (a : Option Addr) (n c i : Nat) (l : List (BitVec 32)) (w : World) (hn : l.length = n) (hr : Rw w a l) :
    Calls Try.prog 85 #[.slice a n c, .int .i64 ((i : Int) + 1)] w fun e w' => e = .returned (.int .u64 (digD l (i + 1) : Nat)) ∧ w = w' := dig_any a n c (i + 1) l w hn hr
theorem drop_div (l : List (BitVec 32)) (k : Nat) : valD (l.drop k) = valD l / pw k := by
  have h := dig_split l k
  have h1 : valD (l.take k) < pw k := by
    have h2 := valD_lt (l.take k)
    have h3 := pw_mono (show (l.take k).length ≤ k by rw [List.length_take]; omega)
    omega
  rw [h, Nat.add_mul_div_left _ _ (pw_pos k), Nat.div_eq_of_lt h1, Nat.zero_add]
theorem shr_num (l : List (BitVec 32)) (s k d t : Nat) (ht : s % 32 = t) (hd : digD l (s / 32 + k + 1) * 4294967296 + digD l (s / 32 + k) = d) :
    (valD l / 2 ^ s) % pw (k + 1) = (valD l / 2 ^ s) % pw k + pw k * (d / 2 ^ t % 4294967296) := by
  rw [pw_succ, Nat.mod_mul]
  congr 2
  have h1 : valD l / 2 ^ s / pw k = valD (l.drop (s / 32 + k)) / 2 ^ t := by
    rw [drop_div, Nat.div_div_eq_div_mul, Nat.div_div_eq_div_mul, pw_two, pw_two, ← Nat.pow_add, ← Nat.pow_add]
    congr 2
    omega
  rw [h1, drop_dig, drop_dig l (s / 32 + k + 1)]
  have h2 : 4294967296 = 2 ^ t * 2 ^ (32 - t) := by rw [← Nat.pow_add, show t + (32 - t) = 32 by omega]
  generalize valD (l.drop (s / 32 + k + 1 + 1)) = r
  have h3 : digD l (s / 32 + k) + 4294967296 * (digD l (s / 32 + k + 1) + 4294967296 * r) = d + 2 ^ t * (2 ^ (32 - t) * r * 4294967296) := by
    have h4 : 2 ^ t * (2 ^ (32 - t) * r * 4294967296) = (2 ^ t * 2 ^ (32 - t)) * (4294967296 * r) := by grind
    rw [h4, ← h2]
    omega
  rw [h3, Nat.add_mul_div_left _ _ (Nat.two_pow_pos t), Nat.add_mul_mod_self_right]
def ShrRel (w : World) (l : List (BitVec 32)) (s : Nat) (v i : Value) (wr : World) : Prop := ∃ (k : Nat) (out : List (BitVec 32)), s / 32 + k ≤ l.length ∧ i = .int .i64 ((s / 32 + k : Nat) : Int) ∧ Hid (out.length = k ∧ valD out = (valD l / 2 ^ s) % pw k) ∧ wr.ownsRow w.heap.size 49 1 v k (bv32 out) ∧ Below w.heap.size w wr
set_option maxRecDepth 50000 in
set_option maxHeartbeats 1000000 in
theorem rsh_dn (a : Option Addr) (m c s : Nat) (l : List (BitVec 32)) (w : World) (hn : l.length = m) (hl : m ≤ 1000000) (h0 : 0 < s) (h : s ≤ 32 * m) (hr : Rw w a l) :
    Calls Try.prog 111 #[.slice a m c, .int .i64 (-(s : Int))] w (FrW w (canon (valD l / 2 ^ s))) := by
  subst hn
  have hd1 : decide (-(s : Int) < -32 * (l.length : Int)) = false := by rw [decide_eq_false_iff_not]; omega
  have hs0 : ¬ s = 0 := by omega
  have hs1 : decide (s = 0) = false := by rw [decide_eq_false_iff_not]; omega
  go_enter Try.func111, Try.ntmps111
  go_wp2
  go_loopw [5, 6] (fun v i wr => ShrRel w l s v i wr) (fun _ i _ => l.length - (intOf i).toNat)
  case atStart =>
    refine ⟨0, [], by omega, by go_num, ⟨rfl, by rw [pw_zero, Nat.mod_one]; rfl⟩, fresh_row32 w, Below.alloc (Below.refl _ _) (Nat.le_refl _) _⟩
  case round =>
    obtain ⟨k, out, hj, rfl, ho, hown, hb⟩ := hrel
    obtain ⟨i, hi⟩ : ∃ i, s / 32 + k = i := ⟨_, rfl⟩
    rw [hi] at hj
    have HI := Lib.hid hi
    have hki : k ≤ i := by omega
    rw [hi]
    clear hi
    have hrb := hr.below hb
    have hj2 : k + 1 ≤ 20000000 := by omega
    by_cases hlt : i < l.length
    · have e1 := digD_lt l i
      have e2 := digD_lt l (i + 1)
      obtain ⟨d, hd⟩ : ∃ d, digD l (i + 1) * 4294967296 + digD l i = d := ⟨_, rfl⟩
      have hd2 : (digD l (i + 1) : Int) * 4294967296 + (digD l i : Int) = (d : Int) := by omega
      have hd3 : d < 18446744073709551616 := by omega
      have HD := Lib.hid hd
      clear hd
      obtain ⟨t2, ht2⟩ : ∃ t2, d / 2 ^ (s % 32) = t2 := ⟨_, rfl⟩
      have HT2 := Lib.hid (show (d : Int) / 2 ^ (s % 32) = (t2 : Int) by rw [← ht2]; push_cast; rfl)
      have HT3 := Lib.hid ht2
      clear ht2
      go_wp2_with (first
        | (go_at_call 85; (with_reducible refine (dig_any a _ _ i l _ rfl hrb).mono ?_); rintro e w2 ⟨rfl, rfl⟩)
        | (go_at_call 85; (with_reducible refine (dig_next a _ _ i l _ rfl hrb).mono ?_); rintro e w2 ⟨rfl, rfl⟩)
        | (at_builtin; refine wpList_snoc32 rfl _ _ rfl hown hb hj2 (BitVec.ofNat 32 t2) (toNat32' (by rw [HT2.out])) rfl rfl ?_; intro v' w2 hown2 hb2))
      go_roundw
      case rel =>
        refine ⟨k + 1, out ++ [BitVec.ofNat 32 t2], by have := HI.out; omega, by have := HI.out; go_num, ⟨?_, ?_⟩, hown2, hb2⟩
        · rw [List.length_append, ho.out.1]; rfl
        · have := HD.out
          rw [← HI.out] at this
          rw [valD_snoc, ho.out.1, BitVec.toNat_ofNat, ho.out.2, ← HT3.out, shr_num l s k d _ rfl this]
      case measure => simp [intOf] <;> omega
    · obtain ⟨a1, c1, rfl⟩ := own_slice hown
      go_wp2_with ((go_at_call 86; (with_reducible refine (norm_any _ _ _ out _ (snoc_own_le hown) (own_le hown (by omega)) (Rw.of_own hown)).mono ?_); rintro e w3 ⟨a3, c3, rfl, hown3, hb3⟩))
      go_ret
      refine FrW.eq (FrW.up ⟨a3, c3, rfl, hown3, hb3⟩ hb) ?_
      rw [← canon_val, ho.out.2]
      congr 1
      apply Nat.mod_eq_of_lt
      have h1 := valD_lt l
      have h2 := HI.out
      have h3 : pw l.length ≤ pw k * 2 ^ s := by
        rw [pw_two, pw_two, ← Nat.pow_add]
        exact Nat.pow_le_pow_right (by decide) (by omega)
      exact Nat.div_lt_of_lt_mul (by rw [Nat.mul_comm]; omega)
end Go.Proofs.Ytcofiekfhnfjpaa

/- N6 -/
namespace Go.Proofs.Ytcofiekfhnfjpaa
open Go.RowKit
set_option linter.unusedVariables false
set_option linter.unusedSimpArgs false
/-- The first two digits over the divisor's first are at least the quotient's digit. -/
theorem est_num (l k : List (BitVec 32)) (h0 : 0 < k.length) (hlt : valD l < 4294967296 * valD k) : valD l / valD k ≤ (digD l k.length * 4294967296 + digD l (k.length - 1)) / digD k (k.length - 1) ∨ digD k (k.length - 1) = 0 := by
  rcases Nat.eq_zero_or_pos (digD k (k.length - 1)) with hy | hy
  · exact .inr hy
  left
  have h1 : valD (l.drop (k.length + 1)) = 0 := by
    rw [drop_div]
    apply Nat.div_eq_of_lt
    have := valD_lt k
    rw [pw_succ]
    omega
  have h2 : digD l k.length * 4294967296 + digD l (k.length - 1) = valD l / pw (k.length - 1) := by
    rw [← drop_div, drop_dig, show k.length - 1 + 1 = k.length by omega, drop_dig, h1]
    omega
  have h3 : valD k = valD (k.take (k.length - 1)) + pw (k.length - 1) * digD k (k.length - 1) := by
    have := valD_dig k (k.length - 1)
    rwa [show k.length - 1 + 1 = k.length by omega, List.take_length] at this
  rw [h2]
  apply (Nat.le_div_iff_mul_le hy).2
  apply (Nat.le_div_iff_mul_le (pw_pos _)).2
  have h4 := Nat.div_mul_le_self (valD l) (valD k)
  have h5 : valD l / valD k * (pw (k.length - 1) * digD k (k.length - 1)) ≤ valD l / valD k * valD k := Nat.mul_le_mul_left _ (by omega)
  have h6 : valD l / valD k * digD k (k.length - 1) * pw (k.length - 1) = valD l / valD k * (pw (k.length - 1) * digD k (k.length - 1)) := by grind
  omega
theorem dig_q (a : Option Addr) (n c i : Nat) (l : List (BitVec 32)) (w : World) (hn : l.length = n) (hr : Rw w a l) :
    Calls Try.prog 85 #[.slice a n c, .int .i64 i] w fun e w' => e = .returned (.int .u64 (digD l i : Nat)) ∧ w' = w := (dig_any a n c i l w hn hr).mono fun _ _ ⟨h1, h2⟩ => ⟨h1, h2.symm⟩
theorem dig_p (a : Option Addr) (n c i : Nat) (l : List (BitVec 32)) (w : World) (hi : 0 < i) (hn : l.length = n) (hr : Rw w a l) :
    Calls Try.prog 85 #[.slice a n c, .int .i64 ((i : Int) - 1)] w fun e w' => e = .returned (.int .u64 (digD l (i - 1) : Nat)) ∧ w' = w := by
  rw [show (i : Int) - 1 = ((i - 1 : Nat) : Int) by omega]
  exact dig_q a n c (i - 1) l w hn hr
theorem min_gen (z D M : Int) (h : (z ≤ M ∧ D = z) ∨ (M < z ∧ D = M)) : (if M < z then M else z) = D := by
  rcases h with ⟨h, e⟩ | ⟨h, e⟩
  · rw [if_neg (by omega), e]
  · rw [if_pos h, e]
def OftRel (w : World) (K Q : Nat) (d p : Value) (wr : World) : Prop := ∃ (t : Nat) (a : Option Addr) (c : Nat), Q ≤ t ∧ t ≤ 4294967295 ∧ d = .int .u64 t ∧ p = .slice a (canon (K * t)).length c ∧ Rw wr a (canon (K * t)) ∧ Below w.heap.size w wr
theorem canon_fit {K t m : Nat} (hK : K < pw m) (ht : t ≤ 4294967295) (hm : m ≤ 900000) : (canon (K * t)).length ≤ 1000000 := by
  have : (canon (K * t)).length ≤ m + 1 := by
    rw [canon_len_le, pw_succ]
    exact Nat.lt_of_le_of_lt (Nat.mul_le_mul_left _ ht) (by omega)
  omega
set_option maxRecDepth 50000 in
set_option maxHeartbeats 1000000 in
theorem often_any (a b : Option Addr) (n c m d : Nat) (l k : List (BitVec 32)) (w : World) (hn : l.length = n) (hm : k.length = m) (hl : n ≤ 900000) (hl2 : m ≤ 900000) (hr : Rw w a l) (hs : Rw w b k) (h0 : 0 < m) (htop : 0 < digD k (m - 1)) (hlt : valD l < 4294967296 * valD k) :
    Calls Try.prog 112 #[.slice a n c, .slice b m d] w fun e w' => ∃ a' c', e = .returned (.tuple #[.int .u64 (valD l / valD k : Nat), .slice a' (canon (valD l % valD k)).length c']) ∧ w'.ownsRow w.heap.size 49 1 (.slice a' (canon (valD l % valD k)).length c') (canon (valD l % valD k)).length (bv32 (canon (valD l % valD k))) ∧ Below w.heap.size w w' := by
  subst hn hm
  have hest := (est_num l k h0 hlt).resolve_right (by omega)
  have hQB : valD l / valD k ≤ 4294967295 := Nat.le_of_lt_succ (Nat.div_lt_of_lt_mul (by rw [Nat.mul_comm]; exact hlt))
  have hVp : 0 < valD k := by
    rcases Nat.eq_zero_or_pos (valD k) with h | h
    · rw [h] at hlt; omega
    · exact h
  obtain ⟨bd, rfl, hc⟩ := hs (k.length - 1) (by omega)
  rw [← digD_in _ _ (by omega)] at hc
  obtain ⟨y, hy⟩ : ∃ y, digD k (k.length - 1) = y := ⟨_, rfl⟩
  have hy2 := digD_lt k (k.length - 1)
  rw [hy] at hest hc htop hy2
  clear hy
  obtain ⟨x1, hx1⟩ : ∃ x, digD l k.length = x := ⟨_, rfl⟩
  obtain ⟨x0, hx0⟩ : ∃ x, digD l (k.length - 1) = x := ⟨_, rfl⟩
  have hx1l := digD_lt l k.length
  have hx0l := digD_lt l (k.length - 1)
  have C1 : ∀ W : World, Rw W a l → Calls Try.prog 85 #[.slice a l.length c, .int .i64 k.length] W fun e w' => e = .returned (.int .u64 (x1 : Nat)) ∧ w' = W := fun W h => by rw [← hx1]; exact dig_q a _ c _ l W rfl h
  have C0 : ∀ W : World, Rw W a l → Calls Try.prog 85 #[.slice a l.length c, .int .i64 ((k.length : Int) - 1)] W fun e w' => e = .returned (.int .u64 (x0 : Nat)) ∧ w' = W := fun W h => by rw [← hx0]; exact dig_p a _ c _ l W h0 rfl h
  rw [hx1] at hest hx1l
  rw [hx0] at hest hx0l
  clear hx1 hx0
  have HC1 := Lib.hid C1
  have HC0 := Lib.hid C0
  clear C1 C0
  obtain ⟨z, hz⟩ : ∃ z, (x1 * 4294967296 + x0) / y = z := ⟨_, rfl⟩
  have hzi : ((x1 : Int) * 4294967296 + (x0 : Int)) / (y : Int) = (z : Int) := by rw [← hz, Int.natCast_ediv, Int.natCast_add, Int.natCast_mul]; rfl
  have hzl : z ≤ x1 * 4294967296 + x0 := by rw [← hz]; exact Nat.div_le_self _ _
  rw [hz] at hest
  clear hz
  have HE := Lib.hid hest
  have HQ := Lib.hid hQB
  have HV := Lib.hid hVp
  have HL := Lib.hid hlt
  clear hest hQB hVp hlt
  have hyn : ((y : Int) == 0) = false := by rw [beq_eq_false_iff_ne]; omega
  have w1 : IntKind.i64.wrap ((k.length : Int) - 1) = (k.length : Int) - 1 := IntWalk.i64_in _ (by omega)
  have w2 : IntKind.u64.wrap ((x1 : Int) * 4294967296) = (x1 : Int) * 4294967296 := IntWalk.u64_in _ (by omega)
  have w3 : IntKind.u64.wrap ((x1 : Int) * 4294967296 + (x0 : Int)) = (x1 : Int) * 4294967296 + (x0 : Int) := IntWalk.u64_in _ (by omega)
  have w5 : 0 ≤ (k.length : Int) - 1 := by omega
  have w6 : ((k.length : Int) - 1).toNat = k.length - 1 := by omega
  go_enter Try.func112, Try.ntmps112
  go_wp2
  go_quiet ((first
    | (go_at_call 85; with_reducible exact Calls.quiet_of_same (HC1.out _ (hr.drewN _)))
    | (go_at_call 85; with_reducible exact Calls.quiet_of_same (HC0.out _ (hr.drewN _)))))
  clear w1 w2 w3 w5 w6
  obtain ⟨D, hD, hD1, hD2⟩ : ∃ D : Nat, ((z ≤ 4294967295 ∧ D = z) ∨ (4294967295 < z ∧ D = 4294967295)) ∧ D ≤ 4294967295 ∧ valD l / valD k ≤ D := by
    rcases Nat.lt_or_ge 4294967295 z with h | h
    · exact ⟨4294967295, .inr ⟨h, rfl⟩, Nat.le_refl _, HQ.out⟩
    · exact ⟨z, .inl ⟨h, rfl⟩, h, HE.out⟩
  have hDi : ((z : Int) ≤ 4294967295 ∧ (D : Int) = z) ∨ ((4294967295 : Int) < z ∧ (D : Int) = 4294967295) := by
    rcases hD with ⟨h, e⟩ | ⟨h, e⟩
    · exact .inl ⟨by omega, by omega⟩
    · exact .inr ⟨by omega, by omega⟩
  have m4 := min_gen _ _ _ hDi
  have HD2 := Lib.hid hD2
  clear hD hD2 hDi
  go_wp2_with (go_at_call 123; (with_reducible refine (rtim_any _ _ _ k D _ rfl (by omega) (by omega) (hs.drewN _)).mono ?_); rintro e w2 ⟨a2, c2, rfl, hown2, hb2⟩)
  have hbw := (below_drewN (Below.refl w.heap.size w) _).trans hb2
  have hrw := Rw.of_own hown2
  clear hown2
  go_loopw [8, 9] (fun d p wr => OftRel w (valD k) (valD l / valD k) d p wr) (fun d _ _ => (intOf d).toNat)
  case atStart => exact ⟨D, a2, c2, HD2.out, hD1, rfl, rfl, hrw, hbw⟩
  case round =>
    obtain ⟨t, a3, c3, hQt, ht, rfl, rfl, hr3, hb3⟩ := hrel
    have HT := Lib.hid hQt
    clear hQt
    have hfit := Lib.hid (canon_fit (valD_lt k) ht hl2)
    have hval := Lib.hid (valD_canon (valD k * t))
    have hrr := hr.below hb3
    have hsr := hs.below hb3
    by_cases hgt : valD l < valD k * t
    · have HG := Lib.hid hgt
      clear hgt
      have ht0 : 0 < t := by
        rcases Nat.eq_zero_or_pos t with h | h
        · have := HG.out; subst h; omega
        · exact h
      have hge : Hid (valD k ≤ valD (canon (valD k * t))) := by
        show _ ≤ _
        rw [hval.out]
        exact Nat.le_mul_of_pos_right _ ht0
      have hnew : Hid (canon (valD (canon (valD k * t)) - valD k) = canon (valD k * (t - 1))) := by
        show _ = _
        rw [hval.out, Nat.mul_sub, Nat.mul_one]
      go_wp2_with (first
        | (go_at_call 49; (with_reducible refine (rcmp_gt _ _ _ _ _ _ (canon (valD k * t)) l _ rfl rfl hfit.out (by omega) hr3 hrr (by rw [hval.out]; exact HG.out)).mono ?_); rintro e w4 ⟨rfl, rfl⟩)
        | (go_at_call 115; (with_reducible refine (rsub_yes _ _ _ _ _ _ (canon (valD k * t)) k _ rfl rfl hfit.out (by omega) hr3 hsr hge.out).mono ?_); rintro e w5 ⟨a5, c5, rfl, hown5, hb5⟩; rw [hnew.out] at hown5; rw [hnew.out]))
      go_roundw
      case rel =>
        refine ⟨t - 1, a5, c5, ?_, by omega, by go_num, rfl, Rw.of_own hown5, hb3.trans (hb5.mono hb3.size)⟩
        have h1 := HG.out
        have h2 : valD l / valD k < t := Nat.div_lt_of_lt_mul h1
        omega
      case measure => simp [intOf] <;> omega
    · have HG := Lib.hid hgt
      clear hgt
      have hle : Hid (valD (canon (valD k * t)) ≤ valD l) := by
        show _ ≤ _
        rw [hval.out]
        have := HG.out; omega
      have htQ : t = valD l / valD k := by
        have h1 := HT.out
        have h2 : t ≤ valD l / valD k := (Nat.le_div_iff_mul_le HV.out).2 (by rw [Nat.mul_comm]; have := HG.out; omega)
        omega
      have hnew : Hid (canon (valD l - valD (canon (valD k * t))) = canon (valD l % valD k)) := by
        show _ = _
        rw [hval.out, htQ]
        exact congrArg canon (by have := Nat.mod_add_div (valD l) (valD k); omega)
      have HTQ := Lib.hid htQ
      clear htQ
      go_wp2_with (first
        | (go_at_call 49; (with_reducible refine (rcmp_le _ _ _ _ _ _ (canon (valD k * t)) l _ rfl rfl hfit.out (by omega) hr3 hrr hle.out).mono ?_); rintro e w4 ⟨r, hr0, hr1, rfl, rfl⟩)
        | (go_at_call 115; (with_reducible refine (rsub_yes _ _ _ _ _ _ l (canon (valD k * t)) _ rfl rfl (by omega) hfit.out hrr hr3 hle.out).mono ?_); rintro e w5 ⟨a5, c5, rfl, hown5, hb5⟩; rw [hnew.out] at hown5; rw [hnew.out]))
      go_ret2
      exact ⟨a5, c5, by rw [← HTQ.out]; rfl, own_mono hown5 hb3.size, hb3.trans (hb5.mono hb3.size)⟩
end Go.Proofs.Ytcofiekfhnfjpaa

/- N7 -/
namespace Go.Proofs.Ytcofiekfhnfjpaa
open Go.RowKit
set_option linter.unusedVariables false
set_option linter.unusedSimpArgs false
theorem own_below {w w' : World} {base : Nat} {e : TypeId} {size : Nat} {v : Value} {n : Nat} {xs : List Value} (h : w.ownsRow base e size v n xs) (hb : Below w.heap.size w w') : w'.ownsRow base e size v n xs := by
  refine ⟨h.1, ?_⟩
  rcases h.2 with h' | ⟨g, cap, cur, h1, h2, h3, h4⟩
  · exact .inl h'
  · refine .inr ⟨g, cap, cur, h1, h2, ?_, h4⟩
    have hlt : g < w.heap.size := by
      rcases Nat.lt_or_ge g w.heap.size with h | h
      · exact h
      · rw [Array.getElem?_eq_none h] at h3; cases h3
    rw [hb.block g hlt, h3]
theorem top_pos (n : Nat) (h : 0 < (canon n).length) : 0 < digD (canon n) ((canon n).length - 1) := by
  rcases Nat.eq_zero_or_pos (digD (canon n) ((canon n).length - 1)) with h1 | h1
  · exfalso
    rw [digD_in _ _ (by omega)] at h1
    have h2 := last_split (canon n) h
    rw [show (canon n)[(canon n).length - 1] = 0#32 from BitVec.eq_of_toNat_eq (by simpa using h1)] at h2
    have h3 := trim_snoc0 ((canon n).take ((canon n).length - 1))
    rw [← h2, trim_canon] at h3
    have h4 := trim_len_le ((canon n).take ((canon n).length - 1))
    rw [← h3, List.length_take] at h4
    omega
  · exact h1
theorem canon_len_pos {n : Nat} (h : 0 < n) : 0 < (canon n).length := by
  rcases Nat.eq_zero_or_pos (canon n).length with h1 | h1
  · have h2 := valD_canon n
    rw [List.length_eq_zero_iff.1 h1] at h2
    simp [valD_nil] at h2
    omega
  · exact h1
theorem shl_fit {A n s : Nat} (hA : A < pw n) (hs : s ≤ 31) (hn : n ≤ 800000) : (canon (A * 2 ^ s)).length ≤ 800001 := by
  have : (canon (A * 2 ^ s)).length ≤ n + 1 := by
    rw [canon_len_le, pw_succ]
    have h1 : 2 ^ s ≤ 4294967295 := Nat.le_trans (Nat.pow_le_pow_right (by decide) hs) (by decide)
    exact Nat.lt_of_le_of_lt (Nat.mul_le_mul_left _ h1) (by omega)
  omega
theorem rsh_any (a : Option Addr) (m c s : Nat) (l : List (BitVec 32)) (w : World) (hn : l.length = m) (hl : m ≤ 1000000) (hr : Rw w a l) :
    Calls Try.prog 111 #[.slice a m c, .int .i64 (-(s : Int))] w (FrW w (canon (valD l / 2 ^ s))) := by
  rcases Nat.eq_zero_or_pos s with rfl | h0
  · have h := rsh_up a m c 0 l w hn hl hr
    rw [show min 0 4096 = 0 from rfl, Nat.pow_zero, Nat.mul_one] at h
    rw [show -((0 : Nat) : Int) = ((0 : Nat) : Int) from rfl, Nat.pow_zero, Nat.div_one]
    exact h
  · rcases Nat.lt_or_ge (32 * m) s with h | h
    · have h1 := rsh_out a m c (-(s : Int)) l w hn hl (by omega) hr
      rw [show (-(s : Int)).natAbs = s by omega] at h1
      exact h1
    · exact rsh_dn a m c s l w hn hl h0 h hr
theorem often_nm (a b : Option Addr) (n c m d dq r : Nat) (l k : List (BitVec 32)) (w : World) (hn : l.length = n) (hm : k.length = m) (hl : n ≤ 900000) (hl2 : m ≤ 900000) (hr : Rw w a l) (hs : Rw w b k) (h0 : 0 < m) (htop : 0 < digD k (m - 1)) (hlt : valD l < 4294967296 * valD k) (hd : valD l / valD k = dq) (hrr : valD l % valD k = r) :
    Calls Try.prog 112 #[.slice a n c, .slice b m d] w fun e w' => ∃ a' c', e = .returned (.tuple #[.int .u64 (dq : Nat), .slice a' (canon r).length c']) ∧ w'.ownsRow w.heap.size 49 1 (.slice a' (canon r).length c') (canon r).length (bv32 (canon r)) ∧ Below w.heap.size w w' := by
  refine (often_any a b n c m d l k w hn hm hl hl2 hr hs h0 htop hlt).mono ?_
  rintro e w' ⟨a', c', h1, h2, h3⟩
  rw [hrr] at h1 h2
  rw [hd] at h1
  exact ⟨a', c', h1, h2, h3⟩
/-- One round's state of the long division. -/
def DmRel (w : World) (U V : List (BitVec 32)) (r i : Value) (wr : World) : Prop := ∃ (p ρ : Nat) (a : Option Addr) (c : Nat) (Q : List (BitVec 32)), p ≤ U.length ∧ ((p = 0 ∧ i = .int .i64 (-1)) ∨ ∃ q : Nat, p = q + 1 ∧ i = .int .i64 (q : Int)) ∧ Hid (ρ < valD V) ∧ r = .slice a (canon ρ).length c ∧ Rw wr a (canon ρ) ∧
  Hid (Q.length = U.length ∧ valD (U.drop p) = valD V * valD (Q.drop p) + ρ) ∧
  wr.ownsRow w.heap.size 49 1 (.slice (some ⟨w.heap.size, 0, none⟩) U.length U.length) U.length (bv32 Q) ∧ Below w.heap.size w wr
def NxRel (w : World) (u : BitVec 32) (R : List (BitVec 32)) (v k : Value) (wr : World) : Prop := ∃ j : Nat, j ≤ R.length ∧ k = .int .i64 j ∧ wr.ownsRow w.heap.size 49 1 v (j + 1) (bv32 (u :: R.take j)) ∧ Below w.heap.size w wr
theorem dm_num (K Qd ρ u dq r B : Nat) (h : u + B * ρ = K * dq + r) : u + B * (K * Qd + ρ) = K * (dq + B * Qd) + r := by grind
theorem dm_lt {u ρ K : Nat} (hu : u < 4294967296) (h : ρ < K) : u + 4294967296 * ρ < 4294967296 * K := by
  have := Nat.mul_le_mul_left 4294967296 (Nat.succ_le_of_lt h)
  omega
theorem ex_canon (n : Nat) : ∃ U, Hid (canon n = U) := ⟨_, rfl⟩
theorem fit_eq {A n s : Nat} {U : List (BitVec 32)} (h : Hid (canon (A * 2 ^ s) = U)) (hA : A < pw n) (hs : s ≤ 31) (hn : n ≤ 800000) : U.length ≤ 800001 := by
  rw [← h.out]; exact shl_fit hA hs hn
theorem rsh_by (a : Option Addr) (m c s : Nat) (l U : List (BitVec 32)) (w : World) (hn : l.length = m) (hl : m ≤ 1000000) (hs : s ≤ 31) (hU : canon (valD l * 2 ^ s) = U) (hr : Rw w a l) :
    Calls Try.prog 111 #[.slice a m c, .int .i64 s] w (FrW w U) := by
  have h := rsh_up a m c s l w hn hl hr
  rw [Nat.min_eq_left (by omega), hU] at h
  exact h
theorem by_num {T V L x : Nat} (e : T = V) (ht : ∀ x, IsBl V x → x ≤ 32 * L → 32 * (L - 1) < x) (h0 : 0 < L) (hx : IsBl T x) (h2 : x ≤ 32 * L) : ∃ s : Nat, s ≤ 31 ∧ 32 * (L : Int) - (x : Int) = (s : Int) := by
  subst e
  have := ht x hx h2
  exact ⟨32 * L - x, by omega, by omega⟩
set_option maxRecDepth 50000 in
set_option maxHeartbeats 2000000 in
theorem rdm_any (a b : Option Addr) (n c m d : Nat) (l k : List (BitVec 32)) (w : World) (hn : l.length = n) (hm : k.length = m) (hl : n ≤ 800000) (hl2 : m ≤ 800000) (hr : Rw w a l) (hs : Rw w b k) (h : 0 < valD k) :
    Calls Try.prog 87 #[.slice a n c, .slice b m d] w fun e w' => ∃ a1 c1 a2 c2, e = .returned (.tuple #[.slice a1 (canon (valD l / valD k)).length c1, .slice a2 (canon (valD l % valD k)).length c2, .int .i64 0]) ∧ Rw w' a1 (canon (valD l / valD k)) ∧ Rw w' a2 (canon (valD l % valD k)) ∧ Below w.heap.size w w' := by
  subst hn hm
  have hvp := Lib.hid h
  have htl := trim_len_le k
  have htp : 0 < (trimD k).length := by rw [← canon_val]; exact canon_len_pos h
  have htv := Lib.hid (valD_trim k)
  have htn : ((trimD k).length == 0) = false := by rw [beq_eq_false_iff_ne]; omega
  have htni : (((trimD k).length : Int) == 0) = false := by rw [beq_eq_false_iff_ne]; omega
  have htk : Hid (∀ x, IsBl (valD k) x → x ≤ 32 * (trimD k).length → 32 * ((trimD k).length - 1) < x) := by
    intro x hx _
    have h1 := valD_len (trimD k) (by rw [← canon_val k, trim_canon]) htp
    rw [valD_trim, pw_two] at h1
    rcases Nat.lt_or_ge (32 * ((trimD k).length - 1)) x with h2 | h2
    · exact h2
    · have h3 : 2 ^ x ≤ 2 ^ (32 * ((trimD k).length - 1)) := Nat.pow_le_pow_right (by decide) h2
      have := hx.1
      omega
  clear h
  go_enter Try.func87, Try.ntmps87
  go_wp2_with (first
    | (go_at_call 86; (with_reducible refine (norm_any _ _ _ k _ rfl (by omega) hs).mono ?_); rintro e w1 ⟨a1, c1, rfl, hown1, hb1⟩; have hr1 := Rw.of_own hown1)
    | (go_at_call 88; (with_reducible refine (rbl_any _ _ _ (trimD k) _ rfl (by omega) hr1).mono ?_); rintro e w2 ⟨x, rfl, hx, hx2, hb2⟩; obtain ⟨s, hs3, hs4⟩ := by_num htv.out htk.out htp hx hx2; clear hx hx2; obtain ⟨U, hU⟩ := ex_canon (valD l * 2 ^ s); obtain ⟨V, hV⟩ := ex_canon (valD k * 2 ^ s); have hUl := fit_eq hU (valD_lt l) hs3 hl; have hVl := fit_eq hV (valD_lt k) hs3 hl2; have hmk := run_make_row' (P := Try.prog) 22 49 (.int .u32 0) 4 Try.underlying22 info32 rfl .i64 .i64 U.length (by omega) (by omega))
    | (go_at_call 111; (with_reducible refine (rsh_by a _ _ s l U _ rfl (by omega) hs3 hU.out ((hr.below hb1).below hb2)).mono ?_); rintro e w3 ⟨a3, c3, rfl, hown3, hb3⟩)
    | (go_at_call 111; (with_reducible refine (rsh_by a1 _ _ s (trimD k) V _ rfl (by omega) hs3 (by rw [htv.out]; exact hV.out) ((hr1.below hb2).below hb3)).mono ?_); rintro e w4 ⟨a4, c4, rfl, hown4, hb4⟩))
  have hb5 : Below w.heap.size w w4 := ((hb1.trans (hb2.mono hb1.size)).trans (hb3.mono (Nat.le_trans hb1.size hb2.size))).trans (hb4.mono (Nat.le_trans (Nat.le_trans hb1.size hb2.size) hb3.size))
  have hru := (Rw.of_own hown3).below hb4
  have hrv := Rw.of_own hown4
  have hVp : Hid (0 < valD V) := by
    show 0 < _
    rw [← hV.out, valD_canon]
    exact Nat.mul_pos hvp.out (Nat.two_pow_pos s)
  have hV0 : 0 < V.length := by
    rw [← hV.out]
    exact canon_len_pos (by have := hVp.out; rwa [← hV.out, valD_canon] at this)
  have hVt : Hid (0 < digD V (V.length - 1)) := by
    have := top_pos (valD k * 2 ^ s)
    rw [hV.out] at this
    exact this hV0
  go_loopw [12, 13] (fun r i wr => DmRel w4 U V r i wr) (fun _ i _ => (intOf i + 1).toNat)
  case atStart =>
    refine ⟨U.length, 0, _, _, zer U.length, Nat.le_refl _, ?_, hVp.out, by rw [canon_zero]; rfl, by rw [canon_zero]; exact Rw.nil _ _, ⟨by simp [zer], by simp [zer, valD_nil]⟩, (made32 w4 _ (by omega)).alloc _, Below.alloc (Below.alloc (Below.refl _ _) (Nat.le_refl _) _) (by simp) _⟩
    rcases Nat.eq_zero_or_pos U.length with h | h
    · exact .inl ⟨h, by rw [h]; rfl⟩
    · exact .inr ⟨U.length - 1, by omega, by go_num⟩
  case round =>
    obtain ⟨p, ρ, a5, c5, Q, hp, hpi, hρ, rfl, hr5, hQ, hownq, hbq⟩ := hrel
    have hρl : (canon ρ).length ≤ 800001 := by
      have : (canon ρ).length ≤ V.length := by
        rw [canon_len_le]
        exact Nat.lt_trans hρ.out (valD_lt V)
      omega
    rcases hpi with ⟨hp0, rfl⟩ | ⟨q, hq, rfl⟩
    · have HP := Lib.hid hp0
      clear hp0
      have hvals : Hid (trimD Q = canon (valD l / valD k) ∧ canon (valD (canon ρ) / 2 ^ s) = canon (valD l % valD k)) := by
        have h1 := hQ.out.2
        rw [HP.out, List.drop_zero, List.drop_zero] at h1
        have h2 : valD U = valD l * 2 ^ s := by rw [← hU.out, valD_canon]
        have h3 : valD V = valD k * 2 ^ s := by rw [← hV.out, valD_canon]
        have h4 := hρ.out
        have h5 : valD U / valD V = valD Q := by
          rw [h1, Nat.mul_add_div (by have := hVp.out; omega), Nat.div_eq_of_lt h4, Nat.add_zero]
        have h6 : valD U % valD V = ρ := by
          rw [h1, Nat.mul_add_mod, Nat.mod_eq_of_lt h4]
        rw [h2, h3, Nat.mul_div_mul_right _ _ (Nat.two_pow_pos s)] at h5
        rw [h2, h3, Nat.mul_mod_mul_right] at h6
        refine ⟨by rw [← canon_val, ← h5], ?_⟩
        rw [valD_canon, ← h6, Nat.mul_div_cancel _ (Nat.two_pow_pos s)]
      have hQl := snoc_own_le hownq
      go_wp2_with (first
        | (go_at_call 86; (with_reducible refine (norm_any _ _ _ Q _ hQl (by omega) (Rw.of_own hownq)).mono ?_); rintro e w7 ⟨a7, c7, rfl, hown7, hb7⟩; rw [hvals.out.1] at hown7; rw [hvals.out.1])
        | (go_at_call 111; (with_reducible refine (rsh_any _ _ _ s (canon ρ) _ rfl (by omega) (hr5.below hb7)).mono ?_); rintro e w8 ⟨a8, c8, rfl, hown8, hb8⟩; rw [hvals.out.2] at hown8; rw [hvals.out.2]))
      go_ret3
      exact ⟨a7, c7, a8, c8, rfl, (Rw.of_own hown7).below hb8, Rw.of_own hown8, hb5.trans ((hbq.trans ((hb7.trans (hb8.mono hb7.size)).mono hbq.size)).mono hb5.size)⟩
    · have hqU : q < U.length := by omega
      have hruw := hru.below hbq
      have hrvw := hrv.below hbq
      obtain ⟨ad3, rfl, hc3⟩ := hruw q hqU
      obtain ⟨u, hu⟩ : ∃ u, U[q] = u := ⟨_, rfl⟩
      rw [hu] at hc3
      have HU := Lib.hid hu
      have HP := Lib.hid hq
      clear hu hq
      have hrow0 := own_made wr #[Value.int .u32 (u.toNat : Int)] 49 1 rfl (by unfold maxLen; omega)
      have hbr0 := Below.alloc (Below.refl wr.heap.size wr) (Nat.le_refl _) (.cells #[Value.int .u32 (u.toNat : Int)] 49)
      go_wp2
      go_loopw [14, 15] (fun v k w2 => NxRel wr u (canon ρ) v k w2) (fun _ k _ => (canon ρ).length - (intOf k).toNat)
      case atStart => exact ⟨0, Nat.zero_le _, rfl, by exact hrow0, hbr0⟩
      case round =>
        obtain ⟨j, hj, rfl, hown, hb⟩ := hrel
        have hj2 : j + 1 + 1 ≤ 20000000 := by omega
        by_cases hlt : j < (canon ρ).length
        · obtain ⟨ad6, rfl, hc6⟩ := (hr5.below hb) j hlt
          go_wp2_with (at_builtin; refine wpList_snoc32 rfl _ _ rfl hown hb hj2 (canon ρ)[j] rfl rfl rfl ?_; intro v' w6 hown6 hb6)
          go_roundw
          case rel => exact ⟨j + 1, by omega, by go_num, by rw [List.take_succ_eq_append_getElem hlt, ← List.cons_append]; exact hown6, hb6⟩
          case measure => simp [intOf] <;> omega
        · obtain ⟨a6, c6, rfl⟩ := own_slice hown
          have hjl : j = (canon ρ).length := by omega
          have hL : Hid ((u :: (canon ρ).take j).length = j + 1) := by
            show _ = _
            rw [List.length_cons, List.length_take]; omega
          have hX : Hid (valD (trimD (u :: (canon ρ).take j)) = u.toNat + 4294967296 * ρ) := by
            show _ = _
            rw [valD_trim, valD_cons, List.take_of_length_le (by omega), valD_canon]
          have hXl : Hid (valD (trimD (u :: (canon ρ).take j)) < 4294967296 * valD V) := by
            show _ < _
            rw [hX.out]
            exact dm_lt u.isLt hρ.out
          have hfit := trim_len_le (u :: (canon ρ).take j)
          rw [hL.out] at hfit
          obtain ⟨dq, hdq⟩ : ∃ dq, Hid (valD (trimD (u :: (canon ρ).take j)) / valD V = dq) := ⟨_, rfl⟩
          obtain ⟨r', hr'⟩ : ∃ r', Hid (valD (trimD (u :: (canon ρ).take j)) % valD V = r') := ⟨_, rfl⟩
          have hdq2 : dq < 4294967296 := by
            rw [← hdq.out]
            exact Nat.div_lt_of_lt_mul (by rw [Nat.mul_comm]; exact hXl.out)
          obtain ⟨z, hz⟩ : ∃ z, Hid (Q[q]? = some z) := ⟨_, List.getElem?_eq_getElem (by have := hQ.out.1; omega)⟩
          have HJ := Lib.hid hjl
          clear hjl
          go_wp2_with (first
            | (go_at_call 86; (with_reducible refine (norm_any _ _ _ (u :: (canon ρ).take j) _ hL.out (by rw [hL.out]; omega) (Rw.of_own hown)).mono ?_); rintro e w7 ⟨a7, c7, rfl, hown7, hb7⟩)
            | (go_at_call 112; (with_reducible refine (often_nm _ _ _ _ _ _ dq r' (trimD (u :: (canon ρ).take j)) V _ rfl rfl (by omega) (by omega) (Rw.of_own hown7) ((hrvw.below hb).below hb7) hV0 hVt.out hXl.out hdq.out hr'.out).mono ?_); rintro e w8 ⟨a8, c8, rfl, hown8, hb8⟩; have hbt := (hb.trans (hb7.mono hb.size)).trans (hb8.mono (Nat.le_trans hb.size hb7.size)); have hownq8 := own_below hownq hbt; have hc8 := own_cell hownq8 q (.int .u32 (z.toNat : Int)) (by rw [bv32, List.getElem?_map, hz.out]; rfl); have hf8 := hownq8.frozenAt q))
          go_roundw
          case rel =>
            have hQl : q < Q.length := by have := hQ.out.1; omega
            have e1 : (BitVec.ofNat 32 dq).toNat = dq := by rw [BitVec.toNat_ofNat]; omega
            refine ⟨q, r', a8, c8, Q.set q (BitVec.ofNat 32 dq), by omega, ?_, ?_, rfl, ?_, ⟨?_, ?_⟩, ?_, ?_⟩
            · rcases Nat.eq_zero_or_pos q with h | h
              · exact .inl ⟨h, by rw [h]; rfl⟩
              · exact .inr ⟨q - 1, by omega, by go_num⟩
            · show _ < _
              rw [← hr'.out]
              exact Nat.mod_lt _ hVp.out
            · refine Rw.of_own (ownsRow_setCell_below hown8 ?_ _)
              have h1 := hownq.lt w4.heap.size rfl
              exact Nat.lt_of_lt_of_le h1.2 (Nat.le_trans hb.size hb7.size)
            · rw [List.length_set]; exact hQ.out.1
            · have h2 := hQ.out.2
              rw [HP.out] at h2
              rw [drop_dig, digD_in _ _ hqU, HU.out, h2, drop_dig (Q.set q _) q, digD_in _ _ (by rw [List.length_set]; exact hQl), List.getElem_set_self, e1, List.drop_set_of_lt (by omega)]
              apply dm_num
              rw [← hX.out, ← hdq.out, ← hr'.out]
              exact (Nat.div_add_mod _ _).symm
            · rw [bv32_set, e1]
              exact own_set hownq8 _ _
            · exact Below.setCell (hbq.trans (hbt.mono hbq.size)) (p := ⟨w4.heap.size, q, none⟩) (Nat.le_refl _) _
          case measure => simp [intOf] <;> omega
end Go.Proofs.Ytcofiekfhnfjpaa

/- Fr -/
namespace Go.Proofs.Ytcofiekfhnfjpaa
open Go.RowKit
set_option linter.unusedVariables false
set_option linter.unusedSimpArgs false
/-- A row of digits that lies above all that was there. -/
def RwF (B : Nat) (w : World) (a : Option Addr) (l : List (BitVec 32)) : Prop := Rw w a l ∧ ∀ ad, a = some ad → l ≠ [] → B ≤ ad.block
theorem RwF.of_own {w : World} {base : Nat} {e : TypeId} {a : Option Addr} {n c : Nat} {l : List (BitVec 32)} (h : w.ownsRow base e 1 (.slice a n c) n (bv32 l)) : RwF base w a l := by
  refine ⟨Rw.of_own h, fun ad e hne => ?_⟩
  have hl := h.1
  rw [bv32_len] at hl
  obtain ⟨g, e2, hg⟩ := own_form h (by have := List.length_pos_iff.2 hne; omega)
  rw [e] at e2
  cases e2
  exact hg
theorem RwF.mono {B B' : Nat} {w : World} {a : Option Addr} {l : List (BitVec 32)} (h : RwF B w a l) (hb : B' ≤ B) : RwF B' w a l := ⟨h.1, fun ad e hne => Nat.le_trans hb (h.2 ad e hne)⟩
theorem RwF.below {B : Nat} {w w' : World} {a : Option Addr} {l : List (BitVec 32)} (h : RwF B w a l) (hb : Below w.heap.size w w') : RwF B w' a l := ⟨h.1.below hb, h.2⟩
theorem RwF.set {B b : Nat} {w : World} {a : Option Addr} {l : List (BitVec 32)} (h : RwF B w a l) (hb : b < B) (o : Nat) (v : Value) : RwF B (w.setCell ⟨b, o, none⟩ v) a l := by
  refine ⟨fun k hk => ?_, h.2⟩
  obtain ⟨ad, e, hc⟩ := h.1 k hk
  have := h.2 ad e (by rintro rfl; simp at hk)
  refine ⟨ad, e, ?_⟩
  rw [World.cell?_setCell_far _ _ _ _ (by rw [block_add]; show b ≠ _; omega)]
  exact hc
/-- A row of digits that the call has made, or a part of one, is returned; its capacity is known to reach. -/
def FrR (w : World) (l : List (BitVec 32)) (e : Ending) (w' : World) : Prop := ∃ a c, e = .returned (.slice a l.length c) ∧ l.length ≤ c ∧ RwF w.heap.size w' a l ∧ Below w.heap.size w w'
theorem FrR.of_own {w w' : World} {l : List (BitVec 32)} {e : Ending} (h : FrW w l e w') : FrR w l e w' := by
  obtain ⟨a, c, h1, h2, h3⟩ := h
  exact ⟨a, c, h1, own_cap h2, RwF.of_own h2, h3⟩
theorem FrR.up {w w1 w' : World} {l : List (BitVec 32)} {e : Ending} (h : FrR w1 l e w') (hb : Below w.heap.size w w1) : FrR w l e w' := by
  obtain ⟨a, c, h1, h2, h3, h4⟩ := h
  exact ⟨a, c, h1, h2, h3.mono hb.size, hb.trans (h4.mono hb.size)⟩
theorem RwF.take {B : Nat} {w : World} {a : Option Addr} {l : List (BitVec 32)} (h : RwF B w a l) (n : Nat) : RwF B w a (l.take n) := ⟨h.1.take n, fun ad e hne => h.2 ad e (by rintro rfl; simp at hne)⟩
end Go.Proofs.Ytcofiekfhnfjpaa

