import Derived.Test.YtbnialhpflaoaaaDoorN1
namespace Go.Proofs.YtbnialhpflaoaaaDoor
open Go.RowKit
set_option linter.unusedVariables false
set_option linter.unusedSimpArgs false
def digD (l : List (BitVec 32)) (i : Nat) : Nat := (l.getD i 0#32).toNat
theorem digD_lt (l : List (BitVec 32)) (i : Nat) : digD l i < 4294967296 := (l.getD i 0#32).isLt
theorem digD_in (l : List (BitVec 32)) (i : Nat) (h : i < l.length) : digD l i = l[i].toNat := by simp [digD, List.getD, h]
theorem digD_out (l : List (BitVec 32)) (i : Nat) (h : l.length ≤ i) : digD l i = 0 := by simp [digD, List.getD, List.getElem?_eq_none h]
theorem snoc_len {out : List (BitVec 32)} {j : Nat} (d : BitVec 32) (h : out.length = j) : (out ++ [d]).length = j + 1 := by rw [List.length_append, h]; rfl
theorem snoc_le {out : List (BitVec 32)} {j : Nat} (d : BitVec 32) (h : out.length = j) (hj : j < 10000000) : (out ++ [d]).length ≤ 10000000 := by rw [snoc_len d h]; omega
theorem last_split (l : List (BitVec 32)) (h : 0 < l.length) : l = l.take (l.length - 1) ++ [l[l.length - 1]] := by
  have := List.take_succ_eq_append_getElem (l := l) (i := l.length - 1) (by omega)
  rwa [show l.length - 1 + 1 = l.length by omega, List.take_length] at this
theorem valD_dig (l : List (BitVec 32)) (k : Nat) : valD (l.take (k + 1)) = valD (l.take k) + pw k * digD l k := by
  rcases Nat.lt_or_ge k l.length with h | h
  · rw [valD_take _ _ h, digD_in _ _ h]
  · rw [digD_out _ _ h, List.take_of_length_le (by omega), List.take_of_length_le h]; omega
theorem toNat32 (x : Nat) : ((BitVec.ofNat 32 x).toNat : Int) = (x : Int) % 4294967296 := by rw [BitVec.toNat_ofNat]; omega
theorem toNat32' {y : Int} {x : Nat} (h : y = (x : Int) % 4294967296) : y = ((BitVec.ofNat 32 x).toNat : Int) := by rw [h, toNat32]
theorem dig_any (a : Option Addr) (n c i : Nat) (l : List (BitVec 32)) (w : World) (hn : l.length = n) (hr : Rw w a l) :
    Calls Tryd.prog 45 #[.slice a n c, .int .i64 i] w fun e w' => e = .returned (.int .u64 (digD l i : Nat)) ∧ w = w' := by
  subst hn
  rcases Nat.lt_or_ge i l.length with h | h
  · obtain ⟨ad, rfl, hc⟩ := hr i h
    rw [digD_in _ _ h]
    go_enter Tryd.func45, Tryd.ntmps45
    go_wp2
    go_ret
    exact ⟨rfl, rfl⟩
  · rw [digD_out _ _ h]
    go_enter Tryd.func45, Tryd.ntmps45
    go_wp2
    go_ret
    exact ⟨rfl, rfl⟩
theorem two_len (x y : BitVec 32) : [x, y].length = 2 := rfl
theorem two_le (x y : BitVec 32) : [x, y].length ≤ 10000000 := by simp
theorem two_bv (n : Nat) (hn : n < 18446744073709551616) : #[Value.int IntKind.u32 ((n : Int) % 4294967296), Value.int IntKind.u32 ((n : Int) / 4294967296)].toList = bv32 [BitVec.ofNat 32 n, BitVec.ofNat 32 (n / 4294967296)] := by
  simp only [bv32, List.map_cons, List.map_nil, BitVec.toNat_ofNat]
  congr 1
  congr 1
  congr 1
  congr 1
  omega
def AddRel (w : World) (l m : List (BitVec 32)) (v c i : Value) (wr : World) : Prop := ∃ (k q : Nat) (out : List (BitVec 32)), k ≤ max l.length m.length ∧ i = .int .i64 k ∧ c = .int .u64 q ∧ q ≤ 1 ∧ Hid (out.length = k ∧ valD (l.take k) + valD (m.take k) = valD out + q * pw k) ∧ wr.ownsRow w.heap.size 39 1 v k (bv32 out) ∧ Below w.heap.size w wr
set_option maxRecDepth 50000 in
set_option maxHeartbeats 1000000 in
theorem radd_any (a b : Option Addr) (n c m d : Nat) (l k : List (BitVec 32)) (w : World) (hn : l.length = n) (hm : k.length = m) (hl : n ≤ 1000000) (hl2 : m ≤ 1000000) (hr : Rw w a l) (hs : Rw w b k) :
    Calls Tryd.prog 28 #[.slice a n c, .slice b m d] w (FrW w (canon (valD l + valD k))) := by
  subst hn hm
  go_enter Tryd.func28, Tryd.ntmps28
  go_wp2
  go_loopw [5, 6, 7] (fun v c i wr => AddRel w l k v c i wr) (fun _ _ i _ => max l.length k.length - (intOf i).toNat)
  case atStart => exact ⟨0, 0, [], Nat.zero_le _, rfl, rfl, by omega, ⟨rfl, by simp [valD_nil]⟩, fresh_row32 w, Below.alloc (Below.refl _ _) (Nat.le_refl _) _⟩
  case round =>
    obtain ⟨j, q, out, hj, rfl, rfl, hq, ho, hown, hb⟩ := hrel
    have hrb := hr.below hb
    have hsb := hs.below hb
    by_cases hlt : j < max l.length k.length
    · have e1 := digD_lt l j
      have e2 := digD_lt k j
      have hj2 : j + 1 ≤ 20000000 := by omega
      go_wp2_with (first
        | (go_at_call 45; (with_reducible refine (dig_any a _ _ j l _ rfl hrb).mono ?_); rintro e w2 ⟨rfl, rfl⟩)
        | (go_at_call 45; (with_reducible refine (dig_any b _ _ j k _ rfl hsb).mono ?_); rintro e w2 ⟨rfl, rfl⟩)
        | (at_builtin; refine wpList_snoc32 rfl _ _ rfl hown hb hj2 (BitVec.ofNat 32 (digD l j + digD k j + q)) (toNat32' (by omega)) rfl rfl ?_; intro v' w2 hown2 hb2))
      go_roundw
      case rel =>
        refine ⟨j + 1, (digD l j + digD k j + q) / 4294967296, out ++ [BitVec.ofNat 32 (digD l j + digD k j + q)], by omega, by go_num, by go_num, by omega, ⟨?_, ?_⟩, hown2, hb2⟩
        · rw [List.length_append, ho.out.1]; rfl
        · rw [valD_dig, valD_dig, valD_snoc, ho.out.1, BitVec.toNat_ofNat, pw_succ]
          exact add_num _ _ _ _ _ _ _ ho.out.2
      case measure => simp [intOf]; omega
    · have hj2 : j + 1 ≤ 20000000 := by omega
      go_wp2_with (first
        | (at_builtin; refine wpList_snoc32 rfl _ _ rfl hown hb hj2 (BitVec.ofNat 32 q) (toNat32' (by omega)) rfl rfl ?_; intro v' w2 hown2 hb2; obtain ⟨a2, c2, rfl⟩ := own_slice hown2)
        | (go_at_call 20; (with_reducible refine (norm_any _ _ _ (out ++ [BitVec.ofNat 32 q]) _ (snoc_len _ ho.out.1) (snoc_le _ ho.out.1 (by omega)) (Rw.of_own hown2)).mono ?_); rintro e w3 ⟨a3, c3, rfl, hown3, hb3⟩))
      all_goals
        go_ret
        refine FrW.eq (FrW.up ⟨a3, c3, rfl, hown3, hb3⟩ hb2) ?_
        rw [← canon_val]
        congr 1
        have e := ho.out.2
        rw [List.take_of_length_le (by omega), List.take_of_length_le (by omega)] at e
        rw [valD_snoc, ho.out.1, BitVec.toNat_ofNat, Nat.mod_eq_of_lt (by omega), e, Nat.mul_comm]
def TimRel (w : World) (l : List (BitVec 32)) (t : Nat) (v c i : Value) (wr : World) : Prop := ∃ (k q : Nat) (out : List (BitVec 32)), k ≤ l.length ∧ i = .int .i64 k ∧ c = .int .u64 q ∧ q < 4294967296 ∧ Hid (out.length = k ∧ valD (l.take k) * t = valD out + q * pw k) ∧ wr.ownsRow w.heap.size 39 1 v k (bv32 out) ∧ Below w.heap.size w wr
theorem tim_num (x t o c p a : Nat) (h : x * t = o + c * p) : (x + p * a) * t = (o + p * ((a * t + c) % 4294967296)) + ((a * t + c) / 4294967296) * (p * 4294967296) := by
  have h1 := congrArg (p * ·) (Nat.mod_add_div (a * t + c) 4294967296)
  simp only [Nat.mul_add] at h1
  grind
theorem mul_lt32 {x y : Nat} (hx : x < 4294967296) (hy : y < 4294967296) : x * y ≤ 18446744065119617025 := Nat.le_trans (Nat.mul_le_mul (Nat.le_of_lt_succ hx) (Nat.le_of_lt_succ hy)) (by decide)
set_option maxRecDepth 50000 in
set_option maxHeartbeats 1000000 in
theorem rtim_any (a : Option Addr) (n c : Nat) (l : List (BitVec 32)) (t : Nat) (w : World) (hn : l.length = n) (hl : n ≤ 1000000) (ht : t < 4294967296) (hr : Rw w a l) :
    Calls Tryd.prog 56 #[.slice a n c, .int .u64 t] w (FrW w (canon (valD l * t))) := by
  subst hn
  go_enter Tryd.func56, Tryd.ntmps56
  go_wp2
  go_loopw [5, 6, 7] (fun v c i wr => TimRel w l t v c i wr) (fun _ _ i _ => l.length - (intOf i).toNat)
  case atStart => exact ⟨0, 0, [], Nat.zero_le _, rfl, rfl, by omega, ⟨rfl, by simp [valD_nil]⟩, fresh_row32 w, Below.alloc (Below.refl _ _) (Nat.le_refl _) _⟩
  case round =>
    obtain ⟨j, q, out, hj, rfl, rfl, hq, ho, hown, hb⟩ := hrel
    have hrb := hr.below hb
    have hj2 : j + 1 ≤ 20000000 := by omega
    by_cases hlt : j < l.length
    · obtain ⟨ad, rfl, hc⟩ := hrb j hlt
      have e1 := l[j].isLt
      obtain ⟨x, hx⟩ : ∃ x, l[j].toNat = x := ⟨_, rfl⟩
      rw [hx] at hc e1
      have HX := Lib.hid hx
      clear hx
      have e2 := mul_lt32 e1 ht
      obtain ⟨y, hy⟩ : ∃ y, x * t = y := ⟨_, rfl⟩
      have hyi : (x : Int) * (t : Int) = (y : Int) := by rw [← hy]; simp
      have HY := Lib.hid hy
      rw [hy] at e2
      clear hy
      go_wp2_with (at_builtin; refine wpList_snoc32 rfl _ _ rfl hown hb hj2 (BitVec.ofNat 32 (y + q)) (toNat32' (by omega)) rfl rfl ?_; intro v' w2 hown2 hb2)
      go_roundw
      case rel =>
        refine ⟨j + 1, (y + q) / 4294967296, out ++ [BitVec.ofNat 32 (y + q)], by omega, by go_num, by go_num, by omega, ⟨?_, ?_⟩, hown2, hb2⟩
        · rw [List.length_append, ho.out.1]; rfl
        · rw [valD_take _ _ hlt, valD_snoc, ho.out.1, BitVec.toNat_ofNat, pw_succ, HX.out, ← HY.out]
          exact tim_num _ _ _ _ _ _ ho.out.2
      case measure => simp [intOf]; omega
    · go_wp2_with (first
        | (at_builtin; refine wpList_snoc32 rfl _ _ rfl hown hb hj2 (BitVec.ofNat 32 q) (toNat32' (by omega)) rfl rfl ?_; intro v' w2 hown2 hb2; obtain ⟨a2, c2, rfl⟩ := own_slice hown2)
        | (go_at_call 20; (with_reducible refine (norm_any _ _ _ (out ++ [BitVec.ofNat 32 q]) _ (snoc_len _ ho.out.1) (snoc_le _ ho.out.1 (by omega)) (Rw.of_own hown2)).mono ?_); rintro e w3 ⟨a3, c3, rfl, hown3, hb3⟩))
      go_ret
      refine FrW.eq (FrW.up ⟨a3, c3, rfl, hown3, hb3⟩ hb2) ?_
      rw [← canon_val]
      congr 1
      have e := ho.out.2
      rw [List.take_of_length_le (by omega)] at e
      rw [valD_snoc, ho.out.1, BitVec.toNat_ofNat, Nat.mod_eq_of_lt (by omega), e, Nat.mul_comm]
def cmpN (x y : Nat) : Int := if x < y then -1 else if y < x then 1 else 0
theorem cmpN_lt {x y : Nat} (h : x < y) : cmpN x y = -1 := by simp [cmpN, h]
theorem cmpN_gt {x y : Nat} (h : y < x) : cmpN x y = 1 := by simp [cmpN, h, show ¬ x < y by omega]
theorem cmpN_eq (x : Nat) : cmpN x x = 0 := by simp [cmpN]
theorem drop_dig (l : List (BitVec 32)) (k : Nat) : valD (l.drop k) = digD l k + 4294967296 * valD (l.drop (k + 1)) := by
  rcases Nat.lt_or_ge k l.length with h | h
  · rw [List.drop_eq_getElem_cons h, valD_cons, digD_in _ _ h]
  · rw [digD_out _ _ h, List.drop_eq_nil_of_le h, List.drop_eq_nil_of_le (by omega)]; rfl
theorem dig_split (l : List (BitVec 32)) (k : Nat) : valD l = valD (l.take k) + pw k * valD (l.drop k) := by
  rcases Nat.lt_or_ge k l.length with h | h
  · exact valD_split l k (by omega)
  · rw [List.drop_eq_nil_of_le h, List.take_of_length_le h, valD_nil]; omega
theorem dig_cmp (l m : List (BitVec 32)) (i : Nat) (h : valD (l.drop (i + 1)) = valD (m.drop (i + 1))) (hlt : digD l i < digD m i) : valD l < valD m := by
  have h1 := dig_split l (i + 1)
  have h2 := dig_split m (i + 1)
  rw [valD_dig, h] at h1
  rw [valD_dig] at h2
  have h3 := valD_lt (l.take i)
  have h5 : pw (l.take i).length ≤ pw i := pw_mono (by rw [List.length_take]; omega)
  have h4 : pw i * (digD l i + 1) ≤ pw i * digD m i := Nat.mul_le_mul_left _ (by omega)
  rw [Nat.mul_add] at h4
  omega
def CmpRel (l k : List (BitVec 32)) (M : Nat) (i : Value) : Prop := (∃ p : Nat, p < M ∧ i = .int .i64 p ∧ valD (l.drop (p + 1)) = valD (k.drop (p + 1))) ∨ (i = .int .i64 (-1) ∧ valD l = valD k)
set_option maxRecDepth 50000 in
set_option maxHeartbeats 1000000 in
theorem rcmp_any (a b : Option Addr) (n c m d : Nat) (l k : List (BitVec 32)) (w : World) (hn : l.length = n) (hm : k.length = m) (hl : n ≤ 1000000) (hl2 : m ≤ 1000000) (hr : Rw w a l) (hs : Rw w b k) :
    Calls Tryd.prog 22 #[.slice a n c, .slice b m d] w fun e w' => e = .returned (.int .i64 (cmpN (valD l) (valD k))) ∧ w = w' := by
  subst hn hm
  obtain ⟨M, hM, hM1, hM2, hM3⟩ : ∃ M : Nat, (if (l.length : Nat) < k.length then (k.length : Int) else (l.length : Int)) = (M : Int) ∧ l.length ≤ M ∧ k.length ≤ M ∧ M ≤ 1000000 := ⟨max l.length k.length, by split <;> omega, by omega, by omega, by omega⟩
  have hMx : max (l.length : Int) (k.length : Int) = (M : Int) := by rw [← hM]; split <;> omega
  go_enter Tryd.func22, Tryd.ntmps22
  go_wp2
  go_loop [5] (fun i => CmpRel l k M i) (fun i => (intOf i + 1).toNat)
  case atStart =>
    rcases Nat.eq_zero_or_pos M with rfl | h
    · exact .inr ⟨rfl, by rw [List.length_eq_zero_iff.1 (show l.length = 0 by omega), List.length_eq_zero_iff.1 (show k.length = 0 by omega)]⟩
    · exact .inl ⟨M - 1, by omega, by go_num, by rw [show M - 1 + 1 = M by omega, List.drop_eq_nil_of_le hM1, List.drop_eq_nil_of_le hM2]⟩
  case round =>
    rcases hrel with ⟨p, hp, rfl, hd⟩ | ⟨rfl, hv⟩
    · have HD := Lib.hid hd
      clear hd
      have CL : ∀ W : World, W = w → Calls Tryd.prog 45 #[.slice a l.length c, .int .i64 p] W fun e w' => e = .returned (.int .u64 (digD l p : Nat)) ∧ W = w' := fun W h => by subst h; exact dig_any a _ _ p l _ rfl hr
      rcases Nat.lt_trichotomy (digD l p) (digD k p) with h | h | h
      · have hres := Lib.hid (cmpN_lt (dig_cmp l k p HD.out h))
        go_wp2_with (first
          | (go_at_call 45; (with_reducible refine (dig_any a _ _ p l _ rfl hr).mono ?_); rintro e w2 ⟨rfl, rfl⟩)
          | (go_at_call 45; (with_reducible refine (dig_any b _ _ p k _ rfl hs).mono ?_); rintro e w2 ⟨rfl, rfl⟩))
        go_ret
        exact ⟨by rw [hres.out]; rfl, rfl⟩
      · have HE := Lib.hid h
        obtain ⟨x, hx⟩ : ∃ x, digD l p = x := ⟨_, rfl⟩
        have h1 : ∀ W : World, W = w → Calls Tryd.prog 45 #[.slice a l.length c, .int .i64 p] W fun e w' => e = .returned (.int .u64 (x : Nat)) ∧ W = w' := fun W h2 => by subst h2; rw [← hx]; exact dig_any a _ _ p l _ rfl hr
        have h2 : ∀ W : World, W = w → Calls Tryd.prog 45 #[.slice b k.length d, .int .i64 p] W fun e w' => e = .returned (.int .u64 (x : Nat)) ∧ W = w' := fun W h2 => by subst h2; rw [← hx, h]; exact dig_any b _ _ p k _ rfl hs
        have H1 := Lib.hid h1
        have H2 := Lib.hid h2
        clear h1 h2 hx h CL
        go_wp2_with (first
          | (go_at_call 45; (with_reducible refine (H1.out _ rfl).mono ?_); rintro e w2 ⟨rfl, rfl⟩)
          | (go_at_call 45; (with_reducible refine (H2.out _ rfl).mono ?_); rintro e w2 ⟨rfl, rfl⟩))
        go_round
        case rel =>
          have he : valD (l.drop p) = valD (k.drop p) := by rw [drop_dig l p, drop_dig k p, HE.out, HD.out]
          rcases Nat.eq_zero_or_pos p with rfl | h
          · exact .inr ⟨rfl, by simpa using he⟩
          · exact .inl ⟨p - 1, by omega, by go_num, by rw [show p - 1 + 1 = p by omega]; exact he⟩
        case measure => simp [intOf] <;> omega
      · have hres := Lib.hid (cmpN_gt (dig_cmp k l p HD.out.symm h))
        go_wp2_with (first
          | (go_at_call 45; (with_reducible refine (dig_any a _ _ p l _ rfl hr).mono ?_); rintro e w2 ⟨rfl, rfl⟩)
          | (go_at_call 45; (with_reducible refine (dig_any b _ _ p k _ rfl hs).mono ?_); rintro e w2 ⟨rfl, rfl⟩))
        go_ret
        exact ⟨by rw [hres.out]; rfl, rfl⟩
    · have hres := Lib.hid (show cmpN (valD l) (valD k) = 0 by rw [hv, cmpN_eq])
      clear hv
      go_wp2
      go_ret
      exact ⟨by rw [hres.out]; rfl, rfl⟩
end Go.Proofs.YtbnialhpflaoaaaDoor
