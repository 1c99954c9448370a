
import Derived.Test.YtcofiekfhnfjpaaDoorU2
import Derived.Laws.BitsAllLaws
import Derived.Deep.RegionHeld3
/- P1 -/
namespace Go.Proofs.YtcofiekfhnfjpaaDoor
open Go.RowKit
set_option linter.unusedVariables false
set_option linter.unusedSimpArgs false
theorem Rw.trim {w : World} {a : Option Addr} {l : List (BitVec 32)} (h : Rw w a l) : Rw w a (trimD l) := by
  rw [trim_prefix]
  exact h.take _
set_option maxRecDepth 50000 in
theorem trim_any (a : Option Addr) (n c : Nat) (l : List (BitVec 32)) (w : World) (hn : l.length = n) (hc : n ≤ c) (hl : l.length ≤ 140737488355328) (hr : Rw w a l) :
    Calls Tryd.prog 47 #[.slice a n c] w fun e w' => e = .returned (.slice a (trimD l).length c) ∧ w = w' := by
  subst hn
  go_enter Tryd.func47, Tryd.ntmps47
  go_wp2
  go_loop [0] (fun s => ∃ k : Nat, k ≤ l.length ∧ s = .slice a k c ∧ Hid (trimD (l.take k) = trimD l)) (fun s => match s with | .slice _ k _ => k | _ => 0)
  case atStart => exact ⟨l.length, Nat.le_refl _, rfl, by rw [List.take_length]; exact rfl⟩
  case round =>
    obtain ⟨k, hk, rfl, ht⟩ := hrel
    by_cases hz : 0 < k ∧ l[k - 1]? = some 0#32
    · obtain ⟨hk0, hz⟩ := hz
      obtain ⟨hk1, hz⟩ := List.getElem?_eq_some_iff.1 hz
      obtain ⟨ad, rfl, hcl⟩ := hr (k - 1) hk1
      rw [hz] at hcl
      have HZ := Lib.hid hz
      clear hz
      go_wp2
      go_round
      case rel => exact ⟨k - 1, by omega, by first | rfl | (congr 1; omega), by refine trim_step l (k - 1) hk1 ?_ HZ.out; rw [show k - 1 + 1 = k by omega]; exact ht.out⟩
      case measure => simp <;> omega
    · have hx : Hid (trimD l = l.take k) := by
        refine trim_take l k hk ht.out ?_
        rcases Nat.eq_zero_or_pos k with h | h
        · exact .inl h
        · exact .inr ⟨by omega, fun e => hz ⟨h, by rw [List.getElem?_eq_getElem (by omega), e]⟩⟩
      have hlen : Hid ((trimD l).length = k) := by
        show _ = _
        rw [hx.out, List.length_take]; omega
      have hcase : k = 0 ∨ (0 < k ∧ ∃ ad d, a = some ad ∧ w.cell? (ad.add (k - 1)) = some (.int .u32 d) ∧ (d == 0) = false) := by
        rcases Nat.eq_zero_or_pos k with h | hp
        · exact .inl h
        · obtain ⟨ad, e, hc2⟩ := hr (k - 1) (by omega)
          refine .inr ⟨hp, ad, _, e, hc2, ?_⟩
          rw [beq_eq_false_iff_ne]
          intro h
          refine hz ⟨hp, ?_⟩
          rw [List.getElem?_eq_getElem (by omega)]
          exact congrArg some (BitVec.eq_of_toNat_eq (by simpa using h))
      clear hz ht
      rcases hcase with rfl | ⟨hp, ad, d, rfl, hc2, hd⟩
      · go_wp2
        go_ret
        exact ⟨by rw [hlen.out]; rfl, rfl⟩
      · go_wp2
        go_ret
        exact ⟨by rw [hlen.out]; rfl, rfl⟩
theorem clone32_nil (c : Nat) (w : World) : Calls Tryd.prog 54 #[.slice none 0 c] w fun e w' => e = .returned (.slice none 0 0) ∧ w = w' := by
  have he := fun w => Lib.run_eql_slice_nil (P := Tryd.prog) w 22 32 none 0 c 0 0 Tryd.underlying22
  go_enter Tryd.func54, Tryd.ntmps54
  go_wp2
  go_ret
  exact ⟨rfl, rfl⟩
theorem clone32_some (ad : Addr) (n c : Nat) (l : List (BitVec 32)) (w : World) (hn : l.length = n) (hl : l.length ≤ 10000000) (hr : Rw w (some ad) l) :
    Calls Tryd.prog 54 #[.slice (some ad) n c] w (FrW w l) := by
  subst hn
  obtain ⟨i0, hi, hz0, hz1, hz2⟩ := info_parts info32
  have hown := fresh_row32 w
  have hb : Below w.heap.size w (w.alloc (.cells #[] 32)) := Below.alloc (Below.refl _ _) (Nat.le_refl _) _
  have he := fun w => Lib.run_eql_slice_nil (P := Tryd.prog) w 22 32 (some ad) l.length c 0 0 Tryd.underlying22
  go_enter Tryd.func54, Tryd.ntmps54
  go_wp2_with (at_builtin; refine wpList_append_rd _ rfl _ _ _ rfl w.heap.size 32 i0 (.int .u32 0) 4 Tryd.underlying22 hi hz0 hz1 hz2 rfl _ _ _ rfl hown (some ad) l.length c (bv32 l) rfl (bv32_len _) ((hr.below hb).vals) (bv32_one _) (by unfold maxLen; omega) (by omega) hb.size ?_; intro v' w2 hown3 hg3 _)
  rw [Nat.zero_add, List.nil_append] at hown3
  obtain ⟨a', c', rfl⟩ := own_slice hown3
  go_ret
  exact ⟨a', c', rfl, hown3, hb.grown hg3 hb.size (fun q hq => by cases hq; exact Nat.le_refl _)⟩
theorem clone32_any (a : Option Addr) (n c : Nat) (l : List (BitVec 32)) (w : World) (hn : l.length = n) (hl : l.length ≤ 10000000) (hr : Rw w a l) :
    Calls Tryd.prog 54 #[.slice a n c] w (FrW w l) := by
  rcases a with _ | ad
  · have : l = [] := by
      rcases l with _ | ⟨x, l⟩
      · rfl
      · obtain ⟨_, e, _⟩ := hr 0 (by simp)
        cases e
    subst this
    subst hn
    refine (clone32_nil c w).mono ?_
    rintro e w' ⟨rfl, rfl⟩
    exact ⟨none, 0, rfl, World.ownsRow_nil _ _ _ _, Below.refl _ _⟩
  · exact clone32_some ad n c l w hn hl hr
theorem nnorm_any (a : Option Addr) (n c : Nat) (l : List (BitVec 32)) (w : World) (hn : l.length = n) (hc : n ≤ c) (hl : l.length ≤ 1000000) (hr : Rw w a l) :
    Calls Tryd.prog 49 #[.slice a n c] w (FrW w (trimD l)) := by
  subst hn
  have htl := trim_len_le l
  go_enter Tryd.func49, Tryd.ntmps49
  go_wp2_with (first
    | (go_at_call 47; (with_reducible refine (trim_any _ _ _ l _ rfl hc (by omega) hr).mono ?_); rintro e w1 ⟨rfl, rfl⟩)
    | (go_at_call 54; (with_reducible refine (clone32_any _ _ _ (trimD l) _ rfl (by omega) hr.trim).mono ?_); rintro e w1 ⟨a1, c1, rfl, hown1, hb1⟩))
  go_ret
  exact ⟨a1, c1, rfl, hown1, hb1⟩
theorem sign_any (b : Bool) (w : World) : Calls Tryd.prog 48 #[.bool b] w fun e w' => e = .returned (.int .i64 (if b then 1 else -1)) ∧ w' = w := by
  cases b
  · go_enter Tryd.func48, Tryd.ntmps48
    go_wp2
    go_ret
    exact ⟨rfl, rfl⟩
  · go_enter Tryd.func48, Tryd.ntmps48
    go_wp2
    go_ret
    exact ⟨rfl, rfl⟩
theorem quiet_two {P : Program} {f : FuncId} {args : Array Value} {v : Value} (h : ∀ W : World, Calls P f args W fun e w' => e = .returned v ∧ w' = W) {w : World} {a n : Nat} : Calls P f args (w.drewN (a + n)) fun e w'' => e = .returned v ∧ ∃ m, w'' = w.drewN (a + m) := (h _).mono fun _ _ hh => ⟨hh.1, n, hh.2⟩
theorem quiet_three {P : Program} {f : FuncId} {args : Array Value} {v : Value} (h : ∀ W : World, Calls P f args W fun e w' => e = .returned v ∧ w' = W) {w : World} {a b n : Nat} : Calls P f args (w.drewN (a + (b + n))) fun e w'' => e = .returned v ∧ ∃ m, w'' = w.drewN (a + (b + m)) := (h _).mono fun _ _ hh => ⟨hh.1, n, hh.2⟩
def NcRel (l k : List (BitVec 32)) (w : World) (i : Value) (wr : World) : Prop := ((∃ p : Nat, p < l.length ∧ i = .int .i64 p ∧ Hid (valD (l.drop (p + 1)) = valD (k.drop (p + 1)))) ∨ (i = .int .i64 (-1) ∧ Hid (valD l = valD k))) ∧ ∃ n, wr = w.drewN n
set_option maxRecDepth 50000 in
set_option maxHeartbeats 1000000 in
theorem ncmp_any (a b : Option Addr) (n c m d : Nat) (l k : List (BitVec 32)) (w : World) (hn : l.length = n) (hm : k.length = m) (hnc : n ≤ c) (hmd : m ≤ d) (hl : n ≤ 1000000) (hl2 : m ≤ 1000000) (hr : Rw w a l) (hs : Rw w b k) :
    Calls Tryd.prog 28 #[.slice a n c, .slice b m d] w fun e w' => e = .returned (.int .i64 (cmpN (valD l) (valD k))) ∧ ∃ n, w' = w.drewN n := by
  subst hn hm
  have e1 := valD_trim l
  have e2 := valD_trim k
  have t1 : trimD (trimD l) = trimD l := by rw [← canon_val l, trim_canon]
  have t2 : trimD (trimD k) = trimD k := by rw [← canon_val k, trim_canon]
  have f1 := trim_len_le l
  have f2 := trim_len_le k
  have hrt := hr.trim
  have hst := hs.trim
  rw [← e1, ← e2]
  clear e1 e2
  have T1 : ∀ W, Rw W a l → Calls Tryd.prog 47 #[.slice a l.length c] W fun e w' => e = .returned (.slice a (trimD l).length c) ∧ W = w' := fun W h => trim_any a _ c l W rfl hnc (by omega) h
  have T2 : ∀ W, Rw W b k → Calls Tryd.prog 47 #[.slice b k.length d] W fun e w' => e = .returned (.slice b (trimD k).length d) ∧ W = w' := fun W h => trim_any b _ d k W rfl hmd (by omega) h
  have H1 := Lib.hid (T1 w hr)
  have H2 := Lib.hid (T2 w hs)
  clear T1 T2 hr hs
  generalize trimD l = lt at *
  generalize trimD k = kt at *
  rcases Nat.lt_trichotomy lt.length kt.length with h | h | h
  · have hres := Lib.hid (cmpN_lt (valD_len_lt lt kt t2 h))
    have h1 : ((lt.length : Int) != (kt.length : Int)) = true := by simp; omega
    have h2 : ((lt.length : Int) == (kt.length : Int)) = false := by simp; omega
    have h3 : decide ((kt.length : Int) < (lt.length : Int)) = false := by rw [decide_eq_false_iff_not]; omega
    have h4 : decide (kt.length < lt.length) = false := by rw [decide_eq_false_iff_not]; omega
    clear t1 t2
    go_enter Tryd.func28, Tryd.ntmps28
    go_wp2_with (first
      | (go_at_call 47; (with_reducible refine H1.out.mono ?_); rintro e w1 ⟨rfl, rfl⟩)
      | (go_at_call 47; (with_reducible refine H2.out.mono ?_); rintro e w1 ⟨rfl, rfl⟩)
      | (go_at_call 48; (with_reducible refine (sign_any false _).mono ?_); rintro e w1 ⟨rfl, rfl⟩))
    go_ret
    exact ⟨by rw [hres.out]; rfl, 0, rfl⟩
  · have hl2' : kt.length = lt.length := h.symm
    have h1 : ((lt.length : Int) != (lt.length : Int)) = false := by simp
    have HLEN := Lib.hid hl2'
    rw [hl2'] at H2
    clear hl2' h t1 t2
    go_enter Tryd.func28, Tryd.ntmps28
    go_wp2_with (first
      | (go_at_call 47; (with_reducible refine H1.out.mono ?_); rintro e w1 ⟨rfl, rfl⟩)
      | (go_at_call 47; (with_reducible refine H2.out.mono ?_); rintro e w1 ⟨rfl, rfl⟩))
    go_loopw [5] (fun i wr => NcRel lt kt w i wr) (fun i _ => (intOf i + 1).toNat)
    case atStart =>
      refine ⟨?_, 0, rfl⟩
      rcases Nat.eq_zero_or_pos lt.length with h0 | h0
      · exact .inr ⟨by rw [h0]; rfl, by rw [List.length_eq_zero_iff.1 h0, List.length_eq_zero_iff.1 (HLEN.out.trans h0)]; exact rfl⟩
      · refine .inl ⟨lt.length - 1, by omega, by go_num, ?_⟩
        show _ = _
        rw [show lt.length - 1 + 1 = lt.length by omega, List.drop_eq_nil_of_le (Nat.le_refl _), List.drop_eq_nil_of_le (by rw [HLEN.out]; exact Nat.le_refl _)]
    case round =>
      obtain ⟨hp, nn, rfl⟩ := hrel
      rcases hp with ⟨p, hp, rfl, HD⟩ | ⟨rfl, HV⟩
      · obtain ⟨ad, rfl, hc1⟩ := hrt p hp
        obtain ⟨bd, rfl, hc2⟩ := hst p (by have := HLEN.out; omega)
        have hpk : Hid (p < kt.length) := show p < kt.length by have := HLEN.out; omega
        obtain ⟨x, hx⟩ : ∃ x, lt[p].toNat = x := ⟨_, rfl⟩
        obtain ⟨y, hy⟩ : ∃ y, (kt[p]'hpk.out).toNat = y := ⟨_, rfl⟩
        rw [hx] at hc1
        rw [hy] at hc2
        have HX : Hid (digD lt p = x ∧ digD kt p = y) := ⟨by rw [digD_in _ _ hp, hx], by rw [digD_in _ _ hpk.out, hy]⟩
        clear hx hy
        rcases Nat.lt_trichotomy x y with h | h | h
        · have hres := Lib.hid (cmpN_lt (dig_cmp lt kt p HD.out (by rw [HX.out.1, HX.out.2]; exact h)))
          have g1 : ((x : Int) != (y : Int)) = true := by simp; omega
          have g2 : ((x : Int) == (y : Int)) = false := by simp; omega
          have g3 : decide ((y : Int) < (x : Int)) = false := by rw [decide_eq_false_iff_not]; omega
          have g4 : decide (y < x) = false := by rw [decide_eq_false_iff_not]; omega
          go_wp2
          go_quiet (fail)
          go_wp2
          go_quiet ((go_at_call 48; first | with_reducible exact quiet_two (sign_any false) | with_reducible exact quiet_three (sign_any false) | (trace_state; fail)))
          go_wp2
          go_ret
          exact ⟨by rw [hres.out]; rfl, _, rfl⟩
        · have HE := Lib.hid h
          subst h
          have g1 : ((x : Int) != (x : Int)) = false := by simp
          go_wp2
          go_quiet (fail)
          go_wp2
          go_roundw
          case rel =>
            have he : valD (lt.drop p) = valD (kt.drop p) := by rw [drop_dig lt p, drop_dig kt p, HX.out.1, HX.out.2, HD.out]
            refine ⟨?_, _, rfl⟩
            rcases Nat.eq_zero_or_pos p with rfl | h
            · exact .inr ⟨rfl, show _ = _ by simpa using he⟩
            · refine .inl ⟨p - 1, by omega, by go_num, ?_⟩
              show _ = _
              rw [show p - 1 + 1 = p by omega]; exact he
          case measure => simp [intOf] <;> omega
        · have hres := Lib.hid (cmpN_gt (dig_cmp kt lt p HD.out.symm (by rw [HX.out.1, HX.out.2]; exact h)))
          have g1 : ((x : Int) != (y : Int)) = true := by simp; omega
          have g2 : ((x : Int) == (y : Int)) = false := by simp; omega
          have g3 : decide ((y : Int) < (x : Int)) = true := by rw [decide_eq_true_iff]; omega
          have g4 : decide (y < x) = true := by rw [decide_eq_true_iff]; omega
          go_wp2
          go_quiet (fail)
          go_wp2
          go_quiet ((go_at_call 48; first | with_reducible exact quiet_two (sign_any true) | with_reducible exact quiet_three (sign_any true) | (trace_state; fail)))
          go_wp2
          go_ret
          exact ⟨by rw [hres.out]; rfl, _, by first | rfl | (rw [World.drewN_drewN, World.drewN_drewN])⟩
      · have hres := Lib.hid (show cmpN (valD lt) (valD kt) = 0 by rw [HV.out, cmpN_eq])
        go_wp2
        go_ret
        exact ⟨by rw [hres.out]; rfl, _, rfl⟩
  · have hres := Lib.hid (cmpN_gt (valD_len_lt kt lt t1 h))
    have h1 : ((lt.length : Int) != (kt.length : Int)) = true := by simp; omega
    have h2 : ((lt.length : Int) == (kt.length : Int)) = false := by simp; omega
    have h3 : decide ((kt.length : Int) < (lt.length : Int)) = true := by rw [decide_eq_true_iff]; omega
    have h4 : decide (kt.length < lt.length) = true := by rw [decide_eq_true_iff]; omega
    clear t1 t2
    go_enter Tryd.func28, Tryd.ntmps28
    go_wp2_with (first
      | (go_at_call 47; (with_reducible refine H1.out.mono ?_); rintro e w1 ⟨rfl, rfl⟩)
      | (go_at_call 47; (with_reducible refine H2.out.mono ?_); rintro e w1 ⟨rfl, rfl⟩)
      | (go_at_call 48; (with_reducible refine (sign_any true _).mono ?_); rintro e w1 ⟨rfl, rfl⟩))
    go_ret
    exact ⟨by rw [hres.out]; rfl, 0, rfl⟩
theorem or_num (y x : Nat) (hy : y < 4294967296) (hx : x < 4294967296) : (bits .or .u64 ((y : Int) * 4294967296) (x : Int)) = ((y * 4294967296 + x : Nat) : Int) := by
  rw [show ((y : Int) * 4294967296) = ((y * 4294967296 : Nat) : Int) by omega, u64_or_nat _ _ (by omega) (by omega), nat_join 32 _ _ (by omega) (by omega)]
set_option maxRecDepth 50000 in
theorem nfrom_any (n : Nat) (hn : n < 18446744073709551616) (w : World) : Calls Tryd.prog 42 #[.int .u64 n] w (FrW w (canon n)) := by
  rcases Nat.eq_zero_or_pos n with rfl | h0
  · rw [canon_zero]
    go_enter Tryd.func42, Tryd.ntmps42
    go_wp2
    go_ret
    exact ⟨none, 0, rfl, World.ownsRow_nil _ _ _ _, Below.refl _ _⟩
  · have hne : ((n : Int) == 0) = false := by rw [beq_eq_false_iff_ne]; omega
    by_cases h1 : n ≤ 4294967295
    · have hv : Hid (canon n = [BitVec.ofNat 32 n]) := by
        show _ = _
        rw [canon_pos (by omega), show n / 4294967296 = 0 by omega, canon_zero]
      have hrow := own_made w #[Value.int .u32 (n : Int)] 32 1 rfl (by unfold maxLen; omega)
      have hb := Below.alloc (Below.refl w.heap.size w) (Nat.le_refl _) (.cells #[Value.int .u32 (n : Int)] 32)
      go_enter Tryd.func42, Tryd.ntmps42
      go_wp2
      go_ret
      refine FrW.eq (l := [BitVec.ofNat 32 n]) ⟨_, _, rfl, ?_, hb⟩ hv.out.symm
      rw [show bv32 [BitVec.ofNat 32 n] = [Value.int .u32 (n : Int)] by simp only [bv32, List.map_cons, List.map_nil]; rw [toNat32]; congr 2; omega]
      exact hrow
    · have hv : Hid (canon n = [BitVec.ofNat 32 n, BitVec.ofNat 32 (n / 4294967296)]) := by
        show _ = _
        rw [canon_pos (by omega), canon_pos (by omega), show n / 4294967296 / 4294967296 = 0 by omega, canon_zero]
      have hrow := own_made w #[Value.int IntKind.u32 ((n : Int) % 4294967296), Value.int IntKind.u32 ((n : Int) / 4294967296)] 32 2 rfl (by unfold maxLen; omega)
      have hb := Below.alloc (Below.refl w.heap.size w) (Nat.le_refl _) (.cells #[Value.int IntKind.u32 ((n : Int) % 4294967296), Value.int IntKind.u32 ((n : Int) / 4294967296)] 32)
      go_enter Tryd.func42, Tryd.ntmps42
      go_wp2
      go_ret
      refine FrW.eq (l := [BitVec.ofNat 32 n, BitVec.ofNat 32 (n / 4294967296)]) ⟨_, _, rfl, ?_, hb⟩ hv.out.symm
      have e2 := two_bv n hn
      exact e2 ▸ hrow
theorem to64_small (a : Option Addr) (n c : Nat) (l : List (BitVec 32)) (w : World) (hn : l.length = n) (h2 : n ≤ 2) (hr : Rw w a l) :
    Calls Tryd.prog 55 #[.slice a n c] w fun e w' => e = .returned (.tuple #[.int .u64 (valD l : Nat), .bool true]) ∧ ∃ k, w' = w.drewN k := by
  subst hn
  match l, h2, hr with
  | [], _, hr =>
    go_enter Tryd.func55, Tryd.ntmps55
    go_wp2
    go_ret2
    exact ⟨rfl, 0, rfl⟩
  | [x], _, hr =>
    obtain ⟨ad, rfl, hc⟩ := hr 0 (by simp)
    simp only [List.length_cons, List.length_nil, List.getElem_cons_zero] at hc ⊢
    simp [Addr.add] at hc
    go_enter Tryd.func55, Tryd.ntmps55
    go_wp2
    go_ret2
    exact ⟨by simp [valD_cons, valD_nil], 0, rfl⟩
  | [x, y], _, hr =>
    obtain ⟨ad, rfl, hc⟩ := hr 0 (by simp)
    obtain ⟨ad', e, hc2⟩ := hr 1 (by simp)
    cases e
    simp only [List.length_cons, List.length_nil, List.getElem_cons_zero, List.getElem_cons_succ] at hc hc2 ⊢
    simp [Addr.add] at hc hc2
    go_enter Tryd.func55, Tryd.ntmps55
    go_wp2
    go_quiet (fail)
    go_wp2
    go_ret2
    refine ⟨?_, _, rfl⟩
    rw [show (valD [x, y] : Int) = ((y.toNat * 4294967296 + x.toNat : Nat) : Int) by simp only [valD_cons, valD_nil]; omega, ← or_num _ _ y.isLt x.isLt]
    rfl
end Go.Proofs.YtcofiekfhnfjpaaDoor

/- P2 -/
namespace Go.Proofs.YtcofiekfhnfjpaaDoor
open Go.RowKit
set_option linter.unusedVariables false
set_option linter.unusedSimpArgs false
theorem take_set32 (Q : List (BitVec 32)) (p : Nat) (d : BitVec 32) (h : p < Q.length) : (Q.set p d).take (p + 1) = Q.take p ++ [d] := by
  rw [List.take_succ_eq_append_getElem (by rw [List.length_set]; exact h), List.getElem_set_self, List.take_set_of_le (Nat.le_refl _)]
theorem valD_set_take (Q : List (BitVec 32)) (p : Nat) (d : BitVec 32) (h : p < Q.length) : valD ((Q.set p d).take (p + 1)) = valD (Q.take p) + pw p * d.toNat := by
  rw [take_set32 Q p d h, valD_snoc, List.length_take, Nat.min_eq_left (Nat.le_of_lt h)]
def NaR (w : World) (X Y : List (BitVec 32)) (g cp : Nat) (c i : Value) (wr : World) : Prop := ∃ (p q : Nat) (Q : List (BitVec 32)), p ≤ X.length ∧ i = .int .i64 p ∧ c = .int .u64 q ∧ q < 4294967296 ∧
  Hid (Q.length = X.length + 1 ∧ valD (X.take p) + valD (Y.take p) = valD (Q.take p) + q * pw p) ∧
  wr.ownsRow w.heap.size 32 1 (.slice (some ⟨g, 0, none⟩) (X.length + 1) cp) (X.length + 1) (bv32 Q) ∧ Below w.heap.size w wr
set_option maxRecDepth 50000 in
set_option maxHeartbeats 2000000 in
theorem nadd_any (a b : Option Addr) (n c m d : Nat) (l k : List (BitVec 32)) (w : World) (hn : l.length = n) (hm : k.length = m) (hnc : n ≤ c) (hmd : m ≤ d) (hl : n ≤ 1000000) (hl2 : m ≤ 1000000) (hr : Rw w a l) (hs : Rw w b k) :
    Calls Tryd.prog 31 #[.slice a n c, .slice b m d] w (FrR w (canon (valD l + valD k))) := by
  subst hn hm
  have f1 := trim_len_le l
  have f2 := trim_len_le k
  have hrt := hr.trim
  have hst := hs.trim
  rw [← valD_trim l, ← valD_trim k]
  have T1 : ∀ W, Rw W a l → Calls Tryd.prog 47 #[.slice a l.length c] W fun e w' => e = .returned (.slice a (trimD l).length c) ∧ W = w' := fun W h => trim_any a _ c l W rfl hnc (by omega) h
  have T2 : ∀ W, Rw W b k → Calls Tryd.prog 47 #[.slice b k.length d] W fun e w' => e = .returned (.slice b (trimD k).length d) ∧ W = w' := fun W h => trim_any b _ d k W rfl hmd (by omega) h
  have H1 := Lib.hid (T1 w hr)
  have H2 := Lib.hid (T2 w hs)
  clear T1 T2 hr hs
  generalize trimD l = lt at *
  generalize trimD k = kt at *
  by_cases hsw : lt.length < kt.length
  · have hsw1 : decide ((lt.length : Int) < (kt.length : Int)) = true := by rw [decide_eq_true_iff]; omega
    rw [Nat.add_comm (valD lt)]
    have hmk := run_make_row' (P := Tryd.prog) 22 32 (.int .u32 0) 4 Tryd.underlying22 info32 rfl .i64 .i64 (kt.length + 1) (by omega) (by omega)
    have hcast : ((kt.length + 1 : Nat) : Int) = (kt.length : Int) + 1 := by omega
    rw [hcast] at hmk
    clear hcast
    go_enter Tryd.func31, Tryd.ntmps31
    go_wp2_with (first
      | (go_at_call 47; (with_reducible refine H1.out.mono ?_); rintro e w1 ⟨rfl, rfl⟩)
      | (go_at_call 47; (with_reducible refine H2.out.mono ?_); rintro e w1 ⟨rfl, rfl⟩))
    go_loopw [6, 7, 25] (fun c _ i wr => NaR w kt lt w.heap.size (kt.length + 1) c i wr) (fun _ _ i _ => kt.length - (intOf i).toNat)
    case atStart => exact ⟨0, 0, zer (kt.length + 1), Nat.zero_le _, rfl, rfl, by omega, ⟨by simp [zer], by simp [valD_nil]⟩, made32 w _ (by omega), Below.alloc (Below.refl _ _) (Nat.le_refl _) _⟩
    case round =>
      obtain ⟨p, q, Q, hp, rfl, rfl, hq, ho, hown, hb⟩ := hrel
      have hrX := hst.below hb
      have hrY := hrt.below hb
      have hQl := ho.out.1
      by_cases hlt : p < kt.length
      · obtain ⟨ad, rfl, hc1⟩ := hrX p hlt
        have hpq : p < Q.length := by omega
        obtain ⟨z, hz⟩ : ∃ z, Q[p] = z := ⟨_, rfl⟩
        have hc3 := own_cell hown p (.int .u32 (z.toNat : Int)) (by simp [bv32, hpq, hz])
        have hf3 := hown.frozenAt p
        obtain ⟨x, hx⟩ : ∃ x, kt[p].toNat = x := ⟨_, rfl⟩
        have e1 := kt[p].isLt
        rw [hx] at hc1 e1
        have HX : Hid (digD kt p = x) := by show _ = _; rw [digD_in _ _ hlt, hx]
        have HQ := Lib.hid hpq
        clear hx hz hpq hQl
        by_cases hlt2 : p < lt.length
        · obtain ⟨bd, rfl, hc2⟩ := hrY p hlt2
          obtain ⟨y, hy⟩ : ∃ y, lt[p].toNat = y := ⟨_, rfl⟩
          have e2 := lt[p].isLt
          rw [hy] at hc2 e2
          have HY : Hid (digD lt p = y) := by show _ = _; rw [digD_in _ _ hlt2, hy]
          clear hy
          go_wp2
          go_roundw
          case rel =>
            refine ⟨p + 1, (x + y + q) / 4294967296, Q.set p (BitVec.ofNat 32 (x + y + q)), by omega, by go_num, by go_num, by omega, ⟨?_, ?_⟩, ?_, ?_⟩
            · rw [List.length_set]; exact ho.out.1
            · rw [valD_set_take _ _ _ HQ.out, valD_dig, valD_dig, HX.out, HY.out, BitVec.toNat_ofNat, pw_succ]
              exact add_num _ _ _ _ _ _ _ ho.out.2
            · have := own_set hown p (.int .u32 (((q : Int) + (x : Int) + (y : Int)) % 4294967296))
              rw [bv32_set]
              rw [show ((BitVec.ofNat 32 (x + y + q)).toNat : Int) = ((q : Int) + (x : Int) + (y : Int)) % 4294967296 by rw [toNat32]; omega]
              exact this
            · exact Below.setCell hb (p := ⟨w.heap.size, p, none⟩) (Nat.le_refl _) _
          case measure => simp [intOf] <;> omega
        · have HY : Hid (digD lt p = 0) := digD_out _ _ (by omega)
          have h2 : decide ((p : Int) < (lt.length : Int)) = false := by rw [decide_eq_false_iff_not]; omega
          go_wp2
          go_roundw
          case rel =>
            refine ⟨p + 1, (x + 0 + q) / 4294967296, Q.set p (BitVec.ofNat 32 (x + 0 + q)), by omega, by go_num, by go_num, by omega, ⟨?_, ?_⟩, ?_, ?_⟩
            · rw [List.length_set]; exact ho.out.1
            · rw [valD_set_take _ _ _ HQ.out, valD_dig, valD_dig, HX.out, HY.out, BitVec.toNat_ofNat, pw_succ]
              exact add_num _ _ _ _ _ _ _ ho.out.2
            · have := own_set hown p (.int .u32 (((q : Int) + (x : Int)) % 4294967296))
              rw [bv32_set]
              rw [show ((BitVec.ofNat 32 (x + 0 + q)).toNat : Int) = ((q : Int) + (x : Int)) % 4294967296 by rw [toNat32]; omega]
              exact this
            · exact Below.setCell hb (p := ⟨w.heap.size, p, none⟩) (Nat.le_refl _) _
          case measure => simp [intOf] <;> omega
      · obtain rfl : p = kt.length := by omega
        have hpq : kt.length < Q.length := by omega
        obtain ⟨z, hz⟩ : ∃ z, Q[kt.length] = z := ⟨_, rfl⟩
        have hc3 := own_cell hown kt.length (.int .u32 (z.toNat : Int)) (by simp [bv32, hpq, hz])
        have hf3 := hown.frozenAt kt.length
        have hown2 := own_set hown kt.length (.int .u32 (q : Int))
        rw [show (Value.int .u32 (q : Int)) = .int .u32 ((BitVec.ofNat 32 q).toNat : Int) by rw [toNat32]; congr 1; omega, ← bv32_set] at hown2
        have hQ2 : Hid ((Q.set kt.length (BitVec.ofNat 32 q)).length = kt.length + 1 ∧ trimD (Q.set kt.length (BitVec.ofNat 32 q)) = canon (valD kt + valD lt)) := by
          refine ⟨by rw [List.length_set]; exact ho.out.1, ?_⟩
          rw [← canon_val]
          congr 1
          have h3 := valD_set_take Q kt.length (BitVec.ofNat 32 q) hpq
          have h4 := ho.out.2
          rw [List.take_of_length_le (by rw [List.length_set]; omega)] at h3
          rw [List.take_length, List.take_of_length_le (l := lt) (by omega)] at h4
          rw [h3, h4, BitVec.toNat_ofNat, Nat.mod_eq_of_lt hq, Nat.mul_comm]
        have hb2 := Below.setCell hb (p := ⟨w.heap.size, kt.length, none⟩) (Nat.le_refl _) (.int .u32 ((BitVec.ofNat 32 q).toNat : Int))
        have hv : (Value.int .u32 ((BitVec.ofNat 32 q).toNat : Int)) = .int .u32 (q : Int) := by rw [toNat32]; congr 1; omega
        have hF := RwF.of_own hown2
        rw [hv] at hown2 hb2 hF
        have hL := hQ2.out.1
        generalize Q.set kt.length (BitVec.ofNat 32 q) = Q2 at *
        clear hz hpq hv
        have hF1 := hF.1
        have HL := Lib.hid hL
        clear hL hQl
        go_wp2_with (go_at_call 47; (with_reducible refine (trim_any _ _ _ Q2 _ HL.out (Nat.le_refl _) (by have := HL.out; omega) hF1).mono ?_); rintro e w2 ⟨rfl, rfl⟩; rw [hQ2.out.2])
        go_ret
        have h5 := hF.take (trimD Q2).length
        rw [← trim_prefix, hQ2.out.2] at h5
        refine ⟨_, _, rfl, ?_, h5, hb2⟩
        have := trim_len_le Q2
        rw [hQ2.out.2, HL.out] at this
        exact this
  · have hsw1 : decide ((lt.length : Int) < (kt.length : Int)) = false := by rw [decide_eq_false_iff_not]; omega
    have hsw2 : decide (lt.length < kt.length) = false := by rw [decide_eq_false_iff_not]; omega
    have hmk := run_make_row' (P := Tryd.prog) 22 32 (.int .u32 0) 4 Tryd.underlying22 info32 rfl .i64 .i64 (lt.length + 1) (by omega) (by omega)
    have hcast : ((lt.length + 1 : Nat) : Int) = (lt.length : Int) + 1 := by omega
    rw [hcast] at hmk
    clear hcast
    go_enter Tryd.func31, Tryd.ntmps31
    go_wp2_with (first
      | (go_at_call 47; (with_reducible refine H1.out.mono ?_); rintro e w1 ⟨rfl, rfl⟩)
      | (go_at_call 47; (with_reducible refine H2.out.mono ?_); rintro e w1 ⟨rfl, rfl⟩))
    go_loopw [6, 7, 25] (fun c _ i wr => NaR w lt kt w.heap.size (lt.length + 1) c i wr) (fun _ _ i _ => lt.length - (intOf i).toNat)
    case atStart => exact ⟨0, 0, zer (lt.length + 1), Nat.zero_le _, rfl, rfl, by omega, ⟨by simp [zer], by simp [valD_nil]⟩, made32 w _ (by omega), Below.alloc (Below.refl _ _) (Nat.le_refl _) _⟩
    case round =>
      obtain ⟨p, q, Q, hp, rfl, rfl, hq, ho, hown, hb⟩ := hrel
      have hrX := hrt.below hb
      have hrY := hst.below hb
      have hQl := ho.out.1
      by_cases hlt : p < lt.length
      · obtain ⟨ad, rfl, hc1⟩ := hrX p hlt
        have hpq : p < Q.length := by omega
        obtain ⟨z, hz⟩ : ∃ z, Q[p] = z := ⟨_, rfl⟩
        have hc3 := own_cell hown p (.int .u32 (z.toNat : Int)) (by simp [bv32, hpq, hz])
        have hf3 := hown.frozenAt p
        obtain ⟨x, hx⟩ : ∃ x, lt[p].toNat = x := ⟨_, rfl⟩
        have e1 := lt[p].isLt
        rw [hx] at hc1 e1
        have HX : Hid (digD lt p = x) := by show _ = _; rw [digD_in _ _ hlt, hx]
        have HQ := Lib.hid hpq
        clear hx hz hpq hQl
        by_cases hlt2 : p < kt.length
        · obtain ⟨bd, rfl, hc2⟩ := hrY p hlt2
          obtain ⟨y, hy⟩ : ∃ y, kt[p].toNat = y := ⟨_, rfl⟩
          have e2 := kt[p].isLt
          rw [hy] at hc2 e2
          have HY : Hid (digD kt p = y) := by show _ = _; rw [digD_in _ _ hlt2, hy]
          clear hy
          go_wp2
          go_roundw
          case rel =>
            refine ⟨p + 1, (x + y + q) / 4294967296, Q.set p (BitVec.ofNat 32 (x + y + q)), by omega, by go_num, by go_num, by omega, ⟨?_, ?_⟩, ?_, ?_⟩
            · rw [List.length_set]; exact ho.out.1
            · rw [valD_set_take _ _ _ HQ.out, valD_dig, valD_dig, HX.out, HY.out, BitVec.toNat_ofNat, pw_succ]
              exact add_num _ _ _ _ _ _ _ ho.out.2
            · have := own_set hown p (.int .u32 (((q : Int) + (x : Int) + (y : Int)) % 4294967296))
              rw [bv32_set]
              rw [show ((BitVec.ofNat 32 (x + y + q)).toNat : Int) = ((q : Int) + (x : Int) + (y : Int)) % 4294967296 by rw [toNat32]; omega]
              exact this
            · exact Below.setCell hb (p := ⟨w.heap.size, p, none⟩) (Nat.le_refl _) _
          case measure => simp [intOf] <;> omega
        · have HY : Hid (digD kt p = 0) := digD_out _ _ (by omega)
          have h2 : decide ((p : Int) < (kt.length : Int)) = false := by rw [decide_eq_false_iff_not]; omega
          go_wp2
          go_roundw
          case rel =>
            refine ⟨p + 1, (x + 0 + q) / 4294967296, Q.set p (BitVec.ofNat 32 (x + 0 + q)), by omega, by go_num, by go_num, by omega, ⟨?_, ?_⟩, ?_, ?_⟩
            · rw [List.length_set]; exact ho.out.1
            · rw [valD_set_take _ _ _ HQ.out, valD_dig, valD_dig, HX.out, HY.out, BitVec.toNat_ofNat, pw_succ]
              exact add_num _ _ _ _ _ _ _ ho.out.2
            · have := own_set hown p (.int .u32 (((q : Int) + (x : Int)) % 4294967296))
              rw [bv32_set]
              rw [show ((BitVec.ofNat 32 (x + 0 + q)).toNat : Int) = ((q : Int) + (x : Int)) % 4294967296 by rw [toNat32]; omega]
              exact this
            · exact Below.setCell hb (p := ⟨w.heap.size, p, none⟩) (Nat.le_refl _) _
          case measure => simp [intOf] <;> omega
      · obtain rfl : p = lt.length := by omega
        have hpq : lt.length < Q.length := by omega
        obtain ⟨z, hz⟩ : ∃ z, Q[lt.length] = z := ⟨_, rfl⟩
        have hc3 := own_cell hown lt.length (.int .u32 (z.toNat : Int)) (by simp [bv32, hpq, hz])
        have hf3 := hown.frozenAt lt.length
        have hown2 := own_set hown lt.length (.int .u32 (q : Int))
        rw [show (Value.int .u32 (q : Int)) = .int .u32 ((BitVec.ofNat 32 q).toNat : Int) by rw [toNat32]; congr 1; omega, ← bv32_set] at hown2
        have hQ2 : Hid ((Q.set lt.length (BitVec.ofNat 32 q)).length = lt.length + 1 ∧ trimD (Q.set lt.length (BitVec.ofNat 32 q)) = canon (valD lt + valD kt)) := by
          refine ⟨by rw [List.length_set]; exact ho.out.1, ?_⟩
          rw [← canon_val]
          congr 1
          have h3 := valD_set_take Q lt.length (BitVec.ofNat 32 q) hpq
          have h4 := ho.out.2
          rw [List.take_of_length_le (by rw [List.length_set]; omega)] at h3
          rw [List.take_length, List.take_of_length_le (l := kt) (by omega)] at h4
          rw [h3, h4, BitVec.toNat_ofNat, Nat.mod_eq_of_lt hq, Nat.mul_comm]
        have hb2 := Below.setCell hb (p := ⟨w.heap.size, lt.length, none⟩) (Nat.le_refl _) (.int .u32 ((BitVec.ofNat 32 q).toNat : Int))
        have hv : (Value.int .u32 ((BitVec.ofNat 32 q).toNat : Int)) = .int .u32 (q : Int) := by rw [toNat32]; congr 1; omega
        have hF := RwF.of_own hown2
        rw [hv] at hown2 hb2 hF
        have hL := hQ2.out.1
        generalize Q.set lt.length (BitVec.ofNat 32 q) = Q2 at *
        clear hz hpq hv
        have hF1 := hF.1
        have HL := Lib.hid hL
        clear hL hQl
        go_wp2_with (go_at_call 47; (with_reducible refine (trim_any _ _ _ Q2 _ HL.out (Nat.le_refl _) (by have := HL.out; omega) hF1).mono ?_); rintro e w2 ⟨rfl, rfl⟩; rw [hQ2.out.2])
        go_ret
        have h5 := hF.take (trimD Q2).length
        rw [← trim_prefix, hQ2.out.2] at h5
        refine ⟨_, _, rfl, ?_, h5, hb2⟩
        have := trim_len_le Q2
        rw [hQ2.out.2, HL.out] at this
        exact this
end Go.Proofs.YtcofiekfhnfjpaaDoor

/- P3 -/
namespace Go.Proofs.YtcofiekfhnfjpaaDoor
open Go.RowKit
set_option linter.unusedVariables false
set_option linter.unusedSimpArgs false
theorem drew_below {w w' : World} (h : ∃ n, w' = w.drewN n) : Below w.heap.size w w' := by
  obtain ⟨n, rfl⟩ := h
  exact below_drewN (Below.refl _ _) _
theorem cmpN_ge {x y : Nat} (h : y ≤ x) : ∃ v : Int, cmpN x y = v ∧ decide (v < 0) = false := by
  rcases Nat.lt_or_eq_of_le h with h1 | h1
  · exact ⟨1, cmpN_gt h1, rfl⟩
  · subst h1
    exact ⟨0, cmpN_eq _, rfl⟩
def NsR (w : World) (X Y : List (BitVec 32)) (g cp : Nat) (c i : Value) (wr : World) : Prop := ∃ (p q : Nat) (Q : List (BitVec 32)), p ≤ X.length ∧ i = .int .i64 p ∧ c = .int .u64 q ∧ q ≤ 1 ∧
  Hid (Q.length = X.length ∧ valD (X.take p) + q * pw p = valD (Y.take p) + valD (Q.take p)) ∧
  wr.ownsRow w.heap.size 32 1 (.slice (some ⟨g, 0, none⟩) X.length cp) X.length (bv32 Q) ∧ Below w.heap.size w wr
theorem nsub_head (a b : Option Addr) (n c m d : Nat) (l k : List (BitVec 32)) (w : World) (hn : l.length = n) (hm : k.length = m) (hnc : n ≤ c) (hmd : m ≤ d) (hl : n ≤ 1000000) (hl2 : m ≤ 1000000) (hr : Rw w a l) (hs : Rw w b k) (hlt : valD l < valD k) :
    Calls Tryd.prog 40 #[.slice a n c, .slice b m d] w fun e w' => e = .returned (.tuple #[.slice none 0 0, .bool false]) ∧ Below w.heap.size w w' := by
  subst hn hm
  have f1 := trim_len_le l
  have f2 := trim_len_le k
  have hrt := hr.trim
  have hst := hs.trim
  have hcmp := Lib.hid (cmpN_lt hlt)
  rw [← valD_trim l, ← valD_trim k] at hcmp
  have T1 : ∀ W, Rw W a l → Calls Tryd.prog 47 #[.slice a l.length c] W fun e w' => e = .returned (.slice a (trimD l).length c) ∧ W = w' := fun W h => trim_any a _ c l W rfl hnc (by omega) h
  have T2 : ∀ W, Rw W b k → Calls Tryd.prog 47 #[.slice b k.length d] W fun e w' => e = .returned (.slice b (trimD k).length d) ∧ W = w' := fun W h => trim_any b _ d k W rfl hmd (by omega) h
  have H1 := Lib.hid (T1 w hr)
  have H2 := Lib.hid (T2 w hs)
  clear T1 T2 hr hs hlt
  generalize trimD l = lt at *
  generalize trimD k = kt at *
  go_enter Tryd.func40, Tryd.ntmps40
  go_wp2_with (first
    | (go_at_call 47; (with_reducible refine H1.out.mono ?_); rintro e w1 ⟨rfl, rfl⟩)
    | (go_at_call 47; (with_reducible refine H2.out.mono ?_); rintro e w1 ⟨rfl, rfl⟩)
    | (go_at_call 28; (with_reducible refine (ncmp_any a b _ c _ d lt kt _ rfl rfl (by omega) (by omega) (by omega) (by omega) hrt hst).mono ?_); rintro e wb ⟨rfl, hw1⟩; have hb0 := drew_below hw1; rw [hcmp.out]))
  go_ret2
  exact ⟨rfl, hb0⟩
set_option maxRecDepth 50000 in
set_option maxHeartbeats 2000000 in
theorem nsub_any (a b : Option Addr) (n c m d : Nat) (l k : List (BitVec 32)) (w : World) (hn : l.length = n) (hm : k.length = m) (hnc : n ≤ c) (hmd : m ≤ d) (hl : n ≤ 1000000) (hl2 : m ≤ 1000000) (hr : Rw w a l) (hs : Rw w b k) (hge : valD k ≤ valD l) :
    Calls Tryd.prog 40 #[.slice a n c, .slice b m d] w fun e w' => ∃ a2 c2, e = .returned (.tuple #[.slice a2 (canon (valD l - valD k)).length c2, .bool true]) ∧ (canon (valD l - valD k)).length ≤ c2 ∧ RwF w.heap.size w' a2 (canon (valD l - valD k)) ∧ Below w.heap.size w w' := by
  subst hn hm
  have f1 := trim_len_le l
  have f2 := trim_len_le k
  have hrt := hr.trim
  have hst := hs.trim
  have t2 : trimD (trimD k) = trimD k := by rw [← canon_val k, trim_canon]
  rw [← valD_trim l, ← valD_trim k] at hge ⊢
  have hkl : (trimD k).length ≤ (trimD l).length := by
    rcases Nat.lt_or_ge (trimD l).length (trimD k).length with h | h
    · have := valD_len_lt _ _ t2 h
      omega
    · exact h
  obtain ⟨cv, hcv, hcv2⟩ := cmpN_ge hge
  have hcmp := Lib.hid hcv
  clear hcv t2
  have T1 : ∀ W, Rw W a l → Calls Tryd.prog 47 #[.slice a l.length c] W fun e w' => e = .returned (.slice a (trimD l).length c) ∧ W = w' := fun W h => trim_any a _ c l W rfl hnc (by omega) h
  have T2 : ∀ W, Rw W b k → Calls Tryd.prog 47 #[.slice b k.length d] W fun e w' => e = .returned (.slice b (trimD k).length d) ∧ W = w' := fun W h => trim_any b _ d k W rfl hmd (by omega) h
  have H1 := Lib.hid (T1 w hr)
  have H2 := Lib.hid (T2 w hs)
  have HG := Lib.hid hge
  clear T1 T2 hr hs hge
  generalize trimD l = lt at *
  generalize trimD k = kt at *
  have hmk := run_make_row' (P := Tryd.prog) 22 32 (.int .u32 0) 4 Tryd.underlying22 info32 rfl .i64 .i64 lt.length (by omega) (by omega)
  go_enter Tryd.func40, Tryd.ntmps40
  go_wp2_with (first
    | (go_at_call 47; (with_reducible refine H1.out.mono ?_); rintro e w1 ⟨rfl, rfl⟩)
    | (go_at_call 47; (with_reducible refine H2.out.mono ?_); rintro e w1 ⟨rfl, rfl⟩)
    | (go_at_call 28; (with_reducible refine (ncmp_any a b _ c _ d lt kt _ rfl rfl (by omega) (by omega) (by omega) (by omega) hrt hst).mono ?_); rintro e wb ⟨rfl, hw1⟩; have hb0 := drew_below hw1; clear hw1; rw [hcmp.out]))
  have hrt2 := hrt.below hb0
  have hst2 := hst.below hb0
  go_loopw [7, 8, 23] (fun c _ i wr => NsR wb lt kt wb.heap.size lt.length c i wr) (fun _ _ i _ => lt.length - (intOf i).toNat)
  case atStart => exact ⟨0, 0, zer lt.length, Nat.zero_le _, rfl, rfl, by omega, ⟨by simp [zer], by simp [valD_nil]⟩, made32 wb _ (by omega), Below.alloc (Below.refl _ _) (Nat.le_refl _) _⟩
  case round =>
    obtain ⟨p, q, Q, hp, rfl, rfl, hq, ho, hown, hb⟩ := hrel
    have hrX := hrt2.below hb
    have hrY := hst2.below hb
    have hQl := ho.out.1
    by_cases hlt : p < lt.length
    · obtain ⟨ad, rfl, hc1⟩ := hrX p hlt
      have hpq : p < Q.length := by omega
      obtain ⟨z, hz⟩ : ∃ z, Q[p] = z := ⟨_, rfl⟩
      have hc3 := own_cell hown p (.int .u32 (z.toNat : Int)) (by simp [bv32, hpq, hz])
      have hf3 := hown.frozenAt p
      obtain ⟨x, hx⟩ : ∃ x, lt[p].toNat = x := ⟨_, rfl⟩
      have e1 := lt[p].isLt
      rw [hx] at hc1 e1
      have HX : Hid (digD lt p = x) := by show _ = _; rw [digD_in _ _ hlt, hx]
      have HQ := Lib.hid hpq
      clear hx hz hpq hQl
      by_cases hlt2 : p < kt.length
      · obtain ⟨bd, rfl, hc2⟩ := hrY p hlt2
        obtain ⟨y, hy⟩ : ∃ y, kt[p].toNat = y := ⟨_, rfl⟩
        have e2 := kt[p].isLt
        rw [hy] at hc2 e2
        have HY : Hid (digD kt p = y) := by show _ = _; rw [digD_in _ _ hlt2, hy]
        clear hy
        have hd : ∃ d1 d2 : Nat, IntKind.u64.wrap ((x : Int) - (q : Int)) = (d1 : Int) ∧ IntKind.u64.wrap ((d1 : Int) - (y : Int)) = (d2 : Int) ∧ d2 < 18446744073709551616 ∧ d2 / 9223372036854775808 ≤ 1 ∧ x + d2 / 9223372036854775808 * 4294967296 = y + q + d2 % 4294967296 := by
          have hxq : ∃ d1 : Nat, IntKind.u64.wrap ((x : Int) - (q : Int)) = (d1 : Int) ∧ ((d1 : Int) = (x : Int) - (q : Int) ∨ (d1 : Int) = (x : Int) - (q : Int) + 18446744073709551616 ∧ (x : Int) < q) ∧ d1 < 18446744073709551616 := by
            rw [IntKind.wrap_u64]
            refine ⟨(((x : Int) - (q : Int)) % 18446744073709551616).toNat, by omega, by omega, by omega⟩
          obtain ⟨d1, h1, h2, h3⟩ := hxq
          refine ⟨d1, (((d1 : Int) - (y : Int)) % 18446744073709551616).toNat, h1, ?_, by omega, by omega, by omega⟩
          rw [IntKind.wrap_u64]
          omega
        obtain ⟨d1, d2, w1, w2, hd3, hd4, hd5⟩ := hd
        have w3 : IntKind.u64.wrap (d1 : Int) = (d1 : Int) := by rw [← w1, IntKind.wrap_u64, IntKind.wrap_u64]; omega
        have HD := Lib.hid hd5
        clear hd5 w3
        go_wp2
        go_roundw
        case rel =>
          refine ⟨p + 1, d2 / 9223372036854775808, Q.set p (BitVec.ofNat 32 d2), by omega, by go_num, by go_num, hd4, ⟨?_, ?_⟩, ?_, ?_⟩
          · rw [List.length_set]; exact ho.out.1
          · rw [valD_set_take _ _ _ HQ.out, valD_dig, valD_dig, HX.out, HY.out, BitVec.toNat_ofNat, pw_succ]
            exact sub_num _ _ _ _ _ _ _ _ _ ho.out.2 HD.out
          · have := own_set hown p (.int .u32 ((d2 : Int) % 4294967296))
            rw [bv32_set]
            rw [show ((BitVec.ofNat 32 d2).toNat : Int) = (d2 : Int) % 4294967296 by rw [toNat32]]
            exact this
          · exact Below.setCell hb (p := ⟨wb.heap.size, p, none⟩) (Nat.le_refl _) _
        case measure => simp [intOf] <;> omega
      · have HY : Hid (digD kt p = 0) := digD_out _ _ (by omega)
        have h2 : decide ((p : Int) < (kt.length : Int)) = false := by rw [decide_eq_false_iff_not]; omega
        have hd : ∃ d1 d2 : Nat, IntKind.u64.wrap ((x : Int) - (q : Int)) = (d1 : Int) ∧ IntKind.u64.wrap ((d1 : Int) - (0 : Int)) = (d2 : Int) ∧ d2 < 18446744073709551616 ∧ d2 / 9223372036854775808 ≤ 1 ∧ x + d2 / 9223372036854775808 * 4294967296 = 0 + q + d2 % 4294967296 := by
          have hxq : ∃ d1 : Nat, IntKind.u64.wrap ((x : Int) - (q : Int)) = (d1 : Int) ∧ ((d1 : Int) = (x : Int) - (q : Int) ∨ (d1 : Int) = (x : Int) - (q : Int) + 18446744073709551616 ∧ (x : Int) < q) ∧ d1 < 18446744073709551616 := by
            rw [IntKind.wrap_u64]
            refine ⟨(((x : Int) - (q : Int)) % 18446744073709551616).toNat, by omega, by omega, by omega⟩
          obtain ⟨d1, h1, h2, h3⟩ := hxq
          refine ⟨d1, (((d1 : Int) - (0 : Int)) % 18446744073709551616).toNat, h1, ?_, by omega, by omega, by omega⟩
          rw [IntKind.wrap_u64]
          omega
        obtain ⟨d1, d2, w1, w2, hd3, hd4, hd5⟩ := hd
        have w3 : IntKind.u64.wrap (d1 : Int) = (d1 : Int) := by rw [← w1, IntKind.wrap_u64, IntKind.wrap_u64]; omega
        rw [show ((d1 : Int) - (0 : Int)) = (d1 : Int) by omega, w3] at w2
        have hdd : d1 = d2 := by omega
        subst hdd
        clear w2
        have HD := Lib.hid hd5
        clear hd5 w3
        go_wp2
        go_roundw
        case rel =>
          refine ⟨p + 1, d1 / 9223372036854775808, Q.set p (BitVec.ofNat 32 d1), by omega, by go_num, by go_num, hd4, ⟨?_, ?_⟩, ?_, ?_⟩
          · rw [List.length_set]; exact ho.out.1
          · rw [valD_set_take _ _ _ HQ.out, valD_dig, valD_dig, HX.out, HY.out, BitVec.toNat_ofNat, pw_succ]
            exact sub_num _ _ _ _ _ _ _ _ _ ho.out.2 HD.out
          · have := own_set hown p (.int .u32 ((d1 : Int) % 4294967296))
            rw [bv32_set]
            rw [show ((BitVec.ofNat 32 d1).toNat : Int) = (d1 : Int) % 4294967296 by rw [toNat32]]
            exact this
          · exact Below.setCell hb (p := ⟨wb.heap.size, p, none⟩) (Nat.le_refl _) _
        case measure => simp [intOf] <;> omega
    · obtain rfl : p = lt.length := by omega
      have hval : Hid (trimD Q = canon (valD lt - valD kt)) := by
        show _ = _
        rw [← canon_val]
        congr 1
        have h4 := ho.out.2
        rw [List.take_length, List.take_of_length_le (l := kt) (by omega), List.take_of_length_le (l := Q) (by omega)] at h4
        have h5 := valD_lt Q
        rw [hQl] at h5
        have h6 := HG.out
        rcases Nat.eq_zero_or_pos q with h7 | h7
        · rw [h7] at h4; omega
        · have h8 : pw lt.length ≤ q * pw lt.length := Nat.le_mul_of_pos_left _ h7
          omega
      have hF := RwF.of_own hown
      have hF1 := hF.1
      have HL := Lib.hid hQl
      clear hQl
      go_wp2_with (go_at_call 47; (with_reducible refine (trim_any _ _ _ Q _ HL.out (Nat.le_refl _) (by have := HL.out; omega) hF1).mono ?_); rintro e wz ⟨rfl, rfl⟩; rw [hval.out])
      go_ret2
      have h5 := hF.take (trimD Q).length
      rw [← trim_prefix, hval.out] at h5
      refine ⟨_, _, rfl, ?_, h5.mono hb0.size, hb0.trans (hb.mono hb0.size)⟩
      have := trim_len_le Q
      rw [hval.out, HL.out] at this
      exact this
end Go.Proofs.YtcofiekfhnfjpaaDoor

/- P4 -/
namespace Go.Proofs.YtcofiekfhnfjpaaDoor
open Go.RowKit
set_option linter.unusedVariables false
set_option linter.unusedSimpArgs false
def NmIn (w : World) (l k : List (BitVec 32)) (i : Nat) (g cp : Nat) (c j : Value) (wr : World) : Prop := ∃ (m q : Nat) (Q : List (BitVec 32)), m ≤ k.length ∧ j = .int .i64 m ∧ c = .int .u64 q ∧ q < 4294967296 ∧
  Hid (Q.length = l.length + k.length ∧ valD Q + q * pw (i + m) = valD (l.take i) * valD k + digD l i * valD (k.take m) * pw i ∧ ∀ z, i + k.length ≤ z → z < Q.length → Q[z]? = some 0#32) ∧
  wr.ownsRow w.heap.size 32 1 (.slice (some ⟨g, 0, none⟩) (l.length + k.length) cp) (l.length + k.length) (bv32 Q) ∧ Below w.heap.size w wr
def NmOut (w : World) (l k : List (BitVec 32)) (g cp : Nat) (i : Value) (wr : World) : Prop := ∃ (m : Nat) (Q : List (BitVec 32)), m ≤ l.length ∧ i = .int .i64 m ∧
  Hid (Q.length = l.length + k.length ∧ valD Q = valD (l.take m) * valD k ∧ ∀ z, m + k.length ≤ z → z < Q.length → Q[z]? = some 0#32) ∧
  wr.ownsRow w.heap.size 32 1 (.slice (some ⟨g, 0, none⟩) (l.length + k.length) cp) (l.length + k.length) (bv32 Q) ∧ Below w.heap.size w wr
set_option maxRecDepth 50000 in
set_option maxHeartbeats 2000000 in
theorem nmul_any (a b : Option Addr) (n c m d : Nat) (l k : List (BitVec 32)) (w : World) (hn : l.length = n) (hm : k.length = m) (hnc : n ≤ c) (hmd : m ≤ d) (hl : n ≤ 1000000) (hl2 : m ≤ 1000000) (hr : Rw w a l) (hs : Rw w b k) :
    Calls Tryd.prog 34 #[.slice a n c, .slice b m d] w (FrR w (canon (valD l * valD k))) := by
  subst hn hm
  have f1 := trim_len_le l
  have f2 := trim_len_le k
  have hrt := hr.trim
  have hst := hs.trim
  rw [← valD_trim l, ← valD_trim k]
  have T1 : ∀ W, Rw W a l → Calls Tryd.prog 47 #[.slice a l.length c] W fun e w' => e = .returned (.slice a (trimD l).length c) ∧ W = w' := fun W h => trim_any a _ c l W rfl hnc (by omega) h
  have T2 : ∀ W, Rw W b k → Calls Tryd.prog 47 #[.slice b k.length d] W fun e w' => e = .returned (.slice b (trimD k).length d) ∧ W = w' := fun W h => trim_any b _ d k W rfl hmd (by omega) h
  have H1 := Lib.hid (T1 w hr)
  have H2 := Lib.hid (T2 w hs)
  clear T1 T2 hr hs
  generalize trimD l = lt at *
  generalize trimD k = kt at *
  by_cases hz1 : lt.length = 0
  · have e1 : canon (valD lt * valD kt) = [] := by rw [List.length_eq_zero_iff.1 hz1, valD_nil, Nat.zero_mul, canon_zero]
    have HE := Lib.hid e1
    have HZ := Lib.hid hz1
    rw [hz1] at H1
    clear e1 hz1
    go_enter Tryd.func34, Tryd.ntmps34
    go_wp2
    go_step3
    go_wp2_with (first
      | (go_at_call 47; (with_reducible refine H1.out.mono ?_); rintro e w1 ⟨rfl, rfl⟩)
      | (go_at_call 47; (with_reducible refine H2.out.mono ?_); rintro e w1 ⟨rfl, rfl⟩))
    (try rw [Exit.noGoto_ret])
    go_ret
    rw [HE.out]
    exact ⟨none, 0, rfl, Nat.le_refl _, ⟨Rw.nil _ _, fun ad h => by cases h⟩, Below.refl _ _⟩
  by_cases hz2 : kt.length = 0
  · have e1 : canon (valD lt * valD kt) = [] := by rw [List.length_eq_zero_iff.1 hz2, valD_nil, Nat.mul_zero, canon_zero]
    have HE := Lib.hid e1
    have hz3 : ((lt.length : Int) == 0) = false := by rw [beq_eq_false_iff_ne]; omega
    rw [hz2] at H2
    clear e1 hz2
    go_enter Tryd.func34, Tryd.ntmps34
    go_wp2
    go_step3
    go_wp2_with (first
      | (go_at_call 47; (with_reducible refine H1.out.mono ?_); rintro e w1 ⟨rfl, rfl⟩)
      | (go_at_call 47; (with_reducible refine H2.out.mono ?_); rintro e w1 ⟨rfl, rfl⟩))
    (try rw [Exit.noGoto_ret])
    go_ret
    rw [HE.out]
    exact ⟨none, 0, rfl, Nat.le_refl _, ⟨Rw.nil _ _, fun ad h => by cases h⟩, Below.refl _ _⟩
  have hz3 : ((lt.length : Int) == 0) = false := by rw [beq_eq_false_iff_ne]; omega
  have hz4 : ((kt.length : Int) == 0) = false := by rw [beq_eq_false_iff_ne]; omega
  have hmk := run_make_row' (P := Tryd.prog) 22 32 (.int .u32 0) 4 Tryd.underlying22 info32 rfl .i64 .i64 (lt.length + kt.length) (by omega) (by omega)
  have hcast : ((lt.length + kt.length : Nat) : Int) = (lt.length : Int) + (kt.length : Int) := by omega
  rw [hcast] at hmk
  clear hcast
  go_enter Tryd.func34, Tryd.ntmps34
  go_wp2
  go_step3
  go_wp2_with (first
      | (go_at_call 47; (with_reducible refine H1.out.mono ?_); rintro e w1 ⟨rfl, rfl⟩)
      | (go_at_call 47; (with_reducible refine H2.out.mono ?_); rintro e w1 ⟨rfl, rfl⟩))
  go_step3
  go_wp2
  go_loopw [6, 7, 8, 9, 30, 42] (fun _ _ _ _ i _ wr => NmOut w lt kt w.heap.size (lt.length + kt.length) i wr) (fun _ _ _ _ i _ _ => lt.length - (intOf i).toNat)
  case atStart =>
    refine ⟨0, zer (lt.length + kt.length), Nat.zero_le _, rfl, ⟨by simp [zer], by simp [zer, valD_zeros, valD_nil], ?_⟩, made32 w _ (by omega), Below.alloc (Below.refl _ _) (Nat.le_refl _) _⟩
    intro z _ hz
    rw [zer, List.getElem?_replicate, if_pos (by simpa [zer] using hz)]
  case round =>
    obtain ⟨i, Q, hi, rfl, hq, hown, hb⟩ := hrel
    by_cases hlt : i < lt.length
    · obtain ⟨x, hx⟩ : ∃ x, lt[i].toNat = x := ⟨_, rfl⟩
      have HXD : Hid (digD lt i = x) := by show _ = _; rw [digD_in _ _ hlt, hx]
      have e1 := lt[i].isLt
      rw [hx] at e1
      obtain ⟨ad, rfl, hc0⟩ := hrt.below hb i hlt
      rw [hx] at hc0
      clear hx
      by_cases hx0 : x = 0
      · subst hx0
        go_wp2
        go_roundw
        case rel =>
          refine ⟨i + 1, Q, by omega, by go_num, ⟨hq.out.1, ?_, fun z h1 h2 => hq.out.2.2 z (by omega) h2⟩, hown, hb⟩
          rw [hq.out.2.1, valD_dig, HXD.out, Nat.mul_zero, Nat.add_zero]
        case measure => simp [intOf] <;> omega
      · have hxb : ((x : Int) == 0) = false := by rw [beq_eq_false_iff_ne]; omega
        go_wp2
        go_loopw [8, 9, 42] (fun c _ j wr => NmIn w lt kt i w.heap.size (lt.length + kt.length) c j wr) (fun _ _ j _ => kt.length - (intOf j).toNat)
        case atStart => exact ⟨0, 0, Q, Nat.zero_le _, rfl, rfl, by omega, ⟨hq.out.1, by rw [hq.out.2.1]; simp [valD_nil], hq.out.2.2⟩, hown, hb⟩
        case round =>
          obtain ⟨j, q, Q2, hj, rfl, rfl, hq2, ho, hown2, hb2⟩ := hrel
          have hsb := hst.below hb2
          have hQl := ho.out.1
          by_cases hlt2 : j < kt.length
          · obtain ⟨bd, rfl, hc2⟩ := hsb j hlt2
            have hjq : i + j < Q2.length := by omega
            obtain ⟨z, hz⟩ : ∃ z, Q2[i + j] = z := ⟨_, rfl⟩
            have hc3 := own_cell hown2 (i + j) (.int .u32 (z.toNat : Int)) (by simp [bv32, hjq, hz])
            have hf3 := hown2.frozenAt (i + j)
            have e3 := z.isLt
            obtain ⟨y, hy⟩ : ∃ y, kt[j].toNat = y := ⟨_, rfl⟩
            have e2 := kt[j].isLt
            rw [hy] at hc2 e2
            have e4 := mul_lt32 e1 e2
            obtain ⟨s, hs2⟩ : ∃ s, x * y = s := ⟨_, rfl⟩
            have hsi : (x : Int) * (y : Int) = (s : Int) := by rw [← hs2]; simp
            rw [hs2] at e4
            have HF := Lib.hid (show y = kt[j].toNat ∧ x * y = s ∧ Q2[i + j]? = some z from ⟨hy.symm, hs2, by rw [List.getElem?_eq_getElem hjq, hz]⟩)
            clear hy hs2 hz
            have HQ := Lib.hid hQl
            clear hQl hjq
            have w1 : IntKind.i64.wrap ((i : Int) + (j : Int)) = (i : Int) + (j : Int) := IntWalk.i64_in _ (by omega)
            have w2 : IntKind.u64.wrap ((s : Int) + (z.toNat : Int)) = (s : Int) + (z.toNat : Int) := IntWalk.u64_in _ (by omega)
            have w3 : IntKind.u64.wrap ((q : Int) + ((s : Int) + (z.toNat : Int))) = (q : Int) + ((s : Int) + (z.toNat : Int)) := IntWalk.u64_in _ (by omega)
            have w4 : IntKind.u64.wrap (s : Int) = (s : Int) := IntWalk.u64_in _ (by omega)
            go_wp2
            go_quiet (fail)
            clear w1 w2 w3 w4
            go_wp2
            go_roundw
            case rel =>
              have hlen : i + j < Q2.length := by have := HQ.out; omega
              refine ⟨j + 1, (s + z.toNat + q) / 4294967296, Q2.set (i + j) (BitVec.ofNat 32 (s + z.toNat + q)), by omega, by go_num, by go_num, by omega, ⟨?_, ?_, ?_⟩, ?_, ?_⟩
              · rw [List.length_set]; exact HQ.out
              · have hv := valD_set Q2 (i + j) (BitVec.ofNat 32 (s + z.toNat + q)) hlen
                have hz2 := HF.out.2.2
                rw [List.getElem?_eq_getElem hlen] at hz2
                rw [Option.some.inj hz2, BitVec.toNat_ofNat] at hv
                rw [show i + (j + 1) = (i + j) + 1 by omega, pw_succ, valD_take _ _ hlt2]
                have h0 := ho.out.2.1
                rw [HXD.out] at h0 ⊢
                exact mul_num _ _ _ _ _ x 4294967296 _ _ _ _ _ _ _ hv h0 (pw_add _ _) (by rw [← HF.out.1, HF.out.2.1])
              · intro z2 h1 h2
                rw [List.length_set] at h2
                rw [List.getElem?_set_ne (by omega)]
                exact ho.out.2.2 z2 h1 h2
              · rw [bv32_set]
                rw [show ((BitVec.ofNat 32 (s + z.toNat + q)).toNat : Int) = ((q : Int) + ((s : Int) + (z.toNat : Int))) % 4294967296 by rw [toNat32]; omega]
                exact own_set (w := wr.drewN _) hown2 _ _
              · exact Below.setCell (below_drewN hb2 _) (p := ⟨w.heap.size, i + j, none⟩) (Nat.le_refl _) _
            case measure => simp [intOf] <;> omega
          · have hjk : j = kt.length := by omega
            subst hjk
            have hz0 := ho.out.2.2 (i + kt.length) (Nat.le_refl _) (by omega)
            have hc3 := own_cell hown2 (i + kt.length) (.int .u32 0) (by rw [bv32, List.getElem?_map, hz0]; rfl)
            have hf3 := hown2.frozenAt (i + kt.length)
            have HQ := Lib.hid hQl
            have HZ := Lib.hid hz0
            clear hQl hz0
            go_wp2
            go_roundw
            case rel =>
              have hlen : i + kt.length < Q2.length := by have := HQ.out; omega
              refine ⟨i + 1, Q2.set (i + kt.length) (BitVec.ofNat 32 q), by omega, by go_num, ⟨?_, ?_, ?_⟩, ?_, ?_⟩
              · rw [List.length_set]; exact HQ.out
              · have hv := valD_set Q2 (i + kt.length) (BitVec.ofNat 32 q) hlen
                have hz2 := HZ.out
                rw [List.getElem?_eq_getElem hlen] at hz2
                have e0 : (BitVec.ofNat 32 q).toNat = q := by rw [BitVec.toNat_ofNat]; omega
                have e00 : (0#32).toNat = 0 := rfl
                rw [Option.some.inj hz2, e0, e00, Nat.mul_zero, Nat.add_zero] at hv
                have h4 := ho.out.2.1
                rw [List.take_length] at h4
                rw [valD_dig, Nat.add_mul]
                grind
              · intro z2 h1 h2
                rw [List.length_set] at h2
                rw [List.getElem?_set_ne (by omega)]
                exact ho.out.2.2 z2 (by omega) h2
              · have := own_set hown2 (i + kt.length) (.int .u32 (q : Int))
                rw [bv32_set]
                rw [show ((BitVec.ofNat 32 q).toNat : Int) = (q : Int) by rw [toNat32]; omega]
                exact this
              · exact Below.setCell hb2 (p := ⟨w.heap.size, i + kt.length, none⟩) (Nat.le_refl _) _
            case measure => simp [intOf] <;> omega
    · obtain rfl : i = lt.length := by omega
      have hval : Hid (trimD Q = canon (valD lt * valD kt)) := by
        show _ = _
        rw [← canon_val, hq.out.2.1, List.take_length]
      have hF := RwF.of_own hown
      have hF1 := hF.1
      have HL := Lib.hid hq.out.1
      go_wp2_with (go_at_call 47; (with_reducible refine (trim_any _ _ _ Q _ HL.out (Nat.le_refl _) (by have := HL.out; omega) hF1).mono ?_); rintro e wz ⟨rfl, rfl⟩; rw [hval.out])
      (try rw [Exit.noGoto_ret])
      go_ret
      have h5 := hF.take (trimD Q).length
      rw [← trim_prefix, hval.out] at h5
      refine ⟨_, _, rfl, ?_, h5, hb⟩
      have := trim_len_le Q
      rw [hval.out, HL.out] at this
      exact this
end Go.Proofs.YtcofiekfhnfjpaaDoor

/- P5 -/
namespace Go.Proofs.YtcofiekfhnfjpaaDoor
open Go.RowKit
set_option linter.unusedVariables false
set_option linter.unusedSimpArgs false
theorem pw_two' : pw 2 = 18446744073709551616 := by decide
theorem val_two {l : List (BitVec 32)} (h : l.length ≤ 2) : valD l < 18446744073709551616 := by
  have := valD_lt l
  have h2 := pw_mono h
  rw [pw_two'] at h2
  omega
theorem nfromR (n : Nat) (hn : n < 18446744073709551616) (w : World) : Calls Tryd.prog 42 #[.int .u64 n] w (FrR w (canon n)) := (nfrom_any n hn w).mono fun _ _ h => FrR.of_own h
set_option maxRecDepth 50000 in
set_option maxHeartbeats 2000000 in
theorem ndm_small (a b : Option Addr) (n c m d : Nat) (l k : List (BitVec 32)) (w : World) (hn : l.length = n) (hm : k.length = m) (hnc : n ≤ c) (hmd : m ≤ d) (hl : n ≤ 1000000) (hl2 : m ≤ 1000000) (hr : Rw w a l) (hs : Rw w b k) (hpos : 0 < valD k) (hge : valD k ≤ valD l) (hsm : (trimD l).length ≤ 2) :
    Calls Tryd.prog 39 #[.slice a n c, .slice b m d] w fun e w' => ∃ a1 c1 a2 c2, e = .returned (.tuple #[.slice a1 (canon (valD l / valD k)).length c1, .slice a2 (canon (valD l % valD k)).length c2, .int .i64 0]) ∧ (canon (valD l / valD k)).length ≤ c1 ∧ (canon (valD l % valD k)).length ≤ c2 ∧ RwF w.heap.size w' a1 (canon (valD l / valD k)) ∧ RwF w.heap.size w' a2 (canon (valD l % valD k)) ∧ Below w.heap.size w w' := by
  subst hn hm
  have f1 := trim_len_le l
  have f2 := trim_len_le k
  have hrt := hr.trim
  have hst := hs.trim
  have t2 : trimD (trimD k) = trimD k := by rw [← canon_val k, trim_canon]
  have hkz : ((trimD k).length == 0) = false := by
    rw [beq_eq_false_iff_ne]
    have := canon_len_pos hpos
    rw [canon_val] at this
    omega
  have hkzi : (((trimD k).length : Int) == 0) = false := by
    rw [beq_eq_false_iff_ne] at hkz ⊢
    omega
  rw [← valD_trim l, ← valD_trim k] at hge ⊢
  rw [← valD_trim k] at hpos
  have hkl : (trimD k).length ≤ (trimD l).length := by
    rcases Nat.lt_or_ge (trimD l).length (trimD k).length with h | h
    · have := valD_len_lt _ _ t2 h
      omega
    · exact h
  obtain ⟨cv, hcv, hcv2⟩ := cmpN_ge hge
  have hcmp := Lib.hid hcv
  clear hcv t2
  have T1 : ∀ W, Rw W a l → Calls Tryd.prog 47 #[.slice a l.length c] W fun e w' => e = .returned (.slice a (trimD l).length c) ∧ W = w' := fun W h => trim_any a _ c l W rfl hnc (by omega) h
  have T2 : ∀ W, Rw W b k → Calls Tryd.prog 47 #[.slice b k.length d] W fun e w' => e = .returned (.slice b (trimD k).length d) ∧ W = w' := fun W h => trim_any b _ d k W rfl hmd (by omega) h
  have H1 := Lib.hid (T1 w hr)
  have H2 := Lib.hid (T2 w hs)
  clear T1 T2 hr hs hge
  generalize trimD l = lt at *
  generalize trimD k = kt at *
  have vm := val_two hsm
  have vn := val_two (Nat.le_trans hkl hsm)
  have hs1 : ∀ W, Rw W a lt → Calls Tryd.prog 55 #[.slice a lt.length c] W fun e w' => e = .returned (.tuple #[.int .u64 (valD lt : Nat), .bool true]) ∧ ∃ k, w' = W.drewN k := fun W h => to64_small a _ c lt W rfl hsm h
  have hs2 : ∀ W, Rw W b kt → Calls Tryd.prog 55 #[.slice b kt.length d] W fun e w' => e = .returned (.tuple #[.int .u64 (valD kt : Nat), .bool true]) ∧ ∃ k, w' = W.drewN k := fun W h => to64_small b _ d kt W rfl (Nat.le_trans hkl hsm) h
  have HS1 := Lib.hid hs1
  have HS2 := Lib.hid hs2
  clear hs1 hs2
  obtain ⟨M, hM⟩ : ∃ M, valD lt = M := ⟨_, rfl⟩
  obtain ⟨N, hN⟩ : ∃ N, valD kt = N := ⟨_, rfl⟩
  rw [hM] at HS1 vm
  rw [hN] at HS2 vn hpos
  rw [hM, hN] at hcmp
  have HM := Lib.hid hM
  have HN := Lib.hid hN
  rw [hM, hN]
  clear hM hN
  obtain ⟨Qv, hQv⟩ : ∃ q, M / N = q := ⟨_, rfl⟩
  obtain ⟨Rv, hRv⟩ : ∃ r, M % N = r := ⟨_, rfl⟩
  have hqi : (M : Int) / (N : Int) = (Qv : Int) := by rw [← hQv]; simp
  have hri : (M : Int) % (N : Int) = (Rv : Int) := by rw [← hRv]; simp
  have hqt : (M : Int).tdiv (N : Int) = (Qv : Int) := by rw [← hQv, Int.tdiv_eq_ediv_of_nonneg (by omega)]; simp
  have hrt2 : (M : Int).tmod (N : Int) = (Rv : Int) := by rw [← hRv, Int.tmod_eq_emod_of_nonneg (by omega)]; simp
  have hql : Qv < 18446744073709551616 := by rw [← hQv]; exact Nat.lt_of_le_of_lt (Nat.div_le_self _ _) vm
  have hrl : Rv < 18446744073709551616 := by rw [← hRv]; exact Nat.lt_of_le_of_lt (Nat.mod_le _ _) vm
  rw [hQv, hRv]
  have hnz : ((N : Int) == 0) = false := by rw [beq_eq_false_iff_ne]; omega
  have hnz2 : (N == 0) = false := by rw [beq_eq_false_iff_ne]; omega
  have hnz3 : ¬ N = 0 := by omega
  have HQ := Lib.hid hQv
  have HR := Lib.hid hRv
  have G1 := Lib.hid (nfromR Qv hql)
  have G2 := Lib.hid (nfromR Rv hrl)
  have hwq : IntKind.u64.wrap (Qv : Int) = Qv := by rw [IntKind.wrap_u64]; omega
  have hwr : IntKind.u64.wrap (Rv : Int) = Rv := by rw [IntKind.wrap_u64]; omega
  clear hQv hRv hpos hql hrl vm vn
  go_enter Tryd.func39, Tryd.ntmps39
  go_wp2_with (first
    | (go_at_call 47; (with_reducible refine H1.out.mono ?_); rintro e w1 ⟨rfl, rfl⟩)
    | (go_at_call 47; (with_reducible refine H2.out.mono ?_); rintro e w1 ⟨rfl, rfl⟩)
    | (go_at_call 28; (with_reducible refine (ncmp_any a b _ c _ d lt kt _ rfl rfl (by omega) (by omega) (by omega) (by omega) hrt hst).mono ?_); rintro e wb ⟨rfl, hw1⟩; have hb0 := drew_below hw1; have hz0 := hb0.size; have hrb := hrt.below hb0; have hsb := hst.below hb0; clear hw1; rw [HM.out, HN.out, hcmp.out])
    | (go_at_call 55; (with_reducible refine (HS1.out _ hrb).mono ?_); rintro e wc ⟨rfl, hw2⟩; have hb1 := drew_below hw2; have hz1 := hb1.size; have hsb1 := hsb.below hb1; have hbc := hb0.trans (hb1.mono hz0); clear hw2 hb1)
    | (go_at_call 55; (with_reducible refine (HS2.out _ hsb1).mono ?_); rintro e wd ⟨rfl, hw3⟩; have hb2 := drew_below hw3; have hbd := hbc.trans (hb2.mono hbc.size); clear hw3 hb2))
  have hbe := hbd.drew
  have hze := hbe.size
  go_region_held3 (fun _ => True) (trivial) ((first
    | (go_at_call 42; (with_reducible refine (G1.out _).mono ?_); rintro e wf ⟨a1, c1, rfl, hc1, hr1, hbf⟩; have hbf2 := hbe.trans (hbf.mono hze); have hzf := hbf2.size)
    | (go_at_call 42; (with_reducible refine (G2.out _).mono ?_); rintro e wg ⟨a2, c2, rfl, hc2, hr2, hbg⟩; have hbg2 := hbf2.trans (hbg.mono hzf); have hr1' := hr1.below hbg)
    ))
  go_wp2
  go_ret3
  exact ⟨a1, c1, a2, c2, rfl, hc1, hc2, hr1'.mono hze, hr2.mono hzf, hbg2⟩
end Go.Proofs.YtcofiekfhnfjpaaDoor

