
import Derived.Test.YtbplcgbfhijbcaaU2
import Derived.Laws.BitsAllLaws
import Derived.Deep.RegionHeld3
/- P1 -/
namespace Go.Proofs.Ytbplcgbfhijbcaa
open Go.RowKit
set_option linter.unusedVariables false
set_option linter.unusedSimpArgs false
theorem Rw.trim {w : World} {a : Option Addr} {l : List (BitVec 32)} (h : Rw w a l) : Rw w a (trimD l) := by
  rw [trim_prefix]
  exact h.take _
set_option maxRecDepth 50000 in
theorem trim_any (a : Option Addr) (n c : Nat) (l : List (BitVec 32)) (w : World) (hn : l.length = n) (hc : n ≤ c) (hl : l.length ≤ 140737488355328) (hr : Rw w a l) :
    Calls Try.prog 87 #[.slice a n c] w fun e w' => e = .returned (.slice a (trimD l).length c) ∧ w = w' := by
  subst hn
  go_enter Try.func87, Try.ntmps87
  go_wp2
  go_loop [0] (fun s => ∃ k : Nat, k ≤ l.length ∧ s = .slice a k c ∧ Hid (trimD (l.take k) = trimD l)) (fun s => match s with | .slice _ k _ => k | _ => 0)
  case atStart => exact ⟨l.length, Nat.le_refl _, rfl, by rw [List.take_length]; exact rfl⟩
  case round =>
    obtain ⟨k, hk, rfl, ht⟩ := hrel
    by_cases hz : 0 < k ∧ l[k - 1]? = some 0#32
    · obtain ⟨hk0, hz⟩ := hz
      obtain ⟨hk1, hz⟩ := List.getElem?_eq_some_iff.1 hz
      obtain ⟨ad, rfl, hcl⟩ := hr (k - 1) hk1
      rw [hz] at hcl
      have HZ := Lib.hid hz
      clear hz
      go_wp2
      go_round
      case rel => exact ⟨k - 1, by omega, by first | rfl | (congr 1; omega), by refine trim_step l (k - 1) hk1 ?_ HZ.out; rw [show k - 1 + 1 = k by omega]; exact ht.out⟩
      case measure => simp <;> omega
    · have hx : Hid (trimD l = l.take k) := by
        refine trim_take l k hk ht.out ?_
        rcases Nat.eq_zero_or_pos k with h | h
        · exact .inl h
        · exact .inr ⟨by omega, fun e => hz ⟨h, by rw [List.getElem?_eq_getElem (by omega), e]⟩⟩
      have hlen : Hid ((trimD l).length = k) := by
        show _ = _
        rw [hx.out, List.length_take]; omega
      have hcase : k = 0 ∨ (0 < k ∧ ∃ ad d, a = some ad ∧ w.cell? (ad.add (k - 1)) = some (.int .u32 d) ∧ (d == 0) = false) := by
        rcases Nat.eq_zero_or_pos k with h | hp
        · exact .inl h
        · obtain ⟨ad, e, hc2⟩ := hr (k - 1) (by omega)
          refine .inr ⟨hp, ad, _, e, hc2, ?_⟩
          rw [beq_eq_false_iff_ne]
          intro h
          refine hz ⟨hp, ?_⟩
          rw [List.getElem?_eq_getElem (by omega)]
          exact congrArg some (BitVec.eq_of_toNat_eq (by simpa using h))
      clear hz ht
      rcases hcase with rfl | ⟨hp, ad, d, rfl, hc2, hd⟩
      · go_wp2
        go_ret
        exact ⟨by rw [hlen.out]; rfl, rfl⟩
      · go_wp2
        go_ret
        exact ⟨by rw [hlen.out]; rfl, rfl⟩
theorem clone32_nil (c : Nat) (w : World) : Calls Try.prog 86 #[.slice none 0 c] w fun e w' => e = .returned (.slice none 0 0) ∧ w = w' := by
  have he := fun w => Lib.run_eql_slice_nil (P := Try.prog) w 41 73 none 0 c 0 0 Try.underlying41
  go_enter Try.func86, Try.ntmps86
  go_wp2
  go_ret
  exact ⟨rfl, rfl⟩
theorem clone32_some (ad : Addr) (n c : Nat) (l : List (BitVec 32)) (w : World) (hn : l.length = n) (hl : l.length ≤ 10000000) (hr : Rw w (some ad) l) :
    Calls Try.prog 86 #[.slice (some ad) n c] w (FrW w l) := by
  subst hn
  obtain ⟨i0, hi, hz0, hz1, hz2⟩ := info_parts info32
  have hown := fresh_row32 w
  have hb : Below w.heap.size w (w.alloc (.cells #[] 73)) := Below.alloc (Below.refl _ _) (Nat.le_refl _) _
  have he := fun w => Lib.run_eql_slice_nil (P := Try.prog) w 41 73 (some ad) l.length c 0 0 Try.underlying41
  go_enter Try.func86, Try.ntmps86
  go_wp2_with (at_builtin; refine wpList_append_rd _ rfl _ _ _ rfl w.heap.size 73 i0 (.int .u32 0) 4 Try.underlying41 hi hz0 hz1 hz2 rfl _ _ _ rfl hown (some ad) l.length c (bv32 l) rfl (bv32_len _) ((hr.below hb).vals) (bv32_one _) (by unfold maxLen; omega) (by omega) hb.size ?_; intro v' w2 hown3 hg3 _)
  rw [Nat.zero_add, List.nil_append] at hown3
  obtain ⟨a', c', rfl⟩ := own_slice hown3
  go_ret
  exact ⟨a', c', rfl, hown3, hb.grown hg3 hb.size (fun q hq => by cases hq; exact Nat.le_refl _)⟩
theorem clone32_any (a : Option Addr) (n c : Nat) (l : List (BitVec 32)) (w : World) (hn : l.length = n) (hl : l.length ≤ 10000000) (hr : Rw w a l) :
    Calls Try.prog 86 #[.slice a n c] w (FrW w l) := by
  rcases a with _ | ad
  · have : l = [] := by
      rcases l with _ | ⟨x, l⟩
      · rfl
      · obtain ⟨_, e, _⟩ := hr 0 (by simp)
        cases e
    subst this
    subst hn
    refine (clone32_nil c w).mono ?_
    rintro e w' ⟨rfl, rfl⟩
    exact ⟨none, 0, rfl, World.ownsRow_nil _ _ _ _, Below.refl _ _⟩
  · exact clone32_some ad n c l w hn hl hr
theorem nnorm_any (a : Option Addr) (n c : Nat) (l : List (BitVec 32)) (w : World) (hn : l.length = n) (hc : n ≤ c) (hl : l.length ≤ 1000000) (hr : Rw w a l) :
    Calls Try.prog 73 #[.slice a n c] w (FrW w (trimD l)) := by
  subst hn
  have htl := trim_len_le l
  go_enter Try.func73, Try.ntmps73
  go_wp2_with (first
    | (go_at_call 87; (with_reducible refine (trim_any _ _ _ l _ rfl hc (by omega) hr).mono ?_); rintro e w1 ⟨rfl, rfl⟩)
    | (go_at_call 86; (with_reducible refine (clone32_any _ _ _ (trimD l) _ rfl (by omega) hr.trim).mono ?_); rintro e w1 ⟨a1, c1, rfl, hown1, hb1⟩))
  go_ret
  exact ⟨a1, c1, rfl, hown1, hb1⟩
theorem nisnorm_any (a : Option Addr) (n c : Nat) (l : List (BitVec 32)) (w : World) (hn : l.length = n) (hl : l.length ≤ 10000000) (hr : Rw w a l) :
    Calls Try.prog 88 #[.slice a n c] w fun e w' => e = .returned (.bool (decide (trimD l = l))) ∧ w = w' := by
  subst hn
  rcases Nat.eq_zero_or_pos l.length with h | h
  · have hl0 := List.length_eq_zero_iff.1 h
    subst hl0
    go_enter Try.func88, Try.ntmps88
    go_wp2
    go_ret
    exact ⟨rfl, rfl⟩
  · obtain ⟨ad, rfl, hc⟩ := hr (l.length - 1) (by omega)
    have h1 : ((l.length : Int) == 0) = false := by rw [beq_eq_false_iff_ne]; omega
    by_cases hz : l[l.length - 1] = 0#32
    · have hq : decide (trimD l = l) = false := by
        rw [decide_eq_false_iff_not]
        intro e
        have h2 := last_split l h
        rw [hz] at h2
        have h3 := trim_snoc0 (l.take (l.length - 1))
        rw [← h2, e] at h3
        have h4 := congrArg List.length h3
        have h5 := trim_len_le (l.take (l.length - 1))
        rw [List.length_take] at h5
        omega
      rw [hq]
      rw [hz] at hc
      clear hz hq
      go_enter Try.func88, Try.ntmps88
      go_wp2
      go_ret
      exact ⟨rfl, rfl⟩
    · have hq : decide (trimD l = l) = true := by
        rw [decide_eq_true_iff]
        have h2 := last_split l h
        have h3 := trim_snoc (l.take (l.length - 1)) _ hz
        rwa [← h2] at h3
      have h6 : ((l[l.length - 1].toNat : Int) == 0) = false := by
        rw [beq_eq_false_iff_ne]
        intro e
        exact hz (BitVec.eq_of_toNat_eq (by simpa using e))
      have h7 : ((l[l.length - 1].toNat : Int) != 0) = true := by rw [bne, h6]; rfl
      rw [hq]
      clear hz hq
      go_enter Try.func88, Try.ntmps88
      go_wp2
      go_ret
      exact ⟨rfl, rfl⟩
theorem sign_any (b : Bool) (w : World) : Calls Try.prog 113 #[.bool b] w fun e w' => e = .returned (.int .i64 (if b then 1 else -1)) ∧ w' = w := by
  cases b
  · go_enter Try.func113, Try.ntmps113
    go_wp2
    go_ret
    exact ⟨rfl, rfl⟩
  · go_enter Try.func113, Try.ntmps113
    go_wp2
    go_ret
    exact ⟨rfl, rfl⟩
theorem quiet_two {P : Program} {f : FuncId} {args : Array Value} {v : Value} (h : ∀ W : World, Calls P f args W fun e w' => e = .returned v ∧ w' = W) {w : World} {a n : Nat} : Calls P f args (w.drewN (a + n)) fun e w'' => e = .returned v ∧ ∃ m, w'' = w.drewN (a + m) := (h _).mono fun _ _ hh => ⟨hh.1, n, hh.2⟩
theorem quiet_three {P : Program} {f : FuncId} {args : Array Value} {v : Value} (h : ∀ W : World, Calls P f args W fun e w' => e = .returned v ∧ w' = W) {w : World} {a b n : Nat} : Calls P f args (w.drewN (a + (b + n))) fun e w'' => e = .returned v ∧ ∃ m, w'' = w.drewN (a + (b + m)) := (h _).mono fun _ _ hh => ⟨hh.1, n, hh.2⟩
def NcRel (l k : List (BitVec 32)) (w : World) (i : Value) (wr : World) : Prop := ((∃ p : Nat, p < l.length ∧ i = .int .i64 p ∧ Hid (valD (l.drop (p + 1)) = valD (k.drop (p + 1)))) ∨ (i = .int .i64 (-1) ∧ Hid (valD l = valD k))) ∧ ∃ n, wr = w.drewN n
set_option maxRecDepth 50000 in
set_option maxHeartbeats 1000000 in
theorem ncmp_any (a b : Option Addr) (n c m d : Nat) (l k : List (BitVec 32)) (w : World) (hn : l.length = n) (hm : k.length = m) (hnc : n ≤ c) (hmd : m ≤ d) (hl : n ≤ 1000000) (hl2 : m ≤ 1000000) (hr : Rw w a l) (hs : Rw w b k) :
    Calls Try.prog 103 #[.slice a n c, .slice b m d] w fun e w' => e = .returned (.int .i64 (cmpN (valD l) (valD k))) ∧ ∃ n, w' = w.drewN n := by
  subst hn hm
  have e1 := valD_trim l
  have e2 := valD_trim k
  have t1 : trimD (trimD l) = trimD l := by rw [← canon_val l, trim_canon]
  have t2 : trimD (trimD k) = trimD k := by rw [← canon_val k, trim_canon]
  have f1 := trim_len_le l
  have f2 := trim_len_le k
  have hrt := hr.trim
  have hst := hs.trim
  rw [← e1, ← e2]
  clear e1 e2
  have T1 : ∀ W, Rw W a l → Calls Try.prog 87 #[.slice a l.length c] W fun e w' => e = .returned (.slice a (trimD l).length c) ∧ W = w' := fun W h => trim_any a _ c l W rfl hnc (by omega) h
  have T2 : ∀ W, Rw W b k → Calls Try.prog 87 #[.slice b k.length d] W fun e w' => e = .returned (.slice b (trimD k).length d) ∧ W = w' := fun W h => trim_any b _ d k W rfl hmd (by omega) h
  have H1 := Lib.hid (T1 w hr)
  have H2 := Lib.hid (T2 w hs)
  clear T1 T2 hr hs
  generalize trimD l = lt at *
  generalize trimD k = kt at *
  rcases Nat.lt_trichotomy lt.length kt.length with h | h | h
  · have hres := Lib.hid (cmpN_lt (valD_len_lt lt kt t2 h))
    have h1 : ((lt.length : Int) != (kt.length : Int)) = true := by simp; omega
    have h2 : ((lt.length : Int) == (kt.length : Int)) = false := by simp; omega
    have h3 : decide ((kt.length : Int) < (lt.length : Int)) = false := by rw [decide_eq_false_iff_not]; omega
    have h4 : decide (kt.length < lt.length) = false := by rw [decide_eq_false_iff_not]; omega
    clear t1 t2
    go_enter Try.func103, Try.ntmps103
    go_wp2_with (first
      | (go_at_call 87; (with_reducible refine H1.out.mono ?_); rintro e w1 ⟨rfl, rfl⟩)
      | (go_at_call 87; (with_reducible refine H2.out.mono ?_); rintro e w1 ⟨rfl, rfl⟩)
      | (go_at_call 113; (with_reducible refine (sign_any false _).mono ?_); rintro e w1 ⟨rfl, rfl⟩))
    go_ret
    exact ⟨by rw [hres.out]; rfl, 0, rfl⟩
  · have hl2' : kt.length = lt.length := h.symm
    have h1 : ((lt.length : Int) != (lt.length : Int)) = false := by simp
    have HLEN := Lib.hid hl2'
    rw [hl2'] at H2
    clear hl2' h t1 t2
    go_enter Try.func103, Try.ntmps103
    go_wp2_with (first
      | (go_at_call 87; (with_reducible refine H1.out.mono ?_); rintro e w1 ⟨rfl, rfl⟩)
      | (go_at_call 87; (with_reducible refine H2.out.mono ?_); rintro e w1 ⟨rfl, rfl⟩))
    go_loopw [5] (fun i wr => NcRel lt kt w i wr) (fun i _ => (intOf i + 1).toNat)
    case atStart =>
      refine ⟨?_, 0, rfl⟩
      rcases Nat.eq_zero_or_pos lt.length with h0 | h0
      · exact .inr ⟨by rw [h0]; rfl, by rw [List.length_eq_zero_iff.1 h0, List.length_eq_zero_iff.1 (HLEN.out.trans h0)]; exact rfl⟩
      · refine .inl ⟨lt.length - 1, by omega, by go_num, ?_⟩
        show _ = _
        rw [show lt.length - 1 + 1 = lt.length by omega, List.drop_eq_nil_of_le (Nat.le_refl _), List.drop_eq_nil_of_le (by rw [HLEN.out]; exact Nat.le_refl _)]
    case round =>
      obtain ⟨hp, nn, rfl⟩ := hrel
      rcases hp with ⟨p, hp, rfl, HD⟩ | ⟨rfl, HV⟩
      · obtain ⟨ad, rfl, hc1⟩ := hrt p hp
        obtain ⟨bd, rfl, hc2⟩ := hst p (by have := HLEN.out; omega)
        have hpk : Hid (p < kt.length) := show p < kt.length by have := HLEN.out; omega
        obtain ⟨x, hx⟩ : ∃ x, lt[p].toNat = x := ⟨_, rfl⟩
        obtain ⟨y, hy⟩ : ∃ y, (kt[p]'hpk.out).toNat = y := ⟨_, rfl⟩
        rw [hx] at hc1
        rw [hy] at hc2
        have HX : Hid (digD lt p = x ∧ digD kt p = y) := ⟨by rw [digD_in _ _ hp, hx], by rw [digD_in _ _ hpk.out, hy]⟩
        clear hx hy
        rcases Nat.lt_trichotomy x y with h | h | h
        · have hres := Lib.hid (cmpN_lt (dig_cmp lt kt p HD.out (by rw [HX.out.1, HX.out.2]; exact h)))
          have g1 : ((x : Int) != (y : Int)) = true := by simp; omega
          have g2 : ((x : Int) == (y : Int)) = false := by simp; omega
          have g3 : decide ((y : Int) < (x : Int)) = false := by rw [decide_eq_false_iff_not]; omega
          have g4 : decide (y < x) = false := by rw [decide_eq_false_iff_not]; omega
          go_wp2
          go_quiet (fail)
          go_wp2
          go_quiet ((go_at_call 113; first | with_reducible exact quiet_two (sign_any false) | with_reducible exact quiet_three (sign_any false) | (trace_state; fail)))
          go_wp2
          go_ret
          exact ⟨by rw [hres.out]; rfl, _, rfl⟩
        · have HE := Lib.hid h
          subst h
          have g1 : ((x : Int) != (x : Int)) = false := by simp
          go_wp2
          go_quiet (fail)
          go_wp2
          go_roundw
          case rel =>
            have he : valD (lt.drop p) = valD (kt.drop p) := by rw [drop_dig lt p, drop_dig kt p, HX.out.1, HX.out.2, HD.out]
            refine ⟨?_, _, rfl⟩
            rcases Nat.eq_zero_or_pos p with rfl | h
            · exact .inr ⟨rfl, show _ = _ by simpa using he⟩
            · refine .inl ⟨p - 1, by omega, by go_num, ?_⟩
              show _ = _
              rw [show p - 1 + 1 = p by omega]; exact he
          case measure => simp [intOf] <;> omega
        · have hres := Lib.hid (cmpN_gt (dig_cmp kt lt p HD.out.symm (by rw [HX.out.1, HX.out.2]; exact h)))
          have g1 : ((x : Int) != (y : Int)) = true := by simp; omega
          have g2 : ((x : Int) == (y : Int)) = false := by simp; omega
          have g3 : decide ((y : Int) < (x : Int)) = true := by rw [decide_eq_true_iff]; omega
          have g4 : decide (y < x) = true := by rw [decide_eq_true_iff]; omega
          go_wp2
          go_quiet (fail)
          go_wp2
          go_quiet ((go_at_call 113; first | with_reducible exact quiet_two (sign_any true) | with_reducible exact quiet_three (sign_any true) | (trace_state; fail)))
          go_wp2
          go_ret
          exact ⟨by rw [hres.out]; rfl, _, by first | rfl | (rw [World.drewN_drewN, World.drewN_drewN])⟩
      · have hres := Lib.hid (show cmpN (valD lt) (valD kt) = 0 by rw [HV.out, cmpN_eq])
        go_wp2
        go_ret
        exact ⟨by rw [hres.out]; rfl, _, rfl⟩
  · have hres := Lib.hid (cmpN_gt (valD_len_lt kt lt t1 h))
    have h1 : ((lt.length : Int) != (kt.length : Int)) = true := by simp; omega
    have h2 : ((lt.length : Int) == (kt.length : Int)) = false := by simp; omega
    have h3 : decide ((kt.length : Int) < (lt.length : Int)) = true := by rw [decide_eq_true_iff]; omega
    have h4 : decide (kt.length < lt.length) = true := by rw [decide_eq_true_iff]; omega
    clear t1 t2
    go_enter Try.func103, Try.ntmps103
    go_wp2_with (first
      | (go_at_call 87; (with_reducible refine H1.out.mono ?_); rintro e w1 ⟨rfl, rfl⟩)
      | (go_at_call 87; (with_reducible refine H2.out.mono ?_); rintro e w1 ⟨rfl, rfl⟩)
      | (go_at_call 113; (with_reducible refine (sign_any true _).mono ?_); rintro e w1 ⟨rfl, rfl⟩))
    go_ret
    exact ⟨by rw [hres.out]; rfl, 0, rfl⟩
theorem or_num (y x : Nat) (hy : y < 4294967296) (hx : x < 4294967296) : (bits .or .u64 ((y : Int) * 4294967296) (x : Int)) = ((y * 4294967296 + x : Nat) : Int) := by
  rw [show ((y : Int) * 4294967296) = ((y * 4294967296 : Nat) : Int) by omega, u64_or_nat _ _ (by omega) (by omega), nat_join 32 _ _ (by omega) (by omega)]
set_option maxRecDepth 50000 in
theorem nfrom_any (n : Nat) (hn : n < 18446744073709551616) (w : World) : Calls Try.prog 92 #[.int .u64 n] w (FrW w (canon n)) := by
  rcases Nat.eq_zero_or_pos n with rfl | h0
  · rw [canon_zero]
    go_enter Try.func92, Try.ntmps92
    go_wp2
    go_ret
    exact ⟨none, 0, rfl, World.ownsRow_nil _ _ _ _, Below.refl _ _⟩
  · have hne : ((n : Int) == 0) = false := by rw [beq_eq_false_iff_ne]; omega
    by_cases h1 : n ≤ 4294967295
    · have hv : Hid (canon n = [BitVec.ofNat 32 n]) := by
        show _ = _
        rw [canon_pos (by omega), show n / 4294967296 = 0 by omega, canon_zero]
      have hrow := own_made w #[Value.int .u32 (n : Int)] 73 1 rfl (by unfold maxLen; omega)
      have hb := Below.alloc (Below.refl w.heap.size w) (Nat.le_refl _) (.cells #[Value.int .u32 (n : Int)] 73)
      go_enter Try.func92, Try.ntmps92
      go_wp2
      go_ret
      refine FrW.eq (l := [BitVec.ofNat 32 n]) ⟨_, _, rfl, ?_, hb⟩ hv.out.symm
      rw [show bv32 [BitVec.ofNat 32 n] = [Value.int .u32 (n : Int)] by simp only [bv32, List.map_cons, List.map_nil]; rw [toNat32]; congr 2; omega]
      exact hrow
    · have hv : Hid (canon n = [BitVec.ofNat 32 n, BitVec.ofNat 32 (n / 4294967296)]) := by
        show _ = _
        rw [canon_pos (by omega), canon_pos (by omega), show n / 4294967296 / 4294967296 = 0 by omega, canon_zero]
      have hrow := own_made w #[Value.int IntKind.u32 ((n : Int) % 4294967296), Value.int IntKind.u32 ((n : Int) / 4294967296)] 73 2 rfl (by unfold maxLen; omega)
      have hb := Below.alloc (Below.refl w.heap.size w) (Nat.le_refl _) (.cells #[Value.int IntKind.u32 ((n : Int) % 4294967296), Value.int IntKind.u32 ((n : Int) / 4294967296)] 73)
      go_enter Try.func92, Try.ntmps92
      go_wp2
      go_ret
      refine FrW.eq (l := [BitVec.ofNat 32 n, BitVec.ofNat 32 (n / 4294967296)]) ⟨_, _, rfl, ?_, hb⟩ hv.out.symm
      have e2 := two_bv n hn
      exact e2 ▸ hrow
theorem to64_small (a : Option Addr) (n c : Nat) (l : List (BitVec 32)) (w : World) (hn : l.length = n) (h2 : n ≤ 2) (hr : Rw w a l) :
    Calls Try.prog 91 #[.slice a n c] w fun e w' => e = .returned (.tuple #[.int .u64 (valD l : Nat), .bool true]) ∧ ∃ k, w' = w.drewN k := by
  subst hn
  match l, h2, hr with
  | [], _, hr =>
    go_enter Try.func91, Try.ntmps91
    go_wp2
    go_ret2
    exact ⟨rfl, 0, rfl⟩
  | [x], _, hr =>
    obtain ⟨ad, rfl, hc⟩ := hr 0 (by simp)
    simp only [List.length_cons, List.length_nil, List.getElem_cons_zero] at hc ⊢
    simp [Addr.add] at hc
    go_enter Try.func91, Try.ntmps91
    go_wp2
    go_ret2
    exact ⟨by simp [valD_cons, valD_nil], 0, rfl⟩
  | [x, y], _, hr =>
    obtain ⟨ad, rfl, hc⟩ := hr 0 (by simp)
    obtain ⟨ad', e, hc2⟩ := hr 1 (by simp)
    cases e
    simp only [List.length_cons, List.length_nil, List.getElem_cons_zero, List.getElem_cons_succ] at hc hc2 ⊢
    simp [Addr.add] at hc hc2
    go_enter Try.func91, Try.ntmps91
    go_wp2
    go_quiet (fail)
    go_wp2
    go_ret2
    refine ⟨?_, _, rfl⟩
    rw [show (valD [x, y] : Int) = ((y.toNat * 4294967296 + x.toNat : Nat) : Int) by simp only [valD_cons, valD_nil]; omega, ← or_num _ _ y.isLt x.isLt]
    rfl
end Go.Proofs.Ytbplcgbfhijbcaa

/- P2 -/
namespace Go.Proofs.Ytbplcgbfhijbcaa
open Go.RowKit
set_option linter.unusedVariables false
set_option linter.unusedSimpArgs false
theorem take_set32 (Q : List (BitVec 32)) (p : Nat) (d : BitVec 32) (h : p < Q.length) : (Q.set p d).take (p + 1) = Q.take p ++ [d] := by
  rw [List.take_succ_eq_append_getElem (by rw [List.length_set]; exact h), List.getElem_set_self, List.take_set_of_le (Nat.le_refl _)]
theorem valD_set_take (Q : List (BitVec 32)) (p : Nat) (d : BitVec 32) (h : p < Q.length) : valD ((Q.set p d).take (p + 1)) = valD (Q.take p) + pw p * d.toNat := by
  rw [take_set32 Q p d h, valD_snoc, List.length_take, Nat.min_eq_left (Nat.le_of_lt h)]
def NaR (w : World) (X Y : List (BitVec 32)) (g cp : Nat) (c i : Value) (wr : World) : Prop := ∃ (p q : Nat) (Q : List (BitVec 32)), p ≤ X.length ∧ i = .int .i64 p ∧ c = .int .u64 q ∧ q < 4294967296 ∧
  Hid (Q.length = X.length + 1 ∧ valD (X.take p) + valD (Y.take p) = valD (Q.take p) + q * pw p) ∧
  wr.ownsRow w.heap.size 73 1 (.slice (some ⟨g, 0, none⟩) (X.length + 1) cp) (X.length + 1) (bv32 Q) ∧ Below w.heap.size w wr
end Go.Proofs.Ytbplcgbfhijbcaa

/- P3 -/
namespace Go.Proofs.Ytbplcgbfhijbcaa
open Go.RowKit
set_option linter.unusedVariables false
set_option linter.unusedSimpArgs false
theorem drew_below {w w' : World} (h : ∃ n, w' = w.drewN n) : Below w.heap.size w w' := by
  obtain ⟨n, rfl⟩ := h
  exact below_drewN (Below.refl _ _) _
theorem cmpN_ge {x y : Nat} (h : y ≤ x) : ∃ v : Int, cmpN x y = v ∧ decide (v < 0) = false := by
  rcases Nat.lt_or_eq_of_le h with h1 | h1
  · exact ⟨1, cmpN_gt h1, rfl⟩
  · subst h1
    exact ⟨0, cmpN_eq _, rfl⟩
def NsR (w : World) (X Y : List (BitVec 32)) (g cp : Nat) (c i : Value) (wr : World) : Prop := ∃ (p q : Nat) (Q : List (BitVec 32)), p ≤ X.length ∧ i = .int .i64 p ∧ c = .int .u64 q ∧ q ≤ 1 ∧
  Hid (Q.length = X.length ∧ valD (X.take p) + q * pw p = valD (Y.take p) + valD (Q.take p)) ∧
  wr.ownsRow w.heap.size 73 1 (.slice (some ⟨g, 0, none⟩) X.length cp) X.length (bv32 Q) ∧ Below w.heap.size w wr
end Go.Proofs.Ytbplcgbfhijbcaa

/- P4 -/
namespace Go.Proofs.Ytbplcgbfhijbcaa
open Go.RowKit
set_option linter.unusedVariables false
set_option linter.unusedSimpArgs false
def NmIn (w : World) (l k : List (BitVec 32)) (i : Nat) (g cp : Nat) (c j : Value) (wr : World) : Prop := ∃ (m q : Nat) (Q : List (BitVec 32)), m ≤ k.length ∧ j = .int .i64 m ∧ c = .int .u64 q ∧ q < 4294967296 ∧
  Hid (Q.length = l.length + k.length ∧ valD Q + q * pw (i + m) = valD (l.take i) * valD k + digD l i * valD (k.take m) * pw i ∧ ∀ z, i + k.length ≤ z → z < Q.length → Q[z]? = some 0#32) ∧
  wr.ownsRow w.heap.size 73 1 (.slice (some ⟨g, 0, none⟩) (l.length + k.length) cp) (l.length + k.length) (bv32 Q) ∧ Below w.heap.size w wr
def NmOut (w : World) (l k : List (BitVec 32)) (g cp : Nat) (i : Value) (wr : World) : Prop := ∃ (m : Nat) (Q : List (BitVec 32)), m ≤ l.length ∧ i = .int .i64 m ∧
  Hid (Q.length = l.length + k.length ∧ valD Q = valD (l.take m) * valD k ∧ ∀ z, m + k.length ≤ z → z < Q.length → Q[z]? = some 0#32) ∧
  wr.ownsRow w.heap.size 73 1 (.slice (some ⟨g, 0, none⟩) (l.length + k.length) cp) (l.length + k.length) (bv32 Q) ∧ Below w.heap.size w wr
end Go.Proofs.Ytbplcgbfhijbcaa

/- P5 -/
namespace Go.Proofs.Ytbplcgbfhijbcaa
open Go.RowKit
set_option linter.unusedVariables false
set_option linter.unusedSimpArgs false
theorem pw_two' : pw 2 = 18446744073709551616 := by decide
theorem val_two {l : List (BitVec 32)} (h : l.length ≤ 2) : valD l < 18446744073709551616 := by
  have := valD_lt l
  have h2 := pw_mono h
  rw [pw_two'] at h2
  omega
theorem nfromR (n : Nat) (hn : n < 18446744073709551616) (w : World) : Calls Try.prog 92 #[.int .u64 n] w (FrR w (canon n)) := (nfrom_any n hn w).mono fun _ _ h => FrR.of_own h
set_option maxRecDepth 50000 in
set_option maxHeartbeats 2000000 in
theorem ndm_small (a b : Option Addr) (n c m d : Nat) (l k : List (BitVec 32)) (w : World) (hn : l.length = n) (hm : k.length = m) (hnc : n ≤ c) (hmd : m ≤ d) (hl : n ≤ 1000000) (hl2 : m ≤ 1000000) (hr : Rw w a l) (hs : Rw w b k) (hpos : 0 < valD k) (hge : valD k ≤ valD l) (hsm : (trimD l).length ≤ 2) :
    Calls Try.prog 94 #[.slice a n c, .slice b m d] w fun e w' => ∃ a1 c1 a2 c2, e = .returned (.tuple #[.slice a1 (canon (valD l / valD k)).length c1, .slice a2 (canon (valD l % valD k)).length c2, .int .i64 0]) ∧ (canon (valD l / valD k)).length ≤ c1 ∧ (canon (valD l % valD k)).length ≤ c2 ∧ RwF w.heap.size w' a1 (canon (valD l / valD k)) ∧ RwF w.heap.size w' a2 (canon (valD l % valD k)) ∧ Below w.heap.size w w' := by
  subst hn hm
  have f1 := trim_len_le l
  have f2 := trim_len_le k
  have hrt := hr.trim
  have hst := hs.trim
  have t2 : trimD (trimD k) = trimD k := by rw [← canon_val k, trim_canon]
  have hkz : ((trimD k).length == 0) = false := by
    rw [beq_eq_false_iff_ne]
    have := canon_len_pos hpos
    rw [canon_val] at this
    omega
  have hkzi : (((trimD k).length : Int) == 0) = false := by
    rw [beq_eq_false_iff_ne] at hkz ⊢
    omega
  rw [← valD_trim l, ← valD_trim k] at hge ⊢
  rw [← valD_trim k] at hpos
  have hkl : (trimD k).length ≤ (trimD l).length := by
    rcases Nat.lt_or_ge (trimD l).length (trimD k).length with h | h
    · have := valD_len_lt _ _ t2 h
      omega
    · exact h
  obtain ⟨cv, hcv, hcv2⟩ := cmpN_ge hge
  have hcmp := Lib.hid hcv
  clear hcv t2
  have T1 : ∀ W, Rw W a l → Calls Try.prog 87 #[.slice a l.length c] W fun e w' => e = .returned (.slice a (trimD l).length c) ∧ W = w' := fun W h => trim_any a _ c l W rfl hnc (by omega) h
  have T2 : ∀ W, Rw W b k → Calls Try.prog 87 #[.slice b k.length d] W fun e w' => e = .returned (.slice b (trimD k).length d) ∧ W = w' := fun W h => trim_any b _ d k W rfl hmd (by omega) h
  have H1 := Lib.hid (T1 w hr)
  have H2 := Lib.hid (T2 w hs)
  clear T1 T2 hr hs hge
  generalize trimD l = lt at *
  generalize trimD k = kt at *
  have vm := val_two hsm
  have vn := val_two (Nat.le_trans hkl hsm)
  have hs1 : ∀ W, Rw W a lt → Calls Try.prog 91 #[.slice a lt.length c] W fun e w' => e = .returned (.tuple #[.int .u64 (valD lt : Nat), .bool true]) ∧ ∃ k, w' = W.drewN k := fun W h => to64_small a _ c lt W rfl hsm h
  have hs2 : ∀ W, Rw W b kt → Calls Try.prog 91 #[.slice b kt.length d] W fun e w' => e = .returned (.tuple #[.int .u64 (valD kt : Nat), .bool true]) ∧ ∃ k, w' = W.drewN k := fun W h => to64_small b _ d kt W rfl (Nat.le_trans hkl hsm) h
  have HS1 := Lib.hid hs1
  have HS2 := Lib.hid hs2
  clear hs1 hs2
  obtain ⟨M, hM⟩ : ∃ M, valD lt = M := ⟨_, rfl⟩
  obtain ⟨N, hN⟩ : ∃ N, valD kt = N := ⟨_, rfl⟩
  rw [hM] at HS1 vm
  rw [hN] at HS2 vn hpos
  rw [hM, hN] at hcmp
  have HM := Lib.hid hM
  have HN := Lib.hid hN
  rw [hM, hN]
  clear hM hN
  obtain ⟨Qv, hQv⟩ : ∃ q, M / N = q := ⟨_, rfl⟩
  obtain ⟨Rv, hRv⟩ : ∃ r, M % N = r := ⟨_, rfl⟩
  have hqi : (M : Int) / (N : Int) = (Qv : Int) := by rw [← hQv]; simp
  have hri : (M : Int) % (N : Int) = (Rv : Int) := by rw [← hRv]; simp
  have hqt : (M : Int).tdiv (N : Int) = (Qv : Int) := by rw [← hQv, Int.tdiv_eq_ediv_of_nonneg (by omega)]; simp
  have hrt2 : (M : Int).tmod (N : Int) = (Rv : Int) := by rw [← hRv, Int.tmod_eq_emod_of_nonneg (by omega)]; simp
  have hql : Qv < 18446744073709551616 := by rw [← hQv]; exact Nat.lt_of_le_of_lt (Nat.div_le_self _ _) vm
  have hrl : Rv < 18446744073709551616 := by rw [← hRv]; exact Nat.lt_of_le_of_lt (Nat.mod_le _ _) vm
  rw [hQv, hRv]
  have hnz : ((N : Int) == 0) = false := by rw [beq_eq_false_iff_ne]; omega
  have hnz2 : (N == 0) = false := by rw [beq_eq_false_iff_ne]; omega
  have hnz3 : ¬ N = 0 := by omega
  have HQ := Lib.hid hQv
  have HR := Lib.hid hRv
  have G1 := Lib.hid (nfromR Qv hql)
  have G2 := Lib.hid (nfromR Rv hrl)
  have hwq : IntKind.u64.wrap (Qv : Int) = Qv := by rw [IntKind.wrap_u64]; omega
  have hwr : IntKind.u64.wrap (Rv : Int) = Rv := by rw [IntKind.wrap_u64]; omega
  clear hQv hRv hpos hql hrl vm vn
  go_enter Try.func94, Try.ntmps94
  go_wp2_with (first
    | (go_at_call 87; (with_reducible refine H1.out.mono ?_); rintro e w1 ⟨rfl, rfl⟩)
    | (go_at_call 87; (with_reducible refine H2.out.mono ?_); rintro e w1 ⟨rfl, rfl⟩)
    | (go_at_call 103; (with_reducible refine (ncmp_any a b _ c _ d lt kt _ rfl rfl (by omega) (by omega) (by omega) (by omega) hrt hst).mono ?_); rintro e wb ⟨rfl, hw1⟩; have hb0 := drew_below hw1; have hz0 := hb0.size; have hrb := hrt.below hb0; have hsb := hst.below hb0; clear hw1; rw [HM.out, HN.out, hcmp.out])
    | (go_at_call 91; (with_reducible refine (HS1.out _ hrb).mono ?_); rintro e wc ⟨rfl, hw2⟩; have hb1 := drew_below hw2; have hz1 := hb1.size; have hsb1 := hsb.below hb1; have hbc := hb0.trans (hb1.mono hz0); clear hw2 hb1)
    | (go_at_call 91; (with_reducible refine (HS2.out _ hsb1).mono ?_); rintro e wd ⟨rfl, hw3⟩; have hb2 := drew_below hw3; have hbd := hbc.trans (hb2.mono hbc.size); clear hw3 hb2))
  have hbe := hbd.drew
  have hze := hbe.size
  go_region_held3 (fun _ => True) (trivial) ((first
    | (go_at_call 92; (with_reducible refine (G1.out _).mono ?_); rintro e wf ⟨a1, c1, rfl, hc1, hr1, hbf⟩; have hbf2 := hbe.trans (hbf.mono hze); have hzf := hbf2.size)
    | (go_at_call 92; (with_reducible refine (G2.out _).mono ?_); rintro e wg ⟨a2, c2, rfl, hc2, hr2, hbg⟩; have hbg2 := hbf2.trans (hbg.mono hzf); have hr1' := hr1.below hbg)
    ))
  go_wp2
  go_ret3
  exact ⟨a1, c1, a2, c2, rfl, hc1, hc2, hr1'.mono hze, hr2.mono hzf, hbg2⟩
end Go.Proofs.Ytbplcgbfhijbcaa

