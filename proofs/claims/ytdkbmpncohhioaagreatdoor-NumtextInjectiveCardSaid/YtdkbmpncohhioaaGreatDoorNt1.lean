
import Derived.Test.YtdkbmpncohhioaaGreatDoorUD
import Derived.Test.YtdkbmpncohhioaaGreatDoorUC
namespace Go.Proofs.YtdkbmpncohhioaaGreatDoor
open Go.RowKit
set_option linter.unusedVariables false
set_option linter.unusedSimpArgs false
attribute [local go_sem ↓] Go.wp_at_zero Go.wp_at_succ
/-- The error of an integer's text, and its value. -/
def pE (l : List UInt8) : Nat := if isDec (pdig l) = false then 3 else if 1000 < (pdig l).length then 5 else if pneg l = true ∧ dv (pdig l) = 0 then 3 else 0
def pZ (l : List UInt8) : Int := zv (pneg l) (dv (pdig l))
theorem Rw.al {W : World} {a : Option Addr} {l : List (BitVec 32)} (h : Rw W a l) (o : Obj) : Rw (W.alloc o) a l := h.below (Below.alloc (Below.refl _ _) (Nat.le_refl _) o)
theorem belAl {w W : World} (h : Below w.heap.size w W) (o : Obj) : Below w.heap.size w (W.alloc o) := h.alloc h.size o
theorem pE_zero {l : List UInt8} (h : pE l = 0) : isDec (pdig l) = true ∧ (pdig l).length ≤ 1000 ∧ ¬ (pneg l = true ∧ dv (pdig l) = 0) := by
  unfold pE at h
  split at h
  · omega
  · split at h
    · omega
    · split at h
      · omega
      · exact ⟨by simp_all, by omega, by assumption⟩
/-- What a parser of integers answers. -/
def PaA (w : World) (l : List UInt8) (e : Ending) (w' : World) : Prop :=
  (pE l ≠ 0 ∧ e = .returned (errV (pE l)) ∧ Below w.heap.size w w') ∨ (pE l = 0 ∧ ∃ a c, e = .returned (okV (pZ l) a c) ∧ RwF w.heap.size w' a (canon (pZ l).natAbs) ∧ Below w.heap.size w w')
def PaC (w : World) (l : List UInt8) (e : Ending) (w' : World) : Prop :=
  (pE l ≠ 0 ∧ e = .returned (errV (pE l)) ∧ Below w.heap.size w w') ∨ (pE l = 0 ∧ ∃ a c, e = .returned (okV (pZ l) a c) ∧ (canon (pZ l).natAbs).length ≤ c ∧ RwF w.heap.size w' a (canon (pZ l).natAbs) ∧ Below w.heap.size w w')
theorem zpa_any (S : ByteArray) (l : List UInt8) (w : World) (hS : S.data.toList = l) (hl : l.length ≤ 1000000) : Calls Tryz.prog 21 #[.string S] w (PaC w l) := by
  by_cases h1 : isDec (pdig l) = false
  · have e : pE l = 3 := by unfold pE; rw [if_pos h1]
    exact (zparse_bad S l w hS hl h1).mono fun e' w' h => .inl ⟨by rw [e]; decide, by rw [e]; exact h.1, h.2⟩
  · have h1' : isDec (pdig l) = true := by simpa using h1
    by_cases h2 : 1000 < (pdig l).length
    · have e : pE l = 5 := by unfold pE; rw [if_neg h1, if_pos h2]
      exact (zparse_long S l w hS hl h1' h2).mono fun e' w' h => .inl ⟨by rw [e]; decide, by rw [e]; exact h.1, h.2⟩
    · by_cases h3 : pneg l = true ∧ dv (pdig l) = 0
      · have e : pE l = 3 := by unfold pE; rw [if_neg h1, if_neg h2, if_pos h3]
        exact (zparse_zero S l w hS h1' (by omega) h3).mono fun e' w' h => .inl ⟨by rw [e]; decide, by rw [e]; exact h.1, h.2⟩
      · have e : pE l = 0 := by unfold pE; rw [if_neg h1, if_neg h2, if_neg h3]
        exact (zparse_ok S l w hS h1' (by omega) h3).mono fun e' w' h => .inr ⟨e, h⟩
theorem qpa_any (S : ByteArray) (l : List UInt8) (w : World) (hS : S.data.toList = l) (hl : l.length ≤ 1000000) : Calls Tryz.prog 23 #[.string S] w (PaA w l) := by
  by_cases h1 : isDec (pdig l) = false
  · have e : pE l = 3 := by unfold pE; rw [if_pos h1]
    exact (qparse_bad S l w hS hl h1).mono fun e' w' h => .inl ⟨by rw [e]; decide, by rw [e]; exact h.1, h.2⟩
  · have h1' : isDec (pdig l) = true := by simpa using h1
    by_cases h2 : 1000 < (pdig l).length
    · have e : pE l = 5 := by unfold pE; rw [if_neg h1, if_pos h2]
      exact (qparse_long S l w hS hl h1' h2).mono fun e' w' h => .inl ⟨by rw [e]; decide, by rw [e]; exact h.1, h.2⟩
    · by_cases h3 : pneg l = true ∧ dv (pdig l) = 0
      · have e : pE l = 3 := by unfold pE; rw [if_neg h1, if_neg h2, if_pos h3]
        exact (qparse_zero S l w hS h1' (by omega) h3).mono fun e' w' h => .inl ⟨by rw [e]; decide, by rw [e]; exact h.1, h.2⟩
      · have e : pE l = 0 := by unfold pE; rw [if_neg h1, if_neg h2, if_neg h3]
        exact (qparse_ok S l w hS h1' (by omega) h3).mono fun e' w' h => .inr ⟨e, h⟩
/-- What ParseInt answers. -/
def iE (l : List UInt8) : Nat := if pE l = 0 then if toB (pZ l) then 0 else 6 else pE l
def iV (l : List UInt8) : Int := if pE l = 0 then toV (pZ l) else 0
/-- What ParseIntRange answers. -/
def irE (l : List UInt8) (a b : Int) : Nat := if iE l = 0 then if iV l < a ∨ b < iV l then 6 else 0 else iE l
def irV (l : List UInt8) (a b : Int) : Int := if iE l = 0 then if iV l < a ∨ b < iV l then 0 else iV l else 0
def dui (v : Int) (e : Nat) : Ending := .returned (.tuple #[.int .i64 v, .int .i64 e])
theorem toV_none {z : Int} (h : toB z = false) : toV z = 0 := by
  unfold toB at h
  unfold toV
  rw [if_neg (of_decide_eq_false h)]
theorem iV_zero {l : List UInt8} (h : iE l ≠ 0) : iV l = 0 := by
  unfold iE at h
  unfold iV
  split
  · rename_i h0
    rw [if_pos h0] at h
    cases hb : toB (pZ l)
    · exact toV_none hb
    · rw [hb] at h; simp at h
  · rfl
theorem iV_in (l : List UInt8) : -9223372036854775808 ≤ iV l ∧ iV l ≤ 9223372036854775807 := by
  unfold iV toV
  split
  · split
    · assumption
    · omega
  · omega
theorem canon_in {z : Int} (h0 : -9223372036854775808 ≤ z) (h1 : z ≤ 9223372036854775807) : (canon z.natAbs).length ≤ 2 := (canon_len_le _ _).2 (by unfold pw; omega)
theorem fmti_any (n : Int) (w : World) (h0 : -9223372036854775808 ≤ n) (h1 : n ≤ 9223372036854775807) (hT : Tb w) :
    Calls Tryz.prog 11 #[.int .i64 n] w fun e w' => e = .returned (sv (zfmt n)) ∧ Below w.heap.size w w' := by
  have hF := fun W => zfrom_any n h0 h1 W
  have hcl := canon_in h0 h1
  have hz := zv_canon n
  have hG := fun (W : World) (a : Option Addr) (c : Nat) (hc : (canon n.natAbs).length ≤ c) (hr : Rw W a (canon n.natAbs)) (hN : Tb W) => zfmt_any (decide (n < 0)) a _ c (canon n.natAbs) W rfl hc (by omega) hr hN
  simp only [hz] at hG
  have HF := Lib.hid hF
  have HG := Lib.hid hG
  clear hF hG hz hcl
  go_enter Tryz.func11, Tryz.ntmps11
  go_wp2_with (first
    | (go_at_call 26; go_loud ((with_reducible refine (HF.out _).mono ?_); rintro e w1 ⟨a, c, rfl, ho, hb1⟩))
    | (go_at_call 25; go_loud ((with_reducible refine (HG.out _ _ _ (own_cap ho) (Rw.of_own ho) (hT.below hb1)).mono ?_); rintro e w2 ⟨rfl, hb2⟩)))
  go_ret
  exact ⟨rfl, hb1.trans (hb2.mono hb1.size)⟩
theorem rfmti_any (n : Int) (w : World) (h0 : -9223372036854775808 ≤ n) (h1 : n ≤ 9223372036854775807) :
    Calls Tryz.prog 12 #[.int .i64 n] w fun e w' => e = .returned (sv (zfmt n)) ∧ Below w.heap.size w w' := by
  have hF := fun W => qfrom_any n h0 h1 W
  have hcl := canon_in h0 h1
  have hz := zv_canon n
  have hG := fun (W : World) (a : Option Addr) (c : Nat) (hr : Rw W a (canon n.natAbs)) => qfmt_any (decide (n < 0)) a _ c (canon n.natAbs) W rfl (by omega) hr
  simp only [hz] at hG
  have HF := Lib.hid hF
  have HG := Lib.hid hG
  clear hF hG hz hcl
  go_enter Tryz.func12, Tryz.ntmps12
  go_wp2_with (first
    | (go_at_call 28; go_loud ((with_reducible refine (HF.out _).mono ?_); rintro e w1 ⟨a, c, rfl, ho, hb1⟩))
    | (go_at_call 27; go_loud ((with_reducible refine (HG.out _ _ _ (RwF.rw ho)).mono ?_); rintro e w2 ⟨rfl, hb2⟩)))
  go_ret
  exact ⟨rfl, hb1.trans (hb2.mono hb1.size)⟩
theorem ten_pw (n : Nat) : 10 ^ n ≤ pw n := Nat.pow_le_pow_left (by decide) n
theorem pZ_len {l : List UInt8} (h : pE l = 0) : (canon (pZ l).natAbs).length ≤ 1000 := by
  obtain ⟨h1, h2, _⟩ := pE_zero h
  unfold pZ
  rw [zv_abs, canon_len_le]
  have h3 := dv_lt (l := pdig l) (by have h1' := h1; unfold isDec at h1'; simp only [Bool.and_eq_true] at h1'; exact h1'.2)
  have h4 := ten_pw (pdig l).length
  have h5 := pw_mono h2
  omega
theorem pint_bad (S : ByteArray) (l : List UInt8) (w : World) (hS : S.data.toList = l) (hl : l.length ≤ 1000000) (hE : pE l ≠ 0) :
    Calls Tryz.prog 7 #[.string S] w fun e w' => e = dui 0 (pE l) ∧ Below w.heap.size w w' := by
  have hP : ∀ W, Calls Tryz.prog 21 #[.string S] W fun e w' => e = .returned (errV (pE l)) ∧ Below W.heap.size W w' := fun W => (zpa_any S l W hS hl).mono fun e w' h => by
    rcases h with ⟨_, h⟩ | ⟨h, _⟩
    · exact h
    · exact absurd h hE
  obtain ⟨E, hEe⟩ : ∃ E, pE l = E := ⟨_, rfl⟩
  rw [hEe] at hE
  simp only [hEe] at hP
  rw [hEe]
  have q1 : ((E : Int) == 0) = false := by simp; exact hE
  have q2 : ((E : Int) != 0) = true := by simp; exact hE
  have HP := Lib.hid hP
  clear hP hEe hS
  go_enter Tryz.func7, Tryz.ntmps7
  go_wp2_with (go_at_call 21; go_loud ((with_reducible refine (HP.out _).mono ?_); unfold errV; rintro e w1 ⟨rfl, hb1⟩))
  go_ret2
  exact ⟨rfl, belAl hb1 _⟩
theorem pint_ok (S : ByteArray) (l : List UInt8) (w : World) (hS : S.data.toList = l) (hl : l.length ≤ 1000000) (hE : pE l = 0) :
    Calls Tryz.prog 7 #[.string S] w fun e w' => e = dui (toV (pZ l)) (if toB (pZ l) then 0 else 6) ∧ Below w.heap.size w w' := by
  have hP : ∀ W, Calls Tryz.prog 21 #[.string S] W fun e w' => ∃ a c, e = .returned (okV (pZ l) a c) ∧ (canon (pZ l).natAbs).length ≤ c ∧ RwF W.heap.size w' a (canon (pZ l).natAbs) ∧ Below W.heap.size W w' := fun W => (zpa_any S l W hS hl).mono fun e w' h => by
    rcases h with ⟨h, _⟩ | ⟨_, h⟩
    · exact absurd hE h
    · exact h
  have hzl := pZ_len hE
  obtain ⟨z, hz⟩ : ∃ z, pZ l = z := ⟨_, rfl⟩
  simp only [hz] at hP
  rw [hz] at hzl ⊢
  have hT := fun (W : World) (a : Option Addr) (c : Nat) (hc : (canon z.natAbs).length ≤ c) (hr : Rw W a (canon z.natAbs)) => ztoint_any (decide (z < 0)) a _ c (canon z.natAbs) W rfl hc (by omega) hr
  have hzz := zv_canon z
  simp only [hzz] at hT
  have HP := Lib.hid hP
  clear hP hzz hz hS hE
  cases htb : toB z
  · rw [htb] at hT
    have htv := toV_none htb
    rw [htv] at hT ⊢
    have HT := Lib.hid hT
    clear hT htb htv
    go_enter Tryz.func7, Tryz.ntmps7
    go_wp2_with (first
      | (go_at_call 21; go_loud ((with_reducible refine (HP.out _).mono ?_); unfold okV; rintro e w1 ⟨a, c, rfl, hca, hr, hb1⟩))
      | (go_at_call 22; go_loud ((with_reducible refine (HT.out _ _ _ hca (hr.rw.al _)).mono ?_); rintro e w2 ⟨rfl, hb2⟩)))
    go_ret2
    exact ⟨rfl, bel_step (belAl hb1 _) hb2⟩
  · rw [htb] at hT
    obtain ⟨v, hv⟩ : ∃ v, toV z = v := ⟨_, rfl⟩
    rw [hv] at hT ⊢
    have HT := Lib.hid hT
    clear hT htb hv
    go_enter Tryz.func7, Tryz.ntmps7
    go_wp2_with (first
      | (go_at_call 21; go_loud ((with_reducible refine (HP.out _).mono ?_); unfold okV; rintro e w1 ⟨a, c, rfl, hca, hr, hb1⟩))
      | (go_at_call 22; go_loud ((with_reducible refine (HT.out _ _ _ hca (hr.rw.al _)).mono ?_); rintro e w2 ⟨rfl, hb2⟩)))
    go_ret2
    exact ⟨rfl, bel_step (belAl hb1 _) hb2⟩
theorem pint_any (S : ByteArray) (l : List UInt8) (w : World) (hS : S.data.toList = l) (hl : l.length ≤ 1000000) :
    Calls Tryz.prog 7 #[.string S] w fun e w' => e = dui (iV l) (iE l) ∧ Below w.heap.size w w' := by
  unfold iV iE
  by_cases h : pE l = 0
  · rw [if_pos h, if_pos h]
    exact pint_ok S l w hS hl h
  · rw [if_neg h, if_neg h]
    exact pint_bad S l w hS hl h
theorem pir_any (S : ByteArray) (l : List UInt8) (lo hi : Int) (w : World) (hS : S.data.toList = l) (hl : l.length ≤ 1000000) :
    Calls Tryz.prog 9 #[.string S, .int .i64 lo, .int .i64 hi] w fun e w' => e = dui (irV l lo hi) (irE l lo hi) ∧ Below w.heap.size w w' := by
  have hP := fun W => pint_any S l W hS hl
  unfold irV irE
  have hv0 := iV_in l
  obtain ⟨E, hE⟩ : ∃ E, iE l = E := ⟨_, rfl⟩
  obtain ⟨V, hV⟩ : ∃ V, iV l = V := ⟨_, rfl⟩
  simp only [hE, hV] at hP
  rw [hE, hV]
  rw [hV] at hv0
  have HP := Lib.hid hP
  clear hP hE hV hS
  by_cases h : E = 0
  · subst h
    rw [if_pos rfl, if_pos rfl]
    by_cases h1 : V < lo
    · have d1 : decide (V < lo) = true := by simp; omega
      rw [if_pos (.inl h1), if_pos (.inl h1)]
      clear h1
      go_enter Tryz.func9, Tryz.ntmps9
      go_wp2_with (go_at_call 7; go_loud ((with_reducible refine (HP.out _).mono ?_); unfold dui; rintro e w1 ⟨rfl, hb1⟩))
      go_ret2
      exact ⟨rfl, hb1⟩
    · have d1 : decide (V < lo) = false := by simp; omega
      by_cases h2 : hi < V
      · have d2 : decide (hi < V) = true := by simp; omega
        rw [if_pos (.inr h2), if_pos (.inr h2)]
        clear h1 h2
        go_enter Tryz.func9, Tryz.ntmps9
        go_wp2_with (go_at_call 7; go_loud ((with_reducible refine (HP.out _).mono ?_); unfold dui; rintro e w1 ⟨rfl, hb1⟩))
        go_ret2
        exact ⟨rfl, hb1⟩
      · have d2 : decide (hi < V) = false := by simp; omega
        rw [if_neg (by omega), if_neg (by omega)]
        clear h1 h2
        go_enter Tryz.func9, Tryz.ntmps9
        go_wp2_with (go_at_call 7; go_loud ((with_reducible refine (HP.out _).mono ?_); unfold dui; rintro e w1 ⟨rfl, hb1⟩))
        go_ret2
        exact ⟨rfl, hb1⟩
  · rw [if_neg h, if_neg h]
    have q1 : ((E : Int) == 0) = false := by simp; exact h
    have q2 : ((E : Int) != 0) = true := by simp; exact h
    clear h
    go_enter Tryz.func9, Tryz.ntmps9
    go_wp2_with (go_at_call 7; go_loud ((with_reducible refine (HP.out _).mono ?_); unfold dui; rintro e w1 ⟨rfl, hb1⟩))
    go_ret2
    exact ⟨rfl, hb1⟩
theorem rpint_bad (S : ByteArray) (l : List UInt8) (w : World) (hS : S.data.toList = l) (hl : l.length ≤ 1000000) (hE : pE l ≠ 0) :
    Calls Tryz.prog 8 #[.string S] w fun e w' => e = dui 0 (pE l) ∧ Below w.heap.size w w' := by
  have hP : ∀ W, Calls Tryz.prog 23 #[.string S] W fun e w' => e = .returned (errV (pE l)) ∧ Below W.heap.size W w' := fun W => (qpa_any S l W hS hl).mono fun e w' h => by
    rcases h with ⟨_, h⟩ | ⟨h, _⟩
    · exact h
    · exact absurd h hE
  obtain ⟨E, hEe⟩ : ∃ E, pE l = E := ⟨_, rfl⟩
  rw [hEe] at hE
  simp only [hEe] at hP
  rw [hEe]
  have q1 : ((E : Int) == 0) = false := by simp; exact hE
  have q2 : ((E : Int) != 0) = true := by simp; exact hE
  have HP := Lib.hid hP
  clear hP hEe hS
  go_enter Tryz.func8, Tryz.ntmps8
  go_wp2_with (go_at_call 23; go_loud ((with_reducible refine (HP.out _).mono ?_); unfold errV; rintro e w1 ⟨rfl, hb1⟩))
  go_ret2
  exact ⟨rfl, belAl hb1 _⟩
theorem rpint_ok (S : ByteArray) (l : List UInt8) (w : World) (hS : S.data.toList = l) (hl : l.length ≤ 1000000) (hE : pE l = 0) :
    Calls Tryz.prog 8 #[.string S] w fun e w' => e = dui (toV (pZ l)) (if toB (pZ l) then 0 else 6) ∧ Below w.heap.size w w' := by
  have hP : ∀ W, Calls Tryz.prog 23 #[.string S] W fun e w' => ∃ a c, e = .returned (okV (pZ l) a c) ∧ RwF W.heap.size w' a (canon (pZ l).natAbs) ∧ Below W.heap.size W w' := fun W => (qpa_any S l W hS hl).mono fun e w' h => by
    rcases h with ⟨h, _⟩ | ⟨_, h⟩
    · exact absurd hE h
    · exact h
  have hzl := pZ_len hE
  obtain ⟨z, hz⟩ : ∃ z, pZ l = z := ⟨_, rfl⟩
  simp only [hz] at hP
  rw [hz] at hzl ⊢
  have hT := fun (W : World) (a : Option Addr) (c : Nat) (hr : Rw W a (canon z.natAbs)) => qtoint_any (decide (z < 0)) a _ c (canon z.natAbs) W rfl (by omega) hr
  have hzz := zv_canon z
  simp only [hzz] at hT
  have HP := Lib.hid hP
  clear hP hzz hz hS hE
  cases htb : toB z
  · rw [htb] at hT
    have htv := toV_none htb
    rw [htv] at hT ⊢
    have HT := Lib.hid hT
    clear hT htb htv
    go_enter Tryz.func8, Tryz.ntmps8
    go_wp2_with (first
      | (go_at_call 23; go_loud ((with_reducible refine (HP.out _).mono ?_); unfold okV; rintro e w1 ⟨a, c, rfl, hr, hb1⟩))
      | (go_at_call 24; go_loud ((with_reducible refine (HT.out _ _ _ (hr.rw.al _)).mono ?_); rintro e w2 ⟨rfl, hb2⟩)))
    go_ret2
    exact ⟨rfl, bel_step (belAl hb1 _) hb2⟩
  · rw [htb] at hT
    obtain ⟨v, hv⟩ : ∃ v, toV z = v := ⟨_, rfl⟩
    rw [hv] at hT ⊢
    have HT := Lib.hid hT
    clear hT htb hv
    go_enter Tryz.func8, Tryz.ntmps8
    go_wp2_with (first
      | (go_at_call 23; go_loud ((with_reducible refine (HP.out _).mono ?_); unfold okV; rintro e w1 ⟨a, c, rfl, hr, hb1⟩))
      | (go_at_call 24; go_loud ((with_reducible refine (HT.out _ _ _ (hr.rw.al _)).mono ?_); rintro e w2 ⟨rfl, hb2⟩)))
    go_ret2
    exact ⟨rfl, bel_step (belAl hb1 _) hb2⟩
theorem rpint_any (S : ByteArray) (l : List UInt8) (w : World) (hS : S.data.toList = l) (hl : l.length ≤ 1000000) :
    Calls Tryz.prog 8 #[.string S] w fun e w' => e = dui (iV l) (iE l) ∧ Below w.heap.size w w' := by
  unfold iV iE
  by_cases h : pE l = 0
  · rw [if_pos h, if_pos h]
    exact rpint_ok S l w hS hl h
  · rw [if_neg h, if_neg h]
    exact rpint_bad S l w hS hl h
theorem rpir_any (S : ByteArray) (l : List UInt8) (lo hi : Int) (w : World) (hS : S.data.toList = l) (hl : l.length ≤ 1000000) :
    Calls Tryz.prog 10 #[.string S, .int .i64 lo, .int .i64 hi] w fun e w' => e = dui (irV l lo hi) (irE l lo hi) ∧ Below w.heap.size w w' := by
  have hP := fun W => rpint_any S l W hS hl
  unfold irV irE
  have hv0 := iV_in l
  obtain ⟨E, hE⟩ : ∃ E, iE l = E := ⟨_, rfl⟩
  obtain ⟨V, hV⟩ : ∃ V, iV l = V := ⟨_, rfl⟩
  simp only [hE, hV] at hP
  rw [hE, hV]
  rw [hV] at hv0
  have HP := Lib.hid hP
  clear hP hE hV hS
  by_cases h : E = 0
  · subst h
    rw [if_pos rfl, if_pos rfl]
    by_cases h1 : V < lo
    · have d1 : decide (V < lo) = true := by simp; omega
      rw [if_pos (.inl h1), if_pos (.inl h1)]
      clear h1
      go_enter Tryz.func10, Tryz.ntmps10
      go_wp2_with (go_at_call 8; go_loud ((with_reducible refine (HP.out _).mono ?_); unfold dui; rintro e w1 ⟨rfl, hb1⟩))
      go_ret2
      exact ⟨rfl, hb1⟩
    · have d1 : decide (V < lo) = false := by simp; omega
      by_cases h2 : hi < V
      · have d2 : decide (hi < V) = true := by simp; omega
        rw [if_pos (.inr h2), if_pos (.inr h2)]
        clear h1 h2
        go_enter Tryz.func10, Tryz.ntmps10
        go_wp2_with (go_at_call 8; go_loud ((with_reducible refine (HP.out _).mono ?_); unfold dui; rintro e w1 ⟨rfl, hb1⟩))
        go_ret2
        exact ⟨rfl, hb1⟩
      · have d2 : decide (hi < V) = false := by simp; omega
        rw [if_neg (by omega), if_neg (by omega)]
        clear h1 h2
        go_enter Tryz.func10, Tryz.ntmps10
        go_wp2_with (go_at_call 8; go_loud ((with_reducible refine (HP.out _).mono ?_); unfold dui; rintro e w1 ⟨rfl, hb1⟩))
        go_ret2
        exact ⟨rfl, hb1⟩
  · rw [if_neg h, if_neg h]
    have q1 : ((E : Int) == 0) = false := by simp; exact h
    have q2 : ((E : Int) != 0) = true := by simp; exact h
    clear h
    go_enter Tryz.func10, Tryz.ntmps10
    go_wp2_with (go_at_call 8; go_loud ((with_reducible refine (HP.out _).mono ?_); unfold dui; rintro e w1 ⟨rfl, hb1⟩))
    go_ret2
    exact ⟨rfl, hb1⟩
end Go.Proofs.YtdkbmpncohhioaaGreatDoor
