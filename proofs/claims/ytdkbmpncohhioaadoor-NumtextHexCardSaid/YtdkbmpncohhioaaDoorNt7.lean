
import Derived.Test.YtdkbmpncohhioaaDoorNt5
namespace Go.Proofs.YtdkbmpncohhioaaDoor
open Go.RowKit
set_option linter.unusedVariables false
set_option linter.unusedSimpArgs false
attribute [local go_sem ↓] Go.wp_at_zero Go.wp_at_succ
theorem bc_bv (l : List (BitVec 8)) : Lib.byteCells (l.map UInt8.ofBitVec) = bv8 l := by
  simp [Lib.byteCells, bv8]
theorem RdV.of_own8 {w : World} {B : Nat} {e : TypeId} {a : Option Addr} {n c : Nat} {xs : List UInt8} (h : w.ownsRow B e 1 (.slice a n c) n (Lib.byteCells xs)) : RdV w a (Lib.byteCells xs) := by
  have e0 : Lib.byteCells xs = bv8 (xs.map UInt8.toBitVec) := by simp [Lib.byteCells, bv8]
  rw [e0] at h ⊢
  exact (Rd.of_own h).vals
theorem conv_any {W : World} {a : Option Addr} {n c : Nat} {xs : List UInt8} (hn : xs.length = n) (h : RdV W a (Lib.byteCells xs)) : (convert 39 9 (.slice a n c)).run Tryd.prog W = .ok (.string ⟨xs.toArray⟩) W := by
  subst hn
  rcases a with _ | ad
  · rcases xs with _ | ⟨x, t⟩
    · exact run_convert_bytes_nil W _ _ Tryd.underlying39 Tryd.underlying5 _ _ _ Tryd.underlying9
    · obtain ⟨ad, e, _⟩ := h 0 (.int .u8 x.toNat) (by simp [Lib.byteCells])
      cases e
  · refine run_convert_bytes_back W 39 9 5 ad c xs Tryd.underlying39 Tryd.underlying5 Tryd.underlying9 fun j hj => ?_
    obtain ⟨ad', e, hc⟩ := h j (.int .u8 xs[j].toNat) (by simp [Lib.byteCells, hj])
    cases e
    exact hc
theorem RdV.nl (W : World) (a : Option Addr) : RdV W a (Lib.byteCells []) := fun k u hk => by simp [Lib.byteCells] at hk
def dhB (e : Ending) : Prop := e = .returned (.tuple #[.slice none 0 0, .int .i64 3])
def dhG (w : World) (xs : List UInt8) (e : Ending) (w' : World) : Prop := ∃ (a : Option Addr) (c : Nat), e = .returned (.tuple #[.slice a xs.length c, .int .i64 0]) ∧ RdV w' a (Lib.byteCells xs) ∧ Below w.heap.size w w'
theorem HdE.bad {B : Nat} {l : List UInt8} {e : Ending} {w' : World} (h : HdE B l e w') (hl : decL l = none) : dhB e := by
  rcases h with ⟨_, h⟩ | ⟨xs, a, c, h, _⟩
  · exact h
  · rw [hl] at h; cases h
theorem HdE.good {w : World} {l xs : List UInt8} {e : Ending} {w' : World} (h : HdE w.heap.size l e w') (hl : decL l = some xs) (hb : Below w.heap.size w w') : dhG w xs e w' := by
  rcases h with ⟨h, _⟩ | ⟨ys, a, c, h, h1, h2⟩
  · rw [hl] at h; cases h
  · rw [hl] at h
    cases h
    exact ⟨a, c, h1, RdV.of_own8 h2, hb⟩
theorem nhx_big (a : Option Addr) (n c : Nat) (S : ByteArray) (w : World) (h : 500 < n ∨ 1000 < S.size) (hn9 : n ≤ 9223372036854775807) (hs9 : S.size ≤ 9223372036854775807) (hT : Tb w) (hM : Mx w) :
    Calls Tryd.prog 4 #[.slice a n c, .string S] w fun e w' => e = .returned (.bool true) ∧ Below w.heap.size w w' := by
  obtain ⟨m, hm⟩ : ∃ m, S.size = m := ⟨_, rfl⟩
  rw [hm] at h hs9
  have hs : 500 < n ∨ (n ≤ 500 ∧ 1000 < m) := by omega
  clear h
  rcases hs with h | ⟨h, h2⟩
  all_goals
    go_enter Tryd.func4, Tryd.ntmps4
    go_wp2_with (go_at_call 8; go_loud ((with_reducible refine (ex_any _ hT hM).mono ?_); rintro e w9 ⟨rfl, hb9⟩))
    go_ret
    exact ⟨rfl, hb9⟩
set_option maxRecDepth 50000 in
theorem nhx_no (a : Option Addr) (n c : Nat) (B : List UInt8) (S : ByteArray) (w : World) (hn : B.length = n) (hn9 : n ≤ 9223372036854775807) (hs9 : S.size ≤ 9223372036854775807) (hr : RdV w a (Lib.byteCells B)) (hT : Tb w) (hM : Mx w) (h1 : n ≤ 500) (h2 : S.size ≤ 1000) (hd : decL S.data.toList = none) :
    Calls Tryd.prog 4 #[.slice a n c, .string S] w fun e w' => e = .returned (.bool true) ∧ Below w.heap.size w w' := by
  subst hn
  obtain ⟨l, hS⟩ : ∃ l, S.data.toList = l := ⟨_, rfl⟩
  rw [hS] at hd
  have hsz := str_size hS
  have hd1 := fun W => hexdec_any S l W hS (by omega)
  have hd2 := fun W => rhexdec_any S l W hS (by omega)
  have he1 := fun W (h : RdV W a (Lib.byteCells B)) => hexenc_any B a c W h (by omega)
  have he2 := fun W (h : RdV W a (Lib.byteCells B)) => rhexenc_any B a c W h (by omega)
  have hg1 : ∀ W, Calls Tryd.prog 16 #[.string S] W fun e w' => dhB e ∧ Below W.heap.size W w' := fun W => (hd1 W).mono fun e w' h => ⟨h.1.bad hd, h.2⟩
  have hg2 : ∀ W, Calls Tryd.prog 17 #[.string S] W fun e w' => dhB e ∧ Below W.heap.size W w' := fun W => (hd2 W).mono fun e w' h => ⟨h.1.bad hd, h.2⟩
  obtain ⟨D, hD⟩ : ∃ D : ByteArray, (⟨(encL B).toArray⟩ : ByteArray) = D := ⟨_, rfl⟩
  simp only [hD] at he1 he2
  obtain ⟨m, hm⟩ : ∃ m, S.size = m := ⟨_, rfl⟩
  rw [hm] at h2
  have HG1 := Lib.hid hg1
  have HG2 := Lib.hid hg2
  have HE1 := Lib.hid he1
  have HE2 := Lib.hid he2
  clear hd1 hd2 he1 he2 hg1 hg2 hD hS hsz hd hs9
  go_enter Tryd.func4, Tryd.ntmps4
  go_wp2_with (first
    | (go_at_call 16; go_loud ((with_reducible refine (HG1.out _).mono ?_); unfold dhB; rintro e w1 ⟨rfl, hb1⟩))
    | (go_at_call 17; go_loud ((with_reducible refine (HG2.out _).mono ?_); unfold dhB; rintro e w2 ⟨rfl, hc2⟩; have hb2 := bel_step hb1 hc2))
    | (go_at_call 18; go_loud ((with_reducible refine (HE1.out _ (hr.below hb2)).mono ?_); rintro e w3 ⟨rfl, hc3⟩; have hb3 := bel_step hb2 hc3))
    | (go_at_call 19; go_loud ((with_reducible refine (HE2.out _ (hr.below hb3)).mono ?_); rintro e w4 ⟨rfl, hc4⟩; have hbE := bel_step hb3 hc4; have cv1 := conv_any (W := w4) (a := none) (n := 0) (c := 0) (xs := []) rfl (RdV.nl _ _)))
    | (go_at_call 8; go_loud ((with_reducible refine (ex_any _ (hT.below hbE) (hM.below hbE)).mono ?_); rintro e w9 ⟨rfl, hc9⟩; have hb9 := bel_step hbE hc9)))
  go_ret
  exact ⟨rfl, hb9⟩
set_option maxRecDepth 50000 in
theorem nhx_ok (a : Option Addr) (n c : Nat) (B : List UInt8) (S : ByteArray) (w : World) (hn : B.length = n) (hn9 : n ≤ 9223372036854775807) (hs9 : S.size ≤ 9223372036854775807) (hr : RdV w a (Lib.byteCells B)) (hT : Tb w) (hM : Mx w) (h1 : n ≤ 500) (h2 : S.size ≤ 1000) (xs : List UInt8) (hd : decL S.data.toList = some xs) :
    Calls Tryd.prog 4 #[.slice a n c, .string S] w fun e w' => e = .returned (.bool true) ∧ Below w.heap.size w w' := by
  subst hn
  obtain ⟨l, hS⟩ : ∃ l, S.data.toList = l := ⟨_, rfl⟩
  rw [hS] at hd
  have hsz := str_size hS
  have hd1 := fun W => hexdec_any S l W hS (by omega)
  have hd2 := fun W => rhexdec_any S l W hS (by omega)
  have he1 := fun W (h : RdV W a (Lib.byteCells B)) => hexenc_any B a c W h (by omega)
  have he2 := fun W (h : RdV W a (Lib.byteCells B)) => rhexenc_any B a c W h (by omega)
  have hg1 := fun W => (hd1 W).mono fun e w' h => h.1.good hd h.2
  have hg2 := fun W => (hd2 W).mono fun e w' h => h.1.good hd h.2
  obtain ⟨D, hD⟩ : ∃ D : ByteArray, (⟨(encL B).toArray⟩ : ByteArray) = D := ⟨_, rfl⟩
  simp only [hD] at he1 he2
  obtain ⟨m, hm⟩ : ∃ m, S.size = m := ⟨_, rfl⟩
  rw [hm] at h2
  have HG1 := Lib.hid hg1
  have HG2 := Lib.hid hg2
  have HE1 := Lib.hid he1
  have HE2 := Lib.hid he2
  obtain ⟨T, hT9⟩ : ∃ T : ByteArray, (⟨xs.toArray⟩ : ByteArray) = T := ⟨_, rfl⟩
  have HT9 := Lib.hid hT9
  clear hd1 hd2 he1 he2 hg1 hg2 hD hS hsz hd hs9 hT9
  go_enter Tryd.func4, Tryd.ntmps4
  go_wp2_with (first
    | (go_at_call 16; go_loud ((with_reducible refine (HG1.out _).mono ?_); unfold dhG; rintro e w1 ⟨a1, c1, rfl, hx1, hb1⟩))
    | (go_at_call 17; go_loud ((with_reducible refine (HG2.out _).mono ?_); unfold dhG; rintro e w2 ⟨a2, c2, rfl, hx2, hc2⟩; have hb2 := bel_step hb1 hc2; have hx1b := hx1.below hc2))
    | (go_at_call 18; go_loud ((with_reducible refine (HE1.out _ (hr.below hb2)).mono ?_); rintro e w3 ⟨rfl, hc3⟩; have hb3 := bel_step hb2 hc3; have hx1c := hx1b.below hc3; have hx2c := hx2.below hc3))
    | (go_at_call 19; go_loud ((with_reducible refine (HE2.out _ (hr.below hb3)).mono ?_); rintro e w4 ⟨rfl, hc4⟩; have hbE := bel_step hb3 hc4; have cv1 := conv_any (n := xs.length) (c := c1) rfl (hx1c.below hc4); have cv2 := conv_any (n := xs.length) (c := c2) rfl (hx2c.below hc4); rw [HT9.out] at cv1 cv2))
    | (go_at_call 8; go_loud ((with_reducible refine (ex_any _ (hT.below hbE) (hM.below hbE)).mono ?_); rintro e w9 ⟨rfl, hc9⟩; have hb9 := bel_step hbE hc9)))
  go_ret
  exact ⟨rfl, hb9⟩
theorem nhx_w (a : Option Addr) (n c : Nat) (B : List UInt8) (S : ByteArray) (w : World) (hn : B.length = n) (hn9 : n ≤ 9223372036854775807) (hs9 : S.size ≤ 9223372036854775807) (hr : RdV w a (Lib.byteCells B)) (hT : Tb w) (hM : Mx w) :
    Calls Tryd.prog 4 #[.slice a n c, .string S] w fun e w' => e = .returned (.bool true) ∧ Below w.heap.size w w' := by
  by_cases h : 500 < n ∨ 1000 < S.size
  · exact nhx_big a n c S w h hn9 hs9 hT hM
  · cases hd : decL S.data.toList with
    | none => exact nhx_no a n c B S w hn hn9 hs9 hr hT hM (by omega) (by omega) hd
    | some xs => exact nhx_ok a n c B S w hn hn9 hs9 hr hT hM (by omega) (by omega) xs hd
theorem nhr_big (a : Option Addr) (n c : Nat) (S : ByteArray) (w : World) (h : 500 < n ∨ 1000 < S.size) (hn9 : n ≤ 9223372036854775807) (hs9 : S.size ≤ 9223372036854775807) (hT : Tb w) (hM : Mx w) :
    Calls Tryd.prog 5 #[.slice a n c, .string S] w fun e w' => e = .returned (.bool true) ∧ Below w.heap.size w w' := by
  obtain ⟨m, hm⟩ : ∃ m, S.size = m := ⟨_, rfl⟩
  rw [hm] at h hs9
  have hs : 500 < n ∨ (n ≤ 500 ∧ 1000 < m) := by omega
  clear h
  rcases hs with h | ⟨h, h2⟩
  all_goals
    go_enter Tryd.func5, Tryd.ntmps5
    go_wp2_with (go_at_call 8; go_loud ((with_reducible refine (ex_any _ hT hM).mono ?_); rintro e w9 ⟨rfl, hb9⟩))
    go_ret
    exact ⟨rfl, hb9⟩
set_option maxRecDepth 50000 in
theorem nhr_no (a : Option Addr) (n c : Nat) (B : List UInt8) (S : ByteArray) (w : World) (hn : B.length = n) (hn9 : n ≤ 9223372036854775807) (hs9 : S.size ≤ 9223372036854775807) (hr : RdV w a (Lib.byteCells B)) (hT : Tb w) (hM : Mx w) (h1 : n ≤ 500) (h2 : S.size ≤ 1000) (hd : decL S.data.toList = none) :
    Calls Tryd.prog 5 #[.slice a n c, .string S] w fun e w' => e = .returned (.bool true) ∧ Below w.heap.size w w' := by
  subst hn
  obtain ⟨l, hS⟩ : ∃ l, S.data.toList = l := ⟨_, rfl⟩
  rw [hS] at hd
  have hsz := str_size hS
  have he1 := fun W (h : RdV W a (Lib.byteCells B)) => hexenc_any B a c W h (by omega)
  obtain ⟨D, hD⟩ : ∃ D : ByteArray, (⟨(encL B).toArray⟩ : ByteArray) = D := ⟨_, rfl⟩
  have hDl : D.data.toList = encL B := by rw [← hD]
  have hDs : D.size = 2 * B.length := by rw [str_size hDl]; exact encL_len B
  have hd0 := fun W => (hexdec_any D (encL B) W hDl (by rw [encL_len]; omega)).mono fun e w' h => h.1.good (dec_enc B) h.2
  have hd1 := fun W => hexdec_any S l W hS (by omega)
  simp only [hD] at he1
  have hg1 : ∀ W, Calls Tryd.prog 16 #[.string S] W fun e w' => dhB e ∧ Below W.heap.size W w' := fun W => (hd1 W).mono fun e w' h => ⟨h.1.bad hd, h.2⟩
  obtain ⟨T, hT9⟩ : ∃ T : ByteArray, (⟨B.toArray⟩ : ByteArray) = T := ⟨_, rfl⟩
  have HT9 := Lib.hid hT9
  obtain ⟨m, hm⟩ : ∃ m, S.size = m := ⟨_, rfl⟩
  rw [hm] at h2
  obtain ⟨dl, hdl⟩ : ∃ k, D.size = k := ⟨_, rfl⟩
  rw [hdl] at hDs
  have hmul : (2 : Int) * (B.length : Int) = (dl : Int) := by omega
  have HG1 := Lib.hid hg1
  have HE1 := Lib.hid he1
  have HD0 := Lib.hid hd0
  clear hd1 he1 hd0 hg1 hD hS hsz hd hs9 hT9 hDl hDs
  go_enter Tryd.func5, Tryd.ntmps5
  go_wp2_with (first
    | (go_at_call 18; go_loud (first
        | ((with_reducible refine (HE1.out _ (hr.below hb2)).mono ?_); rintro e w3 ⟨rfl, hc3⟩; have hb3 := bel_step hb2 hc3)
        | ((with_reducible refine (HE1.out _ hr).mono ?_); rintro e w1 ⟨rfl, hb1⟩)))
    | (go_at_call 16; go_loud (first
        | ((with_reducible refine (HG1.out w3).mono ?_); unfold dhB; rintro e w4 ⟨rfl, hc4⟩; have hbE := bel_step hb3 hc4)
        | ((with_reducible refine (HD0.out _).mono ?_); unfold dhG; rintro e w2 ⟨a2, c2, rfl, hx2, hc2⟩; have hb2 := bel_step hb1 hc2; have cv1 := conv_any (n := B.length) (c := c2) rfl hx2; have cv2 := conv_any (n := B.length) (c := c) rfl (hr.below hb2); rw [HT9.out] at cv1 cv2)))
    | (go_at_call 8; go_loud ((with_reducible refine (ex_any _ (hT.below hbE) (hM.below hbE)).mono ?_); rintro e w9 ⟨rfl, hc9⟩; have hb9 := bel_step hbE hc9)))
  go_ret
  exact ⟨rfl, hb9⟩
set_option maxRecDepth 50000 in
theorem nhr_ok (a : Option Addr) (n c : Nat) (B : List UInt8) (S : ByteArray) (w : World) (hn : B.length = n) (hn9 : n ≤ 9223372036854775807) (hs9 : S.size ≤ 9223372036854775807) (hr : RdV w a (Lib.byteCells B)) (hT : Tb w) (hM : Mx w) (h1 : n ≤ 500) (h2 : S.size ≤ 1000) (xs : List UInt8) (hd : decL S.data.toList = some xs) :
    Calls Tryd.prog 5 #[.slice a n c, .string S] w fun e w' => e = .returned (.bool true) ∧ Below w.heap.size w w' := by
  subst hn
  obtain ⟨l, hS⟩ : ∃ l, S.data.toList = l := ⟨_, rfl⟩
  rw [hS] at hd
  have hsz := str_size hS
  have he1 := fun W (h : RdV W a (Lib.byteCells B)) => hexenc_any B a c W h (by omega)
  obtain ⟨D, hD⟩ : ∃ D : ByteArray, (⟨(encL B).toArray⟩ : ByteArray) = D := ⟨_, rfl⟩
  have hDl : D.data.toList = encL B := by rw [← hD]
  have hDs : D.size = 2 * B.length := by rw [str_size hDl]; exact encL_len B
  have hd0 := fun W => (hexdec_any D (encL B) W hDl (by rw [encL_len]; omega)).mono fun e w' h => h.1.good (dec_enc B) h.2
  have hd1 := fun W => hexdec_any S l W hS (by omega)
  simp only [hD] at he1
  have hxl := dec_len l.length l xs (Nat.le_refl _) hd
  have hg1 := fun W => (hd1 W).mono fun e w' h => h.1.good hd h.2
  have he2 := fun (v : Option Addr) (k : Nat) W (h : RdV W v (Lib.byteCells xs)) => hexenc_any xs v k W h (by omega)
  have hSe : (⟨(encL xs).toArray⟩ : ByteArray) = S := by rw [enc_dec l.length l xs (Nat.le_refl _) hd]; exact (eq_arr hS).symm
  simp only [hSe] at he2
  have HE2 := Lib.hid he2
  obtain ⟨T, hT9⟩ : ∃ T : ByteArray, (⟨B.toArray⟩ : ByteArray) = T := ⟨_, rfl⟩
  have HT9 := Lib.hid hT9
  obtain ⟨m, hm⟩ : ∃ m, S.size = m := ⟨_, rfl⟩
  rw [hm] at h2
  obtain ⟨dl, hdl⟩ : ∃ k, D.size = k := ⟨_, rfl⟩
  rw [hdl] at hDs
  have hmul : (2 : Int) * (B.length : Int) = (dl : Int) := by omega
  have HG1 := Lib.hid hg1
  have HE1 := Lib.hid he1
  have HD0 := Lib.hid hd0
  clear hd1 he1 hd0 hg1 hD hS hsz hd hs9 hT9 hDl hDs he2 hSe hxl
  go_enter Tryd.func5, Tryd.ntmps5
  go_wp2_with (first
    | (go_at_call 18; go_loud (first
        | ((with_reducible refine (HE2.out _ _ _ hx4).mono ?_); rintro e w5 ⟨rfl, hc5⟩; have hbE := bel_step hb4 hc5)
        | ((with_reducible refine (HE1.out _ (hr.below hb2)).mono ?_); rintro e w3 ⟨rfl, hc3⟩; have hb3 := bel_step hb2 hc3)
        | ((with_reducible refine (HE1.out _ hr).mono ?_); rintro e w1 ⟨rfl, hb1⟩)))
    | (go_at_call 16; go_loud (first
        | ((with_reducible refine (HG1.out w3).mono ?_); unfold dhG; rintro e w4 ⟨a4, c4, rfl, hx4, hc4⟩; have hb4 := bel_step hb3 hc4)
        | ((with_reducible refine (HD0.out _).mono ?_); unfold dhG; rintro e w2 ⟨a2, c2, rfl, hx2, hc2⟩; have hb2 := bel_step hb1 hc2; have cv1 := conv_any (n := B.length) (c := c2) rfl hx2; have cv2 := conv_any (n := B.length) (c := c) rfl (hr.below hb2); rw [HT9.out] at cv1 cv2)))
    | (go_at_call 8; go_loud ((with_reducible refine (ex_any _ (hT.below hbE) (hM.below hbE)).mono ?_); rintro e w9 ⟨rfl, hc9⟩; have hb9 := bel_step hbE hc9)))
  go_ret
  exact ⟨rfl, hb9⟩
theorem nhr_w (a : Option Addr) (n c : Nat) (B : List UInt8) (S : ByteArray) (w : World) (hn : B.length = n) (hn9 : n ≤ 9223372036854775807) (hs9 : S.size ≤ 9223372036854775807) (hr : RdV w a (Lib.byteCells B)) (hT : Tb w) (hM : Mx w) :
    Calls Tryd.prog 5 #[.slice a n c, .string S] w fun e w' => e = .returned (.bool true) ∧ Below w.heap.size w w' := by
  by_cases h : 500 < n ∨ 1000 < S.size
  · exact nhr_big a n c S w h hn9 hs9 hT hM
  · cases hd : decL S.data.toList with
    | none => exact nhr_no a n c B S w hn hn9 hs9 hr hT hM (by omega) (by omega) hd
    | some xs => exact nhr_ok a n c B S w hn hn9 hs9 hr hT hM (by omega) (by omega) xs hd
end Go.Proofs.YtdkbmpncohhioaaDoor
