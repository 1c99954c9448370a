import Derived.Test.YtbplcgbfhijbcaaEk
namespace Go.Proofs.Ytbplcgbfhijbcaa
open Go.RowKit
set_option linter.unusedVariables false
set_option linter.unusedSimpArgs false
theorem take_eq_succ8 (l m : List (BitVec 8)) (k : Nat) (h1 : k < l.length) (h2 : k < m.length) (h : l.take k = m.take k) (e : l[k] = m[k]) : l.take (k + 1) = m.take (k + 1) := by
  rw [List.take_succ_eq_append_getElem h1, List.take_succ_eq_append_getElem h2, h, e]
theorem same8_yes (a b : Option Addr) (n c m d : Nat) (l k : List (BitVec 8)) (w : World) (hn : l.length = n) (hm : k.length = m) (hl : n ≤ 1000000000) (hr : Rd w a l) (hs : Rd w b k) (h : l = k) :
    Calls Try.prog 15 #[.slice a n c, .slice b m d] w fun e w' => e = .returned (.bool true) ∧ Below w.heap.size w w' := by
  subst h hn hm
  go_enter Try.func15, Try.ntmps15
  go_wp2
  go_loopw [5] (fun i wr => ∃ k : Nat, k ≤ l.length ∧ i = .int .i64 k ∧ ∃ n, wr = w.drewN n) (fun i _ => l.length - (intOf i).toNat)
  case atStart => exact ⟨0, Nat.zero_le _, rfl, 0, rfl⟩
  case round =>
    obtain ⟨k, hk, rfl, n, rfl⟩ := hrel
    by_cases hlt : k < l.length
    · obtain ⟨ad, rfl, hc⟩ := hr k hlt
      obtain ⟨bd, rfl, hd⟩ := hs k hlt
      go_wp2
      go_quiet (fail)
      go_wp2
      go_roundw
      case rel => exact ⟨k + 1, by omega, by go_num, _, rfl⟩
      case measure => (simp [intOf]; try omega)
    · go_wp2
      go_ret
      exact ⟨rfl, below_drewN (Below.refl _ _) _⟩
/-- A slice of ints reads as a list. -/
def Ri (w : World) (a : Option Addr) (l : List Int) : Prop := ∀ k (h : k < l.length), ∃ ad, a = some ad ∧ w.cell? (ad.add k) = some (.int .i64 l[k])
theorem Ri.nil (w : World) (a : Option Addr) : Ri w a [] := fun k h => absurd h (by simp)
theorem Ri.below {w w' : World} {a : Option Addr} {l : List Int} (h : Ri w a l) (hb : Below w.heap.size w w') : Ri w' a l := fun k hk => by
  obtain ⟨ad, e, hc⟩ := h k hk
  exact ⟨ad, e, (hb.cell (World.block_lt_of_cell? w _ hc)).trans hc⟩
theorem Ri.drewN {w : World} {a : Option Addr} {l : List Int} (h : Ri w a l) (n : Nat) : Ri (w.drewN n) a l := h
def iv (l : List Int) : List Value := l.map (Value.int .i64)
theorem iv_len (l : List Int) : (iv l).length = l.length := by simp [iv]
theorem iv_snoc (l : List Int) (x : Int) : iv (l ++ [x]) = iv l ++ [.int .i64 x] := by simp [iv]
theorem Ri.of_own {w : World} {base : Nat} {e : TypeId} {a : Option Addr} {n c : Nat} {l : List Int} (h : w.ownsRow base e 1 (.slice a n c) n (iv l)) : Ri w a l := fun k hk => by
  obtain ⟨ad, e1, hc⟩ := own_vals h k (.int .i64 l[k]) (by simp [iv, hk])
  exact ⟨ad, e1, hc⟩
theorem samei_yes (a b : Option Addr) (n c m d : Nat) (l k : List Int) (w : World) (hn : l.length = n) (hm : k.length = m) (hl : n ≤ 1000000000) (hr : Ri w a l) (hs : Ri w b k) (h : l = k) :
    Calls Try.prog 40 #[.slice a n c, .slice b m d] w fun e w' => e = .returned (.bool true) ∧ Below w.heap.size w w' := by
  subst h hn hm
  go_enter Try.func40, Try.ntmps40
  go_wp2
  go_loopw [5] (fun i wr => ∃ k : Nat, k ≤ l.length ∧ i = .int .i64 k ∧ ∃ n, wr = w.drewN n) (fun i _ => l.length - (intOf i).toNat)
  case atStart => exact ⟨0, Nat.zero_le _, rfl, 0, rfl⟩
  case round =>
    obtain ⟨k, hk, rfl, n, rfl⟩ := hrel
    by_cases hlt : k < l.length
    · obtain ⟨ad, rfl, hc⟩ := hr k hlt
      obtain ⟨bd, rfl, hd⟩ := hs k hlt
      obtain ⟨x, hx⟩ : ∃ x, l[k] = x := ⟨_, rfl⟩
      rw [hx] at hc hd
      clear hx
      go_wp2
      go_quiet (fail)
      go_wp2
      go_roundw
      case rel => exact ⟨k + 1, by omega, by go_num, _, rfl⟩
      case measure => (simp [intOf]; try omega)
    · go_wp2
      go_ret
      exact ⟨rfl, below_drewN (Below.refl _ _) _⟩
def putB (l : List (BitVec 8)) : List (BitVec 8) := putU l.length ++ l
theorem pb_any (a : Option Addr) (n c : Nat) (l : List (BitVec 8)) (w : World) (hn : l.length = n) (hl : n ≤ 90000000) (hr : Rd w a l) :
    Calls Try.prog 25 #[.slice a n c] w (FrB w (putB l)) := by
  subst hn
  have h10 := putU_len10 (n := l.length) (by omega)
  have HL := Lib.hid (show (putU l.length).length + l.length ≤ 100000000 by omega)
  clear h10
  have H64 : l.length < 18446744073709551616 := by omega
  go_enter Try.func25, Try.ntmps25
  go_wp2_with (first | (go_at_call 16; go_loud ((with_reducible refine (putu_any _ _ H64).mono ?_); rintro e1 w1 ⟨a1, c1, rfl, hc1, ho1, hb1⟩; have hr1 := hr.below hb1; have hs1 := hb1.size)) | (at_builtin; go_loud (refine wpList_apps8 (B := w.heap.size) (l := putU l.length) rfl _ _ rfl ho1 hs1 (k := l) rfl hr1 HL.out rfl rfl ?_; intro v' w2 hown2 hb2)))
  go_ret
  exact FrB.mk' (by simp [putB]) hown2 (hb1.trans hb2)
theorem rpb_any (a : Option Addr) (n c : Nat) (l : List (BitVec 8)) (w : World) (hn : l.length = n) (hl : n ≤ 90000000) (hr : Rd w a l) :
    Calls Try.prog 26 #[.slice a n c] w (FrB w (putB l)) := by
  subst hn
  have h10 := putU_len10 (n := l.length) (by omega)
  have HL := Lib.hid h10
  clear h10
  have H64 : l.length < 18446744073709551616 := by omega
  go_enter Try.func26, Try.ntmps26
  go_wp2_with (go_at_call 17; go_loud ((with_reducible refine (rputu_any _ _ H64).mono ?_); rintro e1 w1 ⟨a1, c1, rfl, hc1, ho1, hb1⟩; have hr1 := hr.below hb1; have hs1 := hb1.size))
  go_loopw [3, 4] (fun v i wr => ∃ k : Nat, k ≤ l.length ∧ i = .int .i64 k ∧ wr.ownsRow w.heap.size 5 1 v ((putU l.length).length + k) (bv8 (putU l.length ++ l.take k)) ∧ Below w.heap.size w wr) (fun _ i _ => l.length - (intOf i).toNat)
  case atStart => exact ⟨0, Nat.zero_le _, rfl, by simpa using ho1, hb1⟩
  case round =>
    obtain ⟨k, hk, rfl, hown, hb⟩ := hrel
    have hz := hb.size
    have hn1 := Lib.hid (show (putU l.length).length + k + 1 ≤ 100000000 by have := HL.out; omega)
    by_cases hlt : k < l.length
    · obtain ⟨ad, rfl, hc⟩ := hr k hlt
      have hc2 := (hb.cell (p := ad.add k) (World.block_lt_of_cell? w _ hc)).trans hc
      go_wp2_with (at_builtin; go_loud (refine wpList_snoc8 (B := w.heap.size) rfl _ _ rfl hown hz hn1.out l[k] rfl rfl rfl ?_; intro v' w2 hown2 hb2 _ _))
      go_roundw
      case rel => exact ⟨k + 1, by omega, by go_num, by rw [List.take_succ_eq_append_getElem hlt, ← List.append_assoc]; exact hown2, hb.trans hb2⟩
      case measure => (simp [intOf]; try omega)
    · obtain rfl : k = l.length := by omega
      rw [List.take_length] at hown
      go_wp2
      go_ret
      exact FrB.mk' (by simp [putB]) hown hb
end Go.Proofs.Ytbplcgbfhijbcaa
