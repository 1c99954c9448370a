import Derived.Test.YtdbocghkhcihjaaK4
import Derived.Lib.SlBytesConst
namespace Go.Proofs.Ytdbocghkhcihjaa
open Go.RowKit
set_option linter.unusedVariables false
set_option linter.unusedSimpArgs false
theorem ver_app (a : Option Addr) (n c : Nat) (l : List (BitVec 8)) (w : World) (hn : l.length = n) (hc : n + 4 ≤ c) (hl : l.length ≤ 140737488355000) (hr : Rd w a (l ++ tailB (updB 0#32 l))) :
    Calls Try.prog 17 #[.slice a (n + 4) c] w fun e w' => ∃ a' c', e = .returned (.tuple #[.slice a' n c', .int .i64 0]) ∧ w'.ownsRow w.heap.size 5 1 (.slice a' n c') n (bv8 l) ∧ Below w.heap.size w w' := by
  subst hn
  obtain ⟨ad, rfl, _⟩ := hr 0 (by simp [tailB])
  have hlen : (l ++ tailB (updB 0#32 l)).length = l.length + 4 := by simp [tailB]
  have ht : (l ++ tailB (updB 0#32 l)).take (l.length + 4 - 4) = l := by rw [Nat.add_sub_cancel, List.take_left]
  have hd : (l ++ tailB (updB 0#32 l)).drop (l.length + 4 - 4) = tailB (updB 0#32 l) := by rw [Nat.add_sub_cancel, List.drop_left]
  refine (ver_ok ad (l.length + 4) c _ w hlen hc (by omega) (by omega) hr (by rw [hd, ht])).mono ?_
  rintro e w' ⟨a', c', rfl, hown, hb⟩
  rw [ht, Nat.add_sub_cancel] at hown
  exact ⟨a', c', by rw [Nat.add_sub_cancel], hown, hb⟩
/-- A slice of slices of bytes: no bound on the rows. -/
def RdS (w : World) (a : Option Addr) (ls : List (List (BitVec 8))) : Prop := ∀ k (h : k < ls.length), ∃ ad ak ck, a = some ad ∧ w.cell? (ad.add k) = some (.slice ak ls[k].length ck) ∧ Rd w ak ls[k]
theorem RdS.bound {w : World} {a : Option Addr} {ls : List (List (BitVec 8))} (h : RdS w a ls) (hb : ∀ l ∈ ls, l.length ≤ 2000) : RdR w a ls := fun k hk => by
  obtain ⟨ad, ak, ck, h1, h2, h3⟩ := h k hk
  exact ⟨ad, ak, ck, h1, h2, h3, by have := hb _ (List.getElem_mem hk); omega⟩
theorem RdR.below {w w' : World} {a : Option Addr} {ls : List (List (BitVec 8))} (h : RdR w a ls) (hb : Below w.heap.size w w') : RdR w' a ls := fun k hk => by
  obtain ⟨ad, ak, ck, h1, h2, h3, h4⟩ := h k hk
  exact ⟨ad, ak, ck, h1, (hb.cell (World.block_lt_of_cell? w _ h2)).trans h2, h3.below hb, h4⟩
theorem few_yes (a : Option Addr) (n c : Nat) (ls : List (List (BitVec 8))) (w : World) (hn : ls.length = n) (h50 : n ≤ 50) (hb : ∀ l ∈ ls, l.length ≤ 2000) (hr : RdS w a ls) :
    Calls Try.prog 9 #[.slice a n c] w fun e w' => e = .returned (.bool true) ∧ w = w' := by
  subst hn
  have HB := Lib.hid hb
  clear hb
  go_enter Try.func9, Try.ntmps9
  go_wp2
  go_loop [3] (fun i => ∃ k : Nat, k ≤ ls.length ∧ i = .int .i64 k) (fun i => ls.length - (intOf i).toNat)
  case atStart => exact ⟨0, Nat.zero_le _, rfl⟩
  case round =>
    obtain ⟨k, hk, rfl⟩ := hrel
    by_cases hlt : k < ls.length
    · obtain ⟨ad, ak, ck, rfl, hc, _⟩ := hr k hlt
      have h2 := HB.out _ (List.getElem_mem hlt)
      go_wp2
      go_round
      case rel => exact ⟨k + 1, by omega, by go_num⟩
      case measure => simp [intOf]; omega
    · go_wp2
      go_ret
      exact ⟨rfl, rfl⟩
theorem few_many (a : Option Addr) (n c : Nat) (w : World) (h50 : 50 < n) :
    Calls Try.prog 9 #[.slice a n c] w fun e w' => e = .returned (.bool false) ∧ w = w' := by
  go_enter Try.func9, Try.ntmps9
  go_wp2
  go_ret
  exact ⟨rfl, rfl⟩
theorem few_long (a : Option Addr) (n c : Nat) (ls : List (List (BitVec 8))) (w : World) (hn : ls.length = n) (h50 : n ≤ 50) (hb : ¬ ∀ l ∈ ls, l.length ≤ 2000) (hr : RdS w a ls) :
    Calls Try.prog 9 #[.slice a n c] w fun e w' => e = .returned (.bool false) ∧ w = w' := by
  subst hn
  have HB := Lib.hid hb
  clear hb
  go_enter Try.func9, Try.ntmps9
  go_wp2
  go_loop [3] (fun i => ∃ k : Nat, k ≤ ls.length ∧ i = .int .i64 k ∧ Hid (∀ l ∈ ls.take k, l.length ≤ 2000)) (fun i => ls.length - (intOf i).toNat)
  case atStart => exact ⟨0, Nat.zero_le _, rfl, fun _ h => by simp at h⟩
  case round =>
    obtain ⟨k, hk, rfl, hs⟩ := hrel
    by_cases hlt : k < ls.length
    · obtain ⟨ad, ak, ck, rfl, hc, _⟩ := hr k hlt
      by_cases h2 : ls[k].length ≤ 2000
      · go_wp2
        go_round
        case rel =>
          refine ⟨k + 1, by omega, by go_num, ?_⟩
          intro l hl
          rw [List.take_succ_eq_append_getElem hlt, List.mem_append] at hl
          rcases hl with hl | hl
          · exact hs.out l hl
          · simp at hl; subst hl; exact h2
        case measure => simp [intOf]; omega
      · go_wp2
        go_ret
        exact ⟨rfl, rfl⟩
    · exfalso
      refine HB.out ?_
      have := hs.out
      rwa [List.take_of_length_le (by omega)] at this
def few? (ls : List (List (BitVec 8))) : Prop := ls.length ≤ 50 ∧ ∀ l ∈ ls, l.length ≤ 2000
theorem few_no (a : Option Addr) (n c : Nat) (ls : List (List (BitVec 8))) (w : World) (hn : ls.length = n) (hb : ¬ few? ls) (hr : RdS w a ls) :
    Calls Try.prog 9 #[.slice a n c] w fun e w' => e = .returned (.bool false) ∧ w = w' := by
  by_cases h : n ≤ 50
  · exact few_long a n c ls w hn h (fun h' => hb ⟨by omega, h'⟩) hr
  · exact few_many a n c w (by omega)
/-! The chapter's example. -/
def nine : List (BitVec 8) := [49#8, 50#8, 51#8, 52#8, 53#8, 54#8, 55#8, 56#8, 57#8]
theorem nine_len : nine.length = 9 := rfl
theorem nine_le : nine.length ≤ 140737488355328 := by simp [nine]
theorem nine_crc : crcB [nine] = 0xcbf43926#32 := by decide +kernel
theorem fnv_nil (w : World) : Calls Try.prog 15 #[.slice none 0 0] w fun e w' => e = .returned (.int .u64 14695981039346656037) ∧ w = w' := by
  refine (fnv_any none 0 0 [] w rfl (by simp) (Rd.nil _ _)).mono ?_
  rintro e w' ⟨rfl, rfl⟩
  exact ⟨rfl, rfl⟩
theorem crc_nine (a : Option Addr) (w : World) (hr : RdR w a [nine]) : Calls Try.prog 11 #[.slice a 1 1] w fun e w' => e = .returned (.int .u32 3421780262) ∧ w = w' := by
  refine (crc_any a 1 1 [nine] w rfl (by simp) hr).mono ?_
  rintro e w' ⟨rfl, rfl⟩
  exact ⟨by rw [nine_crc]; rfl, rfl⟩
theorem app_nine (a : Option Addr) (w : World) (hr : Rd w a nine) : Calls Try.prog 20 #[.slice a 9 9] w fun e w' => ∃ a' c', e = .returned (.slice a' (9 + 4) c') ∧ 9 + 4 ≤ c' ∧ Rd w' a' (nine ++ tailB (updB 0#32 nine)) ∧ Below w.heap.size w w' := by
  refine (app_any a 9 9 nine w rfl (by simp [nine]) hr).mono ?_
  rintro e w' ⟨a', c', rfl, hown, hb⟩
  exact ⟨a', c', rfl, own_cap hown, Rd.of_own hown, hb⟩
theorem ver_nine (a : Option Addr) (c : Nat) (w : World) (hc : 9 + 4 ≤ c) (hr : Rd w a (nine ++ tailB (updB 0#32 nine))) : Calls Try.prog 17 #[.slice a (9 + 4) c] w fun e w' => ∃ a' c', e = .returned (.tuple #[.slice a' 9 c', .int .i64 0]) ∧ Rd w' a' nine ∧ Below w.heap.size w w' := by
  refine (ver_app a 9 c nine w rfl hc (by simp [nine]) hr).mono ?_
  rintro e w' ⟨a', c', rfl, hown, hb⟩
  exact ⟨a', c', rfl, Rd.of_own hown, hb⟩
theorem same_nine (a b : Option Addr) (c d : Nat) (w : World) (hr : Rd w a nine) (hs : Rd w b nine) :
    Calls Try.prog 19 #[.slice a 9 c, .slice b 9 d] w fun e w' => e = .returned (.bool true) ∧ w = w' := same_yes a b 9 c 9 d nine nine w rfl rfl hr hs rfl
set_option maxHeartbeats 400000 in
theorem ex_any (w : World) : Calls Try.prog 10 #[] w fun e w' => e = .returned (.bool true) ∧ Below w.heap.size w w' := by
  have kc := fun (w : World) (C : Array Value) (n c : Nat) => Lib.run_convert_bytes_const (P := Try.prog) w 24 5 C n c Try.underlying24 Try.underlying5
  have h0 : Rd (w.alloc (.cells #[.int .u8 49, .int .u8 50, .int .u8 51, .int .u8 52, .int .u8 53, .int .u8 54, .int .u8 55, .int .u8 56, .int .u8 57] 5 (9, 10))) (some ⟨w.heap.size, 0, none⟩) nine := Rd.of_alloc rfl rfl
  have b0 := Below.alloc (Below.refl w.heap.size w) (Nat.le_refl _) (.cells #[.int .u8 49, .int .u8 50, .int .u8 51, .int .u8 52, .int .u8 53, .int .u8 54, .int .u8 55, .int .u8 56, .int .u8 57] 5 (9, 10))
  go_enter Try.func10, Try.ntmps10
  go_wp2_with (first
    | (go_at_call 20; (with_reducible refine (app_nine _ _ h0).mono ?_); rintro e w1 ⟨a1, c1, rfl, hc1, hr1, hb1⟩)
    | (go_at_call 17; (with_reducible refine (ver_nine _ _ _ hc1 hr1).mono ?_); rintro e w2 ⟨a2, c2, rfl, hr2, hb2⟩; have h2 := (h0.below hb1).below hb2; have b2 := ((b0.trans (hb1.mono (by simp))).trans (hb2.mono (by have := hb1.size; simp at this; omega))); have hz2 : w.heap.size ≤ w2.heap.size := b2.size; clear hb1 hr1 hb2 h0 b0)
    | (go_at_call 17; (with_reducible refine (ver_short _ _ _ _ (by omega)).mono ?_); rintro e w3 ⟨rfl, rfl⟩)
    | (go_at_call 11; (with_reducible refine (crc_nine _ _ (RdR.one (l := nine) (c := 9) (by simp) nine_len nine_le (h2.below (Below.alloc (Below.refl _ _) (Nat.le_refl _) _)) 24)).mono ?_); rintro e w3 ⟨rfl, rfl⟩)
    | (go_at_call 15; (with_reducible refine (fnv_nil _).mono ?_); rintro e w3 ⟨rfl, rfl⟩)
    | (go_at_call 19; (with_reducible refine (same_nine _ _ _ _ _ (hr2.below (Below.alloc (Below.alloc (Below.refl _ _) (Nat.le_refl _) _) (by simp) _)) (h2.below (Below.alloc (Below.alloc (Below.refl _ _) (Nat.le_refl _) _) (by simp) _))).mono ?_); rintro e w3 ⟨rfl, rfl⟩))
  go_ret
  refine ⟨rfl, ?_⟩
  exact Below.alloc (Below.alloc b2 hz2 _) (by simp; omega) _
end Go.Proofs.Ytdbocghkhcihjaa
