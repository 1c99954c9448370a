import Derived.Test.YtdbocghkhcihjaaK1
import Derived.Deep.QuietTactic
import Derived.BigQuiet
import Derived.Deep.RegionHeld3
import Derived.Deep.DrawnRows
import Derived.Deep.DeepFit
import Derived.Laws.IdiomStrings
import Derived.Laws.BytesArg
namespace Go.Proofs.Ytdbocghkhcihjaa
open Go.RowKit
set_option linter.unusedVariables false
set_option linter.unusedSimpArgs false
theorem take_eq_succ (l m : List (BitVec 8)) (k : Nat) (h1 : k < l.length) (h2 : k < m.length) (h : l.take k = m.take k) (e : l[k] = m[k]) : l.take (k + 1) = m.take (k + 1) := by
  rw [List.take_succ_eq_append_getElem h1, List.take_succ_eq_append_getElem h2, h, e]
theorem equal_len (a b : Option Addr) (c d : Nat) (l m : List (BitVec 8)) (w : World) (h : ¬ l.length = m.length) :
    Calls Try.prog 23 #[.slice a l.length c, .slice b m.length d] w fun e w' => e = .returned (.bool false) ∧ w = w' := by
  have h1 : ((l.length : Int) == (m.length : Int)) = false := by simp; omega
  have h2 : ((l.length : Int) != (m.length : Int)) = true := by simp; omega
  go_enter Try.func23, Try.ntmps23
  go_wp2
  go_ret
  exact ⟨rfl, rfl⟩
theorem equal_same (a b : Option Addr) (c d : Nat) (l m : List (BitVec 8)) (w : World) (hl : l.length ≤ 140737488355328) (h : l.length = m.length) (hr : Rd w a l) (hs : Rd w b m) :
    Calls Try.prog 23 #[.slice a l.length c, .slice b l.length d] w fun e w' => e = .returned (.bool (decide (l = m))) ∧ ∃ n, w' = w.drewN n := by
  have H := Lib.hid h
  clear h
  go_enter Try.func23, Try.ntmps23
  go_wp2
  go_loopw [13] (fun i wr => ∃ k : Nat, k ≤ l.length ∧ i = .int .i64 k ∧ Hid (l.take k = m.take k) ∧ ∃ n, wr = w.drewN n) (fun i _ => l.length - (intOf i).toNat)
  case atStart => exact ⟨0, Nat.zero_le _, rfl, rfl, 0, rfl⟩
  case round =>
    obtain ⟨k, hk, rfl, he, n, rfl⟩ := hrel
    by_cases hlt : k < l.length
    · obtain ⟨ad, rfl, hc⟩ := hr k hlt
      obtain ⟨bd, rfl, hd⟩ := hs k (by have := H.out; omega)
      have hlt2 : k < m.length := by have := H.out; omega
      by_cases hv : l[k] = m[k]
      · have h1 : ((l[k].toNat : Int) != (m[k].toNat : Int)) = false := by simp [hv]
        have h2 : ((l[k].toNat : Int) == (m[k].toNat : Int)) = true := by simp [hv]
        have HV := Lib.hid hv
        clear hv
        go_wp2
        go_quiet (fail)
        go_wp2
        go_roundw
        case rel => exact ⟨k + 1, by omega, by go_num, take_eq_succ _ _ _ hlt hlt2 he.out HV.out, _, rfl⟩
        case measure => simp [intOf]; omega
      · have h1 : ((l[k].toNat : Int) != (m[k].toNat : Int)) = true := by simp; rw [BitVec.toNat_eq] at hv; omega
        have h2 : ((l[k].toNat : Int) == (m[k].toNat : Int)) = false := by simp; rw [BitVec.toNat_eq] at hv; omega
        have HV := Lib.hid hv
        clear hv
        go_wp2
        go_quiet (fail)
        go_wp2
        go_ret
        refine ⟨?_, _, by rw [World.drewN_drewN]⟩
        rw [show decide (l = m) = false from ?_]
        · rfl
        · simp only [decide_eq_false_iff_not]
          rintro rfl
          exact HV.out rfl
    · go_wp2
      go_ret
      refine ⟨?_, _, rfl⟩
      rw [show decide (l = m) = true from ?_]
      · rfl
      · have := he.out
        rw [List.take_of_length_le (by omega), List.take_of_length_le (by have := H.out; omega)] at this
        simpa using this
theorem equal_any (a b : Option Addr) (n c n' d : Nat) (l m : List (BitVec 8)) (w : World) (hn : l.length = n) (hm : m.length = n') (hl : l.length ≤ 140737488355328) (hr : Rd w a l) (hs : Rd w b m) :
    Calls Try.prog 23 #[.slice a n c, .slice b n' d] w fun e w' => e = .returned (.bool (decide (l = m))) ∧ ∃ n, w' = w.drewN n := by
  subst hn hm
  by_cases h : l.length = m.length
  · rw [← h]
    exact equal_same a b c d l m w hl h hr hs
  · refine (equal_len a b c d l m w h).mono ?_
    rintro e w' ⟨rfl, rfl⟩
    rw [show decide (l = m) = false from ?_]
    · exact ⟨rfl, 0, rfl⟩
    · simp only [decide_eq_false_iff_not]
      rintro rfl
      exact h rfl
def str8 (l : List (BitVec 8)) : ByteArray := ⟨(l.map UInt8.ofBitVec).toArray⟩
theorem str8_inj {l m : List (BitVec 8)} : str8 l = str8 m ↔ l = m := by
  constructor
  · intro h
    unfold str8 at h
    injection h with h
    have h := congrArg Array.toList h
    simp only [] at h
    refine List.map_inj_right ?_ |>.1 h
    intro x y e
    exact congrArg UInt8.toBitVec e
  · rintro rfl; rfl
theorem conv_str {w : World} {a : Option Addr} {l : List (BitVec 8)} (c : Nat) (h : Rd w a l) : (convert 24 9 (.slice a l.length c)).run Try.prog w = .ok (.string (str8 l)) w := by
  rcases a with _ | ad
  · have : l = [] := by
      rcases l with _ | ⟨x, l⟩
      · rfl
      · obtain ⟨_, e, _⟩ := h 0 (by simp)
        cases e
    subst this
    exact run_convert_bytes_nil w _ _ Try.underlying24 Try.underlying5 _ _ _ Try.underlying9
  · have := run_convert_bytes_back (P := Try.prog) w 24 9 5 ad c (l.map UInt8.ofBitVec) Try.underlying24 Try.underlying5 Try.underlying9 (fun j hj => by
      obtain ⟨ad', e, hc⟩ := h j (by simpa using hj)
      cases e
      rw [hc]
      simp)
    simpa [str8] using this
theorem same_any (a b : Option Addr) (n c n' d : Nat) (l m : List (BitVec 8)) (w : World) (hn : l.length = n) (hm : m.length = n') (hr : Rd w a l) (hs : Rd w b m) :
    Calls Try.prog 19 #[.slice a n c, .slice b n' d] w fun e w' => e = .returned (.bool (decide (l = m))) ∧ w = w' := by
  subst hn hm
  have h1 := conv_str c hr
  have h2 := conv_str d hs
  clear hr hs
  go_enter Try.func19, Try.ntmps19
  go_wp2
  go_ret
  refine ⟨?_, rfl⟩
  rw [show decide (l = m) = ((str8 l).toList == (str8 m).toList) from ?_]
  · rfl
  · rw [ByteArray.toList_eq, ByteArray.toList_eq, Bool.eq_iff_iff, decide_eq_true_iff, beq_iff_eq, ← str8_inj]
    exact ⟨fun h => by rw [h], fun h => WideShapes.bytes_inj h⟩
/-- A slice of slices of bytes. -/
def RdR (w : World) (a : Option Addr) (ls : List (List (BitVec 8))) : Prop := ∀ k (h : k < ls.length), ∃ ad ak ck, a = some ad ∧ w.cell? (ad.add k) = some (.slice ak ls[k].length ck) ∧ Rd w ak ls[k] ∧ ls[k].length ≤ 140737488355328
def crcB (ls : List (List (BitVec 8))) : BitVec 32 := ls.foldl updB 0#32
theorem crc_take (l : List (List (BitVec 8))) (k : Nat) (h : k < l.length) : crcB (l.take (k + 1)) = updB (crcB (l.take k)) l[k] := by
  unfold crcB; rw [List.take_succ_eq_append_getElem h, List.foldl_append]; rfl
theorem crcB_flat (ls : List (List (BitVec 8))) : crcB ls = updB 0#32 ls.flatten := by
  unfold crcB
  have : ∀ s, ls.foldl updB s = updB s ls.flatten := by
    induction ls with
    | nil => intro s; simp [updB_nil]
    | cons x ls ih => intro s; rw [List.foldl_cons, ih, List.flatten_cons, updB_append]
  exact this _
theorem crc_any (a : Option Addr) (n c : Nat) (ls : List (List (BitVec 8))) (w : World) (hn : ls.length = n) (hl : ls.length ≤ 140737488355328) (hr : RdR w a ls) :
    Calls Try.prog 11 #[.slice a n c] w fun e w' => e = .returned (.int .u32 ((crcB ls).toNat : Int)) ∧ w = w' := by
  subst hn
  go_enter Try.func11, Try.ntmps11
  go_wp2
  go_loop [3, 8] (fun h i => ∃ k : Nat, k ≤ ls.length ∧ i = .int .i64 k ∧ h = .int .u32 ((crcB (ls.take k)).toNat : Int)) (fun _ i => ls.length - (intOf i).toNat)
  case atStart => exact ⟨0, Nat.zero_le _, rfl, by rfl⟩
  case round =>
    obtain ⟨k, hk, rfl, rfl⟩ := hrel
    by_cases hlt : k < ls.length
    · obtain ⟨ad, ak, ck, rfl, hc, hrk, hlk⟩ := hr k hlt
      go_wp2_with (go_at_call 13; refine (upd_any _ _ _ _ _ _ rfl hlk hrk).mono ?_; rintro e w' ⟨rfl, rfl⟩)
      go_round
      case rel => exact ⟨k + 1, by omega, by go_num, by rw [crc_take _ _ hlt]⟩
      case measure => simp [intOf]; omega
    · go_wp2
      go_ret
      exact ⟨by rw [List.take_of_length_le (by omega)]; rfl, rfl⟩
theorem crcr_any (a : Option Addr) (n c : Nat) (ls : List (List (BitVec 8))) (w : World) (hn : ls.length = n) (hl : ls.length ≤ 140737488355328) (hr : RdR w a ls) :
    Calls Try.prog 12 #[.slice a n c] w fun e w' => e = .returned (.int .u32 ((crcB ls).toNat : Int)) ∧ w = w' := by
  subst hn
  go_enter Try.func12, Try.ntmps12
  go_wp2
  go_loop [3, 4] (fun h i => ∃ k : Nat, k ≤ ls.length ∧ i = .int .i64 k ∧ h = .int .u32 ((crcB (ls.take k)).toNat : Int)) (fun _ i => ls.length - (intOf i).toNat)
  case atStart => exact ⟨0, Nat.zero_le _, rfl, by rfl⟩
  case round =>
    obtain ⟨k, hk, rfl, rfl⟩ := hrel
    by_cases hlt : k < ls.length
    · obtain ⟨ad, ak, ck, rfl, hc, hrk, hlk⟩ := hr k hlt
      go_wp2_with (go_at_call 14; refine (updr_any _ _ _ _ _ _ rfl hlk hrk).mono ?_; rintro e w' ⟨rfl, rfl⟩)
      go_round
      case rel => exact ⟨k + 1, by omega, by go_num, by rw [crc_take _ _ hlt]⟩
      case measure => simp [intOf]; omega
    · go_wp2
      go_ret
      exact ⟨by rw [List.take_of_length_le (by omega)]; rfl, rfl⟩
theorem RdR.one {w : World} {b : Nat} {a : Option Addr} {n c : Nat} {l : List (BitVec 8)} (hb : w.heap.size = b) (hn : l.length = n) (hl : l.length ≤ 140737488355328) (hr : Rd w a l) (t : TypeId) : RdR (w.alloc (.cells #[.slice a n c] t)) (some ⟨b, 0, none⟩) [l] := by
  subst hn hb
  intro k hk
  obtain rfl : k = 0 := by simpa using hk
  exact ⟨_, a, c, rfl, cell_one_new _ _ _ 0 _ rfl, hr.below (Below.alloc (Below.refl _ _) (Nat.le_refl _) _), hl⟩
theorem Rd.of_alloc {W : World} {b : Nat} {cs : Array Value} {t : TypeId} {fr : Nat × Nat} {l : List (BitVec 8)} (hb : W.heap.size = b) (e : cs.toList = bv8 l) : Rd (W.alloc (.cells cs t fr)) (some ⟨b, 0, none⟩) l := by
  subst hb
  exact Rd.of_cells (heap_alloc_new W _) e
theorem tail_num (s : BitVec 32) : #[Value.int .u8 ((s.toNat : Int) % 256), .int .u8 ((s.toNat : Int) / 256 % 256), .int .u8 ((s.toNat : Int) / 65536 % 256), .int .u8 ((s.toNat : Int) / 16777216)].toList = bv8 (tailB s) := by
  have := s.isLt
  simp only [bv8, tailB, List.map_cons, List.map_nil, BitVec.toNat_setWidth, BitVec.toNat_ushiftRight, Nat.shiftRight_eq_div_pow]
  congr 1
  congr 1
  congr 1
  congr 1
  congr 1
  omega
theorem trailer_any (a : Option Addr) (n c : Nat) (l : List (BitVec 8)) (w : World) (hn : l.length = n) (hl : l.length ≤ 140737488355328) (hr : Rd w a l) :
    Calls Try.prog 24 #[.slice a n c] w fun e w' => e = .returned (.slice (some ⟨w.heap.size + 1, 0, none⟩) 4 4) ∧ Rd w' (some ⟨w.heap.size + 1, 0, none⟩) (tailB (updB 0#32 l)) ∧ Below w.heap.size w w' := by
  subst hn
  have h1 := RdR.one (c := c) rfl rfl hl hr 24
  go_enter Try.func24, Try.ntmps24
  go_wp2_with (go_at_call 11; (with_reducible refine (crc_any (some ⟨w.heap.size, 0, none⟩) 1 1 [l] _ rfl (by simp) h1).mono ?_); rintro e w' ⟨rfl, rfl⟩)
  go_ret
  rw [show crcB [l] = updB 0#32 l from rfl]
  refine ⟨rfl, Rd.of_alloc (W := w.alloc _) (by simp) (tail_num _), ?_⟩
  exact Below.alloc (Below.alloc (Below.refl _ _) (Nat.le_refl _) _) (by simp) _
end Go.Proofs.Ytdbocghkhcihjaa
