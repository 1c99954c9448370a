import Derived.Test.YtbnialhpflaoaaaDoorN1
namespace Go.Proofs.YtbnialhpflaoaaaDoor
open Go.RowKit
set_option linter.unusedVariables false
set_option linter.unusedSimpArgs false
theorem take_eq_succ32 (l m : List (BitVec 32)) (k : Nat) (h1 : k < l.length) (h2 : k < m.length) (h : l.take k = m.take k) (e : l[k] = m[k]) : l.take (k + 1) = m.take (k + 1) := by
  rw [List.take_succ_eq_append_getElem h1, List.take_succ_eq_append_getElem h2, h, e]
theorem same_len (a b : Option Addr) (n c m d : Nat) (w : World) (h : ¬ n = m) :
    Calls Tryd.prog 14 #[.slice a n c, .slice b m d] w fun e w' => e = .returned (.bool false) ∧ w = w' := by
  have h1 : ((n : Int) == (m : Int)) = false := by simp; omega
  have h2 : ((n : Int) != (m : Int)) = true := by simp; omega
  go_enter Tryd.func14, Tryd.ntmps14
  go_wp2
  go_ret
  exact ⟨rfl, rfl⟩
theorem same_same (a b : Option Addr) (c d : Nat) (l m : List (BitVec 32)) (w : World) (hl : l.length ≤ 140737488355328) (h : l.length = m.length) (hr : Rw w a l) (hs : Rw w b m) :
    Calls Tryd.prog 14 #[.slice a l.length c, .slice b l.length d] w fun e w' => e = .returned (.bool (decide (l = m))) ∧ ∃ n, w' = w.drewN n := by
  have H := Lib.hid h
  clear h
  go_enter Tryd.func14, Tryd.ntmps14
  go_wp2
  go_loopw [5] (fun i wr => ∃ k : Nat, k ≤ l.length ∧ i = .int .i64 k ∧ Hid (l.take k = m.take k) ∧ ∃ n, wr = w.drewN n) (fun i _ => l.length - (intOf i).toNat)
  case atStart => exact ⟨0, Nat.zero_le _, rfl, rfl, 0, rfl⟩
  case round =>
    obtain ⟨k, hk, rfl, he, n, rfl⟩ := hrel
    by_cases hlt : k < l.length
    · obtain ⟨ad, rfl, hc⟩ := hr k hlt
      obtain ⟨bd, rfl, hd⟩ := hs k (by have := H.out; omega)
      have hlt2 : k < m.length := by have := H.out; omega
      by_cases hv : l[k] = m[k]
      · have h1 : ((l[k].toNat : Int) != (m[k].toNat : Int)) = false := by simp [hv]
        have h2 : ((l[k].toNat : Int) == (m[k].toNat : Int)) = true := by simp [hv]
        have HV := Lib.hid hv
        clear hv
        go_wp2
        go_quiet (fail)
        go_wp2
        go_roundw
        case rel => exact ⟨k + 1, by omega, by go_num, take_eq_succ32 _ _ _ hlt hlt2 he.out HV.out, _, rfl⟩
        case measure => simp [intOf]; omega
      · have h1 : ((l[k].toNat : Int) != (m[k].toNat : Int)) = true := by simp; rw [BitVec.toNat_eq] at hv; omega
        have h2 : ((l[k].toNat : Int) == (m[k].toNat : Int)) = false := by simp; rw [BitVec.toNat_eq] at hv; omega
        have HV := Lib.hid hv
        clear hv
        go_wp2
        go_quiet (fail)
        go_wp2
        go_ret
        refine ⟨?_, _, by rw [World.drewN_drewN]⟩
        rw [show decide (l = m) = false from ?_]
        · rfl
        · simp only [decide_eq_false_iff_not]
          rintro rfl
          exact HV.out rfl
    · go_wp2
      go_ret
      refine ⟨?_, _, rfl⟩
      rw [show decide (l = m) = true from ?_]
      · rfl
      · have := he.out
        rw [List.take_of_length_le (by omega), List.take_of_length_le (by have := H.out; omega)] at this
        simpa using this
theorem same_yes (a b : Option Addr) (n c m d : Nat) (l k : List (BitVec 32)) (w : World) (hn : l.length = n) (hm : k.length = m) (hl : l.length ≤ 140737488355328) (hr : Rw w a l) (hs : Rw w b k) (h : l = k) :
    Calls Tryd.prog 14 #[.slice a n c, .slice b m d] w fun e w' => e = .returned (.bool true) ∧ Below w.heap.size w w' := by
  subst h hn hm
  refine (same_same a b c d l l w hl rfl hr hs).mono ?_
  rintro e w' ⟨rfl, n, rfl⟩
  exact ⟨by simp, below_drewN (Below.refl _ _) _⟩
end Go.Proofs.YtbnialhpflaoaaaDoor
