import Derived.Test.YtdbocghkhcihjaaK3
namespace Go.Proofs.Ytdbocghkhcihjaa
open Go.RowKit
set_option linter.unusedVariables false
set_option linter.unusedSimpArgs false
theorem below_drewN {B : Nat} {a w : World} (h : Below B a w) (n : Nat) : Below B a (w.drewN n) := ⟨h.os, h.tape, h.output, h.size, h.block⟩
theorem tailB_len (s : BitVec 32) : (tailB s).length = 4 := rfl
theorem own_cap {w : World} {base : Nat} {e : TypeId} {size : Nat} {a : Option Addr} {n c : Nat} {xs : List Value} (h : w.ownsRow base e size (.slice a n c) n xs) : n ≤ c := by
  rcases h.2 with ⟨h1, h2⟩ | ⟨g, cap, cur, h1, _, _, h2, _⟩
  · injection h1; omega
  · injection h1; omega
theorem own_slice {w : World} {base : Nat} {e : TypeId} {size : Nat} {v : Value} {n : Nat} {xs : List Value} (h : w.ownsRow base e size v n xs) : ∃ a c, v = .slice a n c := by
  rcases h.2 with ⟨rfl, rfl⟩ | ⟨g, cap, cur, rfl, _⟩
  · exact ⟨_, _, rfl⟩
  · exact ⟨_, _, rfl⟩
theorem own_mono {w : World} {base base' : Nat} {e : TypeId} {size : Nat} {v : Value} {n : Nat} {xs : List Value} (h : w.ownsRow base e size v n xs) (hb : base' ≤ base) : w.ownsRow base' e size v n xs := by
  refine ⟨h.1, ?_⟩
  rcases h.2 with h' | ⟨g, cap, cur, h1, h2, h3⟩
  · exact .inl h'
  · exact .inr ⟨g, cap, cur, h1, Nat.le_trans hb h2, h3⟩
theorem equal_yes (a b : Option Addr) (n c n' d : Nat) (l m : List (BitVec 8)) (w : World) (hn : l.length = n) (hm : m.length = n') (hl : l.length ≤ 140737488355328) (hr : Rd w a l) (hs : Rd w b m) (h : l = m) :
    Calls Try.prog 23 #[.slice a n c, .slice b n' d] w fun e w' => e = .returned (.bool true) ∧ ∃ n, w' = w.drewN n := by
  refine (equal_any a b n c n' d l m w hn hm hl hr hs).mono ?_
  rintro e w' ⟨rfl, h'⟩
  exact ⟨by simp [h], h'⟩
theorem equal_no (a b : Option Addr) (n c n' d : Nat) (l m : List (BitVec 8)) (w : World) (hn : l.length = n) (hm : m.length = n') (hl : l.length ≤ 140737488355328) (hr : Rd w a l) (hs : Rd w b m) (h : ¬ l = m) :
    Calls Try.prog 23 #[.slice a n c, .slice b n' d] w fun e w' => e = .returned (.bool false) ∧ ∃ n, w' = w.drewN n := by
  refine (equal_any a b n c n' d l m w hn hm hl hr hs).mono ?_
  rintro e w' ⟨rfl, h'⟩
  exact ⟨by simp [h], h'⟩
theorem same_yes (a b : Option Addr) (n c n' d : Nat) (l m : List (BitVec 8)) (w : World) (hn : l.length = n) (hm : m.length = n') (hr : Rd w a l) (hs : Rd w b m) (h : l = m) :
    Calls Try.prog 19 #[.slice a n c, .slice b n' d] w fun e w' => e = .returned (.bool true) ∧ w = w' := by
  refine (same_any a b n c n' d l m w hn hm hr hs).mono ?_
  rintro e w' ⟨rfl, h'⟩
  exact ⟨by simp [h], h'⟩
theorem same_no (a b : Option Addr) (n c n' d : Nat) (l m : List (BitVec 8)) (w : World) (hn : l.length = n) (hm : m.length = n') (hr : Rd w a l) (hs : Rd w b m) (h : ¬ l = m) :
    Calls Try.prog 19 #[.slice a n c, .slice b n' d] w fun e w' => e = .returned (.bool false) ∧ w = w' := by
  refine (same_any a b n c n' d l m w hn hm hr hs).mono ?_
  rintro e w' ⟨rfl, h'⟩
  exact ⟨by simp [h], h'⟩
theorem clone_some (ad : Addr) (n c : Nat) (l : List (BitVec 8)) (w : World) (hn : l.length = n) (hl : l.length ≤ 140737488355328) (hr : Rd w (some ad) l) :
    Calls Try.prog 25 #[.slice (some ad) n c] w fun e w' => ∃ a' c', e = .returned (.slice a' n c') ∧ w'.ownsRow w.heap.size 5 1 (.slice a' n c') n (bv8 l) ∧ Below w.heap.size w w' := by
  subst hn
  obtain ⟨i0, hi, hz0, hz1, hz2⟩ := info_parts info8
  have hown : (w.alloc (.cells #[] 5)).ownsRow w.heap.size 5 1 (.slice (some ⟨w.heap.size, 0, none⟩) 0 0) 0 [] := World.ownsRow_made w #[] 0 (Nat.le_refl _) (by unfold maxLen; omega) (by simp)
  have hb : Below w.heap.size w (w.alloc (.cells #[] 5)) := Below.alloc (Below.refl _ _) (Nat.le_refl _) _
  have he := fun w => Lib.run_eql_slice_nil (P := Try.prog) w 24 5 (some ad) l.length c 0 0 Try.underlying24
  go_enter Try.func25, Try.ntmps25
  go_wp2_with (at_builtin; refine wpList_append_rd _ rfl _ _ _ rfl w.heap.size 5 i0 (.int .u8 0) 1 Try.underlying24 hi hz0 hz1 hz2 rfl _ _ _ rfl hown (some ad) l.length c (bv8 l) rfl (bv8_len _) ((hr.below hb).vals) (bv8_one _) (by unfold maxLen; omega) (by omega) hb.size ?_; intro v' w2 hown3 hg3 _)
  rw [Nat.zero_add, List.nil_append] at hown3
  obtain ⟨a', c', rfl⟩ := own_slice hown3
  go_ret
  exact ⟨a', c', rfl, hown3, hb.grown hg3 hb.size (fun q hq => by cases hq; exact Nat.le_refl _)⟩
theorem clone_nil (w : World) : Calls Try.prog 25 #[.slice none 0 0] w fun e w' => e = .returned (.slice none 0 0) ∧ w = w' := by
  have he := fun w => Lib.run_eql_slice_nil (P := Try.prog) w 24 5 none 0 0 0 0 Try.underlying24
  go_enter Try.func25, Try.ntmps25
  go_wp2
  go_ret
  exact ⟨rfl, rfl⟩
theorem RdR.two {w : World} {a b : Option Addr} {c d n m : Nat} {l k : List (BitVec 8)} (hn : l.length = n) (hm : k.length = m) (hl : l.length ≤ 140737488355328) (hk : k.length ≤ 140737488355328) (hr : Rd w a l) (hs : Rd w b k) (t : TypeId) : RdR (w.alloc (.cells #[.slice a n c, .slice b m d] t)) (some ⟨w.heap.size, 0, none⟩) [l, k] := by
  subst hn hm
  intro j hj
  have hc : ∀ (j : Nat), (w.alloc (.cells #[.slice a l.length c, .slice b k.length d] t)).cell? ((⟨w.heap.size, 0, none⟩ : Addr).add j) = #[Value.slice a l.length c, .slice b k.length d][j]? := by
    intro j
    rw [show ((⟨w.heap.size, 0, none⟩ : Addr).add j) = ⟨w.heap.size, j, none⟩ by unfold Addr.add; split <;> simp_all]
    exact cell_of_row _ _ _ _ _ _ (heap_alloc_new w _)
  obtain rfl | rfl : j = 0 ∨ j = 1 := by simp at hj; omega
  · exact ⟨_, a, c, rfl, hc 0, hr.below (Below.alloc (Below.refl _ _) (Nat.le_refl _) _), hl⟩
  · exact ⟨_, b, d, rfl, hc 1, hs.below (Below.alloc (Below.refl _ _) (Nat.le_refl _) _), hk⟩
theorem app_any (a : Option Addr) (n c : Nat) (l : List (BitVec 8)) (w : World) (hn : l.length = n) (hl : l.length ≤ 140737488355000) (hr : Rd w a l) :
    Calls Try.prog 20 #[.slice a n c] w fun e w' => ∃ a' c', e = .returned (.slice a' (n + 4) c') ∧ w'.ownsRow w.heap.size 5 1 (.slice a' (n + 4) c') (n + 4) (bv8 (l ++ tailB (updB 0#32 l))) ∧ Below w.heap.size w w' := by
  subst hn
  go_enter Try.func20, Try.ntmps20
  go_wp2_with ((go_at_call 24; (with_reducible refine (trailer_any _ _ _ _ _ rfl (by omega) hr).mono ?_); rintro e w1 ⟨rfl, hr1, hb1⟩; have h2 := RdR.two (c := c) (d := 4) rfl (show (tailB (updB 0#32 l)).length = 4 from rfl) (by omega) (by simp [tailB]) (hr.below hb1) hr1 24))
  refine (concat_any _ _ _ _ _ rfl (by simp) (by simp [preLen, tailB]; omega) h2).mono ?_
  rintro e w2 ⟨v, rfl, hown, hb2⟩
  go_wp2
  have e1 : preLen [l, tailB (updB 0#32 l)] [l, tailB (updB 0#32 l)].length = l.length + 4 := by simp [preLen, tailB]
  rw [e1] at hown
  obtain ⟨a', c', rfl⟩ := own_slice hown
  go_ret
  have hz : w.heap.size ≤ (w1.alloc (Obj.cells #[Value.slice a l.length c, Value.slice (some ⟨w.heap.size + 1, 0, none⟩) 4 4] 24)).heap.size := by have := hb1.size; simp; omega
  exact ⟨a', c', rfl, own_mono (by simpa using hown) hz, (Below.alloc hb1 hb1.size _).trans (hb2.mono hz)⟩
theorem updr0_any (a : Option Addr) (n c : Nat) (l : List (BitVec 8)) (w : World) (hn : l.length = n) (hl : l.length ≤ 140737488355328) (hr : Rd w a l) :
    Calls Try.prog 14 #[.int .u32 0, .slice a n c] w fun e w' => e = .returned (.int .u32 ((updB 0#32 l).toNat : Int)) ∧ w = w' := updr_any 0#32 a n c l w hn hl hr
theorem appr_any (a : Option Addr) (n c : Nat) (l : List (BitVec 8)) (w : World) (hn : l.length = n) (hl : l.length ≤ 140737488355000) (hr : Rd w a l) :
    Calls Try.prog 21 #[.slice a n c] w fun e w' => ∃ a' c', e = .returned (.slice a' (n + 4) c') ∧ w'.ownsRow w.heap.size 5 1 (.slice a' (n + 4) c') (n + 4) (bv8 (l ++ tailB (updB 0#32 l))) ∧ Below w.heap.size w w' := by
  subst hn
  obtain ⟨i0, hi, hz0, hz1, hz2⟩ := info_parts info8
  have hown : (w.alloc (.cells #[] 5)).ownsRow w.heap.size 5 1 (.slice (some ⟨w.heap.size, 0, none⟩) 0 0) 0 [] := World.ownsRow_made w #[] 0 (Nat.le_refl _) (by unfold maxLen; omega) (by simp)
  have hb : Below w.heap.size w (w.alloc (.cells #[] 5)) := Below.alloc (Below.refl _ _) (Nat.le_refl _) _
  go_enter Try.func21, Try.ntmps21
  go_wp2
  go_loopw [3, 4] (fun v i wr => ∃ k : Nat, k ≤ l.length ∧ i = .int .i64 k ∧ wr.ownsRow w.heap.size 5 1 v k (bv8 (l.take k)) ∧ Below w.heap.size w wr) (fun _ i _ => l.length - (intOf i).toNat)
  case atStart => exact ⟨0, Nat.zero_le _, rfl, hown, hb⟩
  case round =>
    obtain ⟨k, hk, rfl, hown2, hb2⟩ := hrel
    by_cases hlt : k < l.length
    · obtain ⟨ad, rfl, hc⟩ := hr k hlt
      have hc2 := (hb2.cell (p := ad.add k) (World.block_lt_of_cell? w _ hc)).trans hc
      have hown2' := hown2.alloc (.cells #[.int .u8 (l[k].toNat : Int)] 5)
      go_wp2_with (at_builtin; refine wpList_append_rd _ rfl _ _ _ rfl w.heap.size 5 i0 (.int .u8 0) 1 Try.underlying24 hi hz0 hz1 hz2 rfl _ _ _ rfl hown2' (some ⟨wr.heap.size, 0, none⟩) 1 1 [.int .u8 (l[k].toNat : Int)] rfl rfl (fun j u hu => ⟨_, rfl, cell_one_new _ _ _ j u hu⟩) (by simp [Value.oneCell']) (by unfold maxLen; omega) (by omega) (by have := hb2.size; simp; omega) ?_; intro v' w2 hown3 hg3 _)
      go_roundw
      case rel => exact ⟨k + 1, by omega, by go_num, by rw [List.take_succ_eq_append_getElem hlt, bv8_append]; exact hown3, (Below.alloc hb2 hb2.size _).grown hg3 (by have := hb2.size; simp; omega) (fun q hq => (hown2.lt q hq).1)⟩
      case measure => simp [intOf]; omega
    · obtain rfl : k = l.length := by omega
      rw [List.take_length] at hown2
      have hrr := hr.below hb2
      go_wp2_with (first | (go_at_call 14; (with_reducible refine (updr0_any _ _ _ _ _ rfl (by omega) hrr).mono ?_); rintro e w1 ⟨rfl, rfl⟩) | (at_builtin; refine wpList_append_rd _ rfl _ _ _ rfl w.heap.size 5 i0 (.int .u8 0) 1 Try.underlying24 hi hz0 hz1 hz2 rfl _ _ _ rfl (hown2.alloc _) (some ⟨wr.heap.size, 0, none⟩) 4 4 (bv8 (tailB (updB 0#32 l))) rfl rfl ((Rd.of_alloc rfl (tail_num _)).vals) (bv8_one _) (by unfold maxLen; omega) (by omega) (by have := hb2.size; simp; omega) ?_; intro v' w2 hown3 hg3 _))
      rw [← bv8_append] at hown3
      obtain ⟨a', c', rfl⟩ := own_slice hown3
      go_ret
      exact ⟨a', c', rfl, hown3, (Below.alloc hb2 hb2.size _).grown hg3 (by have := hb2.size; simp; omega) (fun q hq => (hown2.lt q hq).1)⟩
theorem ver_short (a : Option Addr) (n c : Nat) (w : World) (h : n < 4) :
    Calls Try.prog 17 #[.slice a n c] w fun e w' => e = .returned (.tuple #[.slice none 0 0, .int .i64 4]) ∧ w = w' := by
  go_enter Try.func17, Try.ntmps17
  go_wp2
  go_ret2
  exact ⟨rfl, rfl⟩
theorem ver_no (ad : Addr) (n c : Nat) (l : List (BitVec 8)) (w : World) (hn : l.length = n) (hc : n ≤ c) (hl : l.length ≤ 140737488355328) (h : 4 ≤ n) (hr : Rd w (some ad) l) (hv : ¬ l.drop (n - 4) = tailB (updB 0#32 (l.take (n - 4)))) :
    Calls Try.prog 17 #[.slice (some ad) n c] w fun e w' => e = .returned (.tuple #[.slice none 0 0, .int .i64 19]) ∧ Below w.heap.size w w' := by
  subst hn
  have hdr : Rd w (some (ad.add (l.length - 4))) (l.drop (l.length - 4)) := hr.drop (l.length - 4)
  have hta := hr.take (l.length - 4)
  have hne : ¬ c = l.length - 4 := by omega
  have HV := Lib.hid hv
  clear hv
  go_enter Try.func17, Try.ntmps17
  go_wp2
  go_quiet (fail)
  go_wp2_with (first | (go_at_call 24; (with_reducible refine (trailer_any _ _ _ (l.take (l.length - 4)) _ (by rw [List.length_take]; omega) (by rw [List.length_take]; omega) (hta.drewN _)).mono ?_); rintro e w1 ⟨rfl, hr1, hb1⟩; change Rd w1 (some ⟨w.heap.size + 1, 0, none⟩) _ at hr1) | (go_at_call 23; (with_reducible refine (equal_no _ _ _ _ _ _ (l.drop (l.length - 4)) _ _ (by rw [List.length_drop]) (tailB_len _) (by rw [List.length_drop]; omega) ((hdr.drewN _).below hb1) hr1 HV.out).mono ?_); rintro e w2 ⟨rfl, n2, rfl⟩))
  go_ret2
  exact ⟨rfl, below_drewN ((below_drewN (Below.refl _ _) _).trans hb1) _⟩
theorem ver_ok (ad : Addr) (n c : Nat) (l : List (BitVec 8)) (w : World) (hn : l.length = n) (hc : n ≤ c) (hl : l.length ≤ 140737488355328) (h : 4 ≤ n) (hr : Rd w (some ad) l) (hv : l.drop (n - 4) = tailB (updB 0#32 (l.take (n - 4)))) :
    Calls Try.prog 17 #[.slice (some ad) n c] w fun e w' => ∃ a' c', e = .returned (.tuple #[.slice a' (n - 4) c', .int .i64 0]) ∧ w'.ownsRow w.heap.size 5 1 (.slice a' (n - 4) c') (n - 4) (bv8 (l.take (n - 4))) ∧ Below w.heap.size w w' := by
  subst hn
  have hdr : Rd w (some (ad.add (l.length - 4))) (l.drop (l.length - 4)) := hr.drop (l.length - 4)
  have hta := hr.take (l.length - 4)
  have hne : ¬ c = l.length - 4 := by omega
  have HV := Lib.hid hv
  clear hv
  go_enter Try.func17, Try.ntmps17
  go_wp2
  go_quiet (fail)
  go_wp2_with (first | (go_at_call 24; (with_reducible refine (trailer_any _ _ _ (l.take (l.length - 4)) _ (by rw [List.length_take]; omega) (by rw [List.length_take]; omega) (hta.drewN _)).mono ?_); rintro e w1 ⟨rfl, hr1, hb1⟩; change Rd w1 (some ⟨w.heap.size + 1, 0, none⟩) _ at hr1) | (go_at_call 23; (with_reducible refine (equal_yes _ _ _ _ _ _ (l.drop (l.length - 4)) _ _ (by rw [List.length_drop]) (tailB_len _) (by rw [List.length_drop]; omega) ((hdr.drewN _).below hb1) hr1 HV.out).mono ?_); rintro e w2 ⟨rfl, n2, rfl⟩) | (go_at_call 25; (with_reducible refine (clone_some _ _ _ (l.take (l.length - 4)) _ (by rw [List.length_take]; omega) (by rw [List.length_take]; omega) (((hta.drewN _).below hb1).drewN _)).mono ?_); rintro e w3 ⟨a', c', rfl, hown, hb3⟩))
  go_ret2
  have hz : w.heap.size ≤ w1.heap.size := hb1.size
  exact ⟨a', c', rfl, own_mono hown hz, (below_drewN ((below_drewN (Below.refl _ _) _).trans hb1) _).trans (hb3.mono hz)⟩
theorem verr_short (a : Option Addr) (n c : Nat) (w : World) (h : n < 4) :
    Calls Try.prog 18 #[.slice a n c] w fun e w' => e = .returned (.tuple #[.slice none 0 0, .int .i64 4]) ∧ w = w' := by
  go_enter Try.func18, Try.ntmps18
  go_wp2
  go_ret2
  exact ⟨rfl, rfl⟩
theorem verr_no (ad : Addr) (n c : Nat) (l : List (BitVec 8)) (w : World) (hn : l.length = n) (hc : n ≤ c) (hl : l.length ≤ 140737488355000) (h : 4 ≤ n) (hr : Rd w (some ad) l) (hv : ¬ l.take (n - 4) ++ tailB (updB 0#32 (l.take (n - 4))) = l) :
    Calls Try.prog 18 #[.slice (some ad) n c] w fun e w' => e = .returned (.tuple #[.slice none 0 0, .int .i64 19]) ∧ Below w.heap.size w w' := by
  subst hn
  have hta := hr.take (l.length - 4)
  have HV := Lib.hid hv
  clear hv
  go_enter Try.func18, Try.ntmps18
  go_wp2_with (first | (go_at_call 21; (with_reducible refine (appr_any _ _ _ (l.take (l.length - 4)) _ (by rw [List.length_take]; omega) (by rw [List.length_take]; omega) hta).mono ?_); rintro e w1 ⟨a', c', rfl, hown, hb1⟩; have hcap := own_cap hown) | (go_at_call 19; (with_reducible refine (same_no _ _ _ _ _ _ (l.take (l.length - 4) ++ tailB (updB 0#32 (l.take (l.length - 4)))) l _ (by rw [List.length_append, List.length_take]; simp [tailB]; omega) rfl (Rd.of_own hown) (hr.below hb1) HV.out).mono ?_); rintro e w2 ⟨rfl, rfl⟩))
  go_ret2
  exact ⟨rfl, hb1⟩
theorem verr_ok (ad : Addr) (n c : Nat) (l : List (BitVec 8)) (w : World) (hn : l.length = n) (hc : n ≤ c) (hl : l.length ≤ 140737488355000) (h : 4 ≤ n) (hr : Rd w (some ad) l) (hv : l.take (n - 4) ++ tailB (updB 0#32 (l.take (n - 4))) = l) :
    Calls Try.prog 18 #[.slice (some ad) n c] w fun e w' => ∃ a' c', e = .returned (.tuple #[.slice a' (n - 4) c', .int .i64 0]) ∧ Rd w' a' (l.take (n - 4)) ∧ Below w.heap.size w w' := by
  subst hn
  have hta := hr.take (l.length - 4)
  have HV := Lib.hid hv
  clear hv
  go_enter Try.func18, Try.ntmps18
  go_wp2_with (first | (go_at_call 21; (with_reducible refine (appr_any _ _ _ (l.take (l.length - 4)) _ (by rw [List.length_take]; omega) (by rw [List.length_take]; omega) hta).mono ?_); rintro e w1 ⟨a', c', rfl, hown, hb1⟩; have hcap := own_cap hown) | (go_at_call 19; (with_reducible refine (same_yes _ _ _ _ _ _ (l.take (l.length - 4) ++ tailB (updB 0#32 (l.take (l.length - 4)))) l _ (by rw [List.length_append, List.length_take]; simp [tailB]; omega) rfl (Rd.of_own hown) (hr.below hb1) HV.out).mono ?_); rintro e w2 ⟨rfl, rfl⟩))
  go_ret2
  exact ⟨a', c', rfl, (by have := (Rd.of_own hown).take (l.length - 4); rwa [List.take_append_of_le_length (by rw [List.length_take]; omega), List.take_take, Nat.min_self] at this), hb1⟩
end Go.Proofs.Ytdbocghkhcihjaa
