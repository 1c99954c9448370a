import Derived.Test.YtbplcgbfhijbcaaEb
import Derived.Test.YtbplcgbfhijbcaaU1
import Derived.WalkSpells
import Derived.WalkLawsBesides
import Derived.Lib.Hide
import Derived.Deep.QuietTactic
import Derived.BigQuiet
import Derived.Outline
import Derived.Deep.OwnRows
import Derived.Lib.SliceRun
import Derived.Laws.MakeOwn
import Derived.IntWalk
import Derived.Deep.RegionHeld3
namespace Go.Proofs.Ytbplcgbfhijbcaa
open Go.RowKit
set_option linter.unusedVariables false
set_option linter.unusedSimpArgs false
/-- A decoder: what is left of its input, its offset, its error. -/
def Ds (w : World) (g : Nat) (l : List (BitVec 8)) (p e : Nat) : Prop := ∃ a c, l.length ≤ c ∧ Rd w a l ∧ (0 < l.length → ∀ ad, a = some ad → ad.block < g) ∧ w.heap[g]? = some (.cells #[.slice a l.length c, .int .i64 p, .int .i64 e] 71 (0, 0))
theorem Rd.grown0 {w w' : World} {a : Option Addr} {l : List (BitVec 8)} {row : Option Nat} (h : Rd w a l) (hg : w.grownBy w' row) (hne : 0 < l.length → ∀ ad, a = some ad → some ad.block ≠ row) : Rd w' a l := by
  rcases l with _ | ⟨x, t⟩
  · exact Rd.nil _ _
  · exact h.grown hg (hne (by simp))
theorem row_cell {w : World} {g : Nat} {cs : Array Value} {t : TypeId} {fr : Nat × Nat} (h : w.heap[g]? = some (.cells cs t fr)) (i : Nat) : w.cell? ⟨g, i, none⟩ = cs[i]? := by
  unfold World.cell?
  simp only [h]
  rfl
theorem row_open {w : World} {g : Nat} {cs : Array Value} {t : TypeId} (h : w.heap[g]? = some (.cells cs t (0, 0))) (i : Nat) : w.frozen? ⟨g, i, none⟩ = false := by
  unfold World.frozen?
  simp only [h]
  simp
theorem row_lt {w : World} {g : Nat} {o : Obj} (h : w.heap[g]? = some o) : g < w.heap.size := by
  rcases Nat.lt_or_ge g w.heap.size with h1 | h1
  · exact h1
  · rw [Array.getElem?_eq_none (by omega)] at h; cases h
theorem grown_set (w : World) (g i : Nat) (v : Value) : w.grownBy (w.setCell ⟨g, i, none⟩ v) (some g) := ⟨rfl, rfl, rfl, by simp, fun k _ hk => heap_setCell_other w ⟨g, i, none⟩ k v (fun e => hk (by simp [e]))⟩
theorem grown_refl (w : World) (r : Option Nat) : w.grownBy w r := ⟨rfl, rfl, rfl, Nat.le_refl _, fun _ _ _ => rfl⟩
theorem grown_trans {a b c : World} {r : Option Nat} (h : a.grownBy b r) (k : b.grownBy c r) : a.grownBy c r := ⟨k.os.trans h.os, k.tape.trans h.tape, k.output.trans h.output, Nat.le_trans h.size k.size, fun i hi hn => (k.block i (Nat.lt_of_lt_of_le hi h.size) hn).trans (h.block i hi hn)⟩
theorem grown_drewN {a w : World} {r : Option Nat} (h : a.grownBy w r) (n : Nat) : a.grownBy (w.drewN n) r := ⟨h.os, h.tape, h.output, h.size, h.block⟩
theorem grown_below {w w' : World} {g : Nat} (h : Below w.heap.size w w') : w.grownBy w' (some g) := ⟨h.os, h.tape, h.output, h.size, fun k hk _ => h.block k hk⟩
theorem cast_add' (a b : Nat) : ((a + b : Nat) : Int) = (a : Int) + (b : Int) := by omega
theorem row_set {w : World} {g j : Nat} {cs : Array Value} {t : TypeId} (h : w.heap[g]? = some (.cells cs t (0, 0))) (u : Value) : (w.setCell ⟨g, j, none⟩ u).heap[g]? = some (.cells (cs.setIfInBounds j u) t (0, 0)) := heap_setCell_same w g j cs t u h
theorem Ds.lt {w : World} {g : Nat} {l : List (BitVec 8)} {p e : Nat} (h : Ds w g l p e) : g < w.heap.size := by
  obtain ⟨a, c, hc, hr, hne, hrow⟩ := h
  exact row_lt hrow
theorem Ds.kept {w w' : World} {g : Nat} {l : List (BitVec 8)} {p e : Nat} {r : Option Nat} (h : Ds w g l p e) (hg : w.grownBy w' r) (hr : some g ≠ r) (ha : ∀ a k, r = some k → Rd w a l → 0 < l.length → ∀ ad, a = some ad → ad.block ≠ k) : Ds w' g l p e := by
  obtain ⟨a, c, hc, hrd, hne, hrow⟩ := h
  refine ⟨a, c, hc, hrd.grown0 hg ?_, hne, by rw [hg.block g (row_lt hrow) hr]; exact hrow⟩
  intro h0 ad hq e2
  exact ha a ad.block e2.symm hrd h0 ad hq rfl
theorem Ds.below {w w' : World} {g : Nat} {l : List (BitVec 8)} {p e : Nat} (h : Ds w g l p e) (hb : Below w.heap.size w w') : Ds w' g l p e := by
  obtain ⟨a, c, hc, hrd, hne, hrow⟩ := h
  exact ⟨a, c, hc, hrd.below hb, hne, by rw [hb.block g (row_lt hrow)]; exact hrow⟩
theorem Ds.belowB {w w' : World} {g B : Nat} {l : List (BitVec 8)} {p e : Nat} (h : Ds w g l p e) (hb : Below B w w') (hg : g < B) : Ds w' g l p e := by
  obtain ⟨a, c, hc, hrd, hne, hrow⟩ := h
  refine ⟨a, c, hc, ?_, hne, by rw [hb.block g hg]; exact hrow⟩
  rcases l with _ | ⟨x, t⟩
  · exact Rd.nil _ _
  · exact hrd.belowB (fun ad e1 => Nat.lt_trans (hne (by simp) ad e1) hg) hb
theorem skip_any (g k : Nat) (l : List (BitVec 8)) (p e : Nat) (w : World) (hk : k ≤ l.length) (hp : p + l.length ≤ 4611686018427387904) (hd : Ds w g l p e) :
    Calls Try.prog 72 #[.pointer (some ⟨g, 0, none⟩), .int .i64 k] w fun e' w' => e' = .returned (.tuple #[]) ∧ Ds w' g (l.drop k) (p + k) e ∧ w.grownBy w' (some g) := by
  obtain ⟨a, c, hc, hr, hne, hrow⟩ := hd
  have h0 := row_cell hrow 0
  have h1 := row_cell hrow 1
  have f0 := row_open hrow 0
  have f1 := row_open hrow 1
  simp only [List.getElem?_toArray, List.getElem?_cons_zero, List.getElem?_cons_succ] at h0 h1
  go_enter Try.func72, Try.ntmps72
  go_wp2
  all_goals (go_end0; refine ⟨rfl, ?_, grown_trans (grown_set _ _ _ _) (grown_set _ _ _ _)⟩)
  all_goals (have hg := grown_trans (grown_set w g 0 (.slice (if c = k then a else a.map (·.add k)) (l.length - k) (c - k))) (grown_set _ g 1 (.int .i64 ((p : Int) + (k : Int)))))
  · subst h
    have hl : l.length = c := by omega
    refine ⟨a, 0, by rw [List.length_drop]; omega, ?_, fun h => (by rw [List.length_drop] at h; omega), ?_⟩
    · rw [List.drop_eq_nil_iff.2 (by omega)]; exact Rd.nil _ _
    · have := row_set (j := 1) (row_set (j := 0) hrow (.slice a 0 0)) (.int .i64 ((p : Int) + (c : Int)))
      rw [List.length_drop, show l.length - c = 0 by omega, cast_add']
      simpa [hl] using this
  · rw [if_neg h] at hg
    refine ⟨a.map (·.add k), c - k, by rw [List.length_drop]; omega, (hr.drop k).grown0 hg ?_, ?_, ?_⟩
    · rintro h0 ad he
      simp only [Option.map_eq_some_iff] at he
      obtain ⟨x, hx, rfl⟩ := he
      rw [block_add]
      intro e3
      exact Nat.ne_of_lt (hne (by rw [List.length_drop] at h0; omega) x hx) (Option.some.inj e3)
    · rintro h0 ad he
      simp only [Option.map_eq_some_iff] at he
      obtain ⟨x, hx, rfl⟩ := he
      rw [block_add]
      exact hne (by rw [List.length_drop] at h0; omega) x hx
    · have := row_set (j := 1) (row_set (j := 0) hrow (.slice (a.map (·.add k)) (l.length - k) (c - k))) (.int .i64 ((p : Int) + (k : Int)))
      rw [List.length_drop, cast_add']
      exact this
theorem skip_one (g : Nat) (d : BitVec 8) (t : List (BitVec 8)) (p e : Nat) (w : World) (hp : p + t.length + 1 ≤ 4611686018427387904) (hd : Ds w g (d :: t) p e) :
    Calls Try.prog 72 #[.pointer (some ⟨g, 0, none⟩), .int .i64 1] w fun e' w' => e' = .returned (.tuple #[]) ∧ Ds w' g t (p + 1) e ∧ w.grownBy w' (some g) := skip_any g 1 (d :: t) p e w (by simp) (by simp; omega) hd
theorem next_nil (g : Nat) (p e : Nat) (w : World) (hd : Ds w g [] p e) :
    Calls Try.prog 49 #[.pointer (some ⟨g, 0, none⟩)] w fun e' w' => e' = .returned (.tuple #[.int .u8 0, .bool false]) ∧ w = w' := by
  obtain ⟨a, c, hc, hr, hne, hrow⟩ := hd
  have h0 := row_cell hrow 0
  simp only [List.getElem?_toArray, List.getElem?_cons_zero, List.length_nil] at h0
  go_enter Try.func49, Try.ntmps49
  go_wp2
  go_ret2
  exact ⟨rfl, rfl⟩
theorem next_cons (g : Nat) (d : BitVec 8) (t : List (BitVec 8)) (p e : Nat) (w : World) (hp : p + t.length + 1 ≤ 4611686018427387904) (hd : Ds w g (d :: t) p e) :
    Calls Try.prog 49 #[.pointer (some ⟨g, 0, none⟩)] w fun e' w' => e' = .returned (.tuple #[.int .u8 (d.toNat : Int), .bool true]) ∧ Ds w' g t (p + 1) e ∧ w.grownBy w' (some g) := by
  have hd' := hd
  obtain ⟨a, c, hc, hr, hne, hrow⟩ := hd
  have h0 := row_cell hrow 0
  obtain ⟨ad, rfl, hcell⟩ := hr 0 (by simp)
  simp only [List.getElem?_toArray, List.getElem?_cons_zero, List.length_cons, List.getElem_cons_zero] at h0 hcell
  rw [show ad.add 0 = ad from rfl] at hcell
  go_enter Try.func49, Try.ntmps49
  go_wp2_with ((go_at_call 72; (with_reducible refine (skip_one g d t p e _ hp hd').mono ?_); rintro e1 w1 ⟨rfl, hd1, hg1⟩))
  go_ret2
  exact ⟨rfl, hd1, hg1⟩
theorem fail_any (g : Nat) (l : List (BitVec 8)) (p e x : Nat) (y : Int) (w : World) (hy : y = (x : Int)) (hd : Ds w g l p e) :
    Calls Try.prog 50 #[.pointer (some ⟨g, 0, none⟩), .int .i64 y] w fun e' w' => e' = .returned (.tuple #[]) ∧ Ds w' g l p (if e = 0 then x else e) ∧ w.grownBy w' (some g) := by
  subst hy
  have hd' := hd
  obtain ⟨a, c, hc, hr, hne, hrow⟩ := hd
  have h2 := row_cell hrow 2
  have f2 := row_open hrow 2
  simp only [List.getElem?_toArray, List.getElem?_cons_zero, List.getElem?_cons_succ] at h2
  by_cases he : e = 0
  · subst he
    go_enter Try.func50, Try.ntmps50
    go_wp2
    go_end0
    have hg := grown_set w g 2 (.int .i64 (x : Int))
    refine ⟨rfl, ⟨a, c, hc, hr.grown0 hg (fun h0 ad e1 e2 => Nat.ne_of_lt (hne h0 ad e1) (Option.some.inj e2)), hne, ?_⟩, hg⟩
    exact row_set (j := 2) hrow (.int .i64 (x : Int))
  · have hb : ((e : Int) == 0) = false := by simp; exact he
    go_enter Try.func50, Try.ntmps50
    go_wp2
    go_end0
    exact ⟨rfl, hd', grown_refl _ _⟩
theorem Rd.blk {w : World} {a : Option Addr} {l : List (BitVec 8)} (hr : Rd w a l) (h0 : 0 < l.length) : ∀ ad, a = some ad → ad.block < w.heap.size := by
  intro ad e
  obtain ⟨ad', e', hc⟩ := hr 0 h0
  rw [e] at e'
  cases e'
  exact World.block_lt_of_cell? w _ hc
theorem ds_new' (w : World) (a : Option Addr) (c : Nat) (l : List (BitVec 8)) (n p e : Nat) (hn : l.length = n) (hc : n ≤ c) (hr : Rd w a l) :
    Ds (w.alloc (.cells #[.slice a n c, .int .i64 p, .int .i64 e] 71)) w.heap.size l p e := by
  subst hn
  exact ⟨a, c, hc, hr.below (Below.alloc (Below.refl _ _) (Nat.le_refl _) _), fun h0 ad h => Rd.blk hr h0 ad h, heap_alloc_new w _⟩
theorem ds_new (w : World) (a : Option Addr) (c : Nat) (l : List (BitVec 8)) (p e : Nat) (hc : l.length ≤ c) (hr : Rd w a l) :
    Ds (w.alloc (.cells #[.slice a l.length c, .int .i64 p, .int .i64 e] 71)) w.heap.size l p e := ds_new' w a c l l.length p e rfl hc hr
theorem lit2 : (2 : Int) = ((2 : Nat) : Int) := rfl
theorem lit3 : (3 : Int) = ((3 : Nat) : Int) := rfl
theorem lit4 : (4 : Int) = ((4 : Nat) : Int) := rfl
theorem lit5 : (5 : Int) = ((5 : Nat) : Int) := rfl
theorem newd_bad (a : Option Addr) (n c : Nat) (at' : Int) (w : World) (hn : n ≤ 4611686018427387904) (hb : at' < 0 ∨ (n : Int) < at') :
    Calls Try.prog 45 #[.slice a n c, .int .i64 at'] w fun e w' => e = .returned (.pointer (some ⟨w.heap.size, 0, none⟩)) ∧ Ds w' w.heap.size [] 0 2 ∧ Below w.heap.size w w' := by
  by_cases h0 : at' < 0
  · have hd : decide (at' < 0) = true := by simp [h0]
    go_enter Try.func45, Try.ntmps45
    go_wp2
    go_ret
    exact ⟨rfl, ds_new w none 0 [] 0 2 (by simp) (Rd.nil _ _), Below.alloc (Below.refl _ _) (Nat.le_refl _) _⟩
  · have hd : decide (at' < 0) = false := by simp; omega
    have hd2 : decide ((n : Int) < at') = true := by simp; omega
    go_enter Try.func45, Try.ntmps45
    go_wp2
    go_ret
    exact ⟨rfl, ds_new w none 0 [] 0 2 (by simp) (Rd.nil _ _), Below.alloc (Below.refl _ _) (Nat.le_refl _) _⟩
theorem newd_ok (a : Option Addr) (n c k : Nat) (l : List (BitVec 8)) (w : World) (hn : l.length = n) (hc : n ≤ c) (hl : n ≤ 4611686018427387904) (hr : Rd w a l) (hk : k ≤ n) :
    Calls Try.prog 45 #[.slice a n c, .int .i64 k] w fun e w' => e = .returned (.pointer (some ⟨w.heap.size, 0, none⟩)) ∧ Ds w' w.heap.size (l.drop k) k 0 ∧ Below w.heap.size w w' := by
  subst hn
  go_enter Try.func45, Try.ntmps45
  go_wp2
  all_goals go_ret
  · subst h
    obtain rfl : l.length = c := by omega
    exact ⟨rfl, ds_new' w a 0 (l.drop l.length) (l.length - l.length) l.length 0 (by simp) (by omega) (by rw [List.drop_length]; exact Rd.nil _ _), Below.alloc (Below.refl _ _) (Nat.le_refl _) _⟩
  · exact ⟨rfl, ds_new' w _ (c - k) (l.drop k) (l.length - k) k 0 (by rw [List.length_drop]) (by omega) (hr.drop k), Below.alloc (Below.refl _ _) (Nat.le_refl _) _⟩
end Go.Proofs.Ytbplcgbfhijbcaa
