
import Derived.Test.YtcofiekfhnfjpaaDoorU1
import Derived.WalkSpells
import Derived.WalkLawsBesides
import Derived.Lib.Hide
import Derived.Deep.QuietTactic
import Derived.BigQuiet
import Derived.Outline
import Derived.Deep.OwnRows
import Derived.Lib.SliceRun
import Derived.Laws.MakeOwn
import Derived.IntWalk
import Derived.Deep.RegionHeld3
/- N1 -/
namespace Go.Proofs.YtcofiekfhnfjpaaDoor
open Go.RowKit
set_option linter.unusedVariables false
set_option linter.unusedSimpArgs false
end Go.Proofs.YtcofiekfhnfjpaaDoor

/- N2 -/
namespace Go.Proofs.YtcofiekfhnfjpaaDoor
open Go.RowKit
set_option linter.unusedVariables false
set_option linter.unusedSimpArgs false
def digD (l : List (BitVec 32)) (i : Nat) : Nat := (l.getD i 0#32).toNat
theorem digD_lt (l : List (BitVec 32)) (i : Nat) : digD l i < 4294967296 := (l.getD i 0#32).isLt
theorem digD_in (l : List (BitVec 32)) (i : Nat) (h : i < l.length) : digD l i = l[i].toNat := by simp [digD, List.getD, h]
theorem digD_out (l : List (BitVec 32)) (i : Nat) (h : l.length ≤ i) : digD l i = 0 := by simp [digD, List.getD, List.getElem?_eq_none h]
theorem last_split (l : List (BitVec 32)) (h : 0 < l.length) : l = l.take (l.length - 1) ++ [l[l.length - 1]] := by
  have := List.take_succ_eq_append_getElem (l := l) (i := l.length - 1) (by omega)
  rwa [show l.length - 1 + 1 = l.length by omega, List.take_length] at this
theorem valD_dig (l : List (BitVec 32)) (k : Nat) : valD (l.take (k + 1)) = valD (l.take k) + pw k * digD l k := by
  rcases Nat.lt_or_ge k l.length with h | h
  · rw [valD_take _ _ h, digD_in _ _ h]
  · rw [digD_out _ _ h, List.take_of_length_le (by omega), List.take_of_length_le h]; omega
theorem toNat32 (x : Nat) : ((BitVec.ofNat 32 x).toNat : Int) = (x : Int) % 4294967296 := by rw [BitVec.toNat_ofNat]; omega
theorem two_bv (n : Nat) (hn : n < 18446744073709551616) : #[Value.int IntKind.u32 ((n : Int) % 4294967296), Value.int IntKind.u32 ((n : Int) / 4294967296)].toList = bv32 [BitVec.ofNat 32 n, BitVec.ofNat 32 (n / 4294967296)] := by
  simp only [bv32, List.map_cons, List.map_nil, BitVec.toNat_ofNat]
  congr 1
  congr 1
  congr 1
  congr 1
  omega
theorem mul_lt32 {x y : Nat} (hx : x < 4294967296) (hy : y < 4294967296) : x * y ≤ 18446744065119617025 := Nat.le_trans (Nat.mul_le_mul (Nat.le_of_lt_succ hx) (Nat.le_of_lt_succ hy)) (by decide)
def cmpN (x y : Nat) : Int := if x < y then -1 else if y < x then 1 else 0
theorem cmpN_lt {x y : Nat} (h : x < y) : cmpN x y = -1 := by simp [cmpN, h]
theorem cmpN_gt {x y : Nat} (h : y < x) : cmpN x y = 1 := by simp [cmpN, h, show ¬ x < y by omega]
theorem cmpN_eq (x : Nat) : cmpN x x = 0 := by simp [cmpN]
theorem drop_dig (l : List (BitVec 32)) (k : Nat) : valD (l.drop k) = digD l k + 4294967296 * valD (l.drop (k + 1)) := by
  rcases Nat.lt_or_ge k l.length with h | h
  · rw [List.drop_eq_getElem_cons h, valD_cons, digD_in _ _ h]
  · rw [digD_out _ _ h, List.drop_eq_nil_of_le h, List.drop_eq_nil_of_le (by omega)]; rfl
theorem dig_split (l : List (BitVec 32)) (k : Nat) : valD l = valD (l.take k) + pw k * valD (l.drop k) := by
  rcases Nat.lt_or_ge k l.length with h | h
  · exact valD_split l k (by omega)
  · rw [List.drop_eq_nil_of_le h, List.take_of_length_le h, valD_nil]; omega
theorem dig_cmp (l m : List (BitVec 32)) (i : Nat) (h : valD (l.drop (i + 1)) = valD (m.drop (i + 1))) (hlt : digD l i < digD m i) : valD l < valD m := by
  have h1 := dig_split l (i + 1)
  have h2 := dig_split m (i + 1)
  rw [valD_dig, h] at h1
  rw [valD_dig] at h2
  have h3 := valD_lt (l.take i)
  have h5 : pw (l.take i).length ≤ pw i := pw_mono (by rw [List.length_take]; omega)
  have h4 : pw i * (digD l i + 1) ≤ pw i * digD m i := Nat.mul_le_mul_left _ (by omega)
  rw [Nat.mul_add] at h4
  omega
end Go.Proofs.YtcofiekfhnfjpaaDoor

/- N3 -/
namespace Go.Proofs.YtcofiekfhnfjpaaDoor
open Go.RowKit
set_option linter.unusedVariables false
set_option linter.unusedSimpArgs false
def zer (n : Nat) : List (BitVec 32) := List.replicate n 0#32
theorem made32 (w : World) (n : Nat) (hn : n ≤ 10000000) : (w.alloc (.cells (madeCells #[Value.int .u32 0] n) 32)).ownsRow w.heap.size 32 1 (.slice (some ⟨w.heap.size, 0, none⟩) n n) n (bv32 (zer n)) := by
  have h := own_made w (madeCells #[Value.int .u32 0] n) 32 n (size_madeCells _ _) (by unfold maxLen; omega)
  rw [show (madeCells #[Value.int .u32 0] n).toList = bv32 (zer n) from ?_] at h
  · exact h
  · apply List.ext_getElem
    · simp [madeCells, bv32, zer]
    · intro i h1 h2
      simp [madeCells, bv32, zer, Nat.mod_one]
theorem mul_num (Q Q' p r s x B f b q t V X c : Nat) (h : Q' + p * q = Q + p * (t % 4294967296)) (h0 : Q + c * p = V + f * X * r) (hp : p = r * s) (ht : t = f * b + q + c) : Q' + (t / 4294967296) * (p * 4294967296) = V + f * (X + s * b) * r := by
  have h1 := congrArg (p * ·) (Nat.mod_add_div t 4294967296)
  simp only [Nat.mul_add] at h1
  subst hp
  grind
theorem bv32_set (l : List (BitVec 32)) (k : Nat) (d : BitVec 32) : bv32 (l.set k d) = (bv32 l).set k (.int .u32 (d.toNat : Int)) := by simp [bv32, List.map_set]
end Go.Proofs.YtcofiekfhnfjpaaDoor

/- N4 -/
namespace Go.Proofs.YtcofiekfhnfjpaaDoor
open Go.RowKit
set_option linter.unusedVariables false
set_option linter.unusedSimpArgs false
/-- b binary digits. -/
def IsBl (n b : Nat) : Prop := n < 2 ^ b ∧ (n = 0 → b = 0) ∧ (0 < n → 0 < b ∧ 2 ^ (b - 1) ≤ n)
theorem pw_two (k : Nat) : pw k = 2 ^ (32 * k) := by
  unfold pw
  rw [Nat.pow_mul]
/-- The top digit tells the number of binary digits. -/
theorem isBl_top (l : List (BitVec 32)) (h : 0 < l.length) (b : Nat) (hb : IsBl l[l.length - 1].toNat b) (hz : l[l.length - 1].toNat ≠ 0) : IsBl (valD l) (32 * (l.length - 1) + b) := by
  have h1 : valD l = valD (l.take (l.length - 1)) + pw (l.length - 1) * l[l.length - 1].toNat := by
    have := valD_take l (l.length - 1) (by omega)
    rwa [show l.length - 1 + 1 = l.length by omega, List.take_length] at this
  have h2 := valD_lt (l.take (l.length - 1))
  rw [List.length_take, Nat.min_eq_left (by omega)] at h2
  generalize l[l.length - 1].toNat = t at h1 hb hz
  generalize l.length - 1 = m at h1 h2
  have h3 : pw m * (t + 1) ≤ pw m * 2 ^ b := Nat.mul_le_mul_left _ hb.1
  have h4 := hb.2.2 (by omega)
  have h5 : pw m * 2 ^ (b - 1) ≤ pw m * t := Nat.mul_le_mul_left _ h4.2
  have e1 : pw m * 2 ^ b = 2 ^ (32 * m + b) := by rw [pw_two, Nat.pow_add]
  have e2 : pw m * 2 ^ (b - 1) = 2 ^ (32 * m + b - 1) := by rw [pw_two, ← Nat.pow_add]; congr 1; omega
  rw [Nat.mul_add] at h3
  rw [e1] at h3
  rw [e2] at h5
  have hp := pw_pos m
  refine ⟨by omega, fun h0 => ?_, fun _ => ⟨by omega, by omega⟩⟩
  have : pw m * t = 0 := by omega
  rcases Nat.mul_eq_zero.1 this with h | h
  · omega
  · exact absurd h hz
end Go.Proofs.YtcofiekfhnfjpaaDoor

/- N5 -/
namespace Go.Proofs.YtcofiekfhnfjpaaDoor
open Go.RowKit
set_option linter.unusedVariables false
set_option linter.unusedSimpArgs false
theorem drop_div (l : List (BitVec 32)) (k : Nat) : valD (l.drop k) = valD l / pw k := by
  have h := dig_split l k
  have h1 : valD (l.take k) < pw k := by
    have h2 := valD_lt (l.take k)
    have h3 := pw_mono (show (l.take k).length ≤ k by rw [List.length_take]; omega)
    omega
  rw [h, Nat.add_mul_div_left _ _ (pw_pos k), Nat.div_eq_of_lt h1, Nat.zero_add]
theorem shr_num (l : List (BitVec 32)) (s k d t : Nat) (ht : s % 32 = t) (hd : digD l (s / 32 + k + 1) * 4294967296 + digD l (s / 32 + k) = d) :
    (valD l / 2 ^ s) % pw (k + 1) = (valD l / 2 ^ s) % pw k + pw k * (d / 2 ^ t % 4294967296) := by
  rw [pw_succ, Nat.mod_mul]
  congr 2
  have h1 : valD l / 2 ^ s / pw k = valD (l.drop (s / 32 + k)) / 2 ^ t := by
    rw [drop_div, Nat.div_div_eq_div_mul, Nat.div_div_eq_div_mul, pw_two, pw_two, ← Nat.pow_add, ← Nat.pow_add]
    congr 2
    omega
  rw [h1, drop_dig, drop_dig l (s / 32 + k + 1)]
  have h2 : 4294967296 = 2 ^ t * 2 ^ (32 - t) := by rw [← Nat.pow_add, show t + (32 - t) = 32 by omega]
  generalize valD (l.drop (s / 32 + k + 1 + 1)) = r
  have h3 : digD l (s / 32 + k) + 4294967296 * (digD l (s / 32 + k + 1) + 4294967296 * r) = d + 2 ^ t * (2 ^ (32 - t) * r * 4294967296) := by
    have h4 : 2 ^ t * (2 ^ (32 - t) * r * 4294967296) = (2 ^ t * 2 ^ (32 - t)) * (4294967296 * r) := by grind
    rw [h4, ← h2]
    omega
  rw [h3, Nat.add_mul_div_left _ _ (Nat.two_pow_pos t), Nat.add_mul_mod_self_right]
end Go.Proofs.YtcofiekfhnfjpaaDoor

/- N6 -/
namespace Go.Proofs.YtcofiekfhnfjpaaDoor
open Go.RowKit
set_option linter.unusedVariables false
set_option linter.unusedSimpArgs false
end Go.Proofs.YtcofiekfhnfjpaaDoor

/- N7 -/
namespace Go.Proofs.YtcofiekfhnfjpaaDoor
open Go.RowKit
set_option linter.unusedVariables false
set_option linter.unusedSimpArgs false
theorem own_below {w w' : World} {base : Nat} {e : TypeId} {size : Nat} {v : Value} {n : Nat} {xs : List Value} (h : w.ownsRow base e size v n xs) (hb : Below w.heap.size w w') : w'.ownsRow base e size v n xs := by
  refine ⟨h.1, ?_⟩
  rcases h.2 with h' | ⟨g, cap, cur, h1, h2, h3, h4⟩
  · exact .inl h'
  · refine .inr ⟨g, cap, cur, h1, h2, ?_, h4⟩
    have hlt : g < w.heap.size := by
      rcases Nat.lt_or_ge g w.heap.size with h | h
      · exact h
      · rw [Array.getElem?_eq_none h] at h3; cases h3
    rw [hb.block g hlt, h3]
theorem top_pos (n : Nat) (h : 0 < (canon n).length) : 0 < digD (canon n) ((canon n).length - 1) := by
  rcases Nat.eq_zero_or_pos (digD (canon n) ((canon n).length - 1)) with h1 | h1
  · exfalso
    rw [digD_in _ _ (by omega)] at h1
    have h2 := last_split (canon n) h
    rw [show (canon n)[(canon n).length - 1] = 0#32 from BitVec.eq_of_toNat_eq (by simpa using h1)] at h2
    have h3 := trim_snoc0 ((canon n).take ((canon n).length - 1))
    rw [← h2, trim_canon] at h3
    have h4 := trim_len_le ((canon n).take ((canon n).length - 1))
    rw [← h3, List.length_take] at h4
    omega
  · exact h1
theorem canon_len_pos {n : Nat} (h : 0 < n) : 0 < (canon n).length := by
  rcases Nat.eq_zero_or_pos (canon n).length with h1 | h1
  · have h2 := valD_canon n
    rw [List.length_eq_zero_iff.1 h1] at h2
    simp [valD_nil] at h2
    omega
  · exact h1
theorem ex_canon (n : Nat) : ∃ U, Hid (canon n = U) := ⟨_, rfl⟩
end Go.Proofs.YtcofiekfhnfjpaaDoor

/- Fr -/
namespace Go.Proofs.YtcofiekfhnfjpaaDoor
open Go.RowKit
set_option linter.unusedVariables false
set_option linter.unusedSimpArgs false
/-- A row of digits that lies above all that was there. -/
def RwF (B : Nat) (w : World) (a : Option Addr) (l : List (BitVec 32)) : Prop := Rw w a l ∧ ∀ ad, a = some ad → l ≠ [] → B ≤ ad.block
theorem RwF.of_own {w : World} {base : Nat} {e : TypeId} {a : Option Addr} {n c : Nat} {l : List (BitVec 32)} (h : w.ownsRow base e 1 (.slice a n c) n (bv32 l)) : RwF base w a l := by
  refine ⟨Rw.of_own h, fun ad e hne => ?_⟩
  have hl := h.1
  rw [bv32_len] at hl
  obtain ⟨g, e2, hg⟩ := own_form h (by have := List.length_pos_iff.2 hne; omega)
  rw [e] at e2
  cases e2
  exact hg
theorem RwF.mono {B B' : Nat} {w : World} {a : Option Addr} {l : List (BitVec 32)} (h : RwF B w a l) (hb : B' ≤ B) : RwF B' w a l := ⟨h.1, fun ad e hne => Nat.le_trans hb (h.2 ad e hne)⟩
theorem RwF.below {B : Nat} {w w' : World} {a : Option Addr} {l : List (BitVec 32)} (h : RwF B w a l) (hb : Below w.heap.size w w') : RwF B w' a l := ⟨h.1.below hb, h.2⟩
theorem RwF.set {B b : Nat} {w : World} {a : Option Addr} {l : List (BitVec 32)} (h : RwF B w a l) (hb : b < B) (o : Nat) (v : Value) : RwF B (w.setCell ⟨b, o, none⟩ v) a l := by
  refine ⟨fun k hk => ?_, h.2⟩
  obtain ⟨ad, e, hc⟩ := h.1 k hk
  have := h.2 ad e (by rintro rfl; simp at hk)
  refine ⟨ad, e, ?_⟩
  rw [World.cell?_setCell_far _ _ _ _ (by rw [block_add]; show b ≠ _; omega)]
  exact hc
/-- A row of digits that the call has made, or a part of one, is returned; its capacity is known to reach. -/
def FrR (w : World) (l : List (BitVec 32)) (e : Ending) (w' : World) : Prop := ∃ a c, e = .returned (.slice a l.length c) ∧ l.length ≤ c ∧ RwF w.heap.size w' a l ∧ Below w.heap.size w w'
theorem FrR.of_own {w w' : World} {l : List (BitVec 32)} {e : Ending} (h : FrW w l e w') : FrR w l e w' := by
  obtain ⟨a, c, h1, h2, h3⟩ := h
  exact ⟨a, c, h1, own_cap h2, RwF.of_own h2, h3⟩
theorem FrR.up {w w1 w' : World} {l : List (BitVec 32)} {e : Ending} (h : FrR w1 l e w') (hb : Below w.heap.size w w1) : FrR w l e w' := by
  obtain ⟨a, c, h1, h2, h3, h4⟩ := h
  exact ⟨a, c, h1, h2, h3.mono hb.size, hb.trans (h4.mono hb.size)⟩
theorem RwF.take {B : Nat} {w : World} {a : Option Addr} {l : List (BitVec 32)} (h : RwF B w a l) (n : Nat) : RwF B w a (l.take n) := ⟨h.1.take n, fun ad e hne => h.2 ad e (by rintro rfl; simp at hne)⟩
end Go.Proofs.YtcofiekfhnfjpaaDoor

