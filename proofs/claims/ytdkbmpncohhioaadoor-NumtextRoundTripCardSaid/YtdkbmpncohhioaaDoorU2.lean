
import Derived.Test.YtdkbmpncohhioaaDoorU1
import Derived.WalkSpells
import Derived.WalkLawsBesides
import Derived.Lib.Hide
import Derived.Deep.QuietTactic
import Derived.BigQuiet
import Derived.Outline
import Derived.Deep.OwnRows
import Derived.Lib.SliceRun
import Derived.Laws.MakeOwn
import Derived.IntWalk
import Derived.Deep.RegionHeld3
/- N1 -/
namespace Go.Proofs.YtdkbmpncohhioaaDoor
open Go.RowKit
set_option linter.unusedVariables false
set_option linter.unusedSimpArgs false
end Go.Proofs.YtdkbmpncohhioaaDoor

/- N2 -/
namespace Go.Proofs.YtdkbmpncohhioaaDoor
open Go.RowKit
set_option linter.unusedVariables false
set_option linter.unusedSimpArgs false
def digD (l : List (BitVec 32)) (i : Nat) : Nat := (l.getD i 0#32).toNat
theorem digD_lt (l : List (BitVec 32)) (i : Nat) : digD l i < 4294967296 := (l.getD i 0#32).isLt
theorem digD_in (l : List (BitVec 32)) (i : Nat) (h : i < l.length) : digD l i = l[i].toNat := by simp [digD, List.getD, h]
theorem digD_out (l : List (BitVec 32)) (i : Nat) (h : l.length ≤ i) : digD l i = 0 := by simp [digD, List.getD, List.getElem?_eq_none h]
theorem snoc_len {out : List (BitVec 32)} {j : Nat} (d : BitVec 32) (h : out.length = j) : (out ++ [d]).length = j + 1 := by rw [List.length_append, h]; rfl
theorem snoc_le {out : List (BitVec 32)} {j : Nat} (d : BitVec 32) (h : out.length = j) (hj : j < 10000000) : (out ++ [d]).length ≤ 10000000 := by rw [snoc_len d h]; omega
theorem last_split (l : List (BitVec 32)) (h : 0 < l.length) : l = l.take (l.length - 1) ++ [l[l.length - 1]] := by
  have := List.take_succ_eq_append_getElem (l := l) (i := l.length - 1) (by omega)
  rwa [show l.length - 1 + 1 = l.length by omega, List.take_length] at this
theorem valD_dig (l : List (BitVec 32)) (k : Nat) : valD (l.take (k + 1)) = valD (l.take k) + pw k * digD l k := by
  rcases Nat.lt_or_ge k l.length with h | h
  · rw [valD_take _ _ h, digD_in _ _ h]
  · rw [digD_out _ _ h, List.take_of_length_le (by omega), List.take_of_length_le h]; omega
theorem toNat32 (x : Nat) : ((BitVec.ofNat 32 x).toNat : Int) = (x : Int) % 4294967296 := by rw [BitVec.toNat_ofNat]; omega
theorem toNat32' {y : Int} {x : Nat} (h : y = (x : Int) % 4294967296) : y = ((BitVec.ofNat 32 x).toNat : Int) := by rw [h, toNat32]
theorem two_len (x y : BitVec 32) : [x, y].length = 2 := rfl
theorem two_le (x y : BitVec 32) : [x, y].length ≤ 10000000 := by simp
theorem two_bv (n : Nat) (hn : n < 18446744073709551616) : #[Value.int IntKind.u32 ((n : Int) % 4294967296), Value.int IntKind.u32 ((n : Int) / 4294967296)].toList = bv32 [BitVec.ofNat 32 n, BitVec.ofNat 32 (n / 4294967296)] := by
  simp only [bv32, List.map_cons, List.map_nil, BitVec.toNat_ofNat]
  congr 1
  congr 1
  congr 1
  congr 1
  omega
def AddRel (w : World) (l m : List (BitVec 32)) (v c i : Value) (wr : World) : Prop := ∃ (k q : Nat) (out : List (BitVec 32)), k ≤ max l.length m.length ∧ i = .int .i64 k ∧ c = .int .u64 q ∧ q ≤ 1 ∧ Hid (out.length = k ∧ valD (l.take k) + valD (m.take k) = valD out + q * pw k) ∧ wr.ownsRow w.heap.size 46 1 v k (bv32 out) ∧ Below w.heap.size w wr
def TimRel (w : World) (l : List (BitVec 32)) (t : Nat) (v c i : Value) (wr : World) : Prop := ∃ (k q : Nat) (out : List (BitVec 32)), k ≤ l.length ∧ i = .int .i64 k ∧ c = .int .u64 q ∧ q < 4294967296 ∧ Hid (out.length = k ∧ valD (l.take k) * t = valD out + q * pw k) ∧ wr.ownsRow w.heap.size 46 1 v k (bv32 out) ∧ Below w.heap.size w wr
theorem tim_num (x t o c p a : Nat) (h : x * t = o + c * p) : (x + p * a) * t = (o + p * ((a * t + c) % 4294967296)) + ((a * t + c) / 4294967296) * (p * 4294967296) := by
  have h1 := congrArg (p * ·) (Nat.mod_add_div (a * t + c) 4294967296)
  simp only [Nat.mul_add] at h1
  grind
theorem mul_lt32 {x y : Nat} (hx : x < 4294967296) (hy : y < 4294967296) : x * y ≤ 18446744065119617025 := Nat.le_trans (Nat.mul_le_mul (Nat.le_of_lt_succ hx) (Nat.le_of_lt_succ hy)) (by decide)
def cmpN (x y : Nat) : Int := if x < y then -1 else if y < x then 1 else 0
theorem cmpN_lt {x y : Nat} (h : x < y) : cmpN x y = -1 := by simp [cmpN, h]
theorem cmpN_gt {x y : Nat} (h : y < x) : cmpN x y = 1 := by simp [cmpN, h, show ¬ x < y by omega]
theorem cmpN_eq (x : Nat) : cmpN x x = 0 := by simp [cmpN]
theorem drop_dig (l : List (BitVec 32)) (k : Nat) : valD (l.drop k) = digD l k + 4294967296 * valD (l.drop (k + 1)) := by
  rcases Nat.lt_or_ge k l.length with h | h
  · rw [List.drop_eq_getElem_cons h, valD_cons, digD_in _ _ h]
  · rw [digD_out _ _ h, List.drop_eq_nil_of_le h, List.drop_eq_nil_of_le (by omega)]; rfl
theorem dig_split (l : List (BitVec 32)) (k : Nat) : valD l = valD (l.take k) + pw k * valD (l.drop k) := by
  rcases Nat.lt_or_ge k l.length with h | h
  · exact valD_split l k (by omega)
  · rw [List.drop_eq_nil_of_le h, List.take_of_length_le h, valD_nil]; omega
theorem dig_cmp (l m : List (BitVec 32)) (i : Nat) (h : valD (l.drop (i + 1)) = valD (m.drop (i + 1))) (hlt : digD l i < digD m i) : valD l < valD m := by
  have h1 := dig_split l (i + 1)
  have h2 := dig_split m (i + 1)
  rw [valD_dig, h] at h1
  rw [valD_dig] at h2
  have h3 := valD_lt (l.take i)
  have h5 : pw (l.take i).length ≤ pw i := pw_mono (by rw [List.length_take]; omega)
  have h4 : pw i * (digD l i + 1) ≤ pw i * digD m i := Nat.mul_le_mul_left _ (by omega)
  rw [Nat.mul_add] at h4
  omega
def CmpRel (l k : List (BitVec 32)) (M : Nat) (i : Value) : Prop := (∃ p : Nat, p < M ∧ i = .int .i64 p ∧ valD (l.drop (p + 1)) = valD (k.drop (p + 1))) ∨ (i = .int .i64 (-1) ∧ valD l = valD k)
end Go.Proofs.YtdkbmpncohhioaaDoor

/- N3 -/
namespace Go.Proofs.YtdkbmpncohhioaaDoor
open Go.RowKit
set_option linter.unusedVariables false
set_option linter.unusedSimpArgs false
theorem take_val {l k : List (BitVec 32)} (h : valD k ≤ valD l) : valD (k.take l.length) = valD k := by
  have h1 := dig_split k l.length
  have h2 := valD_lt l
  have h3 : valD (k.drop l.length) = 0 := by
    rcases Nat.eq_zero_or_pos (valD (k.drop l.length)) with h4 | h4
    · exact h4
    · have := Nat.mul_le_mul_left (pw l.length) h4
      omega
  rw [h3] at h1
  omega
def SubRel (w : World) (l k : List (BitVec 32)) (v c i : Value) (wr : World) : Prop := ∃ (j q : Nat) (out : List (BitVec 32)), j ≤ l.length ∧ i = .int .i64 j ∧ c = .int .u64 q ∧ q ≤ 1 ∧ Hid (out.length = j ∧ valD (l.take j) + q * pw j = valD (k.take j) + valD out) ∧ wr.ownsRow w.heap.size 46 1 v j (bv32 out) ∧ Below w.heap.size w wr
theorem snoc_own_le {w w2 : World} {v : Value} {j : Nat} {out : List (BitVec 32)} (h : w2.ownsRow w.heap.size 46 1 v j (bv32 out)) : out.length = j := by
  have := h.1
  rw [bv32_len] at this
  omega
theorem own_le {w w2 : World} {v : Value} {j : Nat} {out : List (BitVec 32)} (h : w2.ownsRow w.heap.size 46 1 v j (bv32 out)) (hj : j ≤ 10000000) : out.length ≤ 10000000 := by rw [snoc_own_le h]; exact hj
def zer (n : Nat) : List (BitVec 32) := List.replicate n 0#32
theorem made32 (w : World) (n : Nat) (hn : n ≤ 10000000) : (w.alloc (.cells (madeCells #[Value.int .u32 0] n) 46)).ownsRow w.heap.size 46 1 (.slice (some ⟨w.heap.size, 0, none⟩) n n) n (bv32 (zer n)) := by
  have h := own_made w (madeCells #[Value.int .u32 0] n) 46 n (size_madeCells _ _) (by unfold maxLen; omega)
  rw [show (madeCells #[Value.int .u32 0] n).toList = bv32 (zer n) from ?_] at h
  · exact h
  · apply List.ext_getElem
    · simp [madeCells, bv32, zer]
    · intro i h1 h2
      simp [madeCells, bv32, zer, Nat.mod_one]
theorem mul_num (Q Q' p r s x B f b q t V X c : Nat) (h : Q' + p * q = Q + p * (t % 4294967296)) (h0 : Q + c * p = V + f * X * r) (hp : p = r * s) (ht : t = f * b + q + c) : Q' + (t / 4294967296) * (p * 4294967296) = V + f * (X + s * b) * r := by
  have h1 := congrArg (p * ·) (Nat.mod_add_div t 4294967296)
  simp only [Nat.mul_add] at h1
  subst hp
  grind
theorem bv32_set (l : List (BitVec 32)) (k : Nat) (d : BitVec 32) : bv32 (l.set k d) = (bv32 l).set k (.int .u32 (d.toNat : Int)) := by simp [bv32, List.map_set]
/-- The row of a product: inner loop. -/
def MuIn (w : World) (l k : List (BitVec 32)) (i : Nat) (g cp : Nat) (c j : Value) (wr : World) : Prop := ∃ (m q : Nat) (Q : List (BitVec 32)), m ≤ k.length ∧ j = .int .i64 m ∧ c = .int .u64 q ∧ q < 4294967296 ∧
  Hid (Q.length = l.length + k.length + 1 ∧ valD Q + q * pw (i + m) = valD (l.take i) * valD k + digD l i * valD (k.take m) * pw i ∧ ∀ z, i + k.length ≤ z → z < Q.length → Q[z]? = some 0#32) ∧
  wr.ownsRow w.heap.size 46 1 (.slice (some ⟨g, 0, none⟩) (l.length + k.length + 1) cp) (l.length + k.length + 1) (bv32 Q) ∧ Below w.heap.size w wr
def MuOut (w : World) (l k : List (BitVec 32)) (g cp : Nat) (i : Value) (wr : World) : Prop := ∃ (m : Nat) (Q : List (BitVec 32)), m ≤ l.length ∧ i = .int .i64 m ∧
  Hid (Q.length = l.length + k.length + 1 ∧ valD Q = valD (l.take m) * valD k ∧ ∀ z, m + k.length ≤ z → z < Q.length → Q[z]? = some 0#32) ∧
  wr.ownsRow w.heap.size 46 1 (.slice (some ⟨g, 0, none⟩) (l.length + k.length + 1) cp) (l.length + k.length + 1) (bv32 Q) ∧ Below w.heap.size w wr
end Go.Proofs.YtdkbmpncohhioaaDoor

/- N4 -/
namespace Go.Proofs.YtdkbmpncohhioaaDoor
open Go.RowKit
set_option linter.unusedVariables false
set_option linter.unusedSimpArgs false
/-- b binary digits. -/
def IsBl (n b : Nat) : Prop := n < 2 ^ b ∧ (n = 0 → b = 0) ∧ (0 < n → 0 < b ∧ 2 ^ (b - 1) ≤ n)
theorem isBl_uniq {n b c : Nat} (hb : IsBl n b) (hc : IsBl n c) : b = c := by
  have key : ∀ x y, IsBl n x → IsBl n y → ¬ x < y := by
    intro x y hx hy h
    rcases Nat.eq_zero_or_pos n with h0 | h0
    · have := hy.2.1 h0; omega
    · have h1 := (hy.2.2 h0).2
      have h2 := hx.1
      have h3 : 2 ^ x ≤ 2 ^ (y - 1) := Nat.pow_le_pow_right (by decide) (by omega)
      omega
  have := key b c hb hc
  have := key c b hc hb
  omega
theorem pw_two (k : Nat) : pw k = 2 ^ (32 * k) := by
  unfold pw
  rw [Nat.pow_mul]
/-- The top digit tells the number of binary digits. -/
theorem isBl_top (l : List (BitVec 32)) (h : 0 < l.length) (b : Nat) (hb : IsBl l[l.length - 1].toNat b) (hz : l[l.length - 1].toNat ≠ 0) : IsBl (valD l) (32 * (l.length - 1) + b) := by
  have h1 : valD l = valD (l.take (l.length - 1)) + pw (l.length - 1) * l[l.length - 1].toNat := by
    have := valD_take l (l.length - 1) (by omega)
    rwa [show l.length - 1 + 1 = l.length by omega, List.take_length] at this
  have h2 := valD_lt (l.take (l.length - 1))
  rw [List.length_take, Nat.min_eq_left (by omega)] at h2
  generalize l[l.length - 1].toNat = t at h1 hb hz
  generalize l.length - 1 = m at h1 h2
  have h3 : pw m * (t + 1) ≤ pw m * 2 ^ b := Nat.mul_le_mul_left _ hb.1
  have h4 := hb.2.2 (by omega)
  have h5 : pw m * 2 ^ (b - 1) ≤ pw m * t := Nat.mul_le_mul_left _ h4.2
  have e1 : pw m * 2 ^ b = 2 ^ (32 * m + b) := by rw [pw_two, Nat.pow_add]
  have e2 : pw m * 2 ^ (b - 1) = 2 ^ (32 * m + b - 1) := by rw [pw_two, ← Nat.pow_add]; congr 1; omega
  rw [Nat.mul_add] at h3
  rw [e1] at h3
  rw [e2] at h5
  have hp := pw_pos m
  refine ⟨by omega, fun h0 => ?_, fun _ => ⟨by omega, by omega⟩⟩
  have : pw m * t = 0 := by omega
  rcases Nat.mul_eq_zero.1 this with h | h
  · omega
  · exact absurd h hz
def BlRel (x b0 : Nat) (n t : Value) : Prop := ∃ j y m : Nat, j ≤ 32 ∧ m ≤ b0 + 32 ∧ n = .int .i64 (m : Int) ∧ t = .int .u32 (y : Int) ∧ y < 4294967296 ∧ Hid (m = b0 + j ∧ x / 2 ^ j = y ∧ (j = 0 ∨ 0 < x / 2 ^ (j - 1)))
end Go.Proofs.YtdkbmpncohhioaaDoor

/- N5 -/
namespace Go.Proofs.YtdkbmpncohhioaaDoor
open Go.RowKit
set_option linter.unusedVariables false
set_option linter.unusedSimpArgs false
theorem up_num (X O q x y p s r S T : Nat) (h : X * T = O + q * p) (hp : p = s * r) (hy : x * S = y) (hT : s * S = T) : (X + r * x) * T = O + p * ((y + q) % 4294967296) + (y + q) / 4294967296 * (p * 4294967296) := by
  have h1 := congrArg (p * ·) (Nat.mod_add_div (y + q) 4294967296)
  simp only [Nat.mul_add] at h1
  subst hy hT hp
  grind
def UpRel (w : World) (l : List (BitVec 32)) (n : Nat) (v c i : Value) (wr : World) : Prop := ∃ (k q : Nat) (out : List (BitVec 32)), k ≤ l.length ∧ i = .int .i64 k ∧ c = .int .u64 q ∧ q < 2147483648 ∧ Hid (out.length = n / 32 + k ∧ q < 2 ^ (n % 32) ∧ valD (l.take k) * 2 ^ n = valD out + q * pw (n / 32 + k)) ∧ wr.ownsRow w.heap.size 46 1 v (n / 32 + k) (bv32 out) ∧ Below w.heap.size w wr
theorem drop_div (l : List (BitVec 32)) (k : Nat) : valD (l.drop k) = valD l / pw k := by
  have h := dig_split l k
  have h1 : valD (l.take k) < pw k := by
    have h2 := valD_lt (l.take k)
    have h3 := pw_mono (show (l.take k).length ≤ k by rw [List.length_take]; omega)
    omega
  rw [h, Nat.add_mul_div_left _ _ (pw_pos k), Nat.div_eq_of_lt h1, Nat.zero_add]
theorem shr_num (l : List (BitVec 32)) (s k d t : Nat) (ht : s % 32 = t) (hd : digD l (s / 32 + k + 1) * 4294967296 + digD l (s / 32 + k) = d) :
    (valD l / 2 ^ s) % pw (k + 1) = (valD l / 2 ^ s) % pw k + pw k * (d / 2 ^ t % 4294967296) := by
  rw [pw_succ, Nat.mod_mul]
  congr 2
  have h1 : valD l / 2 ^ s / pw k = valD (l.drop (s / 32 + k)) / 2 ^ t := by
    rw [drop_div, Nat.div_div_eq_div_mul, Nat.div_div_eq_div_mul, pw_two, pw_two, ← Nat.pow_add, ← Nat.pow_add]
    congr 2
    omega
  rw [h1, drop_dig, drop_dig l (s / 32 + k + 1)]
  have h2 : 4294967296 = 2 ^ t * 2 ^ (32 - t) := by rw [← Nat.pow_add, show t + (32 - t) = 32 by omega]
  generalize valD (l.drop (s / 32 + k + 1 + 1)) = r
  have h3 : digD l (s / 32 + k) + 4294967296 * (digD l (s / 32 + k + 1) + 4294967296 * r) = d + 2 ^ t * (2 ^ (32 - t) * r * 4294967296) := by
    have h4 : 2 ^ t * (2 ^ (32 - t) * r * 4294967296) = (2 ^ t * 2 ^ (32 - t)) * (4294967296 * r) := by grind
    rw [h4, ← h2]
    omega
  rw [h3, Nat.add_mul_div_left _ _ (Nat.two_pow_pos t), Nat.add_mul_mod_self_right]
def ShrRel (w : World) (l : List (BitVec 32)) (s : Nat) (v i : Value) (wr : World) : Prop := ∃ (k : Nat) (out : List (BitVec 32)), s / 32 + k ≤ l.length ∧ i = .int .i64 ((s / 32 + k : Nat) : Int) ∧ Hid (out.length = k ∧ valD out = (valD l / 2 ^ s) % pw k) ∧ wr.ownsRow w.heap.size 46 1 v k (bv32 out) ∧ Below w.heap.size w wr
end Go.Proofs.YtdkbmpncohhioaaDoor

/- N6 -/
namespace Go.Proofs.YtdkbmpncohhioaaDoor
open Go.RowKit
set_option linter.unusedVariables false
set_option linter.unusedSimpArgs false
/-- The first two digits over the divisor's first are at least the quotient's digit. -/
theorem est_num (l k : List (BitVec 32)) (h0 : 0 < k.length) (hlt : valD l < 4294967296 * valD k) : valD l / valD k ≤ (digD l k.length * 4294967296 + digD l (k.length - 1)) / digD k (k.length - 1) ∨ digD k (k.length - 1) = 0 := by
  rcases Nat.eq_zero_or_pos (digD k (k.length - 1)) with hy | hy
  · exact .inr hy
  left
  have h1 : valD (l.drop (k.length + 1)) = 0 := by
    rw [drop_div]
    apply Nat.div_eq_of_lt
    have := valD_lt k
    rw [pw_succ]
    omega
  have h2 : digD l k.length * 4294967296 + digD l (k.length - 1) = valD l / pw (k.length - 1) := by
    rw [← drop_div, drop_dig, show k.length - 1 + 1 = k.length by omega, drop_dig, h1]
    omega
  have h3 : valD k = valD (k.take (k.length - 1)) + pw (k.length - 1) * digD k (k.length - 1) := by
    have := valD_dig k (k.length - 1)
    rwa [show k.length - 1 + 1 = k.length by omega, List.take_length] at this
  rw [h2]
  apply (Nat.le_div_iff_mul_le hy).2
  apply (Nat.le_div_iff_mul_le (pw_pos _)).2
  have h4 := Nat.div_mul_le_self (valD l) (valD k)
  have h5 : valD l / valD k * (pw (k.length - 1) * digD k (k.length - 1)) ≤ valD l / valD k * valD k := Nat.mul_le_mul_left _ (by omega)
  have h6 : valD l / valD k * digD k (k.length - 1) * pw (k.length - 1) = valD l / valD k * (pw (k.length - 1) * digD k (k.length - 1)) := by grind
  omega
theorem min_gen (z D M : Int) (h : (z ≤ M ∧ D = z) ∨ (M < z ∧ D = M)) : (if M < z then M else z) = D := by
  rcases h with ⟨h, e⟩ | ⟨h, e⟩
  · rw [if_neg (by omega), e]
  · rw [if_pos h, e]
def OftRel (w : World) (K Q : Nat) (d p : Value) (wr : World) : Prop := ∃ (t : Nat) (a : Option Addr) (c : Nat), Q ≤ t ∧ t ≤ 4294967295 ∧ d = .int .u64 t ∧ p = .slice a (canon (K * t)).length c ∧ Rw wr a (canon (K * t)) ∧ Below w.heap.size w wr
theorem canon_fit {K t m : Nat} (hK : K < pw m) (ht : t ≤ 4294967295) (hm : m ≤ 900000) : (canon (K * t)).length ≤ 1000000 := by
  have : (canon (K * t)).length ≤ m + 1 := by
    rw [canon_len_le, pw_succ]
    exact Nat.lt_of_le_of_lt (Nat.mul_le_mul_left _ ht) (by omega)
  omega
end Go.Proofs.YtdkbmpncohhioaaDoor

/- N7 -/
namespace Go.Proofs.YtdkbmpncohhioaaDoor
open Go.RowKit
set_option linter.unusedVariables false
set_option linter.unusedSimpArgs false
theorem own_below {w w' : World} {base : Nat} {e : TypeId} {size : Nat} {v : Value} {n : Nat} {xs : List Value} (h : w.ownsRow base e size v n xs) (hb : Below w.heap.size w w') : w'.ownsRow base e size v n xs := by
  refine ⟨h.1, ?_⟩
  rcases h.2 with h' | ⟨g, cap, cur, h1, h2, h3, h4⟩
  · exact .inl h'
  · refine .inr ⟨g, cap, cur, h1, h2, ?_, h4⟩
    have hlt : g < w.heap.size := by
      rcases Nat.lt_or_ge g w.heap.size with h | h
      · exact h
      · rw [Array.getElem?_eq_none h] at h3; cases h3
    rw [hb.block g hlt, h3]
theorem top_pos (n : Nat) (h : 0 < (canon n).length) : 0 < digD (canon n) ((canon n).length - 1) := by
  rcases Nat.eq_zero_or_pos (digD (canon n) ((canon n).length - 1)) with h1 | h1
  · exfalso
    rw [digD_in _ _ (by omega)] at h1
    have h2 := last_split (canon n) h
    rw [show (canon n)[(canon n).length - 1] = 0#32 from BitVec.eq_of_toNat_eq (by simpa using h1)] at h2
    have h3 := trim_snoc0 ((canon n).take ((canon n).length - 1))
    rw [← h2, trim_canon] at h3
    have h4 := trim_len_le ((canon n).take ((canon n).length - 1))
    rw [← h3, List.length_take] at h4
    omega
  · exact h1
theorem canon_len_pos {n : Nat} (h : 0 < n) : 0 < (canon n).length := by
  rcases Nat.eq_zero_or_pos (canon n).length with h1 | h1
  · have h2 := valD_canon n
    rw [List.length_eq_zero_iff.1 h1] at h2
    simp [valD_nil] at h2
    omega
  · exact h1
theorem shl_fit {A n s : Nat} (hA : A < pw n) (hs : s ≤ 31) (hn : n ≤ 800000) : (canon (A * 2 ^ s)).length ≤ 800001 := by
  have : (canon (A * 2 ^ s)).length ≤ n + 1 := by
    rw [canon_len_le, pw_succ]
    have h1 : 2 ^ s ≤ 4294967295 := Nat.le_trans (Nat.pow_le_pow_right (by decide) hs) (by decide)
    exact Nat.lt_of_le_of_lt (Nat.mul_le_mul_left _ h1) (by omega)
  omega
/-- One round's state of the long division. -/
def DmRel (w : World) (U V : List (BitVec 32)) (r i : Value) (wr : World) : Prop := ∃ (p ρ : Nat) (a : Option Addr) (c : Nat) (Q : List (BitVec 32)), p ≤ U.length ∧ ((p = 0 ∧ i = .int .i64 (-1)) ∨ ∃ q : Nat, p = q + 1 ∧ i = .int .i64 (q : Int)) ∧ Hid (ρ < valD V) ∧ r = .slice a (canon ρ).length c ∧ Rw wr a (canon ρ) ∧
  Hid (Q.length = U.length ∧ valD (U.drop p) = valD V * valD (Q.drop p) + ρ) ∧
  wr.ownsRow w.heap.size 46 1 (.slice (some ⟨w.heap.size, 0, none⟩) U.length U.length) U.length (bv32 Q) ∧ Below w.heap.size w wr
def NxRel (w : World) (u : BitVec 32) (R : List (BitVec 32)) (v k : Value) (wr : World) : Prop := ∃ j : Nat, j ≤ R.length ∧ k = .int .i64 j ∧ wr.ownsRow w.heap.size 46 1 v (j + 1) (bv32 (u :: R.take j)) ∧ Below w.heap.size w wr
theorem dm_num (K Qd ρ u dq r B : Nat) (h : u + B * ρ = K * dq + r) : u + B * (K * Qd + ρ) = K * (dq + B * Qd) + r := by grind
theorem dm_lt {u ρ K : Nat} (hu : u < 4294967296) (h : ρ < K) : u + 4294967296 * ρ < 4294967296 * K := by
  have := Nat.mul_le_mul_left 4294967296 (Nat.succ_le_of_lt h)
  omega
theorem ex_canon (n : Nat) : ∃ U, Hid (canon n = U) := ⟨_, rfl⟩
theorem fit_eq {A n s : Nat} {U : List (BitVec 32)} (h : Hid (canon (A * 2 ^ s) = U)) (hA : A < pw n) (hs : s ≤ 31) (hn : n ≤ 800000) : U.length ≤ 800001 := by
  rw [← h.out]; exact shl_fit hA hs hn
theorem by_num {T V L x : Nat} (e : T = V) (ht : ∀ x, IsBl V x → x ≤ 32 * L → 32 * (L - 1) < x) (h0 : 0 < L) (hx : IsBl T x) (h2 : x ≤ 32 * L) : ∃ s : Nat, s ≤ 31 ∧ 32 * (L : Int) - (x : Int) = (s : Int) := by
  subst e
  have := ht x hx h2
  exact ⟨32 * L - x, by omega, by omega⟩
end Go.Proofs.YtdkbmpncohhioaaDoor

/- Fr -/
namespace Go.Proofs.YtdkbmpncohhioaaDoor
open Go.RowKit
set_option linter.unusedVariables false
set_option linter.unusedSimpArgs false
/-- A row of digits that lies above all that was there. -/
def RwF (B : Nat) (w : World) (a : Option Addr) (l : List (BitVec 32)) : Prop := Rw w a l ∧ ∀ ad, a = some ad → l ≠ [] → B ≤ ad.block
theorem RwF.of_own {w : World} {base : Nat} {e : TypeId} {a : Option Addr} {n c : Nat} {l : List (BitVec 32)} (h : w.ownsRow base e 1 (.slice a n c) n (bv32 l)) : RwF base w a l := by
  refine ⟨Rw.of_own h, fun ad e hne => ?_⟩
  have hl := h.1
  rw [bv32_len] at hl
  obtain ⟨g, e2, hg⟩ := own_form h (by have := List.length_pos_iff.2 hne; omega)
  rw [e] at e2
  cases e2
  exact hg
theorem RwF.mono {B B' : Nat} {w : World} {a : Option Addr} {l : List (BitVec 32)} (h : RwF B w a l) (hb : B' ≤ B) : RwF B' w a l := ⟨h.1, fun ad e hne => Nat.le_trans hb (h.2 ad e hne)⟩
theorem RwF.below {B : Nat} {w w' : World} {a : Option Addr} {l : List (BitVec 32)} (h : RwF B w a l) (hb : Below w.heap.size w w') : RwF B w' a l := ⟨h.1.below hb, h.2⟩
theorem RwF.set {B b : Nat} {w : World} {a : Option Addr} {l : List (BitVec 32)} (h : RwF B w a l) (hb : b < B) (o : Nat) (v : Value) : RwF B (w.setCell ⟨b, o, none⟩ v) a l := by
  refine ⟨fun k hk => ?_, h.2⟩
  obtain ⟨ad, e, hc⟩ := h.1 k hk
  have := h.2 ad e (by rintro rfl; simp at hk)
  refine ⟨ad, e, ?_⟩
  rw [World.cell?_setCell_far _ _ _ _ (by rw [block_add]; show b ≠ _; omega)]
  exact hc
/-- A row of digits that the call has made, or a part of one, is returned; its capacity is known to reach. -/
def FrR (w : World) (l : List (BitVec 32)) (e : Ending) (w' : World) : Prop := ∃ a c, e = .returned (.slice a l.length c) ∧ l.length ≤ c ∧ RwF w.heap.size w' a l ∧ Below w.heap.size w w'
theorem FrR.of_own {w w' : World} {l : List (BitVec 32)} {e : Ending} (h : FrW w l e w') : FrR w l e w' := by
  obtain ⟨a, c, h1, h2, h3⟩ := h
  exact ⟨a, c, h1, own_cap h2, RwF.of_own h2, h3⟩
theorem FrR.up {w w1 w' : World} {l : List (BitVec 32)} {e : Ending} (h : FrR w1 l e w') (hb : Below w.heap.size w w1) : FrR w l e w' := by
  obtain ⟨a, c, h1, h2, h3, h4⟩ := h
  exact ⟨a, c, h1, h2, h3.mono hb.size, hb.trans (h4.mono hb.size)⟩
theorem RwF.take {B : Nat} {w : World} {a : Option Addr} {l : List (BitVec 32)} (h : RwF B w a l) (n : Nat) : RwF B w a (l.take n) := ⟨h.1.take n, fun ad e hne => h.2 ad e (by rintro rfl; simp at hne)⟩
end Go.Proofs.YtdkbmpncohhioaaDoor

