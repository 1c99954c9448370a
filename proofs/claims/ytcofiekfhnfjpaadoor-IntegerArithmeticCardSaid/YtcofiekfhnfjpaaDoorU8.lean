
import Derived.Test.YtcofiekfhnfjpaaDoorU7
import Derived.Lib.ItoaNum
import Derived.Lib.Join
import Derived.Lib.Repeat
import Derived.Test.YtcofiekfhnfjpaaDoorU6
import Derived.Sort.OwnSorted
import Derived.Laws.BytesArg
/- PH -/

namespace Go.Proofs.YtcofiekfhnfjpaaDoor
open Go.RowKit
set_option linter.unusedVariables false
set_option linter.unusedSimpArgs false
/-- The digits that a slice reads as. -/
def rowOf (w : World) (v : Value) : List (BitVec 32) := match v with
  | .slice a n _ => (List.range n).map fun i => match a.bind (fun ad => w.cell? (ad.add i)) with
    | some (.int _ z) => BitVec.ofNat 32 z.toNat
    | _ => 0#32
  | _ => []
theorem rowOf_eq {w : World} {a : Option Addr} {l : List (BitVec 32)} (h : Rw w a l) (c : Nat) : rowOf w (.slice a l.length c) = l := by
  apply List.ext_getElem
  · simp [rowOf]
  · intro i h1 h2
    obtain ⟨ad, rfl, hc⟩ := h i h2
    simp [rowOf, hc]
end Go.Proofs.YtcofiekfhnfjpaaDoor

/- PJ -/

namespace Go.Proofs.YtcofiekfhnfjpaaDoor
open Go.RowKit
set_option linter.unusedVariables false
set_option linter.unusedSimpArgs false
end Go.Proofs.YtcofiekfhnfjpaaDoor

/- PK -/

namespace Go.Proofs.YtcofiekfhnfjpaaDoor
open Go.RowKit
set_option linter.unusedVariables false
set_option linter.unusedSimpArgs false
end Go.Proofs.YtcofiekfhnfjpaaDoor

/- Dec -/
namespace Go.Proofs.YtcofiekfhnfjpaaDoor
open Go.RowKit
set_option linter.unusedVariables false
theorem snoc_ind {α : Type} {p : List α → Prop} (l : List α) (h0 : p []) (h1 : ∀ l c, p l → p (l ++ [c])) : p l := by
  rw [← List.reverse_reverse l]
  generalize l.reverse = m
  induction m with
  | nil => exact h0
  | cons c m ih => rw [List.reverse_cons]; exact h1 _ _ ih
/-- k decimal digits of r. -/
def kd : Nat → Nat → List UInt8
  | 0, _ => []
  | k + 1, r => kd k (r / 10) ++ [UInt8.ofNat (48 + r % 10)]
theorem dec_lt {n : Nat} (h : n < 10) : Lib.decDigits n = [UInt8.ofNat (48 + n)] := by rw [Lib.decDigits, dif_pos h]
theorem dec_ge {n : Nat} (h : ¬ n < 10) : Lib.decDigits n = Lib.decDigits (n / 10) ++ [UInt8.ofNat (48 + n % 10)] := by
  conv => lhs; rw [Lib.decDigits]
  rw [dif_neg h]
theorem dec_kd (k q r : Nat) (hq : 0 < q) (hr : r < 10 ^ k) : Lib.decDigits (q * 10 ^ k + r) = Lib.decDigits q ++ kd k r := by
  induction k generalizing r with
  | zero => simp at hr; subst hr; simp [kd]
  | succ k ih =>
    rw [Nat.pow_succ] at hr
    have hp : 1 ≤ 10 ^ k := Nat.one_le_pow _ _ (by decide)
    have h1 : q * 1 ≤ q * 10 ^ k := Nat.mul_le_mul_left _ hp
    have h2 : q * 10 ^ (k + 1) + r = (q * 10 ^ k) * 10 + r := by rw [Nat.pow_succ, Nat.mul_assoc]
    rw [h2, dec_ge (by omega), show ((q * 10 ^ k) * 10 + r) / 10 = q * 10 ^ k + r / 10 by omega, show ((q * 10 ^ k) * 10 + r) % 10 = r % 10 by omega, ih (r / 10) (by omega), List.append_assoc]
    rfl
theorem kd_zero (k : Nat) : kd k 0 = List.replicate k 48 := by
  induction k with
  | zero => rfl
  | succ k ih => rw [kd, Nat.zero_div, ih, List.replicate_succ']; rfl
theorem dec_len_pos (n : Nat) : 0 < (Lib.decDigits n).length := by
  rcases Nat.lt_or_ge n 10 with h | h
  · rw [dec_lt h]; simp
  · rw [dec_ge (by omega)]; simp
theorem dec_len_le (k n : Nat) (h : n < 10 ^ k) (hk : 0 < k) : (Lib.decDigits n).length ≤ k := by
  induction k generalizing n with
  | zero => omega
  | succ k ih =>
    rcases Nat.lt_or_ge n 10 with h1 | h1
    · rw [dec_lt h1]; simp
    · rw [dec_ge (by omega), List.length_append]
      have hk0 : 0 < k := by
        rcases Nat.eq_zero_or_pos k with h0 | h0
        · subst h0; simp at h; omega
        · exact h0
      have := ih (n / 10) (by rw [Nat.pow_succ] at h; omega) hk0
      simp
      omega
theorem kd_pad (k r : Nat) (h : r < 10 ^ k) (hk : 0 < k) : kd k r = List.replicate (k - (Lib.decDigits r).length) 48 ++ Lib.decDigits r := by
  induction k generalizing r with
  | zero => omega
  | succ k ih =>
    rcases Nat.lt_or_ge r 10 with h1 | h1
    · rw [dec_lt h1, kd, show r / 10 = 0 by omega, show r % 10 = r by omega, kd_zero]
      simp
    · have hk0 : 0 < k := by
        rcases Nat.eq_zero_or_pos k with h0 | h0
        · subst h0; simp at h; omega
        · exact h0
      rw [dec_ge (by omega), kd, ih (r / 10) (by rw [Nat.pow_succ] at h; omega) hk0, List.length_append, List.append_assoc]
      congr 2
      simp
theorem repeat48 (c : Nat) : Lib.repeatL [48] c = List.replicate c 48 := by
  induction c with
  | zero => rfl
  | succ c ih => rw [Lib.repeatL, ih]; rfl
theorem join_empty (xs : List (List UInt8)) : Lib.join xs [] = xs.flatten := by
  unfold Lib.join
  induction xs with
  | nil => rfl
  | cons x xs ih =>
    cases xs with
    | nil => simp [List.intercalate]
    | cons y ys =>
      rw [List.flatten_cons, ← ih]
      simp [List.intercalate]
/-- The value of decimal digits. -/
def dvF (v : Nat) : List UInt8 → Nat
  | [] => v
  | c :: l => dvF (v * 10 + (c.toNat - 48)) l
def dv (l : List UInt8) : Nat := dvF 0 l
theorem dvF_snoc (v : Nat) (l : List UInt8) (c : UInt8) : dvF v (l ++ [c]) = dvF v l * 10 + (c.toNat - 48) := by
  induction l generalizing v with
  | nil => rfl
  | cons x l ih => exact ih _
theorem dv_snoc (l : List UInt8) (c : UInt8) : dv (l ++ [c]) = dv l * 10 + (c.toNat - 48) := dvF_snoc 0 l c
theorem dvF_append (v : Nat) (l m : List UInt8) : dvF v (l ++ m) = dvF (dvF v l) m := by
  induction l generalizing v with
  | nil => rfl
  | cons x l ih => exact ih _
theorem dvF_eq (v : Nat) (l : List UInt8) : dvF v l = v * 10 ^ l.length + dv l := by
  refine snoc_ind (p := fun l => dvF v l = v * 10 ^ l.length + dv l) l ?_ ?_
  · show v = v * 10 ^ 0 + 0
    rw [Nat.pow_zero]; omega
  · intro l c ih
    rw [dvF_snoc, dv_snoc, ih, List.length_append, List.length_singleton, Nat.pow_succ, Nat.add_mul, Nat.mul_assoc, Nat.add_assoc]
theorem dv_append (l m : List UInt8) : dv (l ++ m) = dv l * 10 ^ m.length + dv m := by
  unfold dv
  rw [dvF_append, dvF_eq]
  rfl
/-- All bytes are decimal digits. -/
def digs (l : List UInt8) : Bool := l.all fun c => decide (48 ≤ c.toNat) && decide (c.toNat ≤ 57)
theorem digs_append (l m : List UInt8) : digs (l ++ m) = (digs l && digs m) := List.all_append
theorem digs_mem {l : List UInt8} (h : digs l = true) (c : UInt8) (hc : c ∈ l) : 48 ≤ c.toNat ∧ c.toNat ≤ 57 := by
  have := List.all_eq_true.1 h c hc
  simpa using this
theorem dv_lt {l : List UInt8} (h : digs l = true) : dv l < 10 ^ l.length := by
  induction l using snoc_ind with
  | h0 => exact Nat.one_pos
  | h1 l c ih =>
    have h1 : digs l = true := by rw [digs_append, Bool.and_eq_true] at h; exact h.1
    have h2 := digs_mem h c (by simp)
    have h3 := ih h1
    rw [dv_snoc, List.length_append, List.length_singleton, Nat.pow_succ]
    omega
/-- A decimal text without leading zeros. -/
def isDec (l : List UInt8) : Bool := decide (l ≠ []) && !(decide (1 < l.length) && decide (l.head? = some 48)) && digs l
end Go.Proofs.YtcofiekfhnfjpaaDoor

/- PL -/
namespace Go.Proofs.YtcofiekfhnfjpaaDoor
open Go.RowKit
set_option linter.unusedVariables false
set_option linter.unusedSimpArgs false
/-- A text as a value. -/
def sv (l : List UInt8) : Value := .string ⟨l.toArray⟩
theorem str_one (b : ByteArray) : ∀ u ∈ [Value.string b], u.oneCell' = true := by
  intro u hu
  simp at hu
  subst hu
  rfl
theorem itoa_nat (r : Nat) : Lib.itoa (r : Int) = Lib.decDigits r := by
  unfold Lib.itoa
  rw [if_neg (by omega), Int.toNat_natCast]
theorem cat_arr (l m : List UInt8) : (⟨l.toArray⟩ : ByteArray) ++ ⟨m.toArray⟩ = ⟨(l ++ m).toArray⟩ := by
  apply ByteArray.ext
  simp [ByteArray.data_append]
theorem flat_len (zs : List (List UInt8)) (h : ∀ z ∈ zs, 0 < z.length) : zs.length ≤ zs.flatten.length := by
  induction zs with
  | nil => simp
  | cons z zs ih =>
    have h1 := h z (by simp)
    have h2 := ih fun y hy => h y (by simp [hy])
    simp at h2 ⊢
    omega
theorem flat_snoc (zs : List (List UInt8)) (z : List UInt8) : ((zs ++ [z]).reverse).flatten = z ++ zs.reverse.flatten := by simp
/-- The pieces written so far stand behind what is still to be written. -/
def FgR (w : World) (n0 N : Nat) (r ch : Value) (wr : World) : Prop := ∃ (g c : Nat) (Q : List (BitVec 32)) (zs : List (List UInt8)) (chv : Value), r = .slice (some ⟨g, 0, none⟩) Q.length c ∧ chv = ch ∧ Q.length ≤ N ∧
  Hid (trimD Q = Q ∧ Lib.decDigits n0 = (if valD Q = 0 then [] else Lib.decDigits (valD Q)) ++ zs.reverse.flatten ∧ ∀ z ∈ zs, 0 < z.length) ∧ zs.length ≤ 1000000 ∧
  wr.ownsRow w.heap.size 32 1 (.slice (some ⟨g, 0, none⟩) Q.length c) Q.length (bv32 Q) ∧ wr.ownsRow w.heap.size 9 1 chv zs.length (zs.map sv) ∧ chv.ownBlock ≠ some g ∧ Below w.heap.size w wr
theorem big_dec (N n : Nat) (h : n < pw N) (hN : 0 < N) : (Lib.decDigits n).length ≤ 10 * N := by
  apply dec_len_le _ _ _ (by omega)
  refine Nat.lt_of_lt_of_le h ?_
  unfold pw
  rw [Nat.pow_mul]
  exact Nat.pow_le_pow_left (by decide) _
theorem rev_str (B h c2 : Nat) (zs : List (List UInt8)) (w : World) (hown : w.ownsRow B 9 1 (.slice (some ⟨h, 0, none⟩) zs.length c2) zs.length (zs.map sv)) :
    Calls Tryd.prog 63 #[.slice (some ⟨h, 0, none⟩) zs.length c2] w fun e w' => e = .returned (.tuple #[]) ∧ w'.ownsRow B 9 1 (.slice (some ⟨h, 0, none⟩) zs.length c2) zs.length (zs.reverse.map sv) ∧ w.grownBy w' (some h) := by
  have h0 := hown.1
  rcases hown.2 with ⟨h1, h2⟩ | ⟨g', cap, cur, h1, h2, h3, h4, h5, h6, h7⟩
  · injection h1 with h1; cases h1
  · injection h1 with e1 e2 e3
    injection e1 with e1
    injection e1 with e1
    subst e1 e3
    rw [Nat.mul_one] at h7
    have hH := holds_of_block h3 h7
    refine (Tryd.slices_Reverse_string h 0 c2 zs w hH (by unfold maxLen at h5; omega)).mono ?_
    rintro e w' ⟨rfl, n, rfl⟩
    refine ⟨rfl, ?_, ?_⟩
    · have := ownsRow_sorted (n := n) (os := #[]) (ts := zs.reverse) (by simp) h2 h3 h4 h5 h6
      exact this
    · exact grownBy_sorted (os := #[]) zs.reverse.toArray
theorem join_str (B h c2 : Nat) (zs : List (List UInt8)) (w : World) (hl : zs.flatten.length ≤ 140737488355328) (hn : zs.length ≤ 1000000) (hz : 0 < zs.length) (hown : w.ownsRow B 9 1 (.slice (some ⟨h, 0, none⟩) zs.length c2) zs.length (zs.map sv)) :
    Calls Tryd.prog 64 #[.slice (some ⟨h, 0, none⟩) zs.length c2, .string ⟨#[]⟩] w fun e w' => e = .returned (sv zs.flatten) ∧ Below w.heap.size w w' := by
  have hm : (zs.map fun z => (⟨z.toArray⟩ : ByteArray)).map (·.data.toList) = zs := by
    rw [List.map_map]
    conv => rhs; rw [← List.map_id zs]
    exact List.map_congr_left fun z _ => rfl
  have hJ := Tryd.strings_Join h 0 c2 (zs.map fun z => ⟨z.toArray⟩) ⟨#[]⟩ w ?_ (own_ge hown).2 (by rw [List.length_map]; omega) (by rw [List.length_map]; exact own_cap hown) ?_
  · rw [hm, List.length_map] at hJ
    refine hJ.mono ?_
    rintro e w' ⟨rfl, hb⟩
    refine ⟨?_, hb⟩
    show Ending.returned (.string ⟨(Lib.join zs []).toArray⟩) = _
    rw [join_empty]
    rfl
  · intro j x hx
    rw [List.getElem?_map, Option.map_eq_some_iff] at hx
    obtain ⟨z, hz2, rfl⟩ := hx
    have hj : (zs.map sv)[j]? = some (sv z) := by rw [List.getElem?_map, hz2]; rfl
    rw [Nat.zero_add]
    exact own_cell hown j _ hj
  · rw [hm]
    show (Lib.join zs []).length ≤ _
    rw [join_empty]
    exact hl
set_option maxRecDepth 50000 in
set_option maxHeartbeats 2000000 in
theorem nformat_any (a : Option Addr) (n c : Nat) (l : List (BitVec 32)) (w : World) (hn : l.length = n) (hnc : n ≤ c) (hl : n ≤ 90000) (hr : Rw w a l) (hT : Tb w) :
    Calls Tryd.prog 45 #[.slice a n c] w fun e w' => e = .returned (sv (Lib.decDigits (valD l))) ∧ Below w.heap.size w w' := by
  subst hn
  have f1 := trim_len_le l
  obtain ⟨V, hV⟩ : ∃ V, valD l = V := ⟨_, rfl⟩
  have hVl : V < pw l.length := by rw [← hV]; exact valD_lt l
  rw [hV]
  by_cases h0 : V = 0
  · have ht : trimD l = [] := by rw [← canon_val, hV, h0, canon_zero]
    subst h0
    clear hV hVl
    go_enter Tryd.func45, Tryd.ntmps45
    go_wp2_with (go_at_call 49; (with_reducible refine (nnorm_any a _ c l _ rfl hnc (by omega) hr).mono ?_); rintro e w1 ⟨a1, c1, rfl, hown1, hb1⟩; rw [ht])
    go_ret
    exact ⟨by rw [dec_lt (by omega)]; rfl, hb1⟩
  have htl : 0 < (trimD l).length := by
    rw [← canon_val, hV]
    exact canon_len_pos (by omega)
  have hz : (((trimD l).length : Int) == 0) = false := by rw [beq_eq_false_iff_ne]; omega
  have hdl := big_dec l.length V hVl (by omega)
  have HV : Hid (trimD (trimD l) = trimD l ∧ valD (trimD l) = V) := ⟨by rw [← canon_val l, trim_canon], by rw [valD_trim, hV]⟩
  have HDL : Hid ((Lib.decDigits V).length ≤ 900000) := Nat.le_trans hdl (by omega)
  have HV0 := Lib.hid h0
  obtain ⟨i0, hi, hz0, hz1, hz2⟩ := info_parts infoStr
  clear hV hVl hdl h0
  go_enter Tryd.func45, Tryd.ntmps45
  go_wp2_with (go_at_call 49; (with_reducible refine (nnorm_any a _ c l _ rfl hnc (by omega) hr).mono ?_); rintro e w1 ⟨a1, c1, rfl, hown1, hb1⟩)
  obtain ⟨g, rfl, hg⟩ := own_form hown1 htl
  go_loopw [3, 4, 5] (fun r ch _ wr => FgR w V l.length r ch wr) (fun r _ _ wr => valD (rowOf wr r))
  case atStart => exact ⟨g, c1, trimD l, [], _, rfl, rfl, f1, ⟨HV.out.1, by rw [HV.out.2, if_neg HV0.out]; simp, fun z h => by cases h⟩, by simp, hown1, World.ownsRow_nil _ _ _ _, by simp [Value.ownBlock], hb1⟩
  case round =>
    clear hown1 hb1 hg
    obtain ⟨g1, c, Q, zs, chv, rfl, rfl, hQN, hq, hzl, hown, hch, hgh, hb⟩ := hrel
    have hrow : valD (rowOf wr (.slice (some ⟨g1, 0, none⟩) Q.length c)) = valD Q := by rw [rowOf_eq (Rw.of_own hown)]
    by_cases hQ0 : Q.length = 0
    · have hQ : Q = [] := List.length_eq_zero_iff.1 hQ0
      subst hQ
      obtain ⟨_, q2, q3⟩ := hq.out
      rw [valD_nil, if_pos rfl, List.nil_append] at q2
      have hzp : 0 < zs.length := by
        rcases Nat.eq_zero_or_pos zs.length with h | h
        · exfalso
          rw [List.length_eq_zero_iff.1 h] at q2
          have := dec_len_pos V
          rw [q2] at this
          simp at this
        · exact h
      obtain ⟨ha, hc, rfl⟩ := own_slice hch
      obtain ⟨h, rfl, hh⟩ := own_form hch hzp
      have hfl : zs.reverse.flatten.length ≤ 140737488355328 := by rw [← q2]; exact Nat.le_trans HDL.out (by omega)
      have HJ := fun W (ho : W.ownsRow w.heap.size 9 1 (.slice (some ⟨h, 0, none⟩) zs.length hc) zs.length (zs.reverse.map sv)) => join_str w.heap.size h hc zs.reverse W hfl (by rw [List.length_reverse]; exact hzl) (by rw [List.length_reverse]; exact hzp) (by rw [List.length_reverse]; exact ho)
      simp only [List.length_reverse, ← q2] at HJ
      have HJ' := Lib.hid HJ
      clear HJ q2 q3 hrow hfl
      go_wp2_with (first
        | (go_at_call 63; go_loud ((with_reducible refine (rev_str w.heap.size h hc zs _ hch).mono ?_); rintro e w2 ⟨rfl, hown2, hg2⟩; have hb2 : Below w.heap.size w w2 := hb.grown hg2 hb.size (fun q hq => by cases hq; exact (own_ge hch).1)))
        | (go_at_call 64; go_loud ((with_reducible refine (HJ'.out _ hown2).mono ?_); rintro e w3 ⟨rfl, hb3⟩)))
      go_ret
      exact ⟨rfl, hb2.trans (hb3.mono hb2.size)⟩
    · have hvp : 0 < valD Q := by
        have h := valD_len Q hq.out.1 (by omega)
        have := pw_pos (Q.length - 1)
        omega
      obtain ⟨v, hv⟩ : ∃ v, valD Q = v := ⟨_, rfl⟩
      obtain ⟨q, hqv⟩ : ∃ q, v / 1000000000 = q := ⟨_, rfl⟩
      obtain ⟨r, hrv⟩ : ∃ r, v % 1000000000 = r := ⟨_, rfl⟩
      have hrb : r < 1000000000 := by omega
      have HDB := dbd9 w.heap.size g1 Q.length c Q wr rfl (by omega) hown
      simp only [hv, hqv, hrv] at HDB
      obtain ⟨TB, hTB⟩ : ∃ TB : ByteArray, (⟨(Lib.decDigits r).toArray⟩ : ByteArray) = TB := ⟨_, rfl⟩
      obtain ⟨tl, htl2⟩ : ∃ tl, TB.size = tl := ⟨_, rfl⟩
      have htl3 : (Lib.decDigits r).length = tl := by rw [← htl2, ← hTB]; simp [ByteArray.size]
      have htl4 : tl ≤ 9 := by rw [← htl3]; exact dec_len_le 9 r hrb (by omega)
      obtain ⟨rc, hrc⟩ : ∃ rc, rc = 9 - tl := ⟨_, rfl⟩
      have hrci : (9 : Int) - (tl : Int) = (rc : Int) := by omega
      obtain ⟨RB, hRB⟩ : ∃ RB : ByteArray, (⟨(List.replicate rc (48 : UInt8)).toArray⟩ : ByteArray) = RB := ⟨_, rfl⟩
      obtain ⟨KB, hKB⟩ : ∃ KB : ByteArray, (⟨(kd 9 r).toArray⟩ : ByteArray) = KB := ⟨_, rfl⟩
      have hrs : RB.size = rc := by rw [← hRB]; simp [ByteArray.size]
      have hrl : ¬ 9223372036854775807 < rc + tl := by omega
      have hcat : RB ++ TB = KB := by
        rw [← hRB, ← hTB, cat_arr, ← hKB, kd_pad 9 r hrb (by omega), htl3, hrc]
      have HIT : ∀ W, Below w.heap.size w W → Calls Tryd.prog 61 #[.int .i64 r] W fun e w' => e = .returned (.string TB) ∧ Below W.heap.size W w' := by
        intro W hW
        have h := Tryd.strconv_Itoa (r : Int) (by omega) (by omega) W (hT.below hW)
        rw [itoa_nat, hTB] at h
        exact h.mono fun _ _ h => ⟨h.1, grow_below h.2⟩
      have HRP : ∀ W, Calls Tryd.prog 62 #[.string ⟨#[48]⟩, .int .i64 rc] W fun e w' => e = .returned (.string RB) ∧ Below W.heap.size W w' := by
        intro W
        have h := Tryd.strings_Repeat ⟨#[48]⟩ rc W (by omega) (by show 1 * rc ≤ _; omega)
        rw [show (⟨#[48]⟩ : ByteArray).data.toList = [48] from rfl, repeat48, hRB] at h
        exact h
      have hsz : zs.length ≤ 900000 := by
        have h1 := flat_len zs.reverse (fun z hz => hq.out.2.2 z (by simpa using hz))
        have h2 := HDL.out
        rw [hq.out.2.1, List.length_append] at h2
        rw [List.length_reverse] at h1
        omega
      have HV1 := Lib.hid (show valD Q = v ∧ v / 1000000000 = q ∧ v % 1000000000 = r from ⟨hv, hqv, hrv⟩)
      have HS1 := Lib.hid (show Value.string TB = sv (Lib.decDigits r) from by rw [← hTB]; rfl)
      have HS2 := Lib.hid (show Value.string KB = sv (kd 9 r) from by rw [← hKB]; rfl)
      have HDB' := Lib.hid HDB
      have HROW := Lib.hid hrow
      have HVP := Lib.hid hvp
      have hq1 : decide (0 < (Q.length : Int)) = true := by rw [decide_eq_true_iff]; omega
      clear HDB hv hqv hrv hTB htl3 hRB hKB hrc hrow hvp
      by_cases hq0 : q = 0
      · go_wp2_with (first
          | (go_at_call 56; go_loud ((with_reducible refine HDB'.out.mono ?_); rintro e w2 ⟨rfl, Q2, hQl, hQv, hown2, hg2⟩; have hb2 : Below w.heap.size w w2 := hb.grown hg2 hb.size (fun q hq => by cases hq; exact (own_ge hown).1); have hch2 := hch.kept hg2 (.inr hgh)))
          | (go_at_call 61; go_loud ((with_reducible refine (HIT w2 hb2).mono ?_); rintro e w3 ⟨rfl, hb23⟩; have hown3 := own_below hown2 hb23; have hch3 := own_below hch2 hb23; have hb3 := hb2.trans (hb23.mono hb2.size)))
          | (go_at_call 47; go_loud ((with_reducible refine (trim_any _ _ c Q2 _ hQl (own_cap hown3) (by omega) (Rw.of_own hown3)).mono ?_); rintro e w4 ⟨rfl, rfl⟩; have hQ4 : trimD Q2 = [] := (by rw [← canon_val, hQv, hq0, canon_zero]); rw [hQ4]))
          | (at_builtin; go_loud (refine wpList_append_rd _ rfl _ _ _ rfl w.heap.size 9 i0 (.string ⟨#[]⟩) 16 Tryd.underlying74 hi hz0 hz1 hz2 rfl chv zs.length (zs.map sv) rfl (hch3.alloc _) _ 1 1 [.string TB] rfl rfl (fun j u hu => ⟨_, rfl, cell_one_new _ _ _ j u hu⟩) (str_one _) (by unfold maxLen; omega) (by omega) (hb3.alloc hb3.size _).size ?_; intro v' w6 hown6 hg6 hv6)))
        have hwa := hb3.alloc hb3.size (.cells #[.string TB] 9)
        have hb6 : Below w.heap.size w w6 := hwa.grown hg6 hwa.size (fun k hk => (hch3.lt k hk).1)
        have hown7 := (hown3.alloc (.cells #[.string TB] 9)).kept hg6 (.inr (fun e => hgh e.symm))
        have hgl := (own_ge hown3).2
        have hne : v'.ownBlock ≠ some g1 := by
          rcases hv6 with h1 | h1
          · rw [h1]; exact hgh
          · rw [h1]
            intro e
            have e2 := Option.some.inj e
            simp at e2
            omega
        rw [HS1.out, show zs.map sv ++ [sv (Lib.decDigits r)] = (zs ++ [Lib.decDigits r]).map sv by simp] at hown6
        have hown8 := own_take hown7 (show 0 ≤ Q.length by omega)
        go_roundw
        case rel =>
          refine ⟨g1, c, [], zs ++ [Lib.decDigits r], v', rfl, rfl, by simp, ⟨rfl, ?_, ?_⟩, by simp; omega, by simpa [bv32] using hown8, by rw [List.length_append]; exact hown6, hne, hb6⟩
          · obtain ⟨k1, k2, k3⟩ := HV1.out
            rw [flat_snoc, hq.out.2.1, k1, if_neg (by have := HVP.out; omega), valD_nil, if_pos rfl, List.nil_append, show v = r by omega]
          · intro z hz
            rcases List.mem_append.1 hz with h | h
            · exact hq.out.2.2 z h
            · rw [List.mem_singleton.1 h]; exact dec_len_pos r
        case measure =>
          rw [HROW.out]
          exact HVP.out
      · go_wp2_with (first
          | (go_at_call 56; go_loud ((with_reducible refine HDB'.out.mono ?_); rintro e w2 ⟨rfl, Q2, hQl, hQv, hown2, hg2⟩; have hb2 : Below w.heap.size w w2 := hb.grown hg2 hb.size (fun q hq => by cases hq; exact (own_ge hown).1); have hch2 := hch.kept hg2 (.inr hgh)))
          | (go_at_call 61; go_loud ((with_reducible refine (HIT w2 hb2).mono ?_); rintro e w3 ⟨rfl, hb23⟩; have hown3 := own_below hown2 hb23; have hch3 := own_below hch2 hb23; have hb3 := hb2.trans (hb23.mono hb2.size)))
          | (go_at_call 47; go_loud ((with_reducible refine (trim_any _ _ c Q2 _ hQl (own_cap hown3) (by omega) (Rw.of_own hown3)).mono ?_); rintro e w4 ⟨rfl, rfl⟩; have hQ4 : valD (trimD Q2) = q := (by rw [valD_trim, hQv]); have hQ5 : trimD (trimD Q2) = trimD Q2 := (by rw [← canon_val Q2, trim_canon]); have hQ6 : 0 < (trimD Q2).length := (by rw [← canon_val, hQv]; exact canon_len_pos (by omega)); have hQ7 := trim_len_le Q2; have hQ8 := Lib.hid (trim_prefix Q2); generalize trimD Q2 = Q4 at *; have hq2 : decide (0 < (Q4.length : Int)) = true := (by rw [decide_eq_true_iff]; omega)))
          | (go_at_call 62; go_loud ((with_reducible refine (HRP _).mono ?_); rintro e w5 ⟨rfl, hb35⟩; have hown5 := own_below hown3 hb35; have hch5 := own_below hch3 hb35; have hb5 := hb3.trans (hb35.mono hb3.size)))
          | (at_builtin; go_loud (refine wpList_append_rd _ rfl _ _ _ rfl w.heap.size 9 i0 (.string ⟨#[]⟩) 16 Tryd.underlying74 hi hz0 hz1 hz2 rfl chv zs.length (zs.map sv) rfl (hch5.alloc _) _ 1 1 [.string KB] rfl rfl (fun j u hu => ⟨_, rfl, cell_one_new _ _ _ j u hu⟩) (str_one _) (by unfold maxLen; omega) (by omega) (hb5.alloc hb5.size _).size ?_; intro v' w6 hown6 hg6 hv6)))
        have hwa := hb5.alloc hb5.size (.cells #[.string KB] 9)
        have hb6 : Below w.heap.size w w6 := hwa.grown hg6 hwa.size (fun k hk => (hch5.lt k hk).1)
        have hown7 := (hown5.alloc (.cells #[.string KB] 9)).kept hg6 (.inr (fun e => hgh e.symm))
        have hgl := (own_ge hown5).2
        have hne : v'.ownBlock ≠ some g1 := by
          rcases hv6 with h1 | h1
          · rw [h1]; exact hgh
          · rw [h1]
            intro e
            have e2 := Option.some.inj e
            simp at e2
            omega
        rw [HS2.out, show zs.map sv ++ [sv (kd 9 r)] = (zs ++ [kd 9 r]).map sv by simp] at hown6
        have hown8 := own_take hown7 (show Q4.length ≤ Q.length by omega)
        rw [bv32_take, ← hQ8.out] at hown8
        go_roundw
        case rel =>
          refine ⟨g1, c, Q4, zs ++ [kd 9 r], v', rfl, rfl, by omega, ⟨hQ5, ?_, ?_⟩, by simp; omega, hown8, by rw [List.length_append]; exact hown6, hne, hb6⟩
          · obtain ⟨k1, k2, k3⟩ := HV1.out
            rw [flat_snoc, hq.out.2.1, k1, if_neg (by have := HVP.out; omega), hQ4, if_neg hq0, show v = q * 10 ^ 9 + r by omega, dec_kd 9 q r (by omega) hrb, List.append_assoc]
          · intro z hz
            rcases List.mem_append.1 hz with h | h
            · exact hq.out.2.2 z h
            · rw [List.mem_singleton.1 h, kd_pad 9 r hrb (by omega), List.length_append]
              have := dec_len_pos r
              omega
        case measure =>
          rw [HROW.out, rowOf_eq (Rw.of_own hown8), hQ4]
          obtain ⟨k1, k2, k3⟩ := HV1.out
          have := HVP.out
          omega
end Go.Proofs.YtcofiekfhnfjpaaDoor

/- PM -/
namespace Go.Proofs.YtcofiekfhnfjpaaDoor
open Go.RowKit
set_option linter.unusedVariables false
set_option linter.unusedSimpArgs false
end Go.Proofs.YtcofiekfhnfjpaaDoor

/- PN -/
namespace Go.Proofs.YtcofiekfhnfjpaaDoor
open Go.RowKit
set_option linter.unusedVariables false
set_option linter.unusedSimpArgs false
end Go.Proofs.YtcofiekfhnfjpaaDoor

/- PO -/
namespace Go.Proofs.YtcofiekfhnfjpaaDoor
open Go.RowKit
set_option linter.unusedVariables false
set_option linter.unusedSimpArgs false
theorem str_nil {S : ByteArray} (h : S.data.toList = []) : S = ⟨#[]⟩ := by
  apply ByteArray.ext
  rw [← Array.toArray_toList (xs := S.data), h]
theorem str_get {S : ByteArray} {l : List UInt8} (h : S.data.toList = l) (i : Nat) (hi : i < S.size) (hi2 : i < l.length) : S[i] = l[i] := by
  subst h
  rfl
theorem str_size {S : ByteArray} {l : List UInt8} (h : S.data.toList = l) : S.size = l.length := by
  subst h
  rfl
theorem digs_take {l : List UInt8} {p : Nat} (h : p < l.length) (h1 : digs (l.take p) = true) (h2 : 48 ≤ l[p].toNat) (h3 : l[p].toNat ≤ 57) : digs (l.take (p + 1)) = true := by
  rw [List.take_succ_eq_append_getElem h, digs_append, h1]
  simp [digs, h2, h3]
theorem digs_bad {l : List UInt8} {p : Nat} (h : p < l.length) (h2 : l[p].toNat < 48 ∨ 57 < l[p].toNat) : isDec l = false := by
  rw [Bool.eq_false_iff]
  intro e
  unfold isDec at e
  rw [Bool.and_eq_true] at e
  have := digs_mem e.2 l[p] (List.getElem_mem h)
  omega
theorem isDec_lead {l : List UInt8} (h1 : 1 < l.length) (h : l[0].toNat = 48) : isDec l = false := by
  rw [Bool.eq_false_iff]
  intro e
  rcases l with _ | ⟨c, l⟩
  · simp at h1
  · have hc : c = 48 := UInt8.toNat_inj.1 h
    subst hc
    have h2 : l ≠ [] := by intro h3; subst h3; simp at h1
    simp [isDec, h2] at e
theorem isDec_ok {l : List UInt8} (h0 : 0 < l.length) (h : l.length ≤ 1 ∨ l[0].toNat ≠ 48) (hd : digs l = true) : isDec l = true := by
  rcases l with _ | ⟨c, l⟩
  · simp at h0
  · have hne : ¬ (1 < (c :: l).length ∧ (c :: l).head? = some 48) := by
      rintro ⟨h1, h2⟩
      rcases h with h | h
      · omega
      · apply h
        simp at h2
        rw [h2]
        rfl
    unfold isDec
    rw [hd, Bool.and_true]
    have e1 : (decide (1 < (c :: l).length) && decide ((c :: l).head? = some 48)) = false := by
      rw [Bool.and_eq_false_iff, decide_eq_false_iff_not, decide_eq_false_iff_not]
      rcases Nat.lt_or_ge 1 (c :: l).length with h1 | h1
      · exact .inr fun h2 => hne ⟨h1, h2⟩
      · exact .inl (by omega)
    rw [e1]
    simp
set_option maxRecDepth 50000 in
set_option maxHeartbeats 1000000 in
theorem isdec_any (S : ByteArray) (l : List UInt8) (w : World) (hS : S.data.toList = l) (hl : l.length ≤ 1000000) :
    Calls Tryd.prog 60 #[.string S] w fun e w' => e = .returned (.bool (isDec l)) ∧ w = w' := by
  have hsz := str_size hS
  rcases Nat.eq_zero_or_pos l.length with h0 | h0
  · have hl0 := List.length_eq_zero_iff.1 h0
    subst hl0
    have := str_nil hS
    subst this
    clear hS hsz h0
    go_enter Tryd.func60, Tryd.ntmps60
    go_wp2
    go_ret
    exact ⟨rfl, rfl⟩
  have hne2 : ¬ S.toList = [] := by
    rw [ByteArray.toList_eq, hS]
    intro e
    rw [e] at h0
    simp at h0
  have hne : S.toList.isEmpty = false := by
    cases hq : S.toList with
    | nil => exact absurd hq hne2
    | cons _ _ => rfl
  have g0 := str_get hS 0 (by omega) h0
  obtain ⟨x0, hx0⟩ : ∃ x, l[0].toNat = x := ⟨_, rfl⟩
  have hg0 : (S[0]'(by omega)).toNat = x0 := by rw [g0, hx0]
  have HX0 := Lib.hid hx0
  have HS := Lib.hid hS
  obtain ⟨n, hn⟩ : ∃ n, l.length = n := ⟨_, rfl⟩
  rw [hn] at hsz hl h0
  have HN := Lib.hid hn
  by_cases hb : 1 < n ∧ x0 = 48
  · obtain ⟨b1, b2⟩ := hb
    have hres : Hid (isDec l = false) := isDec_lead (by rw [hn]; exact b1) (by rw [hx0]; exact b2)
    have b3 : decide ((1 : Int) < (n : Int)) = true := by rw [decide_eq_true_iff]; omega
    have b4 : ((x0 : Int) == 48) = true := by rw [b2]; rfl
    rw [hres.out]
    clear hn hx0 g0
    go_enter Tryd.func60, Tryd.ntmps60
    go_wp2
    go_ret
    exact ⟨rfl, rfl⟩
  have hlead : Hid (l.length ≤ 1 ∨ x0 ≠ 48) := by show _ ∨ _; rw [hn]; omega
  have rest : ∀ (K : Prop), K → K := fun _ h => h
  have main : (n ≤ 1 ∨ 1 < n ∧ x0 ≠ 48) := by omega
  clear hn hx0 g0 rest
  have LOOP : True := trivial
  rcases main with hm | ⟨hm, hx48⟩
  · have b3 : decide ((1 : Int) < (n : Int)) = false := by rw [decide_eq_false_iff_not]; omega
    go_enter Tryd.func60, Tryd.ntmps60
    go_wp2
    go_loopw [3, 18] (fun _ i wr => w = wr ∧ ∃ p : Nat, p ≤ n ∧ i = .int .i64 p ∧ Hid (digs (l.take p) = true)) (fun _ i _ => n - (intOf i).toNat)
    case atStart => exact ⟨rfl, 0, Nat.zero_le _, rfl, rfl⟩
    case round =>
      obtain ⟨rfl, p, hp, rfl, hd⟩ := hrel
      by_cases hlt : p < n
      · have hpl : p < l.length := by have := HN.out; omega
        have gp := str_get HS.out p (by omega) hpl
        obtain ⟨x, hx⟩ : ∃ x, l[p].toNat = x := ⟨_, rfl⟩
        have hps : p < S.size := by omega
        have hgp : (S[p]'hps).toNat = x := by rw [gp, hx]
        have hxb : x < 256 := by rw [← hx]; exact l[p].toNat_lt
        have HX := Lib.hid hx
        clear gp hx
        by_cases h1 : x < 48
        · have h1d : decide ((x : Int) < 48) = true := by rw [decide_eq_true_iff]; omega
          have hres : Hid (isDec l = false) := digs_bad hpl (by rw [HX.out]; exact .inl h1)
          go_wp2
          go_ret
          exact ⟨by rw [hres.out]; rfl, rfl⟩
        have h1d : decide ((x : Int) < 48) = false := by rw [decide_eq_false_iff_not]; omega
        by_cases h2 : 57 < x
        · have h2d : decide ((57 : Int) < (x : Int)) = true := by rw [decide_eq_true_iff]; omega
          have hres : Hid (isDec l = false) := digs_bad hpl (by rw [HX.out]; exact .inr h2)
          go_wp2
          go_ret
          exact ⟨by rw [hres.out]; rfl, rfl⟩
        have h2d : decide ((57 : Int) < (x : Int)) = false := by rw [decide_eq_false_iff_not]; omega
        go_wp2
        go_roundw
        case rel => exact ⟨trivial, p + 1, by omega, by go_num, digs_take hpl hd.out (by rw [HX.out]; omega) (by rw [HX.out]; omega)⟩
        case measure => simp [intOf] <;> omega
      · obtain rfl : p = n := by omega
        have hres : Hid (isDec l = true) := isDec_ok (by rw [HN.out]; exact h0) (by rw [HX0.out]; exact hlead.out) (by have := hd.out; rwa [← HN.out, List.take_length] at this)
        go_wp2
        go_ret
        exact ⟨by rw [hres.out]; rfl, rfl⟩
  · have b3 : decide ((1 : Int) < (n : Int)) = true := by rw [decide_eq_true_iff]; omega
    have b4 : ((x0 : Int) == 48) = false := by rw [beq_eq_false_iff_ne]; omega
    go_enter Tryd.func60, Tryd.ntmps60
    go_wp2
    go_loopw [3, 18] (fun _ i wr => w = wr ∧ ∃ p : Nat, p ≤ n ∧ i = .int .i64 p ∧ Hid (digs (l.take p) = true)) (fun _ i _ => n - (intOf i).toNat)
    case atStart => exact ⟨rfl, 0, Nat.zero_le _, rfl, rfl⟩
    case round =>
      obtain ⟨rfl, p, hp, rfl, hd⟩ := hrel
      by_cases hlt : p < n
      · have hpl : p < l.length := by have := HN.out; omega
        have gp := str_get HS.out p (by omega) hpl
        obtain ⟨x, hx⟩ : ∃ x, l[p].toNat = x := ⟨_, rfl⟩
        have hps : p < S.size := by omega
        have hgp : (S[p]'hps).toNat = x := by rw [gp, hx]
        have hxb : x < 256 := by rw [← hx]; exact l[p].toNat_lt
        have HX := Lib.hid hx
        clear gp hx
        by_cases h1 : x < 48
        · have h1d : decide ((x : Int) < 48) = true := by rw [decide_eq_true_iff]; omega
          have hres : Hid (isDec l = false) := digs_bad hpl (by rw [HX.out]; exact .inl h1)
          go_wp2
          go_ret
          exact ⟨by rw [hres.out]; rfl, rfl⟩
        have h1d : decide ((x : Int) < 48) = false := by rw [decide_eq_false_iff_not]; omega
        by_cases h2 : 57 < x
        · have h2d : decide ((57 : Int) < (x : Int)) = true := by rw [decide_eq_true_iff]; omega
          have hres : Hid (isDec l = false) := digs_bad hpl (by rw [HX.out]; exact .inr h2)
          go_wp2
          go_ret
          exact ⟨by rw [hres.out]; rfl, rfl⟩
        have h2d : decide ((57 : Int) < (x : Int)) = false := by rw [decide_eq_false_iff_not]; omega
        go_wp2
        go_roundw
        case rel => exact ⟨trivial, p + 1, by omega, by go_num, digs_take hpl hd.out (by rw [HX.out]; omega) (by rw [HX.out]; omega)⟩
        case measure => simp [intOf] <;> omega
      · obtain rfl : p = n := by omega
        have hres : Hid (isDec l = true) := isDec_ok (by rw [HN.out]; exact h0) (by rw [HX0.out]; exact hlead.out) (by have := hd.out; rwa [← HN.out, List.take_length] at this)
        go_wp2
        go_ret
        exact ⟨by rw [hres.out]; rfl, rfl⟩
end Go.Proofs.YtcofiekfhnfjpaaDoor

