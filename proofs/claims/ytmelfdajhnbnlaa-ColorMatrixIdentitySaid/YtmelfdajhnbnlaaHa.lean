
import Derived.Test.YtmelfdajhnbnlaaSbw
import Derived.Test.YtmelfdajhnbnlaaOwn
import Derived.Test.YtmelfdajhnbnlaaQs
import Derived.Laws.IdiomStrings
import Derived.Deep.OwnRows
import Derived.Lib.BufferOwn
import Derived.Lib.SplitLaws
import Derived.WalkKit
import Derived.WalkSpells
import Derived.WalkLawsBesides
import Derived.Lib.Hide
import Derived.Below
import Derived.Deep.QuietTactic
import Derived.BigQuiet
import Derived.IntWalk
import Derived.Laws.BitsAllLaws
namespace Go.Proofs.Ytmelfdajhnbnlaa
open Go.RowKit
set_option linter.unusedVariables false
set_option linter.unusedSimpArgs false
theorem str_nil {S : ByteArray} (h : S.data.toList = []) : S = ⟨#[]⟩ := by
  apply ByteArray.ext
  rw [← Array.toArray_toList (xs := S.data), h]
theorem str_get {S : ByteArray} {l : List UInt8} (h : S.data.toList = l) (i : Nat) (hi : i < S.size) (hi2 : i < l.length) : S[i] = l[i] := by
  subst h
  rfl
theorem str_size {S : ByteArray} {l : List UInt8} (h : S.data.toList = l) : S.size = l.length := by
  subst h
  rfl
theorem hex_at (k : Nat) (h : k < (⟨#[48, 49, 50, 51, 52, 53, 54, 55, 56, 57, 97, 98, 99, 100, 101, 102]⟩ : ByteArray).size) : ((⟨#[48, 49, 50, 51, 52, 53, 54, 55, 56, 57, 97, 98, 99, 100, 101, 102]⟩ : ByteArray)[k]'h).toNat = (hexd k).toNat := by
  have key : ∀ i : Fin 16, ((⟨#[48, 49, 50, 51, 52, 53, 54, 55, 56, 57, 97, 98, 99, 100, 101, 102]⟩ : ByteArray)[i.val]'(i.isLt)).toNat = (hexd i.val).toNat := by decide +kernel
  exact key ⟨k, h⟩
theorem hexv_lt (c : UInt8) (a : Nat) (h : hexv c = some a) : a < 16 := (hexd_hexv c a h).1
theorem cells_snoc (l : List UInt8) (c : UInt8) : Lib.byteCells (l ++ [c]) = Lib.byteCells l ++ [.int .u8 (c.toNat : Int)] := by simp [Lib.byteCells]
theorem eq_arr {S : ByteArray} {l : List UInt8} (h : S.data.toList = l) : S = ⟨l.toArray⟩ := by
  apply ByteArray.ext
  rw [← h, Array.toArray_toList]
theorem cat_data (A B : ByteArray) : (A ++ B).data.toList = A.data.toList ++ B.data.toList := by
  simp [ByteArray.data_append]
theorem data_inj {x y : ByteArray} (h : x.data.toList = y.data.toList) : x = y := by
  apply ByteArray.ext
  exact Array.toList_inj.1 h
theorem be_drewN {B : Nat} {w0 w : World} (h : Below B w0 w) (n : Nat) : Below B w0 (w.drewN n) := ⟨h.os, h.tape, h.output, h.size, h.block⟩
theorem own_drewN {w : World} {B : Nat} {e : TypeId} {v : Value} {n : Nat} {xs : List Value} (h : w.ownsRow B e 1 v n xs) (m : Nat) : (w.drewN m).ownsRow B e 1 v n xs := by
  induction m generalizing w with
  | zero => exact h
  | succ m ih => exact ih h
theorem quiet_none {P : Program} {f : FuncId} {args : Array Value} {v : Value} (h : ∀ W : World, Calls P f args W fun e w' => e = .returned v ∧ W = w') {w : World} {n : Nat} : Calls P f args (w.drewN n) fun e w'' => e = .returned v ∧ ∃ m, w'' = w.drewN m := (h _).mono fun _ _ hh => ⟨hh.1, n, hh.2.symm⟩
theorem RdV.below {w w' : World} {a : Option Addr} {l : List Value} (h : RdV w a l) (hb : Below w.heap.size w w') : RdV w' a l := fun k u hk => by
  obtain ⟨ad, e, hc⟩ := h k u hk
  exact ⟨ad, e, (hb.cell (World.block_lt_of_cell? w _ hc)).trans hc⟩
theorem infoB : (Try.prog.info? 5).map (fun i => (i.zero, i.size, i.bytes)) = some (some (.int .u8 0), 1, 1) := by kernel_rfl
theorem oneU (x : Int) : ∀ u ∈ [Value.int .u8 x], u.oneCell' = true := by
  intro u hu
  simp at hu
  subst hu
  rfl
theorem twoU (x y : Int) : ∀ u ∈ [Value.int .u8 x, Value.int .u8 y], u.oneCell' = true := by
  intro u hu
  simp at hu
  rcases hu with rfl | rfl <;> rfl
theorem conv_own {w : World} {B g cp : Nat} {bs : List UInt8} (h : w.ownsRow B 5 1 (.slice (some ⟨g, 0, none⟩) bs.length cp) bs.length (Lib.byteCells bs)) : (convert 43 9 (.slice (some ⟨g, 0, none⟩) bs.length cp)).run Try.prog w = .ok (.string ⟨bs.toArray⟩) w := by
  refine run_convert_bytes_back w 43 9 5 ⟨g, 0, none⟩ cp bs Try.underlying43 Try.underlying5 Try.underlying9 fun j hj => ?_
  rw [show ((⟨g, 0, none⟩ : Addr).add j) = ⟨g, j, none⟩ by unfold Addr.add; split <;> simp_all]
  exact own_cell h j _ (by simp [Lib.byteCells, hj])
/-- One more byte in a builder. -/
theorem wb_any (B b x : Nat) (bs : List UInt8) (c : UInt8) (w : World) (hx : c.toNat = x) (h : Lib.IsBuilderF 64 5 B b (Lib.byteCells bs) w) (hl : bs.length ≤ 140737488355327) (hB : B ≤ w.heap.size) :
    Calls Try.prog 26 #[.pointer (some ⟨b, 0, none⟩), .int .u8 x] w fun e w' => e = .returned .nilIface ∧ Lib.IsBuilderF 64 5 B b (Lib.byteCells (bs ++ [c])) w' ∧ Below B w w' := by
  refine (Try.Builder_WriteByte_k B b (Lib.byteCells bs) (x : Int) w h (by rw [Lib.byteCells_length]; omega) hB).mono ?_
  rintro e w' ⟨rfl, h1, h2, _⟩
  rw [cells_snoc, hx]
  exact ⟨rfl, .inr h1, h2⟩
theorem bstr_any (B b : Nat) (bs : List UInt8) (w : World) (h : Lib.IsBuilderF 64 5 B b (Lib.byteCells bs) w) (hB : B ≤ w.heap.size) :
    Calls Try.prog 27 #[.pointer (some ⟨b, 0, none⟩)] w fun e w' => e = .returned (.string ⟨bs.toArray⟩) ∧ Below B w w' :=
  (Try.Builder_String_any_k B b bs w h hB).mono fun _ _ h => ⟨h.1, h.2.2.1⟩
theorem grow_any (B b n : Nat) (w : World) (hB : B ≤ b) (hbk : w.heap[b]? = some (.cells #[.pointer none, .slice none 0 0] 64 (0, 0))) (hBw : B ≤ w.heap.size) (hn : n ≤ 281474976710656) :
    Calls Try.prog 25 #[.pointer (some ⟨b, 0, none⟩), .int .i64 n] w fun e w' => e = .returned (.tuple #[]) ∧ Lib.IsBuilderF 64 5 B b (Lib.byteCells []) w' ∧ Below B w w' :=
  (Try.Builder_Grow_fresh B b n w hB hbk hBw hn).mono fun _ _ h => ⟨h.1, .inr (Lib.BuilderAtF.of h.2.1), h.2.2⟩
/-- Two digits a byte. -/
def enc2 (c : UInt8) : List UInt8 := [hexd (c.toNat / 16), hexd (c.toNat % 16)]
def encL (l : List UInt8) : List UInt8 := l.flatMap enc2
def decL : List UInt8 → Option (List UInt8)
  | [] => some []
  | h :: t => match t with
    | l :: r => match hexv h, hexv l with
      | some a, some b => (decL r).map (UInt8.ofNat (16 * a + b) :: ·)
      | _, _ => none
    | [] => none
theorem dec_two {x y : UInt8} {r : List UInt8} : decL (x :: y :: r) = match hexv x, hexv y with
      | some a, some b => (decL r).map (UInt8.ofNat (16 * a + b) :: ·)
      | _, _ => none := by
  rw [decL.eq_def]
theorem dec_one (x : UInt8) : decL [x] = none := by rw [decL.eq_def]
theorem hexv_hexd (c : UInt8) : hexv (hexd (c.toNat / 16)) = some (c.toNat / 16) ∧ hexv (hexd (c.toNat % 16)) = some (c.toNat % 16) := by
  revert c
  exact all256 (by decide +kernel)
theorem encL_len (l : List UInt8) : (encL l).length = 2 * l.length := by
  induction l with
  | nil => rfl
  | cons c l ih =>
    have e : encL (c :: l) = hexd (c.toNat / 16) :: hexd (c.toNat % 16) :: encL l := rfl
    rw [e, List.length_cons, List.length_cons, ih, List.length_cons]
    omega
theorem dec_enc (l : List UInt8) : decL (encL l) = some l := by
  induction l with
  | nil => rfl
  | cons c l ih =>
    have e : encL (c :: l) = hexd (c.toNat / 16) :: hexd (c.toNat % 16) :: encL l := rfl
    rw [e, dec_two, (hexv_hexd c).1, (hexv_hexd c).2]
    simp only
    rw [ih, show 16 * (c.toNat / 16) + c.toNat % 16 = c.toNat by omega, UInt8.ofNat_toNat]
    rfl
theorem enc_dec : ∀ (n : Nat) (s l : List UInt8), s.length ≤ n → decL s = some l → encL l = s := by
  intro n
  induction n with
  | zero =>
    intro s l hn h
    rw [List.length_eq_zero_iff.1 (Nat.le_zero.1 hn)] at h ⊢
    cases h
    rfl
  | succ n ih =>
    intro s l hn h
    rcases s with _ | ⟨x, _ | ⟨y, r⟩⟩
    · cases h; rfl
    · rw [dec_one] at h; cases h
    · rw [dec_two] at h
      cases h1 : hexv x with
      | none => rw [h1] at h; cases h
      | some a =>
        cases h2 : hexv y with
        | none => rw [h1, h2] at h; cases h
        | some b =>
          rw [h1, h2] at h
          simp only at h
          cases h3 : decL r with
          | none => rw [h3] at h; cases h
          | some q =>
            rw [h3] at h
            cases h
            obtain ⟨a1, a2⟩ := hexd_hexv x a h1
            obtain ⟨b1, b2⟩ := hexd_hexv y b h2
            rw [List.length_cons, List.length_cons] at hn
            have e : (UInt8.ofNat (16 * a + b)).toNat = 16 * a + b := by
              show (BitVec.ofNat 8 (16 * a + b)).toNat = _
              rw [BitVec.toNat_ofNat]
              omega
            show enc2 _ ++ encL q = _
            rw [ih r q (by omega) h3]
            unfold enc2
            rw [e, show (16 * a + b) / 16 = a by omega, show (16 * a + b) % 16 = b by omega, a2, b2]
            rfl
theorem dec_len : ∀ (n : Nat) (s l : List UInt8), s.length ≤ n → decL s = some l → s.length = 2 * l.length := fun n s l hn h => by
  rw [← enc_dec n s l hn h, encL_len]
end Go.Proofs.Ytmelfdajhnbnlaa
