import Derived.Test.YtolnchfgdkeamaaDoorQ1
import Derived.Test.YtolnchfgdkeamaaDoorSb
import Derived.WalkKit
import Derived.WalkSpells
import Derived.WalkLawsBesides
import Derived.Lib.Hide
import Derived.Below
import Derived.Deep.QuietTactic
import Derived.BigQuiet
import Derived.IntWalk
import Derived.Laws.BitsAllLaws
namespace Go.Proofs.YtolnchfgdkeamaaDoor
open Go.RowKit
set_option linter.unusedVariables false
set_option linter.unusedSimpArgs false
theorem str_nil {S : ByteArray} (h : S.data.toList = []) : S = ⟨#[]⟩ := by
  apply ByteArray.ext
  rw [← Array.toArray_toList (xs := S.data), h]
theorem str_get {S : ByteArray} {l : List UInt8} (h : S.data.toList = l) (i : Nat) (hi : i < S.size) (hi2 : i < l.length) : S[i] = l[i] := by
  subst h
  rfl
theorem str_size {S : ByteArray} {l : List UInt8} (h : S.data.toList = l) : S.size = l.length := by
  subst h
  rfl
theorem hex_at (k : Nat) (h : k < (⟨#[48, 49, 50, 51, 52, 53, 54, 55, 56, 57, 97, 98, 99, 100, 101, 102]⟩ : ByteArray).size) : ((⟨#[48, 49, 50, 51, 52, 53, 54, 55, 56, 57, 97, 98, 99, 100, 101, 102]⟩ : ByteArray)[k]'h).toNat = (hexd k).toNat := by
  have key : ∀ i : Fin 16, ((⟨#[48, 49, 50, 51, 52, 53, 54, 55, 56, 57, 97, 98, 99, 100, 101, 102]⟩ : ByteArray)[i.val]'(i.isLt)).toNat = (hexd i.val).toNat := by decide +kernel
  exact key ⟨k, h⟩
theorem cells_snoc (l : List UInt8) (c : UInt8) : Lib.byteCells (l ++ [c]) = Lib.byteCells l ++ [.int .u8 (c.toNat : Int)] := by simp [Lib.byteCells]
/-- One more byte in a builder. -/
theorem wb_any (B b x : Nat) (bs : List UInt8) (c : UInt8) (w : World) (hx : c.toNat = x) (h : Lib.IsBuilderF 40 5 B b (Lib.byteCells bs) w) (hl : bs.length ≤ 140737488355327) (hB : B ≤ w.heap.size) :
    Calls Tryd.prog 25 #[.pointer (some ⟨b, 0, none⟩), .int .u8 x] w fun e w' => e = .returned .nilIface ∧ Lib.IsBuilderF 40 5 B b (Lib.byteCells (bs ++ [c])) w' ∧ Below B w w' := by
  refine (Tryd.Builder_WriteByte_k B b (Lib.byteCells bs) (x : Int) w h (by rw [Lib.byteCells_length]; omega) hB).mono ?_
  rintro e w' ⟨rfl, h1, h2, _⟩
  rw [cells_snoc, hx]
  exact ⟨rfl, .inr h1, h2⟩
theorem wb_star (B b : Nat) (bs : List UInt8) (w : World) (h : Lib.IsBuilderF 40 5 B b (Lib.byteCells bs) w) (hl : bs.length ≤ 140737488355327) (hB : B ≤ w.heap.size) :
    Calls Tryd.prog 25 #[.pointer (some ⟨b, 0, none⟩), .int .u8 42] w fun e w' => e = .returned .nilIface ∧ Lib.IsBuilderF 40 5 B b (Lib.byteCells (bs ++ [42])) w' ∧ Below B w w' :=
  wb_any B b 42 bs 42 w rfl h hl hB
theorem wb_feed (B b : Nat) (bs : List UInt8) (w : World) (h : Lib.IsBuilderF 40 5 B b (Lib.byteCells bs) w) (hl : bs.length ≤ 140737488355327) (hB : B ≤ w.heap.size) :
    Calls Tryd.prog 25 #[.pointer (some ⟨b, 0, none⟩), .int .u8 10] w fun e w' => e = .returned .nilIface ∧ Lib.IsBuilderF 40 5 B b (Lib.byteCells (bs ++ [10])) w' ∧ Below B w w' :=
  wb_any B b 10 bs 10 w rfl h hl hB
theorem bstr_any (B b : Nat) (bs : List UInt8) (w : World) (h : Lib.IsBuilderF 40 5 B b (Lib.byteCells bs) w) (hB : B ≤ w.heap.size) :
    Calls Tryd.prog 27 #[.pointer (some ⟨b, 0, none⟩)] w fun e w' => e = .returned (.string ⟨bs.toArray⟩) ∧ Below B w w' :=
  (Tryd.Builder_String_any_k B b bs w h hB).mono fun _ _ h => ⟨h.1, h.2.2.1⟩
def QtR (w : World) (l : List UInt8) (i : Value) (wr : World) : Prop := ∃ (p : Nat) (bs : List UInt8), p ≤ l.length ∧ i = .int .i64 p ∧ bs.length ≤ 3 * p ∧ Hid (bs = (l.take p).flatMap esc) ∧ Lib.IsBuilderF 40 5 w.heap.size w.heap.size (Lib.byteCells bs) wr ∧ Below w.heap.size w wr
theorem take_flat {l : List UInt8} {p : Nat} (h : p < l.length) : (l.take (p + 1)).flatMap esc = (l.take p).flatMap esc ++ esc l[p] := by
  rw [List.take_succ_eq_append_getElem h, List.flatMap_append]
  simp
set_option maxRecDepth 50000 in
set_option maxHeartbeats 2000000 in
theorem quote_any (S : ByteArray) (l : List UInt8) (w : World) (hS : S.data.toList = l) (hl : l.length ≤ 10000000) :
    Calls Tryd.prog 12 #[.string S] w fun e w' => e = .returned (.string ⟨(quoteL l).toArray⟩) ∧ Below w.heap.size w w' := by
  rcases Nat.eq_zero_or_pos l.length with h0 | h0
  · have hl0 := List.length_eq_zero_iff.1 h0
    subst hl0
    have := str_nil hS
    subst this
    clear hS h0
    go_enter Tryd.func12, Tryd.ntmps12
    go_wp2
    go_ret
    exact ⟨rfl, Below.refl _ _⟩
  have hne2 : ¬ S.toList = [] := by
    rw [ByteArray.toList_eq, hS]
    intro e
    rw [e] at h0
    simp at h0
  have hne : S.toList.isEmpty = false := by
    cases hq : S.toList with
    | nil => exact absurd hq hne2
    | cons _ _ => rfl
  have hsz0 := str_size hS
  obtain ⟨n, hn⟩ : ∃ n, l.length = n := ⟨_, rfl⟩
  have hsz : S.size = n := by rw [hsz0, hn]
  have HS := Lib.hid hS
  have HN := Lib.hid hn
  have hnb : n ≤ 10000000 := by omega
  have hfi := Lib.IsBuilderF.of (Lib.fresh_isBuilder 40 5 w)
  have hfb := Below.alloc (Below.refl w.heap.size w) (Nat.le_refl _) (.cells #[.pointer none, .slice none 0 0] 40)
  have hq0 : Hid (quoteL l = l.flatMap esc) := by
    show _ = _
    unfold quoteL
    rw [if_neg (by intro e; rw [e] at h0; simp at h0)]
  clear hS hsz0 hl h0 hn
  go_enter Tryd.func12, Tryd.ntmps12
  go_wp2
  go_loopw [4, 5, 10] (fun _ _ i wr => QtR w l i wr) (fun _ _ i _ => n - (intOf i).toNat)
  case atStart => exact ⟨0, [], Nat.zero_le _, rfl, Nat.le_refl _, rfl, hfi, hfb⟩
  case round =>
    clear hfi hfb
    obtain ⟨p, bs, hp, rfl, hbs, hq, hi0, hb0⟩ := hrel
    have hz0 := hb0.size
    have hp2 : p ≤ n := by rw [← HN.out]; exact hp
    by_cases hlt : p < n
    · have hpl : p < l.length := by have := HN.out; omega
      have hps : p < S.size := by omega
      have gp := str_get HS.out p hps hpl
      obtain ⟨c, hc⟩ : ∃ c, l[p] = c := ⟨_, rfl⟩
      obtain ⟨x, hx⟩ : ∃ x, c.toNat = x := ⟨_, rfl⟩
      have hgp : (S[p]'hps).toNat = x := by rw [gp, hc, hx]
      have hx256 : x < 256 := by rw [← hx]; exact c.toNat_lt
      have HLT := fun W => lit_any c W
      simp only [hx] at HLT
      have HLT' := Lib.hid HLT
      have HC := Lib.hid hc
      clear hp gp HLT hc
      cases hlit : lit c with
      | true =>
        have hes : Hid (esc c = [c]) := by show _ = _; unfold esc; rw [hlit]; rfl
        go_wp2_with (first
          | (go_at_call 24; (with_reducible refine (HLT'.out _).mono ?_); rintro e w1 ⟨rfl, rfl⟩; rw [hlit])
          | (go_at_call 25; go_loud ((with_reducible refine (wb_any w.heap.size w.heap.size _ bs c wr hx hi0 (by first | omega | (simp; omega)) hz0).mono ?_); rintro e w2 ⟨rfl, hi2, hb2'⟩; have hb2 := hb0.trans hb2'; have hz2 := hb2.size)))
        go_roundw
        case rel => exact ⟨p + 1, bs ++ [c], by have := HN.out; omega, by go_num, by simp; omega, (by show _ = _; rw [take_flat hpl, HC.out, hes.out, hq.out]), hi2, hb2⟩
        case measure => simp [intOf] <;> omega
      | false =>
        obtain ⟨q, hqv⟩ : ∃ q, x / 16 = q := ⟨_, rfl⟩
        obtain ⟨r, hrv⟩ : ∃ r, x % 16 = r := ⟨_, rfl⟩
        have hq16 : q < 16 := by omega
        have hr16 : r < 16 := by omega
        have hqi : (x : Int) / 16 = (q : Int) := by omega
        have hri : bits .and .u8 (x : Int) 15 = (r : Int) := by
          have h := u8_and_nat x 15 hx256 (by omega)
          rw [Nat.and_two_pow_sub_one_eq_mod x 4] at h
          rw [← hrv]
          exact h
        obtain ⟨y, hy⟩ : ∃ y, (hexd q).toNat = y := ⟨_, rfl⟩
        obtain ⟨z, hz⟩ : ∃ z, (hexd r).toNat = z := ⟨_, rfl⟩
        have gy : ∀ h, ((⟨#[48, 49, 50, 51, 52, 53, 54, 55, 56, 57, 97, 98, 99, 100, 101, 102]⟩ : ByteArray)[q]'h).toNat = y := fun h => by rw [hex_at q h, hy]
        have gz : ∀ h, ((⟨#[48, 49, 50, 51, 52, 53, 54, 55, 56, 57, 97, 98, 99, 100, 101, 102]⟩ : ByteArray)[r]'h).toNat = z := fun h => by rw [hex_at r h, hz]
        have hes : Hid (esc c = [42, hexd q, hexd r]) := by show _ = _; unfold esc; rw [hlit, if_neg (by decide), hx, hqv, hrv]
        have HY := Lib.hid hy
        have HZ := Lib.hid hz
        clear hqv hrv hy hz
        go_wp2_with (first
          | (go_at_call 24; (with_reducible refine (HLT'.out _).mono ?_); rintro e w1 ⟨rfl, rfl⟩; rw [hlit])
          | (go_at_call 25; go_loud ((with_reducible refine (wb_star w.heap.size w.heap.size bs wr hi0 (by first | omega | (simp; omega)) hz0).mono ?_); rintro e w2 ⟨rfl, hi2, hb2'⟩; have hb2 := hb0.trans hb2'; have hz2 := hb2.size))
          | (go_at_call 25; go_loud ((with_reducible refine (wb_any w.heap.size w.heap.size _ (bs ++ [42]) (hexd q) w2 HY.out hi2 (by first | omega | (simp; omega)) hz2).mono ?_); rintro e w3 ⟨rfl, hi3, hb3'⟩; have hb3 := hb2.trans hb3'; have hz3 := hb3.size))
          | (go_at_call 25; go_loud ((with_reducible refine (wb_any w.heap.size w.heap.size _ (bs ++ [42] ++ [hexd q]) (hexd r) w3 HZ.out hi3 (by first | omega | (simp; omega)) hz3).mono ?_); rintro e w4 ⟨rfl, hi4, hb4'⟩; have hb4 := hb3.trans hb4'; have hz4 := hb4.size)))
        go_roundw
        case rel => exact ⟨p + 1, bs ++ [42] ++ [hexd q] ++ [hexd r], by have := HN.out; omega, by go_num, by simp; omega, (by show _ = _; rw [take_flat hpl, HC.out, hes.out, hq.out]; simp), hi4, hb4⟩
        case measure => simp [intOf] <;> omega
    · obtain rfl : p = n := by omega
      have hres : Hid (bs = quoteL l) := by
        show _ = _
        rw [hq0.out, hq.out, ← HN.out, List.take_length]
      go_wp2_with (go_at_call 27; go_loud ((with_reducible refine (bstr_any w.heap.size w.heap.size bs _ hi0 hz0).mono ?_); rintro e w2 ⟨rfl, hb2⟩))
      go_ret
      exact ⟨by rw [← hres.out]; rfl, hb0.trans hb2⟩
end Go.Proofs.YtolnchfgdkeamaaDoor
