
import Derived.Test.YtmelfdajhnbnlaaHa
import Derived.StillTailTactics
import Derived.Deep.RegionHeld3
import Derived.WalkKit
import Derived.WalkSpells
import Derived.WalkLawsBesides
import Derived.Lib.Hide
import Derived.Below
import Derived.Deep.QuietTactic
import Derived.BigQuiet
import Derived.IntWalk
import Derived.Laws.BitsAllLaws
namespace Go.Proofs.Ytmelfdajhnbnlaa
open Go.RowKit
set_option linter.unusedVariables false
set_option linter.unusedSimpArgs false
theorem bc_get {l : List UInt8} {j : Nat} {c : UInt8} (h : l[j]? = some c) : (Lib.byteCells l)[j]? = some (.int .u8 (c.toNat : Int)) := by
  simp [Lib.byteCells, h]
theorem enc_at {l : List UInt8} {j : Nat} {c : UInt8} (h : l[j]? = some c) : encL (l.take (j + 1)) = encL (l.take j) ++ [hexd (c.toNat / 16), hexd (c.toNat % 16)] := by
  unfold encL
  rw [List.take_add_one, h]
  simp [enc2]
def HeR (w : World) (l : List UInt8) (n : Nat) (k : Value) (wr : World) : Prop := ∃ (j : Nat) (bs : List UInt8), j ≤ n ∧ k = .int .i64 j ∧ bs.length = 2 * j ∧ Hid (bs = encL (l.take j)) ∧ Lib.IsBuilderF 64 5 w.heap.size w.heap.size (Lib.byteCells bs) wr ∧ Below w.heap.size w wr
theorem u8_quo (x q : Nat) (h : x < 256) (e : x / 16 = q) : (x : Int) / 16 = (q : Int) := by omega
set_option maxRecDepth 50000 in
set_option maxHeartbeats 4000000 in
theorem hexenc_any (l : List UInt8) (a : Option Addr) (c : Nat) (w : World) (hr : RdV w a (Lib.byteCells l)) (hl : l.length ≤ 10000000) :
    Calls Try.prog 17 #[.slice a l.length c] w fun e w' => e = .returned (.string ⟨(encL l).toArray⟩) ∧ Below w.heap.size w w' := by
  obtain ⟨n, hn⟩ : ∃ n, l.length = n := ⟨_, rfl⟩
  obtain ⟨n2, hn2⟩ : ∃ n2, 2 * n = n2 := ⟨_, rfl⟩
  have hm2 : 2 * (n : Int) = (n2 : Int) := by omega
  have hn3 : n2 ≤ 20000000 := by omega
  rw [hn] at hl ⊢
  have HN := Lib.hid hn
  have HR := Lib.hid hr
  have HN2 := Lib.hid hn2
  have hb0 := Below.alloc (Below.refl w.heap.size w) (Nat.le_refl _) (.cells #[.pointer none, .slice none 0 0] 64)
  have hz0 := hb0.size
  have hp0 := heap_alloc_new w (.cells #[.pointer none, .slice none 0 0] 64)
  clear hn hn2 hr
  go_enter Try.func17, Try.ntmps17
  go_wp2_with (go_at_call 25; go_loud ((with_reducible refine (grow_any w.heap.size w.heap.size n2 _ (Nat.le_refl _) hp0 hz0 (by omega)).mono ?_); rintro e w1 ⟨rfl, hi1, hb1'⟩; have hb1 := hb0.trans hb1'; have hz1 := hb1.size; clear hb1' hb0 hz0 hp0))
  go_loopw [5, 12] (fun _ k wr => HeR w l n k wr) (fun _ k _ => n - (intOf k).toNat)
  case atStart => exact ⟨0, [], Nat.zero_le _, rfl, rfl, rfl, hi1, hb1⟩
  case round =>
    clear hi1 hb1 hz1
    obtain ⟨j, bs, hj, rfl, hbl, hbs, hi0, hb0⟩ := hrel
    have hz0 := hb0.size
    by_cases hlt : j < n
    · have hjw : j < l.length := by have := HN.out; omega
      obtain ⟨x, hx⟩ : ∃ x, l[j]? = some x := ⟨_, List.getElem?_eq_getElem hjw⟩
      obtain ⟨ad, rfl, hc⟩ := HR.out.below hb0 j _ (bc_get hx)
      have hat := enc_at hx
      obtain ⟨y, hy⟩ : ∃ y, x.toNat = y := ⟨_, rfl⟩
      have hy256 : y < 256 := by rw [← hy]; exact x.toNat_lt
      rw [hy] at hc hat
      obtain ⟨q, hqv⟩ : ∃ q, y / 16 = q := ⟨_, rfl⟩
      obtain ⟨r, hrv⟩ : ∃ r, y % 16 = r := ⟨_, rfl⟩
      have hq16 : q < 16 := by omega
      have hr16 : r < 16 := by omega
      have hqi : (y : Int) / 16 = (q : Int) := by omega
      have hri : bits .and .u8 (y : Int) 15 = (r : Int) := by
        have h := u8_and_nat y 15 hy256 (by omega)
        rw [Nat.and_two_pow_sub_one_eq_mod y 4] at h
        rw [← hrv]
        exact h
      rw [hqv, hrv] at hat
      obtain ⟨y1, hy1⟩ : ∃ y1, (hexd q).toNat = y1 := ⟨_, rfl⟩
      obtain ⟨z1, hz1⟩ : ∃ z1, (hexd r).toNat = z1 := ⟨_, rfl⟩
      have gy : ∀ h, ((⟨#[48, 49, 50, 51, 52, 53, 54, 55, 56, 57, 97, 98, 99, 100, 101, 102]⟩ : ByteArray)[q]'h).toNat = y1 := fun h => by rw [hex_at q h, hy1]
      have gz : ∀ h, ((⟨#[48, 49, 50, 51, 52, 53, 54, 55, 56, 57, 97, 98, 99, 100, 101, 102]⟩ : ByteArray)[r]'h).toNat = z1 := fun h => by rw [hex_at r h, hz1]
      have HA := Lib.hid hat
      have HY := Lib.hid hy1
      have HZ := Lib.hid hz1
      clear hat hx hjw hy hqv hrv hy1 hz1
      go_wp2_with (first
        | (go_at_call 26; go_loud ((with_reducible refine (wb_any w.heap.size w.heap.size _ bs (hexd q) wr HY.out hi0 (by first | omega | (simp; omega)) hz0).mono ?_); rintro e w2 ⟨rfl, hi2, hb2'⟩; have hb2 := hb0.trans hb2'; have hz2 := hb2.size))
        | (go_at_call 26; go_loud ((with_reducible refine (wb_any w.heap.size w.heap.size _ (bs ++ [hexd q]) (hexd r) w2 HZ.out hi2 (by first | omega | (simp; omega)) hz2).mono ?_); rintro e w3 ⟨rfl, hi3, hb3'⟩; have hb3 := hb2.trans hb3'; have hz3 := hb3.size)))
      go_roundw
      case rel => exact ⟨j + 1, bs ++ [hexd q] ++ [hexd r], by omega, by go_num, by simp; omega, (by show _ = _; rw [HA.out, hbs.out]; simp), hi3, hb3⟩
      case measure => simp [intOf] <;> omega
    · obtain rfl : j = n := by omega
      have hres : Hid (bs = encL l) := by
        show _ = _
        rw [hbs.out, ← HN.out, List.take_length]
      go_wp2_with (go_at_call 27; go_loud ((with_reducible refine (bstr_any w.heap.size w.heap.size bs _ hi0 hz0).mono ?_); rintro e w2 ⟨rfl, hb2⟩))
      go_ret
      exact ⟨by rw [← hres.out]; rfl, hb0.trans hb2⟩
theorem own_some {w : World} {B : Nat} {e : TypeId} {v : Value} {n : Nat} {xs : List Value} (h : w.ownsRow B e 1 v n xs) (hv : v.ownBlock ≠ none) : ∃ g c, v = .slice (some ⟨g, 0, none⟩) n c := by
  rcases h.2 with ⟨rfl, _⟩ | ⟨g, cap, cur, rfl, _⟩
  · exact absurd rfl hv
  · exact ⟨g, cap, rfl⟩
theorem RdV.cell {w : World} {ad : Addr} {l : List Value} {k : Nat} {u : Value} (h : RdV w (some ad) l) (hk : l[k]? = some u) : w.cell? (ad.add k) = some u := by
  obtain ⟨ad', e, hc⟩ := h k u hk
  injection e with e
  rw [e]
  exact hc
def ReR (w : World) (l : List UInt8) (n : Nat) (ov k : Value) (wr : World) : Prop := ∃ (j g cp : Nat) (bs : List UInt8), j ≤ n ∧ k = .int .i64 j ∧ Hid (bs.length = 2 * j) ∧ ov = .slice (some ⟨g, 0, none⟩) (2 * j) cp ∧ Hid (bs = encL (l.take j)) ∧ wr.ownsRow w.heap.size 5 1 ov (2 * j) (Lib.byteCells bs) ∧ Below w.heap.size w wr
end Go.Proofs.Ytmelfdajhnbnlaa
