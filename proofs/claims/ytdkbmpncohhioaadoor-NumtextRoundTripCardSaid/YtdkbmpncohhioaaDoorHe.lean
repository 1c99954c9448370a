
import Derived.Test.YtdkbmpncohhioaaDoorHa
import Derived.StillTailTactics
import Derived.Deep.RegionHeld3
import Derived.WalkKit
import Derived.WalkSpells
import Derived.WalkLawsBesides
import Derived.Lib.Hide
import Derived.Below
import Derived.Deep.QuietTactic
import Derived.BigQuiet
import Derived.IntWalk
import Derived.Laws.BitsAllLaws
namespace Go.Proofs.YtdkbmpncohhioaaDoor
open Go.RowKit
set_option linter.unusedVariables false
set_option linter.unusedSimpArgs false
theorem bc_get {l : List UInt8} {j : Nat} {c : UInt8} (h : l[j]? = some c) : (Lib.byteCells l)[j]? = some (.int .u8 (c.toNat : Int)) := by
  simp [Lib.byteCells, h]
theorem enc_at {l : List UInt8} {j : Nat} {c : UInt8} (h : l[j]? = some c) : encL (l.take (j + 1)) = encL (l.take j) ++ [hexd (c.toNat / 16), hexd (c.toNat % 16)] := by
  unfold encL
  rw [List.take_add_one, h]
  simp [enc2]
def HeR (w : World) (l : List UInt8) (n : Nat) (k : Value) (wr : World) : Prop := ∃ (j : Nat) (bs : List UInt8), j ≤ n ∧ k = .int .i64 j ∧ bs.length = 2 * j ∧ Hid (bs = encL (l.take j)) ∧ Lib.IsBuilderF 69 5 w.heap.size w.heap.size (Lib.byteCells bs) wr ∧ Below w.heap.size w wr
theorem u8_quo (x q : Nat) (h : x < 256) (e : x / 16 = q) : (x : Int) / 16 = (q : Int) := by omega
set_option maxRecDepth 50000 in
set_option maxHeartbeats 4000000 in
theorem hexenc_any (l : List UInt8) (a : Option Addr) (c : Nat) (w : World) (hr : RdV w a (Lib.byteCells l)) (hl : l.length ≤ 10000000) :
    Calls Tryd.prog 18 #[.slice a l.length c] w fun e w' => e = .returned (.string ⟨(encL l).toArray⟩) ∧ Below w.heap.size w w' := by
  obtain ⟨n, hn⟩ : ∃ n, l.length = n := ⟨_, rfl⟩
  obtain ⟨n2, hn2⟩ : ∃ n2, 2 * n = n2 := ⟨_, rfl⟩
  have hm2 : 2 * (n : Int) = (n2 : Int) := by omega
  have hn3 : n2 ≤ 20000000 := by omega
  rw [hn] at hl ⊢
  have HN := Lib.hid hn
  have HR := Lib.hid hr
  have HN2 := Lib.hid hn2
  have hb0 := Below.alloc (Below.refl w.heap.size w) (Nat.le_refl _) (.cells #[.pointer none, .slice none 0 0] 69)
  have hz0 := hb0.size
  have hp0 := heap_alloc_new w (.cells #[.pointer none, .slice none 0 0] 69)
  clear hn hn2 hr
  go_enter Tryd.func18, Tryd.ntmps18
  go_wp2_with (go_at_call 37; go_loud ((with_reducible refine (grow_any w.heap.size w.heap.size n2 _ (Nat.le_refl _) hp0 hz0 (by omega)).mono ?_); rintro e w1 ⟨rfl, hi1, hb1'⟩; have hb1 := hb0.trans hb1'; have hz1 := hb1.size; clear hb1' hb0 hz0 hp0))
  go_loopw [5, 12] (fun _ k wr => HeR w l n k wr) (fun _ k _ => n - (intOf k).toNat)
  case atStart => exact ⟨0, [], Nat.zero_le _, rfl, rfl, rfl, hi1, hb1⟩
  case round =>
    clear hi1 hb1 hz1
    obtain ⟨j, bs, hj, rfl, hbl, hbs, hi0, hb0⟩ := hrel
    have hz0 := hb0.size
    by_cases hlt : j < n
    · have hjw : j < l.length := by have := HN.out; omega
      obtain ⟨x, hx⟩ : ∃ x, l[j]? = some x := ⟨_, List.getElem?_eq_getElem hjw⟩
      obtain ⟨ad, rfl, hc⟩ := HR.out.below hb0 j _ (bc_get hx)
      have hat := enc_at hx
      obtain ⟨y, hy⟩ : ∃ y, x.toNat = y := ⟨_, rfl⟩
      have hy256 : y < 256 := by rw [← hy]; exact x.toNat_lt
      rw [hy] at hc hat
      obtain ⟨q, hqv⟩ : ∃ q, y / 16 = q := ⟨_, rfl⟩
      obtain ⟨r, hrv⟩ : ∃ r, y % 16 = r := ⟨_, rfl⟩
      have hq16 : q < 16 := by omega
      have hr16 : r < 16 := by omega
      have hqi : (y : Int) / 16 = (q : Int) := by omega
      have hri : bits .and .u8 (y : Int) 15 = (r : Int) := by
        have h := u8_and_nat y 15 hy256 (by omega)
        rw [Nat.and_two_pow_sub_one_eq_mod y 4] at h
        rw [← hrv]
        exact h
      rw [hqv, hrv] at hat
      obtain ⟨y1, hy1⟩ : ∃ y1, (hexd q).toNat = y1 := ⟨_, rfl⟩
      obtain ⟨z1, hz1⟩ : ∃ z1, (hexd r).toNat = z1 := ⟨_, rfl⟩
      have gy : ∀ h, ((⟨#[48, 49, 50, 51, 52, 53, 54, 55, 56, 57, 97, 98, 99, 100, 101, 102]⟩ : ByteArray)[q]'h).toNat = y1 := fun h => by rw [hex_at q h, hy1]
      have gz : ∀ h, ((⟨#[48, 49, 50, 51, 52, 53, 54, 55, 56, 57, 97, 98, 99, 100, 101, 102]⟩ : ByteArray)[r]'h).toNat = z1 := fun h => by rw [hex_at r h, hz1]
      have HA := Lib.hid hat
      have HY := Lib.hid hy1
      have HZ := Lib.hid hz1
      clear hat hx hjw hy hqv hrv hy1 hz1
      go_wp2_with (first
        | (go_at_call 38; go_loud ((with_reducible refine (wb_any w.heap.size w.heap.size _ bs (hexd q) wr HY.out hi0 (by first | omega | (simp; omega)) hz0).mono ?_); rintro e w2 ⟨rfl, hi2, hb2'⟩; have hb2 := hb0.trans hb2'; have hz2 := hb2.size))
        | (go_at_call 38; go_loud ((with_reducible refine (wb_any w.heap.size w.heap.size _ (bs ++ [hexd q]) (hexd r) w2 HZ.out hi2 (by first | omega | (simp; omega)) hz2).mono ?_); rintro e w3 ⟨rfl, hi3, hb3'⟩; have hb3 := hb2.trans hb3'; have hz3 := hb3.size)))
      go_roundw
      case rel => exact ⟨j + 1, bs ++ [hexd q] ++ [hexd r], by omega, by go_num, by simp; omega, (by show _ = _; rw [HA.out, hbs.out]; simp), hi3, hb3⟩
      case measure => simp [intOf] <;> omega
    · obtain rfl : j = n := by omega
      have hres : Hid (bs = encL l) := by
        show _ = _
        rw [hbs.out, ← HN.out, List.take_length]
      go_wp2_with (go_at_call 39; go_loud ((with_reducible refine (bstr_any w.heap.size w.heap.size bs _ hi0 hz0).mono ?_); rintro e w2 ⟨rfl, hb2⟩))
      go_ret
      exact ⟨by rw [← hres.out]; rfl, hb0.trans hb2⟩
theorem own_some {w : World} {B : Nat} {e : TypeId} {v : Value} {n : Nat} {xs : List Value} (h : w.ownsRow B e 1 v n xs) (hv : v.ownBlock ≠ none) : ∃ g c, v = .slice (some ⟨g, 0, none⟩) n c := by
  rcases h.2 with ⟨rfl, _⟩ | ⟨g, cap, cur, rfl, _⟩
  · exact absurd rfl hv
  · exact ⟨g, cap, rfl⟩
theorem RdV.cell {w : World} {ad : Addr} {l : List Value} {k : Nat} {u : Value} (h : RdV w (some ad) l) (hk : l[k]? = some u) : w.cell? (ad.add k) = some u := by
  obtain ⟨ad', e, hc⟩ := h k u hk
  injection e with e
  rw [e]
  exact hc
def ReR (w : World) (l : List UInt8) (n : Nat) (ov k : Value) (wr : World) : Prop := ∃ (j g cp : Nat) (bs : List UInt8), j ≤ n ∧ k = .int .i64 j ∧ Hid (bs.length = 2 * j) ∧ ov = .slice (some ⟨g, 0, none⟩) (2 * j) cp ∧ Hid (bs = encL (l.take j)) ∧ wr.ownsRow w.heap.size 5 1 ov (2 * j) (Lib.byteCells bs) ∧ Below w.heap.size w wr
set_option maxRecDepth 50000 in
set_option maxHeartbeats 4000000 in
theorem rhexenc_any (l : List UInt8) (a : Option Addr) (c : Nat) (w : World) (hr : RdV w a (Lib.byteCells l)) (hl : l.length ≤ 10000000) :
    Calls Tryd.prog 19 #[.slice a l.length c] w fun e w' => e = .returned (.string ⟨(encL l).toArray⟩) ∧ Below w.heap.size w w' := by
  obtain ⟨i0, hi, hz0, hz1, hz2⟩ := info_parts infoB
  obtain ⟨n, hn⟩ : ∃ n, l.length = n := ⟨_, rfl⟩
  rw [hn] at hl ⊢
  have HN := Lib.hid hn
  have HR := Lib.hid hr
  have hb1 := Below.alloc (Below.refl w.heap.size w) (Nat.le_refl _) (.cells #[] 5)
  have ho1 := own_made w #[] 5 0 rfl (Nat.zero_le _)
  clear hn hr
  go_enter Tryd.func19, Tryd.ntmps19
  go_wp2
  go_loopw [3, 4] (fun ov k wr => ReR w l n ov k wr) (fun _ k _ => n - (intOf k).toNat)
  case atStart => exact ⟨0, w.heap.size, 0, [], Nat.zero_le _, rfl, rfl, rfl, rfl, ho1, hb1⟩
  case round =>
    clear ho1 hb1
    obtain ⟨j, g, cp, bs, hj, rfl, hbl, rfl, hbs, hown, hb0⟩ := hrel
    have hzz := hb0.size
    by_cases hlt : j < n
    · have hjw : j < l.length := by have := HN.out; omega
      obtain ⟨x, hx⟩ : ∃ x, l[j]? = some x := ⟨_, List.getElem?_eq_getElem hjw⟩
      obtain ⟨ad, rfl, hc⟩ := HR.out.below hb0 j _ (bc_get hx)
      have hat := enc_at hx
      obtain ⟨y, hy⟩ : ∃ y, x.toNat = y := ⟨_, rfl⟩
      have hy256 : y < 256 := by rw [← hy]; exact x.toNat_lt
      rw [hy] at hc hat
      obtain ⟨q, hqv⟩ : ∃ q, y / 16 = q := ⟨_, rfl⟩
      obtain ⟨r, hrv⟩ : ∃ r, y % 16 = r := ⟨_, rfl⟩
      have hq16 : q < 16 := by omega
      have hr16 : r < 16 := by omega
      have a0 : (y : Int).tdiv 16 = (q : Int) := by rw [Int.tdiv_eq_ediv_of_nonneg (by omega)]; omega
      have a1 : IntKind.u8.wrap ((y : Int) / 16) = (q : Int) := by rw [IntKind.wrap_u8]; omega
      have a2 : IntKind.u8.wrap (q : Int) = (q : Int) := by rw [IntKind.wrap_u8]; omega
      have b1 : (y : Int).tmod 16 = (r : Int) := by rw [Int.tmod_eq_emod_of_nonneg (by omega)]; omega
      have b2 : IntKind.u8.wrap (r : Int) = (r : Int) := by rw [IntKind.wrap_u8]; omega
      have a3 : (0 : Int) ≤ (q : Int) := by omega
      have a4 : (q : Int) < 16 := by omega
      have b3 : (0 : Int) ≤ (r : Int) := by omega
      have b4 : (r : Int) < 16 := by omega
      rw [hqv, hrv] at hat
      obtain ⟨y1, hy1⟩ : ∃ y1, (hexd q).toNat = y1 := ⟨_, rfl⟩
      obtain ⟨z1, hz1⟩ : ∃ z1, (hexd r).toNat = z1 := ⟨_, rfl⟩
      have gy : ∀ h, ((⟨#[48, 49, 50, 51, 52, 53, 54, 55, 56, 57, 97, 98, 99, 100, 101, 102]⟩ : ByteArray)[q]'h).toNat = y1 := fun h => by rw [hex_at q h, hy1]
      have gz : ∀ h, ((⟨#[48, 49, 50, 51, 52, 53, 54, 55, 56, 57, 97, 98, 99, 100, 101, 102]⟩ : ByteArray)[r]'h).toNat = z1 := fun h => by rw [hex_at r h, hz1]
      have HA := Lib.hid hat
      have HY := Lib.hid hy1
      have HZ := Lib.hid hz1
      have HXX := Lib.hid hy
      have HX := Lib.hid hx
      clear hat hx hjw hy hqv hrv hy1 hz1
      go_wp2
      have hb1 := hb0.alloc hb0.size (.cells #[.int .u8 (y1 : Int), .int .u8 (z1 : Int)] 5)
      have hbd := hb1.drew
      have hnews : RdV ((wr.alloc (.cells #[.int .u8 (y1 : Int), .int .u8 (z1 : Int)] 5)).drew) (some ⟨wr.heap.size, 0, none⟩) [.int .u8 (y1 : Int), .int .u8 (z1 : Int)] := own_vals (own_made wr #[.int .u8 (y1 : Int), .int .u8 (z1 : Int)] 5 2 rfl (by unfold maxLen; omega))
      go_region_held3 (fun w' => w'.cell? (ad.add j) = some (.int .u8 (y : Int))) (first | go_keep | (with_reducible exact hc6)) ((refine wp_append_rd _ _ _ _ (by rfl) w.heap.size 5 i0 (.int .u8 0) 1 Tryd.underlying39 hi hz0 hz1 hz2 rfl (.slice (some ⟨g, 0, none⟩) (2 * j) cp) (2 * j) (Lib.byteCells bs) (by rfl) ((hown.alloc _).drew) (some ⟨wr.heap.size, 0, none⟩) 2 2 [.int .u8 (y1 : Int), .int .u8 (z1 : Int)] (by rfl) rfl hnews (twoU _ _) (by unfold maxLen; omega) (by omega) hbd.size ?_; intro v6 w6 hown6 hg6 hv6; have hb6 : Below w.heap.size w w6 := hbd.grown hg6 hbd.size (fun q hq => by cases hq; exact (hown.lt g rfl).1); have hc6 := (HR.out.below hb6).cell (bc_get HX.out); rw [HXX.out] at hc6))
      all_goals
        obtain ⟨g6, cp6, rfl⟩ := own_some hown6 (by rcases hv6 with h | h <;> rw [h] <;> simp [Value.ownBlock])
        go_wp2
        go_roundw
        case rel =>
          refine ⟨j + 1, g6, cp6, bs ++ [hexd q] ++ [hexd r], by omega, by go_num, ?_, rfl, ?_, ?_, hb6⟩
          · show _ = _
            have := hbl.out
            simp
            omega
          · show _ = _
            rw [HA.out, hbs.out]
            simp
          · rw [cells_snoc, cells_snoc, HY.out, HZ.out, List.append_assoc]
            exact hown6
        case measure => simp [intOf] <;> omega
    · obtain rfl : j = n := by omega
      have hres : Hid (bs = encL l) := by
        show _ = _
        rw [hbs.out, ← HN.out, List.take_length]
      rw [← hbl.out] at hown
      have hcv := conv_own hown
      rw [hbl.out] at hcv
      go_wp2
      go_ret
      exact ⟨by rw [← hres.out]; rfl, hb0⟩
end Go.Proofs.YtdkbmpncohhioaaDoor
