import Derived.Test.YtbplcgbfhijbcaaEc
import Derived.Test.YtbplcgbfhijbcaaEe
namespace Go.Proofs.Ytbplcgbfhijbcaa
open Go.RowKit
set_option linter.unusedVariables false
set_option linter.unusedSimpArgs false
/-- What decoding an unsigned integer leaves. -/
def UvP (w : World) (g : Nat) (l : List (BitVec 8)) (p : Nat) (e' : Ending) (w' : World) : Prop :=
  (uvE l = 0 ∧ e' = .returned (.int .u64 (uvV l : Int)) ∧ Ds w' g (l.drop (uvN l)) (p + uvN l) 0 ∧ w.grownBy w' (some g)) ∨
  (uvE l ≠ 0 ∧ e' = .returned (.int .u64 0) ∧ (∃ l' p', p' + l'.length = p + l.length ∧ Ds w' g l' p' (uvE l)) ∧ w.grownBy w' (some g))
def UvR (w : World) (g : Nat) (l : List (BitVec 8)) (p : Nat) (n i : Value) (wr : World) : Prop := ∃ k x : Nat, k ≤ 9 ∧ k ≤ l.length ∧ i = .int .i64 k ∧ n = .int .u64 x ∧
  Hid ((∀ j, j < k → 127 < byA l j) ∧ x = lowv (l.take k)) ∧ Ds wr g (l.drop k) (p + k) 0 ∧ w.grownBy wr (some g)
theorem uv_syn (l : List (BitVec 8)) (k d : Nat) (h1 : ∀ j, j < k → 127 < byA l j) (hk : k ≤ 9) (hlt : k < l.length) (hd : byA l k = d) (h : (k = 9 ∧ 1 < d) ∨ (0 < k ∧ d = 0)) : uvE l = 3 := by
  have e : kof l = k := kof_is l k h1 hk (by omega)
  unfold uvE
  rw [e, hd, if_neg (by omega), if_pos h]
theorem uv_fine (l : List (BitVec 8)) (k d x : Nat) (h1 : ∀ j, j < k → 127 < byA l j) (hk : k ≤ 9) (hlt : k < l.length) (hd : byA l k = d) (h : ¬ ((k = 9 ∧ 1 < d) ∨ (0 < k ∧ d = 0))) (h2 : d < 128) (hx : x = lowv (l.take k)) : uvE l = 0 ∧ uvV l = x + 128 ^ k * (d % 128) ∧ uvN l = k + 1 := by
  have e : kof l = k := kof_is l k h1 hk (by omega)
  refine ⟨?_, ?_, by unfold uvN; rw [e]⟩
  · unfold uvE
    rw [e, hd, if_neg (by omega), if_neg h]
  · unfold uvV
    rw [e, lowv_take l k hlt, hd, hx]
theorem uvp_ok {w w' : World} {g p : Nat} {l : List (BitVec 8)} {k x y : Nat} {z : Int} (h : uvE l = 0 ∧ uvV l = y ∧ uvN l = k + 1) (hz : z = (y : Int)) (hd : Ds w' g (l.drop (k + 1)) (p + k + 1) 0) (hg : w.grownBy w' (some g)) : UvP w g l p (.returned (.int .u64 z)) w' :=
  .inl ⟨h.1, by rw [h.2.1, hz], by rw [h.2.2]; exact hd, hg⟩
theorem uvp_bad {w w' : World} {g p x : Nat} {l l' : List (BitVec 8)} {p' : Nat} (h : uvE l = x) (hx : x ≠ 0) (hl : p' + l'.length = p + l.length) (hd : Ds w' g l' p' x) (hg : w.grownBy w' (some g)) : UvP w g l p (.returned (.int .u64 0)) w' :=
  .inr ⟨by omega, rfl, ⟨l', p', hl, by rw [h]; exact hd⟩, hg⟩
theorem uv_step9 (x k d : Nat) (hx : x < 128 ^ k) (hk : k = 9) (hd : d < 256) (h9 : d ≤ 1) :
    bits .or .u64 (x : Int) (IntKind.u64.wrap (IntKind.u64.wrap (bits .andNot .u8 (d : Int) 128) * 9223372036854775808)) = ((x + 128 ^ k * (d % 128) : Nat) : Int) := by
  have := uv_step x k d hx (by omega) hd (fun _ => h9)
  rw [show (2 : Int) ^ (7 * k) = 9223372036854775808 by rw [hk]; rfl] at this
  exact this
set_option maxRecDepth 50000 in
theorem uvar_any (g : Nat) (l : List (BitVec 8)) (p : Nat) (w : World) (hp : p + l.length ≤ 4611686018427387904) (hd : Ds w g l p 0) :
    Calls Try.prog 46 #[.pointer (some ⟨g, 0, none⟩)] w (UvP w g l p) := by
  have h2 : w.cell? ⟨g, 2, none⟩ = some (.int .i64 0) := by
    obtain ⟨a, c, hc, hr, hne, hrow⟩ := hd
    exact row_cell hrow 2
  go_enter Try.func46, Try.ntmps46
  go_wp2
  go_loopw [3, 12] (fun n i wr => UvR w g l p n i wr) (fun _ i _ => 10 - (intOf i).toNat)
  case atStart => exact ⟨0, 0, by omega, by omega, rfl, rfl, ⟨fun j h => by omega, rfl⟩, hd, grown_refl _ _⟩
  case round =>
    obtain ⟨k, x, hk, hkl, rfl, rfl, hx, hd1, hg1⟩ := hrel
    by_cases hlt : k < l.length
    · have hdr : l.drop k = l[k] :: l.drop (k + 1) := List.drop_eq_getElem_cons hlt
      obtain ⟨d, hdd⟩ : ∃ d, l[k] = d := ⟨_, rfl⟩
      rw [hdr, hdd] at hd1
      have hby : byA l k = d.toNat := by rw [byA_in l k hlt, hdd]
      have hdl := d.isLt
      have HB := Lib.hid hby
      clear hby hdr hdd
      have hxl : x < 128 ^ k := by
        rw [hx.out.2]
        have := lowv_lt (l.take k)
        rwa [List.length_take, Nat.min_eq_left (by omega)] at this
      have HX := Lib.hid hxl
      clear hxl
      go_wp2_with (first | (go_at_call 49; (with_reducible refine (next_cons g d (l.drop (k + 1)) (p + k) 0 _ (by rw [List.length_drop]; omega) hd1).mono ?_); rintro e1 w1 ⟨rfl, hd2, hg2⟩) | (go_at_call 50; (with_reducible refine (fail_any g (l.drop (k + 1)) (p + k + 1) 0 3 _ _ lit3 hd2).mono ?_); rintro e1 w2 ⟨rfl, hd3, hg3⟩))
      · go_ret
        exact uvp_bad (uv_syn l k d.toNat hx.out.1 hk hlt HB.out (.inl ⟨by omega, by omega⟩)) (by decide) (by rw [List.length_drop]; omega) hd3 (grown_trans (grown_trans hg1 hg2) hg3)
      · go_ret
        exact uvp_bad (uv_syn l k d.toNat hx.out.1 hk hlt HB.out (.inr ⟨by omega, by omega⟩)) (by decide) (by rw [List.length_drop]; omega) hd3 (grown_trans (grown_trans hg1 hg2) hg3)
      · go_ret
        exact uvp_ok (x := x) (uv_fine l k d.toNat x hx.out.1 hk hlt HB.out (by omega) (by omega) hx.out.2) (uv_step9 x k d.toNat HX.out (by omega) (by omega) (by omega)) hd2 (grown_trans hg1 hg2)
      · go_ret
        exact uvp_bad (uv_syn l k d.toNat hx.out.1 hk hlt HB.out (.inr ⟨by omega, by omega⟩)) (by decide) (by rw [List.length_drop]; omega) hd3 (grown_trans (grown_trans hg1 hg2) hg3)
      · go_ret
        exact uvp_ok (x := x) (uv_fine l k d.toNat x hx.out.1 hk hlt HB.out (by omega) (by omega) hx.out.2) (by have := uv_step x k d.toNat HX.out hk (by omega) (fun _ => by omega); simpa [*] using this) hd2 (grown_trans hg1 hg2)
      · go_ret
        exact uvp_ok (x := x) (uv_fine l k d.toNat x hx.out.1 hk hlt HB.out (by omega) (by omega) hx.out.2) (uv_step x k d.toNat HX.out hk (by omega) (fun _ => by omega)) hd2 (grown_trans hg1 hg2)
      · go_roundw
        case rel =>
          refine ⟨k + 1, x + 128 ^ k * (d.toNat % 128), by omega, by omega, by go_num, ?_, ⟨fun j hj => ?_, ?_⟩, hd2, grown_trans hg1 hg2⟩
          · rw [uv_step x k d.toNat HX.out hk (by omega) (fun _ => by omega)]
          · rcases Nat.lt_or_ge j k with h | h
            · exact hx.out.1 j h
            · obtain rfl : j = k := by omega
              rw [HB.out]; omega
          · rw [lowv_take l k hlt, HB.out, hx.out.2]
        case measure => simp [intOf]; omega
    · obtain rfl : k = l.length := by omega
      rw [List.drop_length] at hd1
      have he : uvE l = 4 := by
        unfold uvE
        rw [kof_is l l.length hx.out.1 hk (.inr (.inl (Nat.le_refl _))), if_pos (Nat.le_refl _)]
      go_wp2_with (first | (go_at_call 49; (with_reducible refine (next_nil g (p + l.length) 0 _ hd1).mono ?_); rintro e1 w1 ⟨rfl, rfl⟩) | (go_at_call 50; (with_reducible refine (fail_any g [] (p + l.length) 0 4 _ _ lit4 hd1).mono ?_); rintro e1 w1 ⟨rfl, hd2, hg2⟩))
      go_ret
      exact uvp_bad he (by decide) (by simp) hd2 (grown_trans hg1 hg2)
end Go.Proofs.Ytbplcgbfhijbcaa
