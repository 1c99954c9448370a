import Derived.Test.YtolnchfgdkeamaaDoorQ1
import Derived.WalkKit
import Derived.WalkSpells
import Derived.WalkLawsBesides
import Derived.Lib.Hide
import Derived.Below
import Derived.Deep.QuietTactic
import Derived.BigQuiet
import Derived.IntWalk
import Derived.Laws.BitsAllLaws
namespace Go.Proofs.YtolnchfgdkeamaaDoor
open Go.RowKit
set_option linter.unusedVariables false
set_option linter.unusedSimpArgs false
def hexL : List UInt8 := [48, 49, 50, 51, 52, 53, 54, 55, 56, 57, 97, 98, 99, 100, 101, 102]
def hexi (c : UInt8) : Int := match hexv c with | some a => (a : Int) | none => -1
theorem idx_hex (c : UInt8) : Lib.indexByte hexL c = hexi c := by
  revert c
  exact all256 (by decide +kernel)
theorem hexv_lt (c : UInt8) (a : Nat) (h : hexv c = some a) : a < 16 := (hexd_hexv c a h).1
theorem shl4 (a b : Nat) (ha : a < 16) (hb : b < 16) : bits .or .i64 ((a : Int) * 16) (b : Int) % 256 = ((16 * a + b : Nat) : Int) := by
  have key : ∀ x y : Fin 16, bits .or .i64 ((x.val : Int) * 16) (y.val : Int) % 256 = ((16 * x.val + y.val : Nat) : Int) := by decide +kernel
  exact key ⟨a, ha⟩ ⟨b, hb⟩
def esN (h l : UInt8) : Nat := match hexv h, hexv l with
  | some a, some b => 16 * a + b
  | _, _ => 0
theorem es_some {h l c : UInt8} (e : es2 h l = some c) : c.toNat = esN h l := by
  unfold es2 at e
  unfold esN
  cases h1 : hexv h with
  | none => rw [h1] at e; cases e
  | some a =>
    cases h2 : hexv l with
    | none => rw [h1, h2] at e; cases e
    | some b =>
      rw [h1, h2] at e
      have a1 := hexv_lt h a h1
      have b1 := hexv_lt l b h2
      simp only at e ⊢
      split at e
      · cases e
      · cases e
        show (BitVec.ofNat 8 (16 * a + b)).toNat = _
        rw [BitVec.toNat_ofNat]
        omega
theorem esN_lt (h l : UInt8) : esN h l < 256 := by
  unfold esN
  cases h1 : hexv h with
  | none => simp
  | some a =>
    cases h2 : hexv l with
    | none => simp
    | some b =>
      have a1 := hexv_lt h a h1
      have b1 := hexv_lt l b h2
      simp only
      omega
def EsR (h l : UInt8) (e : Ending) : Prop := e = .returned (.tuple #[.int .u8 (esN h l : Nat), .bool (es2 h l).isSome])
set_option maxRecDepth 50000 in
set_option maxHeartbeats 1000000 in
theorem escaped_any (h l : UInt8) (w : World) : Calls Tryd.prog 26 #[.int .u8 h.toNat, .int .u8 l.toNat] w fun e w' => EsR h l e ∧ w = w' := by
  have H : ∀ (c : UInt8) W, Calls Tryd.prog 35 #[.string ⟨#[48, 49, 50, 51, 52, 53, 54, 55, 56, 57, 97, 98, 99, 100, 101, 102]⟩, .int .u8 c.toNat] W fun e w' => e = .returned (.int .i64 (hexi c)) ∧ W = w' := by
    intro c W
    have := idx_any ⟨#[48, 49, 50, 51, 52, 53, 54, 55, 56, 57, 97, 98, 99, 100, 101, 102]⟩ hexL c W rfl
    rw [idx_hex] at this
    exact this
  have H1 := fun W => H h W
  have H2 := fun W => H l W
  obtain ⟨x, hx⟩ : ∃ x, h.toNat = x := ⟨_, rfl⟩
  obtain ⟨y, hy⟩ : ∃ y, l.toNat = y := ⟨_, rfl⟩
  have HE : Hid (es2 h l = match hexv h, hexv l with
    | some a, some b => if lit (UInt8.ofNat (16 * a + b)) then none else some (UInt8.ofNat (16 * a + b))
    | _, _ => none) := by show _ = _; rfl
  have B1 := fun a => hexv_lt h a
  have B2 := fun a => hexv_lt l a
  simp only [hx] at H1 ⊢
  simp only [hy] at H2 ⊢
  unfold hexi at H1 H2
  obtain ⟨p, hp⟩ : ∃ p, hexv h = p := ⟨_, rfl⟩
  obtain ⟨q, hq⟩ : ∃ q, hexv l = q := ⟨_, rfl⟩
  rw [hp] at H1 B1
  rw [hq] at H2 B2
  have HP := Lib.hid hp
  have HQ := Lib.hid hq
  clear hx hy hp hq H
  cases p with
  | none =>
    have H1' := Lib.hid H1
    have H2' := Lib.hid H2
    clear H1 H2 B1 B2
    go_enter Tryd.func26, Tryd.ntmps26
    go_wp2_with (go_at_call 35; go_loud (first
      | ((with_reducible refine (H1'.out _).mono ?_); rintro e w1 ⟨rfl, rfl⟩)
      | ((with_reducible refine (H2'.out _).mono ?_); rintro e w1 ⟨rfl, rfl⟩)))
    all_goals
      go_ret2
      refine ⟨?_, rfl⟩
      unfold EsR esN
      rw [HE.out, HP.out]
      rfl
  | some a =>
    have ha := B1 a rfl
    cases q with
    | none =>
      have H1' := Lib.hid H1
      have H2' := Lib.hid H2
      clear H1 H2 B1 B2
      go_enter Tryd.func26, Tryd.ntmps26
      go_wp2_with (go_at_call 35; go_loud (first
        | ((with_reducible refine (H1'.out _).mono ?_); rintro e w1 ⟨rfl, rfl⟩)
        | ((with_reducible refine (H2'.out _).mono ?_); rintro e w1 ⟨rfl, rfl⟩)))
      all_goals
        go_ret2
        refine ⟨?_, rfl⟩
        unfold EsR esN
        rw [HE.out, HP.out, HQ.out]
        rfl
    | some b =>
      have hb := B2 b rfl
      have H1' := Lib.hid H1
      have H2' := Lib.hid H2
      have hv := shl4 a b ha hb
      obtain ⟨v, hv2⟩ : ∃ v, 16 * a + b = v := ⟨_, rfl⟩
      rw [hv2] at hv
      have hc : (UInt8.ofNat v).toNat = v := by
        show (BitVec.ofNat 8 v).toNat = _
        rw [BitVec.toNat_ofNat]
        omega
      have HL : ∀ W, Calls Tryd.prog 24 #[.int .u8 v] W fun e w' => e = .returned (.bool (lit (UInt8.ofNat v))) ∧ W = w' := by
        intro W
        have := lit_any (UInt8.ofNat v) W
        rw [hc] at this
        exact this
      have HL' := Lib.hid HL
      have HC := Lib.hid hc
      have HV := Lib.hid hv2
      clear H1 H2 B1 B2 HL hc hv2
      go_enter Tryd.func26, Tryd.ntmps26
      go_wp2_with (first
        | (go_at_call 35; (first
            | ((with_reducible refine (H1'.out _).mono ?_); rintro e w1 ⟨rfl, rfl⟩)
            | ((with_reducible refine (H2'.out _).mono ?_); rintro e w1 ⟨rfl, rfl⟩)))
        | (go_at_call 24; go_loud ((with_reducible refine (HL'.out _).mono ?_); rintro e w1 ⟨rfl, rfl⟩)))
      all_goals
        go_ret2
        refine ⟨?_, rfl⟩
        unfold EsR esN
        rw [HE.out, HP.out, HQ.out]
        simp only [HV.out]
        cases lit (UInt8.ofNat v) <;> rfl
end Go.Proofs.YtolnchfgdkeamaaDoor
