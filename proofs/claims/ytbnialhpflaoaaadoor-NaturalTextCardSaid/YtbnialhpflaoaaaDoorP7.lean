import Derived.Test.YtbnialhpflaoaaaDoorP6
import Derived.Test.YtbnialhpflaoaaaDoorShelf
import Derived.Lib.AppendIntMem
namespace Go.Proofs.YtbnialhpflaoaaaDoor
open Go.RowKit
set_option linter.unusedVariables false
set_option linter.unusedSimpArgs false
theorem own_take {w : World} {base : Nat} {e : TypeId} {g n c m : Nat} {xs : List Value} (h : w.ownsRow base e 1 (.slice (some ⟨g, 0, none⟩) n c) n xs) (hm : m ≤ n) : w.ownsRow base e 1 (.slice (some ⟨g, 0, none⟩) m c) m (xs.take m) := by
  have h0 := h.1
  refine ⟨by rw [List.length_take]; omega, .inr ?_⟩
  rcases h.2 with ⟨h1, _⟩ | ⟨g', cap, cur, h1, h2, h3, h4, h5, h6, h7⟩
  · injection h1 with h1; cases h1
  · injection h1 with e1 e2 e3
    injection e1 with e1
    injection e1 with e1
    subst e1
    exact ⟨g, cap, cur, by rw [e3], h2, h3, by omega, h5, h6, by rw [← h7, List.take_take, Nat.min_eq_left (by omega), Nat.mul_one]⟩
theorem infoStr : (Tryd.prog.info? 9).map (fun i => (i.zero, i.size, i.bytes)) = some (some (.string ⟨#[]⟩), 1, 16) := by kernel_rfl
theorem itoa9 : Lib.itoa 294967296 = [50, 57, 52, 57, 54, 55, 50, 57, 54] := by first | kernel_rfl | (simp [Lib.itoa, Lib.decDigits]) | (unfold Lib.itoa; decide)
theorem deci4 : Lib.decDigits 4 = [52] := by first | kernel_rfl | (simp [Lib.decDigits]) | decide
theorem canon4 : canon 4 = [4#32] := by rw [canon_pos (by decide), show 4 / 4294967296 = 0 from rfl, canon_zero]
theorem trim01 : trimD [0#32, 1#32] = [0#32, 1#32] := by rw [← canon_val]; show canon 4294967296 = _; rw [canon_pos (by decide), show 4294967296 / 4294967296 = 1 from rfl, canon_pos (by decide), show 1 / 4294967296 = 0 from rfl, canon_zero]; (try rfl)
theorem own_ge {w : World} {base : Nat} {e : TypeId} {g n c : Nat} {xs : List Value} (h : w.ownsRow base e 1 (.slice (some ⟨g, 0, none⟩) n c) n xs) : base ≤ g ∧ g < w.heap.size := h.lt g rfl
open Go.Lib Go.Sort in
theorem grow_below {w w' : World} (h : ∃ k os, w' = grow (w.drewN k) os) : Below w.heap.size w w' := by
  obtain ⟨k, os, rfl⟩ := h
  exact Lib.below_grow _ _ (Nat.le_refl _) _ _
def FmR (w : World) (r ch : Value) (wr : World) : Prop := Below w.heap.size w wr ∧ (
  (∃ g c, r = .slice (some ⟨g, 0, none⟩) 2 c ∧ ch = .slice none 0 0 ∧ wr.ownsRow w.heap.size 39 1 (.slice (some ⟨g, 0, none⟩) 2 c) 2 (bv32 [0#32, 1#32])) ∨
  (∃ g c h c2, r = .slice (some ⟨g, 0, none⟩) 1 c ∧ ch = .slice (some ⟨h, 0, none⟩) 1 c2 ∧ wr.ownsRow w.heap.size 39 1 (.slice (some ⟨g, 0, none⟩) 1 c) 1 (bv32 [4#32]) ∧ wr.ownsRow w.heap.size 9 1 (.slice (some ⟨h, 0, none⟩) 1 c2) 1 [.string ⟨#[50, 57, 52, 57, 54, 55, 50, 57, 54]⟩] ∧ g ≠ h) ∨
  (∃ a c h c2, r = .slice a 0 c ∧ ch = .slice (some ⟨h, 0, none⟩) 2 c2 ∧ wr.ownsRow w.heap.size 9 1 (.slice (some ⟨h, 0, none⟩) 2 c2) 2 [.string ⟨#[50, 57, 52, 57, 54, 55, 50, 57, 54]⟩, .string ⟨#[52]⟩]))
theorem dbd9 (B g n c : Nat) (l : List (BitVec 32)) (w : World) (hn : l.length = n) (hl : n ≤ 1000000) (hown : w.ownsRow B 39 1 (.slice (some ⟨g, 0, none⟩) n c) n (bv32 l)) :
    Calls Tryd.prog 48 #[.slice (some ⟨g, 0, none⟩) n c, .int .u32 1000000000] w fun e w' => e = .returned (.int .u32 (valD l % 1000000000 : Nat)) ∧ ∃ Q : List (BitVec 32), Q.length = l.length ∧ valD Q = valD l / 1000000000 ∧ w'.ownsRow B 39 1 (.slice (some ⟨g, 0, none⟩) n c) n (bv32 Q) ∧ w.grownBy w' (some g) := dbd_any B g n c 1000000000 l w hn hl (by omega) (by omega) hown
open Go.Lib Go.Sort in
theorem itoa_4 (w : World) : Calls Tryd.prog 57 #[.int .i64 4] w fun e w' => e = .returned (.string ⟨#[52]⟩) ∧ w' = w := by
  have := Tryd.strconv_Itoa_small 4 (by omega) w
  rw [deci4] at this
  exact this
open Go.Lib Go.Sort in
theorem rev2 (B h c2 : Nat) (w : World) (hown : w.ownsRow B 9 1 (.slice (some ⟨h, 0, none⟩) 2 c2) 2 [.string ⟨#[50, 57, 52, 57, 54, 55, 50, 57, 54]⟩, .string ⟨#[52]⟩]) :
    Calls Tryd.prog 59 #[.slice (some ⟨h, 0, none⟩) 2 c2] w fun e w' => e = .returned (.tuple #[]) ∧ w'.ownsRow B 9 1 (.slice (some ⟨h, 0, none⟩) 2 c2) 2 [.string ⟨#[52]⟩, .string ⟨#[50, 57, 52, 57, 54, 55, 50, 57, 54]⟩] ∧ w.grownBy w' (some h) := by
  refine (Tryd.slices_Reverse_string_cells h 0 2 c2 (fun i => if i = 0 then ⟨#[50, 57, 52, 57, 54, 55, 50, 57, 54]⟩ else ⟨#[52]⟩) w (by omega) ?_ ?_).mono ?_
  · intro i hi
    rcases i with _ | _ | i
    · exact own_cell hown 0 _ rfl
    · exact own_cell hown 1 _ rfl
    · omega
  · intro i hi
    rw [Nat.zero_add]
    exact hown.frozenAt i
  · rintro e w' ⟨rfl, q, rfl⟩
    refine ⟨rfl, ?_, ?_⟩
    · exact own_set (w := (w.drewN q).setCell ⟨h, 0, none⟩ (.string ⟨#[52]⟩)) (own_set (w := w.drewN q) hown 0 (.string ⟨#[52]⟩)) 1 (.string ⟨#[50, 57, 52, 57, 54, 55, 50, 57, 54]⟩)
    · exact World.grownBy.trans (b := w.drewN q) ⟨rfl, rfl, rfl, Nat.le_refl _, fun _ _ _ => rfl⟩ ((grownBy_set (w.drewN q) h 0 (.string ⟨#[52]⟩)).trans (grownBy_set _ h 1 (.string ⟨#[50, 57, 52, 57, 54, 55, 50, 57, 54]⟩)))
theorem join2 (B h c2 : Nat) (w : World) (hown : w.ownsRow B 9 1 (.slice (some ⟨h, 0, none⟩) 2 c2) 2 [.string ⟨#[52]⟩, .string ⟨#[50, 57, 52, 57, 54, 55, 50, 57, 54]⟩]) :
    Calls Tryd.prog 60 #[.slice (some ⟨h, 0, none⟩) 2 c2, .string ⟨#[]⟩] w fun e w' => e = .returned (.string ⟨#[52, 50, 57, 52, 57, 54, 55, 50, 57, 54]⟩) ∧ Below w.heap.size w w' := by
  have hJ := Tryd.strings_Join h 0 c2 [⟨#[52]⟩, ⟨#[50, 57, 52, 57, 54, 55, 50, 57, 54]⟩] ⟨#[]⟩ w ?_ (own_ge hown).2 (by decide) (own_cap hown) (by decide)
  · exact hJ
  · intro j x hx
    rcases j with _ | _ | j
    · injection hx with hx; subst hx; exact own_cell hown 0 _ rfl
    · injection hx with hx; subst hx; exact own_cell hown 1 _ rfl
    · simp at hx
set_option maxRecDepth 50000 in
set_option maxHeartbeats 2000000 in
theorem format01 (a : Option Addr) (c : Nat) (w : World) (hc : 2 ≤ c) (hr : Rw w a [0#32, 1#32]) (hT : ∀ W, Below w.heap.size w W → Lib.TabIs Tryd.prog W "internal/strconv.uint64pow10" .u64 Lib.pow10Tab) :
    Calls Tryd.prog 40 #[.slice a 2 c] w fun e w' => e = .returned (.string ⟨#[52, 50, 57, 52, 57, 54, 55, 50, 57, 54]⟩) ∧ Below w.heap.size w w' := by
  have ht := trim01
  obtain ⟨i0, hi, hz0, hz1, hz2⟩ := info_parts infoStr
  go_enter Tryd.func40, Tryd.ntmps40
  go_wp2_with (go_at_call 19; (with_reducible refine (nnorm_any a 2 c [0#32, 1#32] _ rfl hc (by simp) hr).mono ?_); rintro e w1 ⟨a1, c1, rfl, hown1, hb1⟩; rw [ht] at hown1; rw [ht])
  obtain ⟨g, rfl, hg⟩ := own_form hown1 (by simp)
  go_loopw [3, 4, 5] (fun r ch _ wr => FmR w r ch wr) (fun r _ _ _ => match r with | .slice _ k _ => k | _ => 0)
  case atStart => exact ⟨hb1, .inl ⟨g, c1, rfl, rfl, hown1⟩⟩
  case round =>
    obtain ⟨hb, hst⟩ := hrel
    rcases hst with ⟨g, c, rfl, rfl, hown⟩ | ⟨g, c, h, c2, rfl, rfl, hown, hch, hgh⟩ | ⟨a, c, h, c2, rfl, rfl, hch⟩
    · have hm0 : valD [0#32, 1#32] % 1000000000 = 294967296 := by decide
      have hd0 : valD [0#32, 1#32] / 1000000000 = 4 := by decide
      have hcat : (⟨#[]⟩ : ByteArray) ++ ⟨#[50, 57, 52, 57, 54, 55, 50, 57, 54]⟩ = ⟨#[50, 57, 52, 57, 54, 55, 50, 57, 54]⟩ := by rfl
      have hone : ∀ u ∈ [Value.string ⟨#[50, 57, 52, 57, 54, 55, 50, 57, 54]⟩], u.oneCell' = true := by
        intro u hu
        simp at hu
        subst hu
        rfl
      go_wp2_with (first
        | (go_at_call 48; (with_reducible refine (dbd9 w.heap.size g 2 c [0#32, 1#32] _ rfl (by omega) hown).mono ?_); rintro e w2 ⟨rfl, Q, hQl, hQv, hown2, hg2⟩; have hb2 : Below w.heap.size w w2 := hb.grown hg2 hb.size (fun q hq => by cases hq; exact (own_ge hown).1); rw [hd0] at hQv; have hQ2 : Q.length = 2 := hQl; have hQ4 : trimD Q = [4#32] := by rw [← canon_val, hQv, canon4]
           rw [hm0])
        | (go_at_call 57; (with_reducible refine (Tryd.strconv_Itoa 294967296 (by omega) (by omega) _ (hT _ hb2)).mono ?_); rintro e w3 ⟨rfl, hw3⟩; have hb23 : Below w2.heap.size w2 w3 := grow_below hw3; have hown3 := own_below hown2 hb23; have hb3 := hb2.trans (hb23.mono hb2.size); rw [itoa9])
        | (go_at_call 43; (with_reducible refine (trim_any _ 2 c Q _ hQ2 (own_cap hown3) (by omega) (Rw.of_own hown3)).mono ?_); rintro e w4 ⟨rfl, rfl⟩; rw [hQ4])
        | (go_at_call 58; (with_reducible refine (Tryd.strings_Repeat_zero _ _).mono ?_); rintro e w5 ⟨rfl, rfl⟩)
        | (at_builtin; refine wpList_append_rd _ rfl _ _ _ rfl w.heap.size 9 i0 (.string ⟨#[]⟩) 16 Tryd.underlying61 hi hz0 hz1 hz2 rfl (.slice none 0 0) 0 [] rfl (World.ownsRow_nil _ _ _ _) _ 1 1 [.string ⟨#[50, 57, 52, 57, 54, 55, 50, 57, 54]⟩] rfl rfl (fun j u hu => ⟨_, rfl, cell_one_new _ _ _ j u hu⟩) hone (by unfold maxLen; omega) (by omega) (hb3.alloc hb3.size _).size ?_; intro v' w6 hown6 hg6 hv6; have hb3a := hb3.alloc hb3.size (.cells #[.string ⟨#[50, 57, 52, 57, 54, 55, 50, 57, 54]⟩] 9); have hb6 : Below w.heap.size w w6 := hb3a.grown hg6 hb3a.size (fun q hq => by cases hq); have hown3a := hown3.alloc (.cells #[.string ⟨#[50, 57, 52, 57, 54, 55, 50, 57, 54]⟩] 9); have hown7 := hown3a.kept hg6 (.inr (by simp [Value.ownBlock]))))
      have hown8 := own_take hown7 (show 1 ≤ 2 by omega)
      have hq1 : (bv32 Q).take 1 = bv32 [4#32] := by
        have h1 := trim_prefix Q
        rw [hQ4] at h1
        rw [h1]
        simp [bv32, List.map_take]
      rw [hq1] at hown8
      obtain ⟨a', c', rfl⟩ := own_slice hown6
      obtain ⟨h, rfl, hh⟩ := own_form hown6 (by omega)
      have hgl := (own_ge hown3).2
      go_roundw
      case rel =>
        refine ⟨hb6, .inr (.inl ⟨g, c, h, c', rfl, rfl, hown8, hown6, ?_⟩)⟩
        rcases hv6 with h1 | h1
        · cases h1
        · injection h1 with h1
          simp at h1
          omega
      case measure => simp
    · have hm0 : valD [4#32] % 1000000000 = 4 := by decide
      have hd0 : valD [4#32] / 1000000000 = 0 := by decide
      have hone : ∀ u ∈ [Value.string ⟨#[52]⟩], u.oneCell' = true := by
        intro u hu
        simp at hu
        subst hu
        rfl
      go_wp2_with (first
        | (go_at_call 48; (with_reducible refine (dbd9 w.heap.size g 1 c [4#32] _ rfl (by omega) hown).mono ?_); rintro e w2 ⟨rfl, Q, hQl, hQv, hown2, hg2⟩; have hb2 : Below w.heap.size w w2 := hb.grown hg2 hb.size (fun q hq => by cases hq; exact (own_ge hown).1); rw [hd0] at hQv; have hQ2 : Q.length = 1 := hQl; have hQ4 : trimD Q = [] := by rw [← canon_val, hQv, canon_zero]
           have hch2 := hch.kept hg2 (.inr (fun e => hgh (Option.some.inj e).symm))
           rw [hm0])
        | (go_at_call 57; (with_reducible refine (itoa_4 _).mono ?_); rintro e w3 ⟨rfl, rfl⟩)
        | (go_at_call 43; (with_reducible refine (trim_any _ 1 c Q _ hQ2 (own_cap hown2) (by omega) (Rw.of_own hown2)).mono ?_); rintro e w4 ⟨rfl, rfl⟩; rw [hQ4])
        | (at_builtin; refine wpList_append_rd _ rfl _ _ _ rfl w.heap.size 9 i0 (.string ⟨#[]⟩) 16 Tryd.underlying61 hi hz0 hz1 hz2 rfl (.slice (some ⟨h, 0, none⟩) 1 c2) 1 [.string ⟨#[50, 57, 52, 57, 54, 55, 50, 57, 54]⟩] rfl (hch2.alloc _) _ 1 1 [.string ⟨#[52]⟩] rfl rfl (fun j u hu => ⟨_, rfl, cell_one_new _ _ _ j u hu⟩) hone (by unfold maxLen; omega) (by omega) (hb2.alloc hb2.size _).size ?_; intro v' w6 hown6 hg6 hv6; have hb3a := hb2.alloc hb2.size (.cells #[.string ⟨#[52]⟩] 9); have hb6 : Below w.heap.size w w6 := hb3a.grown hg6 hb3a.size (fun q hq => by cases hq; exact (own_ge hch2).1)))
      obtain ⟨a', c', rfl⟩ := own_slice hown6
      obtain ⟨h', rfl, hh⟩ := own_form hown6 (by omega)
      go_roundw
      case rel => exact ⟨hb6, .inr (.inr ⟨some ⟨g, 0, none⟩, c, h', c', rfl, rfl, hown6⟩)⟩
      case measure => simp
    · go_wp2_with (first
        | (go_at_call 59; (with_reducible refine (rev2 w.heap.size h c2 _ hch).mono ?_); rintro e w2 ⟨rfl, hown2, hg2⟩; have hb2 : Below w.heap.size w w2 := hb.grown hg2 hb.size (fun q hq => by cases hq; exact (own_ge hch).1))
        | (go_at_call 60; (with_reducible refine (join2 w.heap.size h c2 _ hown2).mono ?_); rintro e w3 ⟨rfl, hb3⟩))
      go_ret
      exact ⟨rfl, hb2.trans (hb3.mono hb2.size)⟩
end Go.Proofs.YtbnialhpflaoaaaDoor
