
import Derived.Test.YtdkbmpncohhioaaGreatDoorU5
import Derived.Maps.OwnRows
import Derived.RangeFuncBox
import Derived.Test.YtdkbmpncohhioaaGreatDoorShelf
import Derived.Lib.AppendIntMem
import Derived.Test.YtdkbmpncohhioaaGreatDoorU2
/- P6 -/
namespace Go.Proofs.YtdkbmpncohhioaaGreatDoor
open Go.RowKit
set_option linter.unusedVariables false
set_option linter.unusedSimpArgs false
theorem grownBy_set (W : World) (b o : Nat) (v : Value) : W.grownBy (W.setCell ⟨b, o, none⟩ v) (some b) :=
  ⟨rfl, rfl, rfl, (KeepsWalks.setCell W _ v).size, fun k _ hk => Below.heap_setCell _ _ _ k (fun e => hk (by rw [e]))⟩
theorem grownBy_same (W : World) (row : Option Nat) : W.grownBy W row := ⟨rfl, rfl, rfl, Nat.le_refl _, fun _ _ _ => rfl⟩
def DbR (w : World) (B : Nat) (l : List (BitVec 32)) (d g n c : Nat) (r i : Value) (wr : World) : Prop := ∃ (p ρ : Nat) (Q : List (BitVec 32)), p ≤ l.length ∧ i = .int .i64 ((p : Int) - 1) ∧ r = .int .u64 ρ ∧ ρ < d ∧
  Hid (Q.length = l.length ∧ Q.take p = l.take p ∧ valD (l.drop p) = d * valD (Q.drop p) + ρ) ∧
  wr.ownsRow B 42 1 (.slice (some ⟨g, 0, none⟩) n c) n (bv32 Q) ∧ w.grownBy wr (some g)
theorem dbd_num (x V W d ρ t q r : Nat) (ht : ρ * 4294967296 + x = t) (hq : t / d = q) (hr : t % d = r) (h : V = d * W + ρ) : x + 4294967296 * V = d * (q + 4294967296 * W) + r := by
  have h1 := Nat.div_add_mod t d
  rw [hq, hr] at h1
  subst h
  grind
set_option maxRecDepth 50000 in
set_option maxHeartbeats 1000000 in
theorem dbd_any (B g n c d : Nat) (l : List (BitVec 32)) (w : World) (hn : l.length = n) (hl : n ≤ 1000000) (hd : 0 < d) (hd2 : d < 4294967296) (hown : w.ownsRow B 42 1 (.slice (some ⟨g, 0, none⟩) n c) n (bv32 l)) :
    Calls Tryz.prog 85 #[.slice (some ⟨g, 0, none⟩) n c, .int .u32 d] w fun e w' => e = .returned (.int .u32 (valD l % d : Nat)) ∧ ∃ Q : List (BitVec 32), Q.length = l.length ∧ valD Q = valD l / d ∧ w'.ownsRow B 42 1 (.slice (some ⟨g, 0, none⟩) n c) n (bv32 Q) ∧ w.grownBy w' (some g) := by
  subst hn
  have hdz : ((d : Int) == 0) = false := by rw [beq_eq_false_iff_ne]; omega
  go_enter Tryz.func85, Tryz.ntmps85
  go_wp2
  go_loopw [5, 6] (fun r i wr => DbR w B l d g l.length c r i wr) (fun _ i _ => (intOf i + 1).toNat)
  case atStart => exact ⟨l.length, 0, l, Nat.le_refl _, by go_num, rfl, hd, ⟨rfl, rfl, by simp [List.drop_length, valD_nil]⟩, hown, grownBy_same _ _⟩
  case round =>
    obtain ⟨p, ρ, Q, hp, rfl, rfl, hρ, hq, hown2, hg⟩ := hrel
    rcases Nat.eq_zero_or_pos p with rfl | hp0
    · have hres : Hid (valD l % d = ρ ∧ valD Q = valD l / d) := by
        have h := hq.out.2.2
        rw [List.drop_zero, List.drop_zero] at h
        rw [h]
        exact ⟨by rw [Nat.mul_add_mod, Nat.mod_eq_of_lt hρ], by rw [Nat.mul_add_div hd, Nat.div_eq_of_lt hρ, Nat.add_zero]⟩
      have hρ2 : ρ < 4294967296 := by omega
      go_wp2
      go_ret
      exact ⟨by rw [hres.out.1]; rfl, Q, hq.out.1, hres.out.2, hown2, hg⟩
    · obtain ⟨j, rfl⟩ : ∃ j, p = j + 1 := ⟨p - 1, by omega⟩
      have hj : j < Q.length := by rw [hq.out.1]; omega
      have hjl : j < l.length := by omega
      obtain ⟨x, hx⟩ : ∃ x, Q[j].toNat = x := ⟨_, rfl⟩
      have hc := own_cell hown2 j (.int .u32 (Q[j].toNat : Int)) (by simp [bv32, hj])
      have hf := hown2.frozenAt j
      have e1 := Q[j].isLt
      rw [hx] at hc e1
      have HX : Hid (l[j].toNat = x) := by
        show _ = _
        have h := congrArg (fun z : List (BitVec 32) => z[j]?) hq.out.2.1
        simp [List.getElem?_take, hj, hjl] at h
        rw [← h]; exact hx
      have ho := or_num ρ x (by omega) e1
      obtain ⟨t, ht⟩ : ∃ t, ρ * 4294967296 + x = t := ⟨_, rfl⟩
      rw [ht] at ho
      obtain ⟨q, hqq⟩ : ∃ q, t / d = q := ⟨_, rfl⟩
      obtain ⟨r, hrr⟩ : ∃ r, t % d = r := ⟨_, rfl⟩
      have hqi : (t : Int) / (d : Int) = (q : Int) := by rw [← hqq]; simp
      have hri : (t : Int) % (d : Int) = (r : Int) := by rw [← hrr]; simp
      have hqt : (t : Int).tdiv (d : Int) = (q : Int) := by rw [← hqq, Int.tdiv_eq_ediv_of_nonneg (by omega)]; simp
      have hrt : (t : Int).tmod (d : Int) = (r : Int) := by rw [← hrr, Int.tmod_eq_emod_of_nonneg (by omega)]; simp
      have hqb : q < 4294967296 := by
        rw [← hqq, Nat.div_lt_iff_lt_mul hd]
        have : (ρ + 1) * 4294967296 ≤ d * 4294967296 := Nat.mul_le_mul_right _ (by omega)
        omega
      have hrb : r < d := by rw [← hrr]; exact Nat.mod_lt _ hd
      have htb : t < 18446744073709551616 := by omega
      have HT := Lib.hid ht
      have HQQ := Lib.hid hqq
      have HRR := Lib.hid hrr
      have HJ := Lib.hid hj
      clear ht hqq hrr hx
      go_wp2
      go_roundw
      case rel =>
        refine ⟨j, r, Q.set j (BitVec.ofNat 32 q), by omega, by go_num, by go_num, hrb, ⟨?_, ?_, ?_⟩, ?_, ?_⟩
        · rw [List.length_set]; exact hq.out.1
        · rw [List.take_set_of_le (Nat.le_refl _)]
          have h := congrArg (List.take j) hq.out.2.1
          rwa [List.take_take, List.take_take, Nat.min_eq_left (by omega)] at h
        · have h1 : valD (l.drop j) = x + 4294967296 * valD (l.drop (j + 1)) := by rw [drop_dig, digD_in _ _ hjl, HX.out]
          have h2 : valD ((Q.set j (BitVec.ofNat 32 q)).drop j) = q + 4294967296 * valD (Q.drop (j + 1)) := by
            rw [drop_dig, digD_in _ _ (by rw [List.length_set]; exact HJ.out), List.getElem_set_self, List.drop_set_of_lt (by omega), BitVec.toNat_ofNat, Nat.mod_eq_of_lt hqb]
          rw [h1, h2]
          exact dbd_num _ _ _ _ _ _ _ _ HT.out HQQ.out HRR.out hq.out.2.2
        · have := own_set hown2 j (.int .u32 (q : Int))
          rw [bv32_set]
          rw [show ((BitVec.ofNat 32 q).toNat : Int) = (q : Int) by rw [toNat32]; omega]
          exact this
        · exact hg.trans (grownBy_set _ _ _ _)
      case measure => simp [intOf] <;> omega
end Go.Proofs.YtdkbmpncohhioaaGreatDoor

/- P7 -/
namespace Go.Proofs.YtdkbmpncohhioaaGreatDoor
open Go.RowKit
set_option linter.unusedVariables false
set_option linter.unusedSimpArgs false
theorem own_take {w : World} {base : Nat} {e : TypeId} {g n c m : Nat} {xs : List Value} (h : w.ownsRow base e 1 (.slice (some ⟨g, 0, none⟩) n c) n xs) (hm : m ≤ n) : w.ownsRow base e 1 (.slice (some ⟨g, 0, none⟩) m c) m (xs.take m) := by
  have h0 := h.1
  refine ⟨by rw [List.length_take]; omega, .inr ?_⟩
  rcases h.2 with ⟨h1, _⟩ | ⟨g', cap, cur, h1, h2, h3, h4, h5, h6, h7⟩
  · injection h1 with h1; cases h1
  · injection h1 with e1 e2 e3
    injection e1 with e1
    injection e1 with e1
    subst e1
    exact ⟨g, cap, cur, by rw [e3], h2, h3, by omega, h5, h6, by rw [← h7, List.take_take, Nat.min_eq_left (by omega), Nat.mul_one]⟩
theorem infoStr : (Tryz.prog.info? 9).map (fun i => (i.zero, i.size, i.bytes)) = some (some (.string ⟨#[]⟩), 1, 16) := by kernel_rfl
theorem itoa9 : Lib.itoa 294967296 = [50, 57, 52, 57, 54, 55, 50, 57, 54] := by first | kernel_rfl | (simp [Lib.itoa, Lib.decDigits]) | (unfold Lib.itoa; decide)
theorem deci4 : Lib.decDigits 4 = [52] := by first | kernel_rfl | (simp [Lib.decDigits]) | decide
theorem canon4 : canon 4 = [4#32] := by rw [canon_pos (by decide), show 4 / 4294967296 = 0 from rfl, canon_zero]
theorem trim01 : trimD [0#32, 1#32] = [0#32, 1#32] := by rw [← canon_val]; show canon 4294967296 = _; rw [canon_pos (by decide), show 4294967296 / 4294967296 = 1 from rfl, canon_pos (by decide), show 1 / 4294967296 = 0 from rfl, canon_zero]; (try rfl)
theorem own_ge {w : World} {base : Nat} {e : TypeId} {g n c : Nat} {xs : List Value} (h : w.ownsRow base e 1 (.slice (some ⟨g, 0, none⟩) n c) n xs) : base ≤ g ∧ g < w.heap.size := h.lt g rfl
open Go.Lib Go.Sort in
theorem grow_below {w w' : World} (h : ∃ k os, w' = grow (w.drewN k) os) : Below w.heap.size w w' := by
  obtain ⟨k, os, rfl⟩ := h
  exact Lib.below_grow _ _ (Nat.le_refl _) _ _
def FmR (w : World) (r ch : Value) (wr : World) : Prop := Below w.heap.size w wr ∧ (
  (∃ g c, r = .slice (some ⟨g, 0, none⟩) 2 c ∧ ch = .slice none 0 0 ∧ wr.ownsRow w.heap.size 42 1 (.slice (some ⟨g, 0, none⟩) 2 c) 2 (bv32 [0#32, 1#32])) ∨
  (∃ g c h c2, r = .slice (some ⟨g, 0, none⟩) 1 c ∧ ch = .slice (some ⟨h, 0, none⟩) 1 c2 ∧ wr.ownsRow w.heap.size 42 1 (.slice (some ⟨g, 0, none⟩) 1 c) 1 (bv32 [4#32]) ∧ wr.ownsRow w.heap.size 9 1 (.slice (some ⟨h, 0, none⟩) 1 c2) 1 [.string ⟨#[50, 57, 52, 57, 54, 55, 50, 57, 54]⟩] ∧ g ≠ h) ∨
  (∃ a c h c2, r = .slice a 0 c ∧ ch = .slice (some ⟨h, 0, none⟩) 2 c2 ∧ wr.ownsRow w.heap.size 9 1 (.slice (some ⟨h, 0, none⟩) 2 c2) 2 [.string ⟨#[50, 57, 52, 57, 54, 55, 50, 57, 54]⟩, .string ⟨#[52]⟩]))
theorem dbd9 (B g n c : Nat) (l : List (BitVec 32)) (w : World) (hn : l.length = n) (hl : n ≤ 1000000) (hown : w.ownsRow B 42 1 (.slice (some ⟨g, 0, none⟩) n c) n (bv32 l)) :
    Calls Tryz.prog 85 #[.slice (some ⟨g, 0, none⟩) n c, .int .u32 1000000000] w fun e w' => e = .returned (.int .u32 (valD l % 1000000000 : Nat)) ∧ ∃ Q : List (BitVec 32), Q.length = l.length ∧ valD Q = valD l / 1000000000 ∧ w'.ownsRow B 42 1 (.slice (some ⟨g, 0, none⟩) n c) n (bv32 Q) ∧ w.grownBy w' (some g) := dbd_any B g n c 1000000000 l w hn hl (by omega) (by omega) hown
open Go.Lib Go.Sort in
theorem itoa_4 (w : World) : Calls Tryz.prog 84 #[.int .i64 4] w fun e w' => e = .returned (.string ⟨#[52]⟩) ∧ w' = w := by
  have := Tryz.strconv_Itoa_small 4 (by omega) w
  rw [deci4] at this
  exact this
open Go.Lib Go.Sort in
theorem rev2 (B h c2 : Nat) (w : World) (hown : w.ownsRow B 9 1 (.slice (some ⟨h, 0, none⟩) 2 c2) 2 [.string ⟨#[50, 57, 52, 57, 54, 55, 50, 57, 54]⟩, .string ⟨#[52]⟩]) :
    Calls Tryz.prog 87 #[.slice (some ⟨h, 0, none⟩) 2 c2] w fun e w' => e = .returned (.tuple #[]) ∧ w'.ownsRow B 9 1 (.slice (some ⟨h, 0, none⟩) 2 c2) 2 [.string ⟨#[52]⟩, .string ⟨#[50, 57, 52, 57, 54, 55, 50, 57, 54]⟩] ∧ w.grownBy w' (some h) := by
  refine (Tryz.slices_Reverse_string_cells h 0 2 c2 (fun i => if i = 0 then ⟨#[50, 57, 52, 57, 54, 55, 50, 57, 54]⟩ else ⟨#[52]⟩) w (by omega) ?_ ?_).mono ?_
  · intro i hi
    rcases i with _ | _ | i
    · exact own_cell hown 0 _ rfl
    · exact own_cell hown 1 _ rfl
    · omega
  · intro i hi
    rw [Nat.zero_add]
    exact hown.frozenAt i
  · rintro e w' ⟨rfl, q, rfl⟩
    refine ⟨rfl, ?_, ?_⟩
    · exact own_set (w := (w.drewN q).setCell ⟨h, 0, none⟩ (.string ⟨#[52]⟩)) (own_set (w := w.drewN q) hown 0 (.string ⟨#[52]⟩)) 1 (.string ⟨#[50, 57, 52, 57, 54, 55, 50, 57, 54]⟩)
    · exact World.grownBy.trans (b := w.drewN q) ⟨rfl, rfl, rfl, Nat.le_refl _, fun _ _ _ => rfl⟩ ((grownBy_set (w.drewN q) h 0 (.string ⟨#[52]⟩)).trans (grownBy_set _ h 1 (.string ⟨#[50, 57, 52, 57, 54, 55, 50, 57, 54]⟩)))
theorem join2 (B h c2 : Nat) (w : World) (hown : w.ownsRow B 9 1 (.slice (some ⟨h, 0, none⟩) 2 c2) 2 [.string ⟨#[52]⟩, .string ⟨#[50, 57, 52, 57, 54, 55, 50, 57, 54]⟩]) :
    Calls Tryz.prog 88 #[.slice (some ⟨h, 0, none⟩) 2 c2, .string ⟨#[]⟩] w fun e w' => e = .returned (.string ⟨#[52, 50, 57, 52, 57, 54, 55, 50, 57, 54]⟩) ∧ Below w.heap.size w w' := by
  have hJ := Tryz.strings_Join h 0 c2 [⟨#[52]⟩, ⟨#[50, 57, 52, 57, 54, 55, 50, 57, 54]⟩] ⟨#[]⟩ w ?_ (own_ge hown).2 (by decide) (own_cap hown) (by decide)
  · exact hJ
  · intro j x hx
    rcases j with _ | _ | j
    · injection hx with hx; subst hx; exact own_cell hown 0 _ rfl
    · injection hx with hx; subst hx; exact own_cell hown 1 _ rfl
    · simp at hx
set_option maxRecDepth 50000 in
set_option maxHeartbeats 2000000 in
theorem format01 (a : Option Addr) (c : Nat) (w : World) (hc : 2 ≤ c) (hr : Rw w a [0#32, 1#32]) (hT : ∀ W, Below w.heap.size w W → Lib.TabIs Tryz.prog W "internal/strconv.uint64pow10" .u64 Lib.pow10Tab) :
    Calls Tryz.prog 53 #[.slice a 2 c] w fun e w' => e = .returned (.string ⟨#[52, 50, 57, 52, 57, 54, 55, 50, 57, 54]⟩) ∧ Below w.heap.size w w' := by
  have ht := trim01
  obtain ⟨i0, hi, hz0, hz1, hz2⟩ := info_parts infoStr
  go_enter Tryz.func53, Tryz.ntmps53
  go_wp2_with (go_at_call 83; (with_reducible refine (nnorm_any a 2 c [0#32, 1#32] _ rfl hc (by simp) hr).mono ?_); rintro e w1 ⟨a1, c1, rfl, hown1, hb1⟩; rw [ht] at hown1; rw [ht])
  obtain ⟨g, rfl, hg⟩ := own_form hown1 (by simp)
  go_loopw [3, 4, 5] (fun r ch _ wr => FmR w r ch wr) (fun r _ _ _ => match r with | .slice _ k _ => k | _ => 0)
  case atStart => exact ⟨hb1, .inl ⟨g, c1, rfl, rfl, hown1⟩⟩
  case round =>
    obtain ⟨hb, hst⟩ := hrel
    rcases hst with ⟨g, c, rfl, rfl, hown⟩ | ⟨g, c, h, c2, rfl, rfl, hown, hch, hgh⟩ | ⟨a, c, h, c2, rfl, rfl, hch⟩
    · have hm0 : valD [0#32, 1#32] % 1000000000 = 294967296 := by decide
      have hd0 : valD [0#32, 1#32] / 1000000000 = 4 := by decide
      have hcat : (⟨#[]⟩ : ByteArray) ++ ⟨#[50, 57, 52, 57, 54, 55, 50, 57, 54]⟩ = ⟨#[50, 57, 52, 57, 54, 55, 50, 57, 54]⟩ := by rfl
      have hone : ∀ u ∈ [Value.string ⟨#[50, 57, 52, 57, 54, 55, 50, 57, 54]⟩], u.oneCell' = true := by
        intro u hu
        simp at hu
        subst hu
        rfl
      go_wp2_with (first
        | (go_at_call 85; (with_reducible refine (dbd9 w.heap.size g 2 c [0#32, 1#32] _ rfl (by omega) hown).mono ?_); rintro e w2 ⟨rfl, Q, hQl, hQv, hown2, hg2⟩; have hb2 : Below w.heap.size w w2 := hb.grown hg2 hb.size (fun q hq => by cases hq; exact (own_ge hown).1); rw [hd0] at hQv; have hQ2 : Q.length = 2 := hQl; have hQ4 : trimD Q = [4#32] := by rw [← canon_val, hQv, canon4]
           rw [hm0])
        | (go_at_call 84; (with_reducible refine (Tryz.strconv_Itoa 294967296 (by omega) (by omega) _ (hT _ hb2)).mono ?_); rintro e w3 ⟨rfl, hw3⟩; have hb23 : Below w2.heap.size w2 w3 := grow_below hw3; have hown3 := own_below hown2 hb23; have hb3 := hb2.trans (hb23.mono hb2.size); rw [itoa9])
        | (go_at_call 78; (with_reducible refine (trim_any _ 2 c Q _ hQ2 (own_cap hown3) (by omega) (Rw.of_own hown3)).mono ?_); rintro e w4 ⟨rfl, rfl⟩; rw [hQ4])
        | (go_at_call 86; (with_reducible refine (Tryz.strings_Repeat_zero _ _).mono ?_); rintro e w5 ⟨rfl, rfl⟩)
        | (at_builtin; refine wpList_append_rd _ rfl _ _ _ rfl w.heap.size 9 i0 (.string ⟨#[]⟩) 16 Tryz.underlying106 hi hz0 hz1 hz2 rfl (.slice none 0 0) 0 [] rfl (World.ownsRow_nil _ _ _ _) _ 1 1 [.string ⟨#[50, 57, 52, 57, 54, 55, 50, 57, 54]⟩] rfl rfl (fun j u hu => ⟨_, rfl, cell_one_new _ _ _ j u hu⟩) hone (by unfold maxLen; omega) (by omega) (hb3.alloc hb3.size _).size ?_; intro v' w6 hown6 hg6 hv6; have hb3a := hb3.alloc hb3.size (.cells #[.string ⟨#[50, 57, 52, 57, 54, 55, 50, 57, 54]⟩] 9); have hb6 : Below w.heap.size w w6 := hb3a.grown hg6 hb3a.size (fun q hq => by cases hq); have hown3a := hown3.alloc (.cells #[.string ⟨#[50, 57, 52, 57, 54, 55, 50, 57, 54]⟩] 9); have hown7 := hown3a.kept hg6 (.inr (by simp [Value.ownBlock]))))
      have hown8 := own_take hown7 (show 1 ≤ 2 by omega)
      have hq1 : (bv32 Q).take 1 = bv32 [4#32] := by
        have h1 := trim_prefix Q
        rw [hQ4] at h1
        rw [h1]
        simp [bv32, List.map_take]
      rw [hq1] at hown8
      obtain ⟨a', c', rfl⟩ := own_slice hown6
      obtain ⟨h, rfl, hh⟩ := own_form hown6 (by omega)
      have hgl := (own_ge hown3).2
      go_roundw
      case rel =>
        refine ⟨hb6, .inr (.inl ⟨g, c, h, c', rfl, rfl, hown8, hown6, ?_⟩)⟩
        rcases hv6 with h1 | h1
        · cases h1
        · injection h1 with h1
          simp at h1
          omega
      case measure => simp
    · have hm0 : valD [4#32] % 1000000000 = 4 := by decide
      have hd0 : valD [4#32] / 1000000000 = 0 := by decide
      have hone : ∀ u ∈ [Value.string ⟨#[52]⟩], u.oneCell' = true := by
        intro u hu
        simp at hu
        subst hu
        rfl
      go_wp2_with (first
        | (go_at_call 85; (with_reducible refine (dbd9 w.heap.size g 1 c [4#32] _ rfl (by omega) hown).mono ?_); rintro e w2 ⟨rfl, Q, hQl, hQv, hown2, hg2⟩; have hb2 : Below w.heap.size w w2 := hb.grown hg2 hb.size (fun q hq => by cases hq; exact (own_ge hown).1); rw [hd0] at hQv; have hQ2 : Q.length = 1 := hQl; have hQ4 : trimD Q = [] := by rw [← canon_val, hQv, canon_zero]
           have hch2 := hch.kept hg2 (.inr (fun e => hgh (Option.some.inj e).symm))
           rw [hm0])
        | (go_at_call 84; (with_reducible refine (itoa_4 _).mono ?_); rintro e w3 ⟨rfl, rfl⟩)
        | (go_at_call 78; (with_reducible refine (trim_any _ 1 c Q _ hQ2 (own_cap hown2) (by omega) (Rw.of_own hown2)).mono ?_); rintro e w4 ⟨rfl, rfl⟩; rw [hQ4])
        | (at_builtin; refine wpList_append_rd _ rfl _ _ _ rfl w.heap.size 9 i0 (.string ⟨#[]⟩) 16 Tryz.underlying106 hi hz0 hz1 hz2 rfl (.slice (some ⟨h, 0, none⟩) 1 c2) 1 [.string ⟨#[50, 57, 52, 57, 54, 55, 50, 57, 54]⟩] rfl (hch2.alloc _) _ 1 1 [.string ⟨#[52]⟩] rfl rfl (fun j u hu => ⟨_, rfl, cell_one_new _ _ _ j u hu⟩) hone (by unfold maxLen; omega) (by omega) (hb2.alloc hb2.size _).size ?_; intro v' w6 hown6 hg6 hv6; have hb3a := hb2.alloc hb2.size (.cells #[.string ⟨#[52]⟩] 9); have hb6 : Below w.heap.size w w6 := hb3a.grown hg6 hb3a.size (fun q hq => by cases hq; exact (own_ge hch2).1)))
      obtain ⟨a', c', rfl⟩ := own_slice hown6
      obtain ⟨h', rfl, hh⟩ := own_form hown6 (by omega)
      go_roundw
      case rel => exact ⟨hb6, .inr (.inr ⟨some ⟨g, 0, none⟩, c, h', c', rfl, rfl, hown6⟩)⟩
      case measure => simp
    · go_wp2_with (first
        | (go_at_call 87; (with_reducible refine (rev2 w.heap.size h c2 _ hch).mono ?_); rintro e w2 ⟨rfl, hown2, hg2⟩; have hb2 : Below w.heap.size w w2 := hb.grown hg2 hb.size (fun q hq => by cases hq; exact (own_ge hch).1))
        | (go_at_call 88; (with_reducible refine (join2 w.heap.size h c2 _ hown2).mono ?_); rintro e w3 ⟨rfl, hb3⟩))
      go_ret
      exact ⟨rfl, hb2.trans (hb3.mono hb2.size)⟩
end Go.Proofs.YtdkbmpncohhioaaGreatDoor

/- Same -/

namespace Go.Proofs.YtdkbmpncohhioaaGreatDoor
open Go.RowKit
set_option linter.unusedVariables false
set_option linter.unusedSimpArgs false
theorem take_eq_succ32 (l m : List (BitVec 32)) (k : Nat) (h1 : k < l.length) (h2 : k < m.length) (h : l.take k = m.take k) (e : l[k] = m[k]) : l.take (k + 1) = m.take (k + 1) := by
  rw [List.take_succ_eq_append_getElem h1, List.take_succ_eq_append_getElem h2, h, e]
end Go.Proofs.YtdkbmpncohhioaaGreatDoor

/- P8 -/

namespace Go.Proofs.YtdkbmpncohhioaaGreatDoor
open Go.RowKit
set_option linter.unusedVariables false
set_option linter.unusedSimpArgs false
/-- The table of the powers of ten reads as it was laid. -/
def Tb (w : World) : Prop := Lib.TabIs Tryz.prog w "internal/strconv.uint64pow10" .u64 Lib.pow10Tab
theorem Tb.below {w w' : World} (h : Tb w) (hb : Below w.heap.size w w') : Tb w' := by
  have hg : Tryz.prog.globalNamed "internal/strconv.uint64pow10" = some 1 := by kernel_rfl
  unfold Tb Lib.TabIs World.var? at h ⊢
  rw [hg] at h ⊢
  simp only [Option.bind_some] at h ⊢
  have hlt : 1 < w.heap.size := by
    rcases Nat.lt_or_ge 1 w.heap.size with h' | h'
    · exact h'
    · rw [Array.getElem?_eq_none h'] at h; cases h
  rw [hb.block _ hlt]
  exact h
theorem canon_one {n : Nat} (h : 0 < n) (h2 : n < 4294967296) : canon n = [BitVec.ofNat 32 n] := by
  rw [canon_pos (by omega), show n / 4294967296 = 0 by omega, canon_zero]
theorem dm_ex (a b : Option Addr) (w : World) (hr : Rw w a [7#32, 1#32]) (hs : Rw w b [2#32]) :
    Calls Tryz.prog 93 #[.slice a 2 2, .slice b 1 1] w fun e w' => ∃ a1 c1 a2 c2, e = .returned (.tuple #[.slice a1 1 c1, .slice a2 1 c2, .int .i64 0]) ∧ Rw w' a1 [2147483651#32] ∧ Rw w' a2 [1#32] ∧ Below w.heap.size w w' := by
  refine (ndm_small a b 2 2 1 1 [7#32, 1#32] [2#32] w rfl rfl (by omega) (by omega) (by omega) (by omega) hr hs (by decide) (by decide) (Nat.le_trans (trim_len_le _) (by decide))).mono ?_
  rintro e w' ⟨a1, c1, a2, c2, rfl, _, _, h1, h2, hb⟩
  have e1 : canon (valD [7#32, 1#32] / valD [2#32]) = [2147483651#32] := by
    rw [show valD [7#32, 1#32] / valD [2#32] = 2147483651 by decide, canon_one (by decide) (by decide)]
  have e2 : canon (valD [7#32, 1#32] % valD [2#32]) = [1#32] := by
    rw [show valD [7#32, 1#32] % valD [2#32] = 1 by decide, canon_one (by decide) (by decide)]
  rw [e1] at h1 ⊢
  rw [e2] at h2 ⊢
  exact ⟨a1, c1, a2, c2, rfl, h1.1, h2.1, hb⟩
theorem mul_ex (a : Option Addr) (w : World) (hr : Rw w a [4294967295#32]) :
    Calls Tryz.prog 72 #[.slice a 1 1, .slice a 1 1] w fun e w' => ∃ a1 c1, e = .returned (.slice a1 2 c1) ∧ Rw w' a1 [1#32, 4294967294#32] ∧ Below w.heap.size w w' := by
  refine (nmul_any a a 1 1 1 1 [4294967295#32] [4294967295#32] w rfl rfl (by omega) (by omega) (by omega) (by omega) hr hr).mono ?_
  rintro e w' ⟨a1, c1, rfl, _, h1, hb⟩
  have e1 : canon (valD [4294967295#32] * valD [4294967295#32]) = [1#32, 4294967294#32] := by
    rw [show valD [4294967295#32] * valD [4294967295#32] = 18446744065119617025 by decide, canon_pos (by decide), show 18446744065119617025 / 4294967296 = 4294967294 by decide, canon_one (by decide) (by decide)]
    decide
  rw [e1] at h1 ⊢
  exact ⟨a1, c1, rfl, h1.1, hb⟩
end Go.Proofs.YtdkbmpncohhioaaGreatDoor

/- La -/

namespace Go.Proofs.YtdkbmpncohhioaaGreatDoor
open Go.RowKit
set_option linter.unusedVariables false
set_option linter.unusedSimpArgs false
theorem fit_add {A B n m : Nat} (hA : A < pw n) (hB : B < pw m) : (canon (A + B)).length ≤ n + m + 1 := by
  rw [canon_len_le, pw_succ]
  have h1 : pw n ≤ pw (n + m) := pw_mono (by omega)
  have h2 : pw m ≤ pw (n + m) := pw_mono (by omega)
  omega
theorem fit_mul {A B n m : Nat} (hA : A < pw n) (hB : B < pw m) : (canon (A * B)).length ≤ n + m := by
  rw [canon_len_le, pw_add]
  exact Nat.mul_lt_mul_of_lt_of_lt hA hB
theorem fit_sub {A B n : Nat} (hA : A < pw n) : (canon (A - B)).length ≤ n := by
  rw [canon_len_le]
  omega
end Go.Proofs.YtdkbmpncohhioaaGreatDoor

/- P9 -/
namespace Go.Proofs.YtdkbmpncohhioaaGreatDoor
open Go.RowKit
set_option linter.unusedVariables false
set_option linter.unusedSimpArgs false
theorem isBl_zero : IsBl 0 0 := ⟨by decide, fun _ => rfl, fun h => absurd h (by omega)⟩
theorem isBl_aux : ∀ (f x : Nat), x < 2 ^ f → IsBl x (Lib.bitLenAux f x)
  | 0, x, h => by
    have : x = 0 := by simpa using h
    subst this
    exact isBl_zero
  | f + 1, x, h => by
    unfold Lib.bitLenAux
    split
    · rename_i h0
      subst h0
      exact isBl_zero
    · rename_i h0
      have ih := isBl_aux f (x / 2) (by rw [Nat.pow_succ] at h; omega)
      generalize Lib.bitLenAux f (x / 2) = b at ih
      refine ⟨?_, fun h => absurd h h0, fun _ => ⟨by omega, ?_⟩⟩
      · rw [Nat.pow_add]
        have := ih.1
        omega
      · rw [Nat.add_sub_cancel_left]
        rcases Nat.eq_zero_or_pos (x / 2) with h1 | h1
        · rw [ih.2.1 h1]
          show 1 ≤ x
          omega
        · obtain ⟨h2, h3⟩ := ih.2.2 h1
          obtain ⟨b', rfl⟩ : ∃ b', b = b' + 1 := ⟨b - 1, by omega⟩
          rw [Nat.add_sub_cancel] at h3
          rw [Nat.pow_succ]
          omega
theorem isBl_len {x : Nat} (h : x < 4294967296) : IsBl x (Lib.bitLen x) := isBl_aux 64 x (by omega)
theorem isBl_32 {x y : Nat} (h : x < 4294967296) (hy : IsBl x y) : y ≤ 32 := by
  rcases Nat.eq_zero_or_pos x with h0 | h0
  · rw [hy.2.1 h0]; omega
  · obtain ⟨h1, h2⟩ := hy.2.2 h0
    rcases Nat.lt_or_ge 32 y with h3 | h3
    · have h4 : 2 ^ 32 ≤ 2 ^ (y - 1) := Nat.pow_le_pow_right (by decide) (by omega)
      omega
    · exact h3
set_option maxRecDepth 50000 in
theorem nbl_any (a : Option Addr) (n c : Nat) (l : List (BitVec 32)) (w : World) (hn : l.length = n) (hnc : n ≤ c) (hl : n ≤ 1000000) (hr : Rw w a l) :
    Calls Tryz.prog 50 #[.slice a n c] w fun e w' => ∃ b : Nat, e = .returned (.int .i64 b) ∧ IsBl (valD l) b ∧ w' = w := by
  subst hn
  have f1 := trim_len_le l
  have hrt := hr.trim
  have T1 : ∀ W, Rw W a l → Calls Tryz.prog 78 #[.slice a l.length c] W fun e w' => e = .returned (.slice a (trimD l).length c) ∧ W = w' := fun W h => trim_any a _ c l W rfl hnc (by omega) h
  have H1 := Lib.hid (T1 w hr)
  have htop := top_pos (valD l)
  rw [canon_val] at htop
  rw [← valD_trim l]
  clear T1 hr
  generalize trimD l = lt at *
  by_cases h0 : lt.length = 0
  · have hv : Hid (valD lt = 0) := by show _ = _; rw [List.length_eq_zero_iff.1 h0]; rfl
    rw [h0] at H1
    clear h0 htop
    go_enter Tryz.func50, Tryz.ntmps50
    go_wp2_with (go_at_call 78; (with_reducible refine H1.out.mono ?_); rintro e w1 ⟨rfl, rfl⟩)
    go_ret
    exact ⟨0, rfl, by rw [hv.out]; exact isBl_zero, rfl⟩
  · have h1 : lt.length - 1 < lt.length := by omega
    have htp := htop (by omega)
    rw [digD_in _ _ h1] at htp
    obtain ⟨ad, rfl, hc⟩ := hrt (lt.length - 1) h1
    have hx := lt[lt.length - 1].isLt
    have hbl := isBl_top lt (by omega)
    obtain ⟨x, hxe⟩ : ∃ x, lt[lt.length - 1].toNat = x := ⟨_, rfl⟩
    rw [hxe] at hc hx htp
    have hy := isBl_len hx
    have hy2 := isBl_32 hx hy
    have hfin := Lib.hid (hbl (Lib.bitLen x) (by rw [hxe]; exact hy) (by rw [hxe]; omega))
    have hlen := Tryz.bits_Len32 (x : Int) w (by omega) (by omega)
    rw [Int.toNat_natCast] at hlen
    have HL := Lib.hid hlen
    clear hlen hbl hy hxe htop
    generalize Lib.bitLen x = y at *
    have hne : ((lt.length : Int) == 0) = false := by rw [beq_eq_false_iff_ne]; omega
    go_enter Tryz.func50, Tryz.ntmps50
    go_wp2_with (first
      | (go_at_call 78; (with_reducible refine H1.out.mono ?_); rintro e w1 ⟨rfl, rfl⟩)
      | (go_at_call 79; (with_reducible refine HL.out.mono ?_); rintro e w1 ⟨rfl, rfl⟩))
    go_ret
    refine ⟨32 * (lt.length - 1) + y, ?_, hfin.out, rfl⟩
    first | rfl | (congr 2; omega) | (simp; omega)
end Go.Proofs.YtdkbmpncohhioaaGreatDoor

