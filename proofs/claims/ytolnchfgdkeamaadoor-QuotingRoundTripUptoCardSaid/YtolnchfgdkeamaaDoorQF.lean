import Derived.Test.YtolnchfgdkeamaaDoorQE
import Derived.WalkKit
import Derived.WalkSpells
import Derived.WalkLawsBesides
import Derived.Lib.Hide
import Derived.Below
import Derived.Deep.QuietTactic
import Derived.BigQuiet
import Derived.IntWalk
import Derived.Laws.BitsAllLaws
namespace Go.Proofs.YtolnchfgdkeamaaDoor
open Go.RowKit
set_option linter.unusedVariables false
set_option linter.unusedSimpArgs false
theorem infoB : (Tryd.prog.info? 5).map (fun i => (i.zero, i.size, i.bytes)) = some (some (.int .u8 0), 1, 1) := by kernel_rfl
theorem oneU (x : Int) : ∀ u ∈ [Value.int .u8 x], u.oneCell' = true := by
  intro u hu
  simp at hu
  subst hu
  rfl
def RuR (w : World) (l : List UInt8) (n : Nat) (bv iv : Value) (wr : World) : Prop := ∃ (i : Nat) (bs : List UInt8), i ≤ n ∧ iv = .int .i64 i ∧ bs.length ≤ i ∧ Hid (dqL l = (dqL (l.drop i)).map (bs ++ ·)) ∧ wr.ownsRow w.heap.size 5 1 bv bs.length (Lib.byteCells bs) ∧ Below w.heap.size w wr
theorem own_snoc {w : World} {B : Nat} {v : Value} {bs : List UInt8} {c : UInt8} {y : Nat} (hc : c.toNat = y) (h : w.ownsRow B 5 1 v (bs.length + 1) (Lib.byteCells bs ++ [.int .u8 (y : Nat)])) : w.ownsRow B 5 1 v (bs ++ [c]).length (Lib.byteCells (bs ++ [c])) := by
  rw [cells_snoc, hc, show (bs ++ [c]).length = bs.length + 1 by simp]
  exact h
theorem conv_own {w : World} {B g cp : Nat} {bs : List UInt8} (h : w.ownsRow B 5 1 (.slice (some ⟨g, 0, none⟩) bs.length cp) bs.length (Lib.byteCells bs)) : (convert 38 9 (.slice (some ⟨g, 0, none⟩) bs.length cp)).run Tryd.prog w = .ok (.string ⟨bs.toArray⟩) w := by
  refine run_convert_bytes_back w 38 9 5 ⟨g, 0, none⟩ cp bs Tryd.underlying38 Tryd.underlying5 Tryd.underlying9 fun j hj => ?_
  rw [show ((⟨g, 0, none⟩ : Addr).add j) = ⟨g, j, none⟩ by unfold Addr.add; split <;> simp_all]
  exact own_cell h j _ (by simp [Lib.byteCells, hj])
theorem own_drewN {w : World} {B : Nat} {e : TypeId} {v : Value} {n : Nat} {xs : List Value} (h : w.ownsRow B e 1 v n xs) (m : Nat) : (w.drewN m).ownsRow B e 1 v n xs := by
  induction m generalizing w with
  | zero => exact h
  | succ m ih => exact ih h
set_option maxRecDepth 50000 in
set_option maxHeartbeats 8000000 in
theorem runq_any (S : ByteArray) (l : List UInt8) (w : World) (hS : S.data.toList = l) (hl : l.length ≤ 4000000) :
    Calls Tryd.prog 11 #[.string S] w fun e w' => e = .returned (unV (unqL l)) ∧ Below w.heap.size w w' := by
  rw [← rUnq_eq]
  by_cases h42 : l = [42]
  · subst h42
    obtain rfl : S = ⟨#[42]⟩ := eq_arr hS
    clear hS
    go_enter Tryd.func11, Tryd.ntmps11
    go_wp2
    go_ret2
    exact ⟨rfl, Below.refl _ _⟩
  obtain ⟨i0, hi, hz0, hz1, hz2⟩ := info_parts infoB
  have h42b : ¬ S.toList = [42] := by
    rw [ByteArray.toList_eq, hS]
    exact h42
  have h42c : (S.toList == [42]) = false := by
    rw [beq_eq_false_iff_ne]
    exact h42b
  have hsz0 := str_size hS
  obtain ⟨n, hn⟩ : ∃ n, l.length = n := ⟨_, rfl⟩
  have hsz : S.size = n := by rw [hsz0, hn]
  have HS := Lib.hid hS
  have HN := Lib.hid hn
  have hnb : n ≤ 4000000 := by omega
  have hun : Hid (rUnq l = match dqL l with
    | none => none
    | some b => if b = [] ∨ quoteL b ≠ l then none else some b) := by
    show _ = _
    unfold rUnq
    rw [if_neg h42]
    rfl
  have HU0 : Hid (dqL l = (dqL (l.drop 0)).map ([] ++ ·)) := by
    show _ = _
    rw [List.drop_zero]
    cases dqL l <;> rfl
  clear hS hsz0 hl hn h42
  go_enter Tryd.func11, Tryd.ntmps11
  go_wp2
  clear h42b h42c
  go_loopw [4, 5, 6] (fun bv iv _ wr => RuR w l n bv iv wr) (fun _ iv _ _ => n - (intOf iv).toNat)
  case atStart => exact ⟨0, [], Nat.zero_le _, rfl, Nat.le_refl _, HU0, World.ownsRow_nil _ _ _ _, Below.refl _ _⟩
  case round =>
    clear HU0
    obtain ⟨p, bs, hp, rfl, hbs, hq, hown, hb⟩ := hrel
    obtain ⟨a, cp, rfl⟩ := own_slice hown
    have hz := hb.size
    by_cases hlt : p < n
    · have hpl : p < l.length := by have := HN.out; omega
      have hps : p < S.size := by omega
      have gp := str_get HS.out p hps hpl
      obtain ⟨c, hc⟩ : ∃ c, l[p] = c := ⟨_, rfl⟩
      obtain ⟨x, hx⟩ : ∃ x, c.toNat = x := ⟨_, rfl⟩
      have hgp : (S[p]'hps).toNat = x := by rw [gp, hc, hx]
      have hx256 : x < 256 := by rw [← hx]; exact c.toNat_lt
      have HD : Hid (l.drop p = c :: l.drop (p + 1)) := by
        show _ = _
        rw [List.drop_eq_getElem_cons hpl, hc]
      have HX := Lib.hid hx
      clear gp hc hx hpl
      by_cases h42 : x = 42
      · subst h42
        obtain rfl : c = 42 := UInt8.toNat_inj.1 HX.out
        by_cases hp2 : p + 2 < n
        · have hpl1 : p + 1 < l.length := by have := HN.out; omega
          have hpl2 : p + 2 < l.length := by have := HN.out; omega
          have hps1 : p + 1 < S.size := by omega
          have hps2 : p + 2 < S.size := by omega
          obtain ⟨a1, ha⟩ : ∃ a1, l[p + 1] = a1 := ⟨_, rfl⟩
          obtain ⟨a2, hb2⟩ : ∃ a2, l[p + 2] = a2 := ⟨_, rfl⟩
          obtain ⟨y, hy⟩ : ∃ y, a1.toNat = y := ⟨_, rfl⟩
          obtain ⟨z, hz'⟩ : ∃ z, a2.toNat = z := ⟨_, rfl⟩
          have hga : (S[p + 1]'hps1).toNat = y := by rw [str_get HS.out (p + 1) hps1 hpl1, ha, hy]
          have hgb : (S[p + 2]'hps2).toNat = z := by rw [str_get HS.out (p + 2) hps2 hpl2, hb2, hz']
          have hda : (∀ W, Calls Tryd.prog 28 #[.int .u8 y] W fun e w' => e = .returned (.int .i64 (hexi a1)) ∧ W = w') := fun W => by
            have := digit_any a1 W
            rwa [hy] at this
          have hdb : (∀ W, Calls Tryd.prog 28 #[.int .u8 z] W fun e w' => e = .returned (.int .i64 (hexi a2)) ∧ W = w') := fun W => by
            have := digit_any a2 W
            rwa [hz'] at this
          have HD2 : Hid (l.drop p = 42 :: a1 :: a2 :: l.drop (p + 2 + 1)) := by
            show _ = _
            rw [HD.out, List.drop_eq_getElem_cons hpl1, ha, List.drop_eq_getElem_cons hpl2, hb2]
          have w1 : IntKind.i64.wrap ((p : Int) + 1) = (p : Int) + 1 := IntWalk.i64_in _ (by omega)
          have w2 : IntKind.i64.wrap ((p : Int) + 2) = (p : Int) + 2 := IntWalk.i64_in _ (by omega)
          have i1 : (0 : Int) ≤ (p : Int) + 1 ∧ (p : Int) + 1 < (n : Int) := by omega
          have i2 : (0 : Int) ≤ (p : Int) + 2 ∧ (p : Int) + 2 < (n : Int) := by omega
          have i3 := i1.1
          have i4 := i1.2
          have i5 := i2.1
          have i6 := i2.2
          have i7 : ¬ ((n : Int) ≤ (p : Int) + 2) := by omega
          unfold hexi at hda hdb
          clear hpl1 hpl2 ha hb2 hy hz'
          cases hva : hexv a1 with
          | none =>
            have hno : Hid (rUnq l = none) := by
              show _ = _
              rw [hun.out, hq.out, HD2.out, dq_esc, hva]
              rfl
            rw [hva] at hda
            have HDA := Lib.hid hda
            clear hda hdb hva
            go_wp2_with (go_at_call 28; go_loud ((with_reducible refine (HDA.out _).mono ?_); rintro e w1 ⟨rfl, rfl⟩))
            go_ret2
            exact ⟨by rw [hno.out]; rfl, hb⟩
          | some u =>
            rw [hva] at hda
            have hu16 := hexv_lt _ _ hva
            cases hvb : hexv a2 with
            | none =>
              have hno : Hid (rUnq l = none) := by
                show _ = _
                rw [hun.out, hq.out, HD2.out, dq_esc, hva, hvb]
                rfl
              rw [hvb] at hdb
              have HDA := Lib.hid hda
              have HDB := Lib.hid hdb
              clear hda hdb hva hvb
              go_wp2_with (go_at_call 28; go_loud (first
                | ((with_reducible refine (HDA.out _).mono ?_); rintro e w1 ⟨rfl, rfl⟩)
                | ((with_reducible refine (HDB.out _).mono ?_); rintro e w1 ⟨rfl, rfl⟩)))
              go_ret2
              exact ⟨by rw [hno.out]; rfl, hb⟩
            | some v =>
              rw [hvb] at hdb
              have hv16 := hexv_lt _ _ hvb
              obtain ⟨r, hr⟩ : ∃ r, 16 * u + v = r := ⟨_, rfl⟩
              have hri : IntKind.u8.wrap (16 * (u : Int) + (v : Int)) = (r : Int) := by rw [IntKind.wrap_u8]; omega
              have hrt : Hid ((UInt8.ofNat (16 * u + v)).toNat = r) := by
                show (BitVec.ofNat 8 (16 * u + v)).toNat = _
                rw [BitVec.toNat_ofNat]
                omega
              have hq2 : Hid (dqL l = (dqL (l.drop (p + 2 + 1))).map ((bs ++ [UInt8.ofNat (16 * u + v)]) ++ ·)) := by
                show _ = _
                rw [hq.out, HD2.out, dq_esc, hva, hvb]
                exact map_snoc _ _ _
              have HDA := Lib.hid hda
              have HDB := Lib.hid hdb
              have HR := Lib.hid hr
              clear hda hdb hva hvb hr
              go_wp2_with (go_at_call 28; go_loud (first
                | ((with_reducible refine (HDA.out _).mono ?_); rintro e w1 ⟨rfl, rfl⟩)
                | ((with_reducible refine (HDB.out _).mono ?_); rintro e w1 ⟨rfl, rfl⟩)))
              go_quiet ((go_at_call 28; (first | with_reducible exact quiet_none HDA.out | with_reducible exact quiet_none HDB.out)))
              have hown3 := own_drewN hown nq
              have hb3 := be_drewN hb nq
              clear hown hb hz
              have hown := hown3
              have hb := hb3
              clear hown3 hb3
              generalize wr.drewN nq = w3 at hown hb ⊢
              have hz := hb.size
              go_wp2_with (at_builtin; go_loud (refine wpList_append_rd _ rfl _ _ _ rfl w.heap.size 5 i0 (.int .u8 0) 1 Tryd.underlying38 hi hz0 hz1 hz2 rfl (.slice a bs.length cp) bs.length (Lib.byteCells bs) rfl (hown.alloc _) _ 1 1 [.int .u8 (r : Nat)] rfl rfl (fun j u hu => ⟨_, rfl, cell_one_new _ _ _ j u hu⟩) (oneU _) (by unfold maxLen; omega) (by omega) (hb.alloc hb.size _).size ?_; intro v' w6 hown6 hg6 hv6; have hb3a := hb.alloc hb.size (.cells #[.int .u8 (r : Nat)] 5); have hb6 : Below w.heap.size w w6 := hb3a.grown hg6 hb3a.size (fun q hq => (hown.lt q hq).1)))
              go_roundw
              case rel => exact ⟨p + 2 + 1, bs ++ [UInt8.ofNat (16 * u + v)], by omega, by go_num, by simp; omega, hq2, own_snoc hrt.out hown6, hb6⟩
              case measure => simp [intOf] <;> omega
        · have hno : Hid (rUnq l = none) := by
            show _ = _
            rw [hun.out, hq.out, HD.out]
            have h1 : (l.drop (p + 1)).length ≤ 1 := by rw [List.length_drop, HN.out]; omega
            rcases hd : l.drop (p + 1) with _ | ⟨a, _ | ⟨b, t⟩⟩
            · rw [dq_short1]; rfl
            · rw [dq_short2]; rfl
            · rw [hd] at h1; simp at h1
          go_wp2
          go_ret2
          exact ⟨by rw [hno.out]; rfl, hb⟩
      · have hq2 : Hid (dqL l = (dqL (l.drop (p + 1))).map ((bs ++ [c]) ++ ·)) := by
          show _ = _
          rw [hq.out, HD.out, dq_lit (by intro e; subst e; exact h42 HX.out.symm), map_snoc]
        go_wp2_with (at_builtin; go_loud (refine wpList_append_rd _ rfl _ _ _ rfl w.heap.size 5 i0 (.int .u8 0) 1 Tryd.underlying38 hi hz0 hz1 hz2 rfl (.slice a bs.length cp) bs.length (Lib.byteCells bs) rfl (hown.alloc _) _ 1 1 [.int .u8 (x : Nat)] rfl rfl (fun j u hu => ⟨_, rfl, cell_one_new _ _ _ j u hu⟩) (oneU _) (by unfold maxLen; omega) (by omega) (hb.alloc hb.size _).size ?_; intro v' w6 hown6 hg6 hv6; have hb3a := hb.alloc hb.size (.cells #[.int .u8 (x : Nat)] 5); have hb6 : Below w.heap.size w w6 := hb3a.grown hg6 hb3a.size (fun q hq => (hown.lt q hq).1)))
        go_roundw
        case rel => exact ⟨p + 1, bs ++ [c], by omega, by go_num, by simp; omega, hq2, own_snoc HX.out hown6, hb6⟩
        case measure => simp [intOf] <;> omega
    · obtain rfl : p = n := by omega
      have hdq : Hid (dqL l = some bs) := by
        show _ = _
        rw [hq.out, ← HN.out, List.drop_length]
        simp [dqL]
      by_cases hb0 : bs = []
      · subst hb0
        have hno : Hid (rUnq l = none) := by
          show _ = _
          rw [hun.out, hdq.out]
          simp
        go_wp2
        go_ret2
        exact ⟨by rw [hno.out]; rfl, hb⟩
      · have hbl : 0 < bs.length := List.length_pos_iff.2 hb0
        obtain ⟨g, rfl, hg⟩ := own_form hown hbl
        have hcv := conv_own hown
        have HC := Lib.hid (fun m => conv_own (w := wr.drewN m) hown)
        have HU := Lib.hid (rquote_any ⟨bs.toArray⟩ bs wr rfl (by omega))
        by_cases hqe : quoteL bs = l
        · have hres : Hid (rUnq l = some bs) := by
            show _ = _
            rw [hun.out, hdq.out]
            simp only
            rw [if_neg (by intro e; rcases e with e | e; exact hb0 e; exact e hqe)]
          obtain ⟨T, hT⟩ : ∃ T : ByteArray, T = ⟨bs.toArray⟩ := ⟨_, rfl⟩
          rw [← hT] at hcv HC HU
          rw [show (⟨(quoteL bs).toArray⟩ : ByteArray) = S from (by rw [hqe]; exact (eq_arr HS.out).symm)] at HU
          have HT := Lib.hid hT
          clear hT hqe
          go_wp2_with (go_at_call 13; go_loud ((with_reducible refine HU.out.mono ?_); rintro e w2 ⟨rfl, m2, rfl⟩; have hcv2 := HC.out m2))
          go_ret2
          exact ⟨by rw [hres.out, HT.out]; rfl, be_drewN hb m2⟩
        · have hno : Hid (rUnq l = none) := by
            show _ = _
            rw [hun.out, hdq.out]
            simp only
            rw [if_pos (.inr hqe)]
          obtain ⟨T, hT⟩ : ∃ T : ByteArray, T = ⟨bs.toArray⟩ := ⟨_, rfl⟩
          rw [← hT] at hcv HC HU
          obtain ⟨Q, hQ⟩ : ∃ Q : ByteArray, Q = ⟨(quoteL bs).toArray⟩ := ⟨_, rfl⟩
          rw [← hQ] at HU
          have hne1 : ¬ Q.toList = S.toList := by
            rw [ByteArray.toList_eq, ByteArray.toList_eq, hQ, HS.out]
            exact hqe
          have hne2 : (Q.toList == S.toList) = false := by
            rw [beq_eq_false_iff_ne]
            exact hne1
          clear hT hQ hqe
          go_wp2_with (go_at_call 13; go_loud ((with_reducible refine HU.out.mono ?_); rintro e w2 ⟨rfl, m2, rfl⟩))
          go_ret2
          exact ⟨by rw [hno.out]; rfl, be_drewN hb m2⟩
end Go.Proofs.YtolnchfgdkeamaaDoor
