
import Derived.Test.YtdkbmpncohhioaaDoorHd
import Derived.WalkKit
import Derived.WalkSpells
import Derived.WalkLawsBesides
import Derived.Lib.Hide
import Derived.Below
import Derived.Deep.QuietTactic
import Derived.BigQuiet
import Derived.IntWalk
import Derived.Laws.BitsAllLaws
namespace Go.Proofs.YtdkbmpncohhioaaDoor
open Go.RowKit
set_option linter.unusedVariables false
set_option linter.unusedSimpArgs false
def hexL : List UInt8 := [48, 49, 50, 51, 52, 53, 54, 55, 56, 57, 97, 98, 99, 100, 101, 102]
def hexi (c : UInt8) : Int := match hexv c with | some a => (a : Int) | none => -1
theorem hexL_at (k : Nat) (h : k < (⟨#[48, 49, 50, 51, 52, 53, 54, 55, 56, 57, 97, 98, 99, 100, 101, 102]⟩ : ByteArray).size) : ∃ (h2 : k < hexL.length), ((⟨#[48, 49, 50, 51, 52, 53, 54, 55, 56, 57, 97, 98, 99, 100, 101, 102]⟩ : ByteArray)[k]'h).toNat = (hexL[k]).toNat := ⟨h, rfl⟩
theorem hexL_take (c : UInt8) (j : Nat) (h : j < hexL.length) : (hexL.take (j + 1)).contains c = ((hexL.take j).contains c || hexL[j] == c) := by
  rw [List.take_succ_eq_append_getElem h, List.contains_eq_any_beq, List.contains_eq_any_beq, List.any_append]
  simp [Bool.beq_comm, eq_comm]
theorem hexi_at (j : Nat) (h : j < hexL.length) (c : UInt8) (e : hexL[j] = c) : hexi c = (j : Int) := by
  have key : ∀ i : Fin 16, hexi (hexL[i.val]'i.isLt) = (i.val : Int) := by decide +kernel
  rw [← e]
  exact key ⟨j, h⟩
theorem hexi_no (c : UInt8) (h : (hexL.take 16).contains c = false) : hexi c = -1 := by
  revert h
  revert c
  exact all256 (by decide +kernel)
def DgR (c : UInt8) (i : Value) (w wr : World) : Prop := ∃ j : Nat, j ≤ 16 ∧ i = .int .i64 j ∧ Hid ((hexL.take j).contains c = false) ∧ w = wr
set_option maxRecDepth 50000 in
set_option maxHeartbeats 2000000 in
theorem rdigit_any (c : UInt8) (w : World) : Calls Tryd.prog 36 #[.int .u8 c.toNat] w fun e w' => e = .returned (.int .i64 (hexi c)) ∧ w = w' := by
  obtain ⟨x, hx⟩ : ∃ x, c.toNat = x := ⟨_, rfl⟩
  have hx256 : x < 256 := by rw [← hx]; exact c.toNat_lt
  rw [hx]
  have HX := Lib.hid hx
  obtain ⟨R, hR⟩ : ∃ R, hexi c = R := ⟨_, rfl⟩
  rw [hR]
  have HR := Lib.hid hR
  clear hx hR
  go_enter Tryd.func36, Tryd.ntmps36
  go_wp2
  go_loopw [3] (fun i wr => DgR c i w wr) (fun i _ => 16 - (intOf i).toNat)
  case atStart => exact ⟨0, by omega, rfl, rfl, rfl⟩
  case round =>
    obtain ⟨j, hj, rfl, hno, rfl⟩ := hrel
    by_cases hlt : j < 16
    · obtain ⟨y, hy⟩ : ∃ y, (hexL[j]'hlt).toNat = y := ⟨_, rfl⟩
      have gy : ∀ h, ((⟨#[48, 49, 50, 51, 52, 53, 54, 55, 56, 57, 97, 98, 99, 100, 101, 102]⟩ : ByteArray)[j]'h).toNat = y := fun h => (hexL_at j h).2.trans hy
      have HY := Lib.hid hy
      clear hy
      by_cases hxy : y = x
      · have hRj : Hid (R = (j : Int)) := by
          show _ = _
          rw [← HR.out]
          exact hexi_at j hlt c (UInt8.toNat_inj.1 (by rw [HX.out, HY.out, hxy]))
        clear HY
        subst hxy
        go_wp2
        go_ret
        exact ⟨by rw [hRj.out]; rfl, rfl⟩
      · have hno2 : Hid ((hexL.take (j + 1)).contains c = false) := by
          show _ = _
          rw [hexL_take c j hlt, hno.out, Bool.false_or, beq_eq_false_iff_ne]
          intro e
          apply hxy
          rw [← HY.out, e, HX.out]
        go_wp2
        go_roundw
        case rel => exact ⟨j + 1, by omega, by go_num, hno2, rfl⟩
        case measure => simp [intOf] <;> omega
    · obtain rfl : j = 16 := by omega
      have hRj : Hid (R = -1) := by
        show _ = _
        rw [← HR.out]
        exact hexi_no c hno.out
      go_wp2
      go_ret
      exact ⟨by rw [hRj.out]; rfl, rfl⟩
def RdR (w : World) (l : List UInt8) (n : Nat) (bv iv : Value) (wr : World) : Prop := ∃ (j : Nat) (bs : List UInt8), 2 * j ≤ n ∧ iv = .int .i64 ((2 * j : Nat) : Int) ∧ Hid (bs.length = j) ∧ Hid (decL l = (decL (l.drop (2 * j))).map (bs ++ ·)) ∧ wr.ownsRow w.heap.size 5 1 bv j (Lib.byteCells bs) ∧ Below w.heap.size w wr
theorem map_snoc (o : Option (List UInt8)) (bs : List UInt8) (c : UInt8) : (o.map (c :: ·)).map (bs ++ ·) = o.map ((bs ++ [c]) ++ ·) := by
  cases o <;> simp
set_option maxRecDepth 50000 in
set_option maxHeartbeats 4000000 in
theorem rhexdec_any (S : ByteArray) (l : List UInt8) (w : World) (hS : S.data.toList = l) (hl : l.length ≤ 10000000) :
    Calls Tryd.prog 17 #[.string S] w fun e w' => HdE w.heap.size l e w' ∧ Below w.heap.size w w' := by
  obtain ⟨i0, hi, hz0, hz1, hz2⟩ := info_parts infoB
  have hsz0 := str_size hS
  obtain ⟨n, hn⟩ : ∃ n, l.length = n := ⟨_, rfl⟩
  have hsz : S.size = n := by rw [hsz0, hn]
  have hnb : n ≤ 10000000 := by omega
  have HS := Lib.hid hS
  have HN := Lib.hid hn
  have hb1 := Below.alloc (Below.refl w.heap.size w) (Nat.le_refl _) (.cells #[] 5)
  have ho1 := own_made w #[] 5 0 rfl (Nat.zero_le _)
  clear hS hsz0 hl
  by_cases hodd : n % 2 = 0
  case neg =>
    have hno : Hid (decL l = none) := dec_odd (by rw [hn]; exact hodd)
    have t1 : (n : Int).tmod 2 = 1 := by rw [Int.tmod_eq_emod_of_nonneg (by omega)]; omega
    clear hn
    go_enter Tryd.func17, Tryd.ntmps17
    go_wp2
    go_ret2
    exact ⟨.inl ⟨hno.out, rfl⟩, hb1⟩
  have t1 : (n : Int).tmod 2 = 0 := by rw [Int.tmod_eq_emod_of_nonneg (by omega)]; omega
  have HU0 : Hid (decL l = (decL (l.drop (2 * 0))).map ([] ++ ·)) := by
    show _ = _
    rw [Nat.mul_zero, List.drop_zero]
    cases decL l <;> rfl
  have HE := Lib.hid hodd
  clear hn hodd
  go_enter Tryd.func17, Tryd.ntmps17
  go_wp2
  go_loopw [4, 5, 6, 7] (fun bv iv _ _ wr => RdR w l n bv iv wr) (fun _ iv _ _ _ => n - (intOf iv).toNat)
  case atStart => exact ⟨0, [], by omega, rfl, rfl, HU0, ho1, hb1⟩
  case round =>
    clear ho1 hb1 HU0
    obtain ⟨j, bs, hj, rfl, hbl, hq, hown, hb⟩ := hrel
    obtain ⟨a, cp, rfl⟩ := own_slice hown
    have hz := hb.size
    obtain ⟨p, hp⟩ : ∃ p, 2 * j = p := ⟨_, rfl⟩
    have HP := Lib.hid hp
    rw [hp] at hq hj ⊢
    by_cases hlt : p < n
    · have hp1n : p + 1 < n := by have := HE.out; omega
      have hpl : p < l.length := by have := HN.out; omega
      have hpl1 : p + 1 < l.length := by have := HN.out; omega
      have hps : p < S.size := by omega
      have hps1 : p + 1 < S.size := by omega
      obtain ⟨a1, ha⟩ : ∃ a1, l[p] = a1 := ⟨_, rfl⟩
      obtain ⟨a2, hb2⟩ : ∃ a2, l[p + 1] = a2 := ⟨_, rfl⟩
      obtain ⟨y, hy⟩ : ∃ y, a1.toNat = y := ⟨_, rfl⟩
      obtain ⟨z, hz'⟩ : ∃ z, a2.toNat = z := ⟨_, rfl⟩
      have hga : (S[p]'hps).toNat = y := by rw [str_get HS.out p hps hpl, ha, hy]
      have hgb : (S[p + 1]'hps1).toNat = z := by rw [str_get HS.out (p + 1) hps1 hpl1, hb2, hz']
      have hda : (∀ W, Calls Tryd.prog 36 #[.int .u8 y] W fun e w' => e = .returned (.int .i64 (hexi a1)) ∧ W = w') := fun W => by
        have := rdigit_any a1 W
        rwa [hy] at this
      have hdb : (∀ W, Calls Tryd.prog 36 #[.int .u8 z] W fun e w' => e = .returned (.int .i64 (hexi a2)) ∧ W = w') := fun W => by
        have := rdigit_any a2 W
        rwa [hz'] at this
      have HD2 : Hid (l.drop p = a1 :: a2 :: l.drop (p + 2)) := by
        show _ = _
        rw [List.drop_eq_getElem_cons hpl, ha, List.drop_eq_getElem_cons hpl1, hb2]
      have w1 : IntKind.i64.wrap ((p : Int) + 1) = (p : Int) + 1 := IntWalk.i64_in _ (by omega)
      have i1 : (0 : Int) ≤ (p : Int) + 1 ∧ (p : Int) + 1 < (n : Int) := by omega
      have i3 := i1.1
      have i4 := i1.2
      unfold hexi at hda hdb
      clear hpl hpl1 ha hb2 hy hz' hp
      cases hva : hexv a1 with
      | none =>
        have hno : Hid (decL l = none) := by
          show _ = _
          rw [hq.out, HD2.out, dec_two, hva]
          rfl
        rw [hva] at hda
        have HDA := Lib.hid hda
        have HDB := Lib.hid hdb
        clear hda hdb hva
        cases hvb : hexv a2 with
        | none =>
          have HDB2 := HDB.out
          rw [hvb] at HDB2
          have HDB3 := Lib.hid HDB2
          clear HDB2 HDB
          go_wp2
          go_quiet ((go_at_call 36; (first | with_reducible exact quiet_none HDA.out | with_reducible exact quiet_none HDB3.out)))
          go_wp2
          go_ret2
          exact ⟨.inl ⟨hno.out, rfl⟩, be_drewN hb nq⟩
        | some v =>
          have HDB2 := HDB.out
          rw [hvb] at HDB2
          have HDB3 := Lib.hid HDB2
          clear HDB2 HDB
          go_wp2
          go_quiet ((go_at_call 36; (first | with_reducible exact quiet_none HDA.out | with_reducible exact quiet_none HDB3.out)))
          go_wp2
          go_ret2
          exact ⟨.inl ⟨hno.out, rfl⟩, be_drewN hb nq⟩
      | some u =>
        rw [hva] at hda
        have hu16 := hexv_lt _ _ hva
        cases hvb : hexv a2 with
        | none =>
          have hno : Hid (decL l = none) := by
            show _ = _
            rw [hq.out, HD2.out, dec_two, hva, hvb]
            rfl
          rw [hvb] at hdb
          have HDA := Lib.hid hda
          have HDB := Lib.hid hdb
          clear hda hdb hva hvb
          go_wp2
          go_quiet ((go_at_call 36; (first | with_reducible exact quiet_none HDA.out | with_reducible exact quiet_none HDB.out)))
          go_wp2
          go_ret2
          exact ⟨.inl ⟨hno.out, rfl⟩, be_drewN hb nq⟩
        | some v =>
          rw [hvb] at hdb
          have hv16 := hexv_lt _ _ hvb
          obtain ⟨r, hr⟩ : ∃ r, 16 * u + v = r := ⟨_, rfl⟩
          have hri : IntKind.u8.wrap (16 * (u : Int) + (v : Int)) = (r : Int) := by rw [IntKind.wrap_u8]; omega
          have hrt : Hid ((UInt8.ofNat (16 * u + v)).toNat = r) := by
            show (BitVec.ofNat 8 (16 * u + v)).toNat = _
            rw [BitVec.toNat_ofNat]
            omega
          have hq2 : Hid (decL l = (decL (l.drop (p + 2))).map ((bs ++ [UInt8.ofNat (16 * u + v)]) ++ ·)) := by
            show _ = _
            rw [hq.out, HD2.out, dec_two, hva, hvb]
            exact map_snoc _ _ _
          have HDA := Lib.hid hda
          have HDB := Lib.hid hdb
          have HR := Lib.hid hr
          have hj5 : j ≤ 5000000 := by have := HP.out; omega
          clear hda hdb hva hvb hr
          go_wp2
          go_quiet ((go_at_call 36; (first | with_reducible exact quiet_none HDA.out | with_reducible exact quiet_none HDB.out)))
          have hown3 := own_drewN hown nq
          have hb3 := be_drewN hb nq
          clear hown hb hz
          have hown := hown3
          have hb := hb3
          clear hown3 hb3
          generalize wr.drewN nq = w3 at hown hb ⊢
          have hz := hb.size
          go_wp2_with (at_builtin; go_loud (refine wpList_append_rd _ rfl _ _ _ rfl w.heap.size 5 i0 (.int .u8 0) 1 Tryd.underlying39 hi hz0 hz1 hz2 rfl (.slice a j cp) j (Lib.byteCells bs) rfl (hown.alloc _) _ 1 1 [.int .u8 (r : Nat)] rfl rfl (fun j u hu => ⟨_, rfl, cell_one_new _ _ _ j u hu⟩) (oneU _) (by unfold maxLen; omega) (by omega) (hb.alloc hb.size _).size ?_; intro v' w6 hown6 hg6 hv6; have hb3a := hb.alloc hb.size (.cells #[.int .u8 (r : Nat)] 5); have hb6 : Below w.heap.size w w6 := hb3a.grown hg6 hb3a.size (fun q hq => (hown.lt q hq).1)))
          go_roundw
          case rel =>
            refine ⟨j + 1, bs ++ [UInt8.ofNat (16 * u + v)], ?_, ?_, ?_, ?_, ?_, hb6⟩
            · have := HP.out
              omega
            · rw [show 2 * (j + 1) = p + 2 by have := HP.out; omega]
              go_num
            · show _ = _
              have := hbl.out
              simp
              omega
            · rw [show 2 * (j + 1) = p + 2 by have := HP.out; omega]
              exact hq2
            · rw [cells_snoc, hrt.out]
              exact hown6
          case measure => simp [intOf] <;> omega
    · obtain rfl : p = n := by omega
      have hres : Hid (decL l = some bs) := by
        show _ = _
        rw [hq.out, ← HN.out, List.drop_length]
        simp [decL]
      clear hp
      go_wp2
      go_ret2
      exact ⟨.inr ⟨bs, a, cp, hres.out, by rw [hbl.out]; rfl, by rw [hbl.out]; exact hown⟩, hb⟩
end Go.Proofs.YtdkbmpncohhioaaDoor
