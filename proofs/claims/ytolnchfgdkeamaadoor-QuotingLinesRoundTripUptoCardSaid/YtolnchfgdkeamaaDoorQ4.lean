import Derived.Test.YtolnchfgdkeamaaDoorQ2
import Derived.Test.YtolnchfgdkeamaaDoorQ3
import Derived.WalkKit
import Derived.WalkSpells
import Derived.WalkLawsBesides
import Derived.Lib.Hide
import Derived.Below
import Derived.Deep.QuietTactic
import Derived.BigQuiet
import Derived.IntWalk
import Derived.Laws.BitsAllLaws
namespace Go.Proofs.YtolnchfgdkeamaaDoor
open Go.RowKit
set_option linter.unusedVariables false
set_option linter.unusedSimpArgs false
theorem quiet_none {P : Program} {f : FuncId} {args : Array Value} {v : Value} (h : ∀ W : World, Calls P f args W fun e w' => e = .returned v ∧ W = w') {w : World} {n : Nat} : Calls P f args (w.drewN n) fun e w'' => e = .returned v ∧ ∃ m, w'' = w.drewN m := (h _).mono fun _ _ hh => ⟨hh.1, n, hh.2.symm⟩
def unV (o : Option (List UInt8)) : Value := match o with
  | some s => .tuple #[.string ⟨s.toArray⟩, .int .i64 0]
  | none => .tuple #[.string ⟨#[]⟩, .int .i64 3]
def UnR (w : World) (l : List UInt8) (n : Nat) (ok i : Value) (wr : World) : Prop := ∃ (p : Nat) (bs : List UInt8), p ≤ n ∧ ok = .bool true ∧ i = .int .i64 p ∧ bs.length ≤ p ∧ Hid (uqL l = (uqL (l.drop p)).map (bs ++ ·)) ∧ Lib.IsBuilderF 40 5 w.heap.size w.heap.size (Lib.byteCells bs) wr ∧ Below w.heap.size w wr
theorem str_beq {S : ByteArray} {l : List UInt8} (h : S.data.toList = l) (m : List UInt8) : (S.toList == m) = (l == m) := by
  rw [ByteArray.toList_eq, h]
theorem bf_drewN {B b : Nat} {bs : List Value} {w : World} (h : Lib.IsBuilderF 40 5 B b bs w) (n : Nat) : Lib.IsBuilderF 40 5 B b bs (w.drewN n) := by
  induction n generalizing w with
  | zero => exact h
  | succ n ih => exact ih h
theorem be_drewN {B : Nat} {w0 w : World} (h : Below B w0 w) (n : Nat) : Below B w0 (w.drewN n) := ⟨h.os, h.tape, h.output, h.size, h.block⟩
theorem map_snoc (o : Option (List UInt8)) (bs : List UInt8) (c : UInt8) : (o.map (c :: ·)).map (bs ++ ·) = o.map ((bs ++ [c]) ++ ·) := by
  cases o <;> simp
set_option maxRecDepth 50000 in
set_option maxHeartbeats 4000000 in
theorem unq_any (S : ByteArray) (l : List UInt8) (w : World) (hS : S.data.toList = l) (hl : l.length ≤ 10000000) :
    Calls Tryd.prog 10 #[.string S] w fun e w' => e = .returned (unV (unqL l)) ∧ Below w.heap.size w w' := by
  by_cases h42 : l = [42]
  · subst h42
    obtain rfl : S = ⟨#[42]⟩ := by
      apply ByteArray.ext
      rw [← Array.toArray_toList (xs := S.data), hS]
    clear hS
    go_enter Tryd.func10, Tryd.ntmps10
    go_wp2
    go_step3
    go_wp2
    rw [Exit.noGoto_ret]
    go_ret2
    exact ⟨rfl, Below.refl _ _⟩
  by_cases h0 : l = []
  · subst h0
    obtain rfl := str_nil hS
    clear hS
    go_enter Tryd.func10, Tryd.ntmps10
    go_wp2
    go_step3
    go_wp2
    go_step3
    go_wp2
    go_loopw [5, 6, 7, 8] (fun ok i _ _ wr => ok = .bool false ∧ i = .int .i64 0 ∧ Below w.heap.size w wr) (fun _ i _ _ _ => 0)
    case atStart => exact ⟨rfl, rfl, Below.alloc (Below.refl w.heap.size w) (Nat.le_refl _) (.cells #[.pointer none, .slice none 0 0] 40)⟩
    case round =>
      obtain ⟨rfl, rfl, hb0⟩ := hrel
      go_wp2
      rw [Exit.noGoto_ret]
      go_ret2
      exact ⟨rfl, hb0⟩
  have hne2 : ¬ S.toList = [] := by
    rw [ByteArray.toList_eq, hS]
    exact h0
  have hne : S.toList.isEmpty = false := by
    cases hq : S.toList with
    | nil => exact absurd hq hne2
    | cons _ _ => rfl
  have h42b : ¬ S.toList = [42] := by
    rw [ByteArray.toList_eq, hS]
    exact h42
  have h42c : (S.toList == [42]) = false := by
    rw [beq_eq_false_iff_ne]
    exact h42b
  have hsz0 := str_size hS
  obtain ⟨n, hn⟩ : ∃ n, l.length = n := ⟨_, rfl⟩
  have hsz : S.size = n := by rw [hsz0, hn]
  have HS := Lib.hid hS
  have HN := Lib.hid hn
  have hnb : n ≤ 10000000 := by omega
  have hfi := Lib.IsBuilderF.of (Lib.fresh_isBuilder 40 5 w)
  have hfb := Below.alloc (Below.refl w.heap.size w) (Nat.le_refl _) (.cells #[.pointer none, .slice none 0 0] 40)
  have hun : Hid (unqL l = uqL l) := by
    show _ = _
    unfold unqL
    rw [if_neg h42, if_neg h0]
  have HU0 : Hid (uqL l = (uqL (l.drop 0)).map ([] ++ ·)) := by
    show _ = _
    rw [List.drop_zero]
    cases uqL l <;> rfl
  clear hS hsz0 hl h0 hn h42
  go_enter Tryd.func10, Tryd.ntmps10
  go_wp2
  go_step3
  go_wp2
  go_step3
  go_wp2
  clear hne2 hne h42b h42c
  go_loopw [5, 6, 7, 8] (fun ok i _ _ wr => UnR w l n ok i wr) (fun _ i _ _ _ => n - (intOf i).toNat)
  case atStart => exact ⟨0, [], Nat.zero_le _, rfl, rfl, Nat.le_refl _, HU0, hfi, hfb⟩
  case round =>
    clear hfi hfb HU0
    obtain ⟨p, bs, hp, rfl, rfl, hbs, hq, hi0, hb0⟩ := hrel
    have hz0 := hb0.size
    by_cases hlt : p < n
    · have hpl : p < l.length := by have := HN.out; omega
      have hps : p < S.size := by omega
      have gp := str_get HS.out p hps hpl
      obtain ⟨c, hc⟩ : ∃ c, l[p] = c := ⟨_, rfl⟩
      obtain ⟨x, hx⟩ : ∃ x, c.toNat = x := ⟨_, rfl⟩
      have hgp : (S[p]'hps).toNat = x := by rw [gp, hc, hx]
      have hx256 : x < 256 := by rw [← hx]; exact c.toNat_lt
      have HD : Hid (l.drop p = c :: l.drop (p + 1)) := by
        show _ = _
        rw [List.drop_eq_getElem_cons hpl, hc]
      have HX := Lib.hid hx
      have HL' : Hid (∀ W, Calls Tryd.prog 24 #[.int .u8 x] W fun e w' => e = .returned (.bool (lit c)) ∧ W = w') := fun W => by
        have := lit_any c W
        rwa [hx] at this
      clear gp hc
      cases hlit : lit c with
      | true =>
        have hq2 : Hid (uqL l = (uqL (l.drop (p + 1))).map ((bs ++ [c]) ++ ·)) := by
          show _ = _
          rw [hq.out, HD.out, uq_lit hlit, map_snoc]
        clear hx hpl
        go_wp2_with (first
          | (go_at_call 24; (with_reducible refine (HL'.out _).mono ?_); rintro e w1 ⟨rfl, rfl⟩; rw [hlit])
          | (go_at_call 25; go_loud ((with_reducible refine (wb_any w.heap.size w.heap.size x bs c wr HX.out hi0 (by omega) hz0).mono ?_); rintro e w2 ⟨rfl, hi2, hb2'⟩; have hb2 := hb0.trans hb2'; have hz2 := hb2.size)))
        go_roundw
        case rel => exact ⟨p + 1, bs ++ [c], by omega, rfl, by go_num, by simp; omega, hq2, hi2, hb2⟩
        case measure => simp [intOf] <;> omega
      | false =>
        by_cases h42 : x = 42
        · subst h42
          obtain rfl : c = 42 := UInt8.toNat_inj.1 HX.out
          have HL4 : Hid (∀ W, Calls Tryd.prog 24 #[.int .u8 42] W fun e w' => e = .returned (.bool (lit 42)) ∧ W = w') := fun W => lit_any 42 W
          by_cases hp2 : p + 2 < n
          · have hpl1 : p + 1 < l.length := by have := HN.out; omega
            have hpl2 : p + 2 < l.length := by have := HN.out; omega
            have hps1 : p + 1 < S.size := by omega
            have hps2 : p + 2 < S.size := by omega
            obtain ⟨a, ha⟩ : ∃ a, l[p + 1] = a := ⟨_, rfl⟩
            obtain ⟨b, hb⟩ : ∃ b, l[p + 2] = b := ⟨_, rfl⟩
            obtain ⟨y, hy⟩ : ∃ y, a.toNat = y := ⟨_, rfl⟩
            obtain ⟨z, hz⟩ : ∃ z, b.toNat = z := ⟨_, rfl⟩
            have hga : (S[p + 1]'hps1).toNat = y := by rw [str_get HS.out (p + 1) hps1 hpl1, ha, hy]
            have hgb : (S[p + 2]'hps2).toNat = z := by rw [str_get HS.out (p + 2) hps2 hpl2, hb, hz]
            have hE0 : (∀ W, Calls Tryd.prog 26 #[.int .u8 y, .int .u8 z] W fun e w' => e = .returned (.tuple #[.int .u8 (esN a b : Nat), .bool (es2 a b).isSome]) ∧ W = w') := fun W => by
              have := escaped_any a b W
              rw [hy, hz] at this
              exact this
            have HD2 : Hid (l.drop p = 42 :: a :: b :: l.drop (p + 1 + 2)) := by
              show _ = _
              rw [HD.out, List.drop_eq_getElem_cons hpl1, ha, List.drop_eq_getElem_cons hpl2, hb]
            have w1 : IntKind.i64.wrap ((p : Int) + 1) = (p : Int) + 1 := IntWalk.i64_in _ (by omega)
            have w2 : IntKind.i64.wrap ((p : Int) + 2) = (p : Int) + 2 := IntWalk.i64_in _ (by omega)
            have i1 : (0 : Int) ≤ (p : Int) + 1 ∧ (p : Int) + 1 < (n : Int) := by omega
            have i2 : (0 : Int) ≤ (p : Int) + 2 ∧ (p : Int) + 2 < (n : Int) := by omega
            have i3 := i1.1
            have i4 := i1.2
            have i5 := i2.1
            have i6 := i2.2
            have hes := fun c => es_some (h := a) (l := b) (c := c)
            obtain ⟨v, hv⟩ : ∃ v, esN a b = v := ⟨_, rfl⟩
            have HV := Lib.hid hv
            have HES := Lib.hid hes
            rw [hv] at hE0
            clear hx hpl hpl1 hpl2 ha hb hy hz hv hes
            cases hee : es2 a b with
            | some x =>
              have hxv : Hid (x.toNat = v) := by show _ = _; rw [HES.out x hee, HV.out]
              have hq2 : Hid (uqL l = (uqL (l.drop (p + 1 + 2))).map ((bs ++ [x]) ++ ·)) := by
                show _ = _
                rw [hq.out, HD2.out, uq_esc, hee, map_snoc]
              rw [hee] at hE0
              have HE := Lib.hid hE0
              clear hee hE0
              go_wp2_with (go_at_call 24; (with_reducible refine (HL4.out _).mono ?_); rintro e w1 ⟨rfl, rfl⟩; rw [hlit])
              go_quiet ((go_at_call 26; exact quiet_none HE.out))
              have hi3 := bf_drewN hi0 nq
              have hb3 := be_drewN hb0 nq
              have hz3 := hb3.size
              generalize wr.drewN nq = w3 at hi3 hb3 hz3 ⊢
              go_wp2_with (go_at_call 25; go_loud ((with_reducible refine (wb_any w.heap.size w.heap.size v bs x w3 hxv.out hi3 (by omega) hz3).mono ?_); rintro e w2 ⟨rfl, hi2, hb2'⟩; have hb2 := hb3.trans hb2'; have hz2 := hb2.size))
              go_roundw
              case rel => exact ⟨p + 1 + 2, bs ++ [x], by omega, rfl, by go_num, by simp; omega, hq2, hi2, hb2⟩
              case measure => simp [intOf] <;> omega
            | none =>
              have hno : Hid (unqL l = none) := by
                show _ = _
                rw [hun.out, hq.out, HD2.out, uq_esc, hee]
                rfl
              rw [hee] at hE0
              have HE := Lib.hid hE0
              clear hee hE0
              go_wp2_with (go_at_call 24; (with_reducible refine (HL4.out _).mono ?_); rintro e w1 ⟨rfl, rfl⟩; rw [hlit])
              go_quiet ((go_at_call 26; exact quiet_none HE.out))
              have hb3 := be_drewN hb0 nq
              generalize wr.drewN nq = w3 at hb3 ⊢
              go_wp2
              rw [Exit.noGoto_ret]
              go_ret2
              exact ⟨by rw [hno.out]; rfl, hb3⟩
          · have hno : Hid (unqL l = none) := by
              show _ = _
              rw [hun.out, hq.out, HD.out]
              have h1 : (l.drop (p + 1)).length ≤ 1 := by rw [List.length_drop, HN.out]; omega
              rcases hd : l.drop (p + 1) with _ | ⟨a, _ | ⟨b, t⟩⟩
              · rw [uq_short1]; rfl
              · rw [uq_short2]; rfl
              · rw [hd] at h1; simp at h1
            clear hx hpl
            go_wp2_with (go_at_call 24; (with_reducible refine (HL4.out _).mono ?_); rintro e w1 ⟨rfl, rfl⟩; rw [hlit])
            rw [Exit.noGoto_ret]
            go_ret2
            exact ⟨by rw [hno.out]; rfl, hb0⟩
        · have hno : Hid (unqL l = none) := by
            show _ = _
            rw [hun.out, hq.out, HD.out, uq_bad hlit (by intro e; subst e; exact h42 HX.out.symm)]
            rfl
          clear hx hpl
          go_wp2_with (go_at_call 24; (with_reducible refine (HL'.out _).mono ?_); rintro e w1 ⟨rfl, rfl⟩; rw [hlit])
          rw [Exit.noGoto_ret]
          go_ret2
          exact ⟨by rw [hno.out]; rfl, hb0⟩
    · obtain rfl : p = n := by omega
      have hres : Hid (unqL l = some bs) := by
        show _ = _
        rw [hun.out, hq.out, ← HN.out, List.drop_length]
        simp [uqL]
      go_wp2_with (go_at_call 27; go_loud ((with_reducible refine (bstr_any w.heap.size w.heap.size bs _ hi0 hz0).mono ?_); rintro e w2 ⟨rfl, hb2⟩))
      rw [Exit.noGoto_ret]
      go_ret2
      exact ⟨by rw [hres.out]; rfl, hb0.trans hb2⟩
end Go.Proofs.YtolnchfgdkeamaaDoor
