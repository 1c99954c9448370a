import Derived.Test.YtbplcgbfhijbcaaEn
namespace Go.Proofs.Ytbplcgbfhijbcaa
open Go.RowKit
set_option linter.unusedVariables false
set_option linter.unusedSimpArgs false
theorem fresh_rowi (W : World) : (W.alloc (.cells #[] 3)).ownsRow W.heap.size 3 1 (.slice (some ⟨W.heap.size, 0, none⟩) 0 0) 0 [] := World.ownsRow_made W #[] 0 (Nat.le_refl _) (by unfold maxLen; omega) (by simp)
theorem nil_rowi (W : World) (B : Nat) : W.ownsRow B 3 1 (.slice none 0 0) 0 [] := ⟨by simp, .inl ⟨rfl, rfl⟩⟩
theorem infoi : (Try.prog.info? 3).map (fun i => (i.zero, i.size, i.bytes)) = some (some (.int .i64 0), 1, 8) := by kernel_rfl
/-- One more int behind a row of the call's own. -/
theorem wpList_snoci {wr : World} {B : Nat} {ops : Array Oper} {rest : List Oper} {o : Oper} {a : Act} {Q : Exit → Act → World → Prop} (hgd : o.guard = none) (s x : Operand)
    (ho : o.op = .call { callee := .builtin .append, args := #[s, x], argTypes := #[58, 58] })
    {v : Value} {n : Nat} {l : List Int} (hown : wr.ownsRow B 3 1 v n (iv l)) (hB : B ≤ wr.heap.size) (hn : n + 1 ≤ 100000000)
    (y : Int) (hs : a.eval s = v) (hx : a.eval x = .slice (some ⟨wr.heap.size, 0, none⟩) 1 1)
    (h : ∀ v' w', w'.ownsRow B 3 1 v' (n + 1) (iv (l ++ [y])) → Below B wr w' → wr.grownBy w' v.ownBlock → wpList Try.prog ops Q rest (a.put o.dst v') w') :
    wpList Try.prog ops Q (o :: rest) a (wr.alloc (.cells #[.int .i64 y] 3)) := by
  obtain ⟨i0, hi, hz0, hz1, hz2⟩ := info_parts infoi
  have hb1 := Below.alloc (Below.refl B wr) hB (.cells #[.int .i64 y] 3)
  have hsz : B ≤ (wr.alloc (.cells #[.int .i64 y] 3)).heap.size := by simp; omega
  refine wpList_append_rd _ hgd s x _ ho B 3 i0 (.int .i64 0) 8 Try.underlying58 hi hz0 hz1 hz2 rfl v n (iv l) hs (hown.alloc _) (some ⟨wr.heap.size, 0, none⟩) 1 1 [.int .i64 y] hx rfl (fun j u hu => ⟨_, rfl, cell_one_new _ _ _ j u hu⟩) ?_ (by unfold maxLen; omega) (by omega) hsz ?_
  · intro u hu
    simp at hu
    subst hu
    rfl
  · intro v' w' hown2 hg ho2
    exact h v' w' (by rw [iv_snoc]; exact hown2) (hb1.grown hg hsz (fun q hq => (hown.lt q hq).1)) (grown_trans (World.grownBy_alloc wr _ _) hg)
/-- What Ints answers: the ints in a row of their own, or an error. -/
def IsA (w : World) (F : List Int × Nat × Nat) (e : Ending) (w' : World) : Prop :=
  (F.2.2 = 0 ∧ ∃ a c, e = trs (.slice a F.1.length c) (F.2.1 : Int) 0 ∧ F.1.length ≤ c ∧ w'.ownsRow w.heap.size 3 1 (.slice a F.1.length c) F.1.length (iv F.1) ∧ Below w.heap.size w w') ∨
  (F.2.2 ≠ 0 ∧ e = trs (.slice none 0 0) 0 (F.2.2 : Int) ∧ Below w.heap.size w w')
def intsM (l : List (BitVec 8)) (at' most : Int) : List Int × Nat × Nat :=
  if at' < 0 ∨ (l.length : Int) < at' then ([], 0, 2)
  else if lenE (l.drop at'.toNat) most ≠ 0 then ([], 0, lenE (l.drop at'.toNat) most)
  else idec l (uvV (l.drop at'.toNat)) (at'.toNat + uvN (l.drop at'.toNat)) 0 []
theorem IsA.bad {w w' : World} {F : List Int × Nat × Nat} {E : Nat} (h : F = ([], 0, E)) (hE : E ≠ 0) (hb : Below w.heap.size w w') : IsA w F (trs (.slice none 0 0) 0 (E : Int)) w' := by
  subst h; exact .inr ⟨hE, rfl, hb⟩
theorem IsA.good {w w' : World} {F : List Int × Nat × Nat} {v : List Int} {V : Value} {q : Nat} (h : F = (v, q, 0)) (ho : w'.ownsRow w.heap.size 3 1 V v.length (iv v)) (hb : Below w.heap.size w w') : IsA w F (trs V (q : Int) 0) w' := by
  subst h
  obtain ⟨a, c, rfl⟩ := own_slice ho
  exact .inl ⟨rfl, a, c, rfl, own_cap ho, ho, hb⟩
theorem bi_out (a : Option Addr) (n c : Nat) (at' most : Int) (w : World) (hn : n ≤ 4611686018427387904) (hb : at' < 0 ∨ (n : Int) < at') :
    Calls Try.prog 36 #[.slice a n c, .int .i64 at', .int .i64 most] w fun e w' => e = trs (.slice none 0 0) 0 2 ∧ Below w.heap.size w w' := by
  go_enter Try.func36, Try.ntmps36
  go_wp2_with (first | (go_at_call 45; go_loud ((with_reducible refine (newd_bad a n c at' _ hn hb).mono ?_); rintro e1 w1 ⟨rfl, hd1, hb1⟩; obtain ⟨k1, k2⟩ := hd1.cells)) | (go_at_call 67; go_loud ((with_reducible refine (dlen_err _ _ _ _ _ _ hd1 (by decide)).mono ?_); rintro e1 w2 ⟨rfl, rfl⟩)))
  refine wp_loop_rounds 1 ?_
  rw [rounds_succ]
  go_wp2
  go_quiet (fail)
  go_wp2
  go_ret3
  exact ⟨rfl, below_drewN hb1 _⟩
theorem bi_len (a : Option Addr) (n c k : Nat) (most : Int) (l : List (BitVec 8)) (w : World) (hn : l.length = n) (hc : n ≤ c) (hl : n ≤ 4611686018427387904) (hm : most ≤ 9223372036854775807) (hr : Rd w a l) (hk : k ≤ n) (hu : lenE (l.drop k) most ≠ 0) :
    Calls Try.prog 36 #[.slice a n c, .int .i64 k, .int .i64 most] w fun e w' => e = trs (.slice none 0 0) 0 (lenE (l.drop k) most) ∧ Below w.heap.size w w' := by
  have hp : k + (l.drop k).length ≤ 4611686018427387904 := by rw [List.length_drop]; omega
  obtain ⟨E, hE⟩ : ∃ E, lenE (l.drop k) most = E := ⟨_, rfl⟩
  have hcon := fun g w hd => dlen_bad g (l.drop k) k most w hp hm hd hu
  simp only [hE] at hcon
  rw [hE] at hu ⊢
  have q1 : ((E : Int) == 0) = false := by simp; exact hu
  have q2 : ((E : Int) != 0) = true := by simp; exact hu
  have HC := Lib.hid hcon
  clear hcon hE hu
  go_enter Try.func36, Try.ntmps36
  go_wp2_with (first | (go_at_call 45; go_loud ((with_reducible refine (newd_ok a n c k l _ hn hc hl hr hk).mono ?_); rintro e1 w1 ⟨rfl, hd1, hb1⟩)) | (go_at_call 67; go_loud ((with_reducible refine (HC.out _ _ hd1).mono ?_); rintro e1 w2 ⟨rfl, ⟨l', p', hlp, hd2⟩, hg2⟩; obtain ⟨k1, k2⟩ := hd2.cells)))
  refine wp_loop_rounds 1 ?_
  rw [rounds_succ]
  go_wp2
  go_quiet (fail)
  go_wp2
  go_ret3
  exact ⟨rfl, below_drewN (hb1.grown hg2 hb1.size (fun q hq => by cases hq; exact Nat.le_refl _)) _⟩
/-- The decoder's loop. -/
def BiR (w w1 : World) (l : List (BitVec 8)) (n : Nat) (F : List Int × Nat × Nat) (v la i : Value) (wr : World) : Prop := ∃ (j r p : Nat) (L : Int) (acc : List Int), j + r = n ∧ i = .int .i64 j ∧ la = .int .i64 L ∧ (-9223372036854775808 ≤ L ∧ L ≤ 9223372036854775807) ∧
  Hid (idec l r p L acc = F) ∧ Hid (acc.length ≤ p ∧ p ≤ l.length ∧ acc.length = j) ∧ wr.ownsRow w1.heap.size 3 1 v acc.length (iv acc) ∧ Ds wr w.heap.size (l.drop p) p 0 ∧ Below w.heap.size w wr ∧ w1.heap.size ≤ wr.heap.size
set_option maxRecDepth 50000 in
theorem bi_dec (a : Option Addr) (n c k : Nat) (most : Int) (l : List (BitVec 8)) (w : World) (hn : l.length = n) (hc : n ≤ c) (hl : n ≤ 1000000) (hm : most ≤ 9223372036854775807) (hr : Rd w a l) (hk : k ≤ n) (hu : lenE (l.drop k) most = 0) :
    Calls Try.prog 36 #[.slice a n c, .int .i64 k, .int .i64 most] w (IsA w (idec l (uvV (l.drop k)) (k + uvN (l.drop k)) 0 [])) := by
  subst hn
  have hp : k + (l.drop k).length ≤ 4611686018427387904 := by rw [List.length_drop]; omega
  have hcon := fun g w hd => dlen_ok g (l.drop k) k most w hp hm hd hu
  have hue := lenE_ok hu
  have hN := uvE_len _ hue.1
  rw [List.length_drop] at hN
  have hxl : uvV (l.drop k) ≤ 9223372036854775807 := by omega
  simp only [List.drop_drop] at hcon
  obtain ⟨x, hx⟩ : ∃ x, uvV (l.drop k) = x := ⟨_, rfl⟩
  obtain ⟨p, hpp⟩ : ∃ p, k + uvN (l.drop k) = p := ⟨_, rfl⟩
  simp only [hpp] at hcon
  simp only [hx] at hcon hxl
  have hpl : p ≤ l.length := by omega
  rw [hpp, hx]
  obtain ⟨F, hF⟩ : ∃ F, idec l x p 0 [] = F := ⟨_, rfl⟩
  rw [hF]
  have HF := Lib.hid hF
  have HC := Lib.hid hcon
  have hcl : l.length ≤ 4611686018427387904 := by omega
  clear hcon hx hpp hF hN hue hu
  go_enter Try.func36, Try.ntmps36
  go_wp2_with (first | (go_at_call 45; go_loud ((with_reducible refine (newd_ok a _ c k l _ rfl hc hcl hr hk).mono ?_); rintro e1 w1 ⟨rfl, hd1, hb1⟩; have hgl := hd1.lt)) | (go_at_call 67; go_loud ((with_reducible refine (HC.out _ _ hd1).mono ?_); rintro e1 w2 ⟨rfl, hd2, hg2⟩)))
  go_loopw [10, 11, 18] (fun v la i wr => BiR w w1 l x F v la i wr) (fun _ _ i _ => x - (intOf i).toNat)
  case atStart => exact ⟨0, x, p, 0, [], by omega, rfl, rfl, by omega, HF.out, ⟨by simp, hpl, rfl⟩, nil_rowi _ _, hd2, hb1.grown hg2 hb1.size (fun q hq => by cases hq; exact Nat.le_refl _), hg2.size⟩
  case round =>
    obtain ⟨j, r, p, L, acc, hj, rfl, rfl, hLb, hid, hap, hown, hd, hb, hz⟩ := hrel
    obtain ⟨hk1, hk2⟩ := hd.cells
    rcases r with _ | r
    · obtain rfl : j = x := by omega
      rw [idec_zero] at hid
      go_wp2
      go_quiet (fail)
      go_wp2
      go_ret3
      exact IsA.good hid.out.symm (own_mono (w := World.drewN _ _) hown (by omega)) (below_drewN hb _)
    · have hp2 : p + (l.drop p).length ≤ 4611686018427387904 := by have := hap.out; rw [List.length_drop]; omega
      have hv0 : u10.ownBlock = none ∨ u10.ownBlock ≠ some w.heap.size := by
        rcases hq : u10.ownBlock with _ | q
        · exact .inl rfl
        · right; intro e; injection e with e; have := (hown.lt q hq).1; omega
      by_cases he : uvE (l.drop p) = 0
      · have hcv := dvar_ok w.heap.size (l.drop p) p wr hp2 hd he
        have hNl := uvE_len _ he
        rw [List.length_drop] at hNl
        rw [idec_ok he, ← wrap64_wr] at hid
        have huz := unzz_in (uvV_lt _ he)
        obtain ⟨y, hy⟩ : ∃ y, unzz (uvV (l.drop p)) = y := ⟨_, rfl⟩
        obtain ⟨N, hNN⟩ : ∃ N, uvN (l.drop p) = N := ⟨_, rfl⟩
        have hN0 : 0 < N := by rw [← hNN]; unfold uvN; omega
        rw [hNN] at hid hcv hNl
        rw [hy] at hid hcv huz
        rw [List.drop_drop] at hcv
        have HV := Lib.hid hcv
        have hn1 := Lib.hid (show acc.length + 1 ≤ 100000000 by have := hap.out; omega)
        clear hcv hy hNN he
        go_wp2_with (first
          | (go_at_call 47; go_loud ((with_reducible refine HV.out.mono ?_); rintro e w3 ⟨rfl, hd3, hg3⟩; obtain ⟨k3a, k3b⟩ := hd3.cells; have hown3 := hown.kept hg3 hv0; have hz3 := Nat.le_trans hz hg3.size; have hb3 := hb.grown hg3 hb.size (fun q hq => (by cases hq; exact Nat.le_refl _))))
          | (at_builtin; go_loud (refine wpList_snoci (B := w1.heap.size) rfl _ _ rfl hown3 hz3 hn1.out (wrap64 (L + y)) rfl rfl ?_; intro v' w4 hown4 hb4 _)))
        go_roundw
        case rel =>
          have hw : -9223372036854775808 ≤ wrap64 (L + y) ∧ wrap64 (L + y) ≤ 9223372036854775807 := by rw [wrap64_wr]; exact wr_in _
          refine ⟨j + 1, r, p + N, wrap64 (L + y), acc ++ [wrap64 (L + y)], by omega, by go_num, rfl, hw, hid.out, ?_, by simpa using hown4, hd3.belowB hb4 (by omega), hb3.trans (hb4.mono (by omega)), Nat.le_trans hz3 hb4.size⟩
          have := hap.out
          exact ⟨by rw [List.length_append, List.length_singleton]; omega, by omega, by rw [List.length_append, List.length_singleton]; omega⟩
        case measure => (simp [intOf]; try omega)
      · have hcv := dvar_bad w.heap.size (l.drop p) p wr hp2 hd he
        rw [idec_bad he] at hid
        obtain ⟨E, hE⟩ : ∃ E, uvE (l.drop p) = E := ⟨_, rfl⟩
        rw [hE] at hid hcv he
        have q1 : ((E : Int) == 0) = false := by simp; exact he
        have q2 : ((E : Int) != 0) = true := by simp; exact he
        have HV := Lib.hid hcv
        have HE := Lib.hid he
        clear hcv hE he
        go_wp2_with (go_at_call 47; go_loud ((with_reducible refine HV.out.mono ?_); rintro e w3 ⟨rfl, ⟨l', p', hlp, hd3⟩, hg3⟩; obtain ⟨k3a, k3b⟩ := hd3.cells; have hb3 := hb.grown hg3 hb.size (fun q hq => (by cases hq; exact Nat.le_refl _))))
        go_quiet (fail)
        go_wp2
        go_ret3
        exact IsA.bad hid.out.symm HE.out (below_drewN hb3 _)
end Go.Proofs.Ytbplcgbfhijbcaa
