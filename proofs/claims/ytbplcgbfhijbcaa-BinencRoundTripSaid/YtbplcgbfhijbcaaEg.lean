import Derived.Test.YtbplcgbfhijbcaaEf
namespace Go.Proofs.Ytbplcgbfhijbcaa
open Go.RowKit
set_option linter.unusedVariables false
set_option linter.unusedSimpArgs false
theorem fresh_row8 (W : World) : (W.alloc (.cells #[] 5)).ownsRow W.heap.size 5 1 (.slice (some ⟨W.heap.size, 0, none⟩) 0 0) 0 [] := World.ownsRow_made W #[] 0 (Nat.le_refl _) (by unfold maxLen; omega) (by simp)
theorem nil_row8 (W : World) (B : Nat) : W.ownsRow B 5 1 (.slice none 0 0) 0 [] := ⟨by simp, .inl ⟨rfl, rfl⟩⟩
theorem info8 : (Try.prog.info? 5).map (fun i => (i.zero, i.size, i.bytes)) = some (some (.int .u8 0), 1, 1) := by kernel_rfl
theorem bv8_snoc (l : List (BitVec 8)) (d : BitVec 8) : bv8 (l ++ [d]) = bv8 l ++ [.int .u8 (d.toNat : Int)] := by simp [bv8]
/-- One more byte behind a row of the call's own. -/
theorem wpList_snoc8 {wr : World} {B : Nat} {ops : Array Oper} {rest : List Oper} {o : Oper} {a : Act} {Q : Exit → Act → World → Prop} (hgd : o.guard = none) (s x : Operand)
    (ho : o.op = .call { callee := .builtin .append, args := #[s, x], argTypes := #[23, 23] })
    {v : Value} {n : Nat} {l : List (BitVec 8)} (hown : wr.ownsRow B 5 1 v n (bv8 l)) (hB : B ≤ wr.heap.size) (hn : n + 1 ≤ 100000000)
    {y : Int} (d : BitVec 8) (hy : y = (d.toNat : Int)) (hs : a.eval s = v) (hx : a.eval x = .slice (some ⟨wr.heap.size, 0, none⟩) 1 1)
    (h : ∀ v' w', w'.ownsRow B 5 1 v' (n + 1) (bv8 (l ++ [d])) → Below B wr w' → wr.grownBy w' v.ownBlock → (v'.ownBlock = v.ownBlock ∨ ∃ q, v'.ownBlock = some q ∧ wr.heap.size ≤ q) → wpList Try.prog ops Q rest (a.put o.dst v') w') :
    wpList Try.prog ops Q (o :: rest) a (wr.alloc (.cells #[.int .u8 y] 5)) := by
  subst hy
  obtain ⟨i0, hi, hz0, hz1, hz2⟩ := info_parts info8
  have hb1 := Below.alloc (Below.refl B wr) hB (.cells #[.int .u8 (d.toNat : Int)] 5)
  have hsz : B ≤ (wr.alloc (.cells #[.int .u8 (d.toNat : Int)] 5)).heap.size := by simp; omega
  refine wpList_append_rd _ hgd s x _ ho B 5 i0 (.int .u8 0) 1 Try.underlying23 hi hz0 hz1 hz2 rfl v n (bv8 l) hs (hown.alloc _) (some ⟨wr.heap.size, 0, none⟩) 1 1 [.int .u8 (d.toNat : Int)] hx rfl (fun j u hu => ⟨_, rfl, cell_one_new _ _ _ j u hu⟩) ?_ (by unfold maxLen; omega) (by omega) hsz ?_
  · intro u hu
    simp at hu
    subst hu
    rfl
  · intro v' w' hown2 hg ho2
    refine h v' w' (by rw [bv8_snoc]; exact hown2) (hb1.grown hg hsz (fun q hq => (hown.lt q hq).1)) (grown_trans (World.grownBy_alloc wr _ _) hg) ?_
    rcases ho2 with h | h
    · exact .inl h
    · exact .inr ⟨_, h, by simp⟩
/-- A row of bytes behind a row of the call's own. -/
theorem wpList_apps8 {w : World} {B : Nat} {ops : Array Oper} {rest : List Oper} {o : Oper} {a : Act} {Q : Exit → Act → World → Prop} (hgd : o.guard = none) (s x : Operand)
    (ho : o.op = .call { callee := .builtin .append, args := #[s, x], argTypes := #[23, 23] })
    {v : Value} {n : Nat} {l : List (BitVec 8)} (hown : w.ownsRow B 5 1 v n (bv8 l)) (hB : B ≤ w.heap.size)
    {b : Option Addr} {m c : Nat} {k : List (BitVec 8)} (hk : k.length = m) (hr : Rd w b k) (hn : n + m ≤ 100000000) (hs : a.eval s = v) (hx : a.eval x = .slice b m c)
    (h : ∀ v' w', w'.ownsRow B 5 1 v' (n + m) (bv8 (l ++ k)) → Below B w w' → wpList Try.prog ops Q rest (a.put o.dst v') w') :
    wpList Try.prog ops Q (o :: rest) a w := by
  obtain ⟨i0, hi, hz0, hz1, hz2⟩ := info_parts info8
  refine wpList_append_rd _ hgd s x _ ho B 5 i0 (.int .u8 0) 1 Try.underlying23 hi hz0 hz1 hz2 rfl v n (bv8 l) hs hown b m c (bv8 k) hx (by rw [bv8_len, hk]) hr.vals (bv8_one _) (by unfold maxLen; omega) (by omega) hB ?_
  intro v' w' hown2 hg _
  exact h v' w' (by rw [bv8_append]; exact hown2) ((Below.refl B w).grown hg hB (fun q hq => (hown.lt q hq).1))
/-- A new row of bytes is returned. -/
def FrB (w : World) (l : List (BitVec 8)) (e : Ending) (w' : World) : Prop := ∃ a c, e = .returned (.slice a l.length c) ∧ l.length ≤ c ∧ w'.ownsRow w.heap.size 5 1 (.slice a l.length c) l.length (bv8 l) ∧ Below w.heap.size w w'
theorem FrB.mk' {w w' : World} {l : List (BitVec 8)} {v : Value} {n : Nat} (hn : l.length = n) (ho : w'.ownsRow w.heap.size 5 1 v n (bv8 l)) (hb : Below w.heap.size w w') : FrB w l (.returned v) w' := by
  subst hn
  obtain ⟨a, c, rfl⟩ := own_slice ho
  exact ⟨a, c, rfl, own_cap ho, ho, hb⟩
theorem FrB.up {w w1 w' : World} {l : List (BitVec 8)} {e : Ending} (h : FrB w1 l e w') (hb : Below w.heap.size w w1) : FrB w l e w' := by
  obtain ⟨a, c, h1, hc, h2, h3⟩ := h
  exact ⟨a, c, h1, hc, own_mono h2 hb.size, hb.trans (h3.mono hb.size)⟩
theorem FrB.eq {w w' : World} {l m : List (BitVec 8)} {e : Ending} (h : FrB w l e w') (hm : l = m) : FrB w m e w' := hm ▸ h
theorem b8nat (x : Nat) (h : x < 256) : (x : Int) = ((BitVec.ofNat 8 x).toNat : Int) := by rw [BitVec.toNat_ofNat]; omega
set_option maxRecDepth 50000 in
set_option maxHeartbeats 1000000 in
theorem putu_any (x : Nat) (w : World) (hx : x < 18446744073709551616) :
    Calls Try.prog 16 #[.int .u64 x] w (FrB w (putU x)) := by
  go_enter Try.func16, Try.ntmps16
  go_wp2
  go_loopw [0, 3] (fun u v wr => ∃ (y : Nat) (l : List (BitVec 8)), y < 18446744073709551616 ∧ u = .int .u64 y ∧ Hid (putU x = l ++ putU y) ∧ wr.ownsRow w.heap.size 5 1 v l.length (bv8 l) ∧ Below w.heap.size w wr) (fun u _ _ => (intOf u).toNat)
  case atStart => exact ⟨x, [], hx, rfl, rfl, nil_row8 _ _, Below.refl _ _⟩
  case round =>
    obtain ⟨y, l, hy, rfl, hl, hown, hb⟩ := hrel
    have hz := hb.size
    have hll : l.length ≤ 10 := by
      have h1 := putU_len10 hx
      rw [hl.out, List.length_append] at h1
      omega
    have hn1 : l.length + 1 ≤ 100000000 := by omega
    by_cases h : y < 128
    · have Q1 := Lib.hid (b8nat y (by omega))
      go_wp2_with (at_builtin; go_loud (refine wpList_snoc8 (B := w.heap.size) rfl _ _ rfl hown hz hn1 (BitVec.ofNat 8 y) Q1.out rfl rfl ?_; intro v' w2 hown2 hb2 _ _))
      go_ret
      rw [putU_small h] at hl
      exact (FrB.mk' (by simp) hown2 (hb.trans hb2)).eq hl.out.symm
    · have Q1 := Lib.hid (show bits .or .u8 ((y : Int) % 256) 128 = ((BitVec.ofNat 8 (y % 128 + 128)).toNat : Int) from by
        rw [show (y : Int) % 256 = ((y % 256 : Nat) : Int) by omega, high7 _ (by omega), ← b8nat _ (by omega)]; omega)
      go_wp2_with (at_builtin; go_loud (refine wpList_snoc8 (B := w.heap.size) rfl _ _ rfl hown hz hn1 (BitVec.ofNat 8 (y % 128 + 128)) Q1.out rfl rfl ?_; intro v' w2 hown2 hb2 _ _))
      go_roundw
      case rel => exact ⟨y / 128, l ++ [BitVec.ofNat 8 (y % 128 + 128)], by omega, by go_num, by show _ = _; rw [hl.out, putU_big h]; simp, by simpa using hown2, hb.trans hb2⟩
      case measure => (simp [intOf]; try omega)
set_option maxRecDepth 50000 in
set_option maxHeartbeats 1000000 in
theorem rputu_any (x : Nat) (w : World) (hx : x < 18446744073709551616) :
    Calls Try.prog 17 #[.int .u64 x] w (FrB w (putU x)) := by
  go_enter Try.func17, Try.ntmps17
  go_wp2
  go_loopw [0, 3] (fun u v wr => ∃ (y : Nat) (l : List (BitVec 8)), y < 18446744073709551616 ∧ u = .int .u64 y ∧ Hid (putU x = l ++ putU y) ∧ wr.ownsRow w.heap.size 5 1 v l.length (bv8 l) ∧ Below w.heap.size w wr) (fun u _ _ => (intOf u).toNat)
  case atStart => exact ⟨x, [], hx, rfl, rfl, fresh_row8 _, Below.alloc (Below.refl _ _) (Nat.le_refl _) _⟩
  case round =>
    obtain ⟨y, l, hy, rfl, hl, hown, hb⟩ := hrel
    have hz := hb.size
    have hll : l.length ≤ 10 := by
      have h1 := putU_len10 hx
      rw [hl.out, List.length_append] at h1
      omega
    have hn1 : l.length + 1 ≤ 100000000 := by omega
    by_cases h : y < 128
    · have Q1 := Lib.hid (b8nat y (by omega))
      go_wp2_with (at_builtin; go_loud (refine wpList_snoc8 (B := w.heap.size) rfl _ _ rfl hown hz hn1 (BitVec.ofNat 8 y) Q1.out rfl rfl ?_; intro v' w2 hown2 hb2 _ _))
      go_ret
      rw [putU_small h] at hl
      exact (FrB.mk' (by simp) hown2 (hb.trans hb2)).eq hl.out.symm
    · have Q1 := Lib.hid (show (y : Int) % 128 + 128 = ((BitVec.ofNat 8 (y % 128 + 128)).toNat : Int) from by
        rw [← b8nat _ (by omega)]; omega)
      go_wp2_with (at_builtin; go_loud (refine wpList_snoc8 (B := w.heap.size) rfl _ _ rfl hown hz hn1 (BitVec.ofNat 8 (y % 128 + 128)) Q1.out rfl rfl ?_; intro v' w2 hown2 hb2 _ _))
      go_roundw
      case rel => exact ⟨y / 128, l ++ [BitVec.ofNat 8 (y % 128 + 128)], by omega, by go_num, by show _ = _; rw [hl.out, putU_big h]; simp, by simpa using hown2, hb.trans hb2⟩
      case measure => (simp [intOf]; try omega)
end Go.Proofs.Ytbplcgbfhijbcaa
