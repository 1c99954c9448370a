import Derived.Test.YtbplcgbfhijbcaaEv
namespace Go.Proofs.Ytbplcgbfhijbcaa
open Go.RowKit
set_option linter.unusedVariables false
set_option linter.unusedSimpArgs false
/-- The bytes of all runs. -/
def exR (rs : List (Nat × BitVec 8)) : List (BitVec 8) := rs.flatMap fun r => List.replicate r.1 r.2
def runV (rs : List (Nat × BitVec 8)) : List Value := rs.flatMap fun r => [.int .i64 (r.1 : Int), .int .u8 (r.2.toNat : Int)]
theorem runV_len (rs : List (Nat × BitVec 8)) : (runV rs).length = rs.length * 2 := by
  induction rs with
  | nil => rfl
  | cons r t ih => simp only [runV, List.flatMap_cons, List.length_append, List.length_cons, List.length_nil] at ih ⊢; omega
theorem runV_snoc (rs : List (Nat × BitVec 8)) (r : Nat × BitVec 8) : runV (rs ++ [r]) = runV rs ++ [.int .i64 (r.1 : Int), .int .u8 (r.2.toNat : Int)] := by simp [runV]
theorem exR_snoc (rs : List (Nat × BitVec 8)) (r : Nat × BitVec 8) : exR (rs ++ [r]) = exR rs ++ List.replicate r.1 r.2 := by simp [exR]
theorem exR_cons (rs : List (Nat × BitVec 8)) (r : Nat × BitVec 8) : exR (r :: rs) = List.replicate r.1 r.2 ++ exR rs := by simp [exR]
theorem runV_at (rs : List (Nat × BitVec 8)) : ∀ i (h : i < rs.length), (runV rs)[i * 2]? = some (.int .i64 (rs[i].1 : Int)) ∧ (runV rs)[i * 2 + 1]? = some (.int .u8 (rs[i].2.toNat : Int)) := by
  induction rs with
  | nil => intro i h; simp at h
  | cons r t ih =>
    intro i h
    have e : runV (r :: t) = .int .i64 (r.1 : Int) :: .int .u8 (r.2.toNat : Int) :: runV t := by simp [runV]
    rcases i with _ | i
    · rw [e]; exact ⟨rfl, rfl⟩
    · have := ih i (by simpa using h)
      rw [e, show (i + 1) * 2 = i * 2 + 2 by omega]
      exact this
/-- A slice reads as runs. -/
def RunsAt (w : World) (a : Option Addr) (rs : List (Nat × BitVec 8)) : Prop := ∀ i (h : i < rs.length), ∃ ad, a = some ad ∧ w.cell? (ad.add (i * 2)) = some (.int .i64 (rs[i].1 : Int)) ∧ w.cell? ⟨(ad.add (i * 2)).block, (ad.add (i * 2)).off + 1, none⟩ = some (.int .u8 (rs[i].2.toNat : Int))
theorem RunsAt.below {w w' : World} {a : Option Addr} {rs : List (Nat × BitVec 8)} (h : RunsAt w a rs) (hb : Below w.heap.size w w') : RunsAt w' a rs := fun i hi => by
  obtain ⟨ad, e, h1, h2⟩ := h i hi
  exact ⟨ad, e, (hb.cell (World.block_lt_of_cell? w _ h1)).trans h1, (hb.cell (World.block_lt_of_cell? w _ h2)).trans h2⟩
theorem RunsAt.drewN {w : World} {a : Option Addr} {rs : List (Nat × BitVec 8)} (h : RunsAt w a rs) (n : Nat) : RunsAt (w.drewN n) a rs := h
theorem runs_own {w : World} {B n c : Nat} {a : Option Addr} {rs : List (Nat × BitVec 8)} (h : w.ownsRow B 93 2 (.slice a n c) n (runV rs)) : RunsAt w a rs := fun i hi => by
  have hlen := h.1
  rw [runV_len] at hlen
  rcases a with _ | ad
  · rcases h.2 with ⟨e, hn⟩ | ⟨g, cap, cur, e, _⟩
    · omega
    · cases e
  · obtain ⟨g, rfl⟩ : ∃ g, ad = ⟨g, 0, none⟩ := by
      rcases h.2 with ⟨e, hn⟩ | ⟨g, cap, cur, e, _⟩
      · cases e
      · cases e; exact ⟨g, rfl⟩
    have hadd : (⟨g, 0, none⟩ : Addr).add (i * 2) = ⟨g, i * 2, none⟩ := by unfold Addr.add; split <;> simp_all
    have hadd2 : (⟨g, 0, none⟩ : Addr).add (i * 2 + 1) = ⟨g, i * 2 + 1, none⟩ := by unfold Addr.add; split <;> simp_all
    obtain ⟨h1, h2⟩ := runV_at rs i hi
    have c1 := h.cells (g := g) rfl _ _ h1
    have c2 := h.cells (g := g) rfl _ _ h2
    rw [hadd] at c1
    rw [hadd2] at c2
    exact ⟨_, rfl, by rw [hadd]; exact c1, by rw [hadd]; exact c2⟩
set_option maxRecDepth 50000 in
set_option maxHeartbeats 1000000 in
theorem expand_any (a : Option Addr) (n c T : Nat) (rs : List (Nat × BitVec 8)) (w : World) (hn : rs.length = n) (hT : (exR rs).length = T) (hTl : T ≤ 5000) (hnl : n ≤ 1000000) (hr : RunsAt w a rs) :
    Calls Try.prog 69 #[.slice a n c, .int .i64 T] w (FrB w (exR rs)) := by
  subst hn
  obtain ⟨i0, hi, hz0, hz1, hz2⟩ := info_parts info8
  obtain ⟨w1, hmk, hown0, hg0⟩ := run_make_own (P := Try.prog) w w.heap.size 23 5 i0 (.int .u8 0) 1 Try.underlying23 hi hz0 hz1 .i64 .i64 T (by rw [hz2]; omega) (by unfold maxLen; omega) (Nat.le_refl _)
  have hb0 : Below w.heap.size w w1 := (Below.refl _ w).grown hg0 (Nat.le_refl _) (fun q hq => by cases hq)
  have HM := Lib.hid hmk
  have HTL := Lib.hid hT
  clear hT
  go_enter Try.func69, Try.ntmps69
  go_wp2
  go_loopw [5, 12] (fun v i wr => ∃ (k : Nat) (acc : List (BitVec 8)), k ≤ rs.length ∧ i = .int .i64 k ∧ Hid (exR rs = acc ++ exR (rs.drop k)) ∧ wr.ownsRow w.heap.size 5 1 v acc.length (bv8 acc) ∧ Below w.heap.size w wr) (fun _ i _ => rs.length - (intOf i).toNat)
  case atStart => exact ⟨0, [], Nat.zero_le _, rfl, by show _ = _; simp, hown0, hb0⟩
  case round =>
    obtain ⟨k, acc, hk, rfl, hex, hown, hb⟩ := hrel
    obtain ⟨a3, c3, rfl⟩ := own_slice hown
    have hz := hb.size
    by_cases hlt : k < rs.length
    · obtain ⟨ad, e1, hc1, hc2⟩ := (hr.below hb) k hlt
      obtain rfl := e1
      obtain ⟨L, cB, hrk⟩ : ∃ L cB, rs[k] = (L, cB) := ⟨_, _, rfl⟩
      rw [hrk] at hc1 hc2
      simp only at hc1 hc2
      obtain ⟨y, hy⟩ : ∃ y, cB.toNat = y := ⟨_, rfl⟩
      have hdr : rs.drop k = (L, cB) :: rs.drop (k + 1) := by rw [List.drop_eq_getElem_cons hlt, hrk]
      rw [hy] at hc2
      have HX := Lib.hid (show exR rs = acc ++ List.replicate L cB ++ exR (rs.drop (k + 1)) by rw [hex.out, hdr, exR_cons, List.append_assoc])
      have hLb : acc.length + L ≤ 5000 := by
        have := congrArg List.length HX.out
        rw [HTL.out] at this
        simp only [List.length_append, List.length_replicate] at this
        omega
      have HY := Lib.hid (show (y : Int) = (cB.toNat : Int) by rw [hy])
      have d1 : decide ((k : Int) < (rs.length : Int)) = true := by simp; omega
      clear hy hrk hdr
      go_wp2
      have hz2 : w.heap.size ≤ wr.heap.size := hz
      go_loopw [5, 18] (fun v kk w2 => ∃ t, t ≤ L ∧ kk = .int .i64 t ∧ w2.ownsRow w.heap.size 5 1 v (acc.length + t) (bv8 (acc ++ List.replicate t cB)) ∧ Below w.heap.size w w2 ∧ w2.cell? ⟨wr.heap.size, 1, none⟩ = some (.int .u8 y) ∧ v.ownBlock ≠ some wr.heap.size ∧ wr.heap.size < w2.heap.size) (fun _ kk _ => L - (intOf kk).toNat)
      case atStart =>
        refine ⟨0, Nat.zero_le _, rfl, by simpa using hown.alloc _, Below.alloc hb hz _, row_cell (heap_alloc_new wr _) 1, fun e => ?_, by simp⟩
        have := (hown.lt _ e).2
        omega
      case round =>
        obtain ⟨t, ht, rfl, hown4, hb4, hcy, hnb, hsz⟩ := hrel
        have hz4 := hb4.size
        obtain ⟨a4, c4, rfl⟩ := own_slice hown4
        by_cases htV : t < L
        · have g5 : decide ((t : Int) < (L : Int)) = true := by simp; omega
          have hn5 := Lib.hid (show acc.length + t + 1 ≤ 100000000 by omega)
          go_wp2_with (at_builtin; go_loud (refine wpList_snoc8 (B := w.heap.size) rfl _ _ rfl hown4 hz4 hn5.out cB HY.out rfl rfl ?_; intro v5 w5 hown5 hb5 hg5 ho5))
          go_roundw
          case rel =>
            refine ⟨t + 1, by omega, by go_num, by rw [rep_snoc] at hown5; exact hown5, hb4.trans hb5, hg5.cell hcy (fun e => hnb e.symm), ?_, Nat.lt_of_lt_of_le hsz hg5.size⟩
            rcases ho5 with h | ⟨q, h, h2⟩
            · rw [h]; exact hnb
            · rw [h]; intro e; have := Option.some.inj e; omega
          case measure => (simp [intOf]; try omega)
        · obtain rfl : t = L := by omega
          have g5 : decide ((t : Int) < (t : Int)) = false := by simp
          go_wp2
          go_roundw
          case rel => exact ⟨k + 1, acc ++ List.replicate t cB, by omega, by go_num, HX.out, by simpa using hown4, hb4⟩
          case measure => (simp [intOf]; try omega)
    · obtain rfl : k = rs.length := by omega
      have d1 : decide ((rs.length : Int) < (rs.length : Int)) = false := by simp
      go_wp2
      go_ret
      refine (FrB.mk' rfl hown hb).eq ?_
      rw [hex.out, List.drop_length]
      simp [exR]
end Go.Proofs.Ytbplcgbfhijbcaa
