import Derived.Test.YtbplcgbfhijbcaaEp
import Derived.StillTailTactics
import Derived.Deep.RegionHeld3
namespace Go.Proofs.Ytbplcgbfhijbcaa
open Go.RowKit
set_option linter.unusedVariables false
set_option linter.unusedSimpArgs false
/-- The same inside a drawn region. -/
theorem wp_apps8 {w : World} {B : Nat} {o : Oper} {a : Act} {K : Act → World → Prop} {Q : Exit → Act → World → Prop} (s x : Operand)
    (ho : o.op = .call { callee := .builtin .append, args := #[s, x], argTypes := #[23, 23] })
    {v : Value} {n : Nat} {l : List (BitVec 8)} (hown : w.ownsRow B 5 1 v n (bv8 l)) (hB : B ≤ w.heap.size)
    {b : Option Addr} {m c : Nat} {k : List (BitVec 8)} (hk : k.length = m) (hr : Rd w b k) (hn : n + m ≤ 100000000) (hs : a.eval s = v) (hx : a.eval x = .slice b m c)
    (h : ∀ v' w', w'.ownsRow B 5 1 v' (n + m) (bv8 (l ++ k)) → Below B w w' → w.grownBy w' v.ownBlock → K (a.put o.dst v') w') :
    o.wp Try.prog a w K Q := by
  obtain ⟨i0, hi, hz0, hz1, hz2⟩ := info_parts info8
  refine wp_append_rd w s x _ ho B 5 i0 (.int .u8 0) 1 Try.underlying23 hi hz0 hz1 hz2 rfl v n (bv8 l) hs hown b m c (bv8 k) hx (by rw [bv8_len, hk]) hr.vals (bv8_one _) (by unfold maxLen; omega) (by omega) hB ?_
  intro v' w' hown2 hg _
  exact h v' w' (by rw [bv8_append]; exact hown2) ((Below.refl B w).grown hg hB (fun q hq => (hown.lt q hq).1)) hg
theorem own_drewN {w : World} {B : Nat} {e : TypeId} {v : Value} {n : Nat} {xs : List Value} (h : w.ownsRow B e 1 v n xs) (m : Nat) : (w.drewN m).ownsRow B e 1 v n xs := by
  induction m generalizing w with
  | zero => exact h
  | succ m ih => exact ih h
theorem rd_one (W : World) {x : BitVec 8} {z : Nat} (hz : x.toNat = z) : Rd (W.alloc (.cells #[.int .u8 z] 5)) (some ⟨W.heap.size, 0, none⟩) [x] := by
  subst hz
  exact Rd.of_cells (heap_alloc_new W _) (by simp [bv8])
theorem rd_ones {W W' w2 : World} {x : BitVec 8} {b : Nat} {B n : Nat} {v : Value} {xs : List Value} (hr : Rd W (some ⟨b, 0, none⟩) [x]) (ho : W'.ownsRow B 5 1 v n xs) (hb : W'.heap.size ≤ b) (hg : W.grownBy w2 v.ownBlock) : Rd w2 (some ⟨b, 0, none⟩) [x] := by
  refine hr.grown hg (fun ad e1 e2 => ?_)
  cases e1
  have h3 : b < W'.heap.size := (ho.lt _ e2.symm).2
  omega
theorem rd_head {w : World} {ad : Addr} {x : BitVec 8} {t : List (BitVec 8)} {z : Nat} (h : Rd w (some ad) (x :: t)) (hz : x.toNat = z) : w.cell? ad = some (.int .u8 z) := by
  obtain ⟨ad', e, hc⟩ := h 0 (by simp)
  cases e
  subst hz
  exact hc
theorem runA_head (c : BitVec 8) (t : List (BitVec 8)) (q : Nat) (h1 : 1 ≤ q) (hq : q ≤ t.length + 1) (hall : ∀ j, 0 < j → j < q → byA (c :: t) j = c.toNat) (hstop : q = t.length + 1 ∨ byA (c :: t) q ≠ c.toNat) : runA c t + 1 = q := by
  have : runA c t = q - 1 := by
    refine runA_is c t (q - 1) (by omega) (fun j hj hj2 => ?_) ?_
    · have := hall (j + 1) (by omega) (by omega)
      rw [byA_cons, byA_in t j hj] at this
      exact BitVec.eq_of_toNat_eq this
    · rcases hstop with h | h
      · left; omega
      · by_cases he : q - 1 = t.length
        · exact .inl he
        · right
          refine ⟨by omega, fun e => h ?_⟩
          obtain ⟨q', rfl⟩ : ∃ q', q = q' + 1 := ⟨q - 1, by omega⟩
          have hq' : q' < t.length := by omega
          rw [byA_cons, byA_in t q' hq']
          simp only [Nat.add_sub_cancel] at e
          rw [e]
  omega
theorem renc_len (n : Nat) : ∀ l : List (BitVec 8), l.length ≤ n → l.length < 18446744073709551616 → (renc l).length ≤ 11 * l.length := by
  induction n with
  | zero => intro l h _; obtain rfl : l = [] := List.length_eq_zero_iff.1 (by omega); rw [renc_nil]; simp
  | succ n ih =>
    intro l h h2
    rcases l with _ | ⟨c, t⟩
    · rw [renc_nil]; simp
    · have hra := runA_len c t
      simp only [List.length_cons] at h h2 ⊢
      rw [renc_cons, List.length_append, List.length_append]
      have := ih (t.drop (runA c t)) (by simp; omega) (by simp; omega)
      have h3 := putU_len10 (n := runA c t + 1) (by omega)
      simp only [List.length_singleton, List.length_drop] at this ⊢
      omega
/-- The encoder's outer loop. -/
def PrR (w : World) (l : List (BitVec 8)) (s ru co : Value) (wr : World) : Prop := ∃ (a2 : Option Addr) (c2 cnt : Nat) (T acc : List (BitVec 8)), s = .slice a2 T.length c2 ∧ T.length ≤ c2 ∧ Rd w a2 T ∧ co = .int .u64 cnt ∧
  Hid (renc l = acc ++ renc T ∧ rcnt l = cnt + rcnt T ∧ T.length ≤ l.length ∧ acc.length + 11 * T.length ≤ 11 * l.length ∧ cnt + T.length ≤ l.length) ∧ wr.ownsRow w.heap.size 5 1 ru acc.length (bv8 acc) ∧ Below w.heap.size w wr
theorem PrR.step {w w3 : World} {l acc t : List (BitVec 8)} {x : BitVec 8} {q cnt c2 : Nat} {ad : Addr} {a' : Option Addr} {v3 : Value} (hrT : Rd w (some ad) (x :: t)) (hc2 : t.length + 1 ≤ c2) (hq1 : 1 ≤ q) (hq2 : q ≤ t.length + 1) (HR : runA x t + 1 = q) (hl : l.length ≤ 1000000)
    (hinv : Hid (renc l = acc ++ renc (x :: t) ∧ rcnt l = cnt + rcnt (x :: t) ∧ (x :: t).length ≤ l.length ∧ acc.length + 11 * (x :: t).length ≤ 11 * l.length ∧ cnt + (x :: t).length ≤ l.length))
    (hown : w3.ownsRow w.heap.size 5 1 v3 (acc.length + (putU q).length + 1) (bv8 (acc ++ putU q ++ [x]))) (hb : Below w.heap.size w w3) (ha : q < t.length + 1 → a' = some (ad.add q)) :
    PrR w l (.slice a' (t.length + 1 - q) (c2 - q)) v3 (.int .u64 (IntKind.u64.wrap ((cnt : Int) + 1))) w3 := by
  obtain ⟨h1, h2, h3, h4, h5⟩ := hinv.out
  simp only [List.length_cons] at h3 h4 h5
  have hqL := putU_len10 (n := q) (by omega)
  have e1 : (x :: t).drop q = t.drop (runA x t) := by rw [← HR]; rfl
  refine ⟨a', c2 - q, cnt + 1, (x :: t).drop q, acc ++ putU q ++ [x], by rw [List.length_drop, List.length_cons], by rw [List.length_drop, List.length_cons]; omega, ?_, ?_, ⟨?_, ?_, ?_, ?_, ?_⟩, by simpa [Nat.add_assoc] using hown, hb⟩
  · rcases Nat.lt_or_ge q (t.length + 1) with h | h
    · rw [ha h]; exact hrT.drop q
    · rw [List.drop_eq_nil_iff.2 (by rw [List.length_cons]; omega)]; exact Rd.nil _ _
  · rw [IntWalk.u64_in _ (by omega)]; rfl
  · rw [h1, renc_cons, e1, HR]; simp [List.append_assoc]
  · rw [h2, rcnt_cons, e1]; omega
  · rw [List.length_drop, List.length_cons]; omega
  · simp only [List.length_append, List.length_drop, List.length_cons, List.length_nil]; omega
  · rw [List.length_drop, List.length_cons]; omega
set_option maxRecDepth 50000 in
set_option maxHeartbeats 1000000 in
theorem pru_any (a : Option Addr) (n c : Nat) (l : List (BitVec 8)) (w : World) (hn : l.length = n) (hc : n ≤ c) (hl : n ≤ 1000000) (hr : Rd w a l) :
    Calls Try.prog 43 #[.slice a n c] w (FrB w (putR l)) := by
  subst hn
  go_enter Try.func43, Try.ntmps43
  go_wp2
  go_loopw [0, 3, 4] (fun s ru co wr => PrR w l s ru co wr) (fun s _ _ _ => match s with | .slice _ k _ => k | _ => 0)
  case atStart => exact ⟨a, c, 0, l, [], rfl, hc, hr, rfl, ⟨by simp, by simp, Nat.le_refl _, by simp, by simp⟩, nil_row8 _ _, Below.refl _ _⟩
  case round =>
    obtain ⟨a2, c2, cnt, T, acc, rfl, hc2, hrT, rfl, hinv, hown, hb⟩ := hrel
    obtain ⟨a3, c3, rfl⟩ := own_slice hown
    have hz := hb.size
    have hrw := hrT.below hb
    rcases T with _ | ⟨x, t⟩
    · rw [List.length_nil]
      have hcl : cnt < 18446744073709551616 := by have := hinv.out.2.2.2.2; omega
      have hq := Lib.hid (show (putU cnt).length + acc.length ≤ 100000000 by have h1 := putU_len10 hcl; have h2 := hinv.out.2.2.2.1; omega)
      go_wp2_with (first
        | (go_at_call 16; go_loud ((with_reducible refine (putu_any _ _ hcl).mono ?_); rintro e1 w1 ⟨a1, c1, rfl, hc1, ho1, hb1⟩; have hown1 := own_below hown hb1; have hz1 := Nat.le_trans hz hb1.size))
        | (at_builtin; go_loud (refine wpList_apps8 (B := w.heap.size) (l := putU cnt) rfl _ _ rfl (own_mono ho1 hz) hz1 (k := acc) rfl (Rd.of_own hown1) hq.out rfl rfl ?_; intro v' w2 hown2 hb2)))
      go_ret
      refine (FrB.mk' (by rw [List.length_append]) hown2 ((hb.trans (hb1.mono hz)).trans hb2)).eq ?_
      have h1 := hinv.out.1
      have h2 := hinv.out.2.1
      rw [renc_nil, List.append_nil] at h1
      rw [rcnt_nil] at h2
      unfold putR
      rw [h1, h2]; rfl
    · obtain ⟨ad, rfl, hcell⟩ := hrw 0 (by simp)
      rw [show ad.add 0 = ad from rfl, List.getElem_cons_zero] at hcell
      obtain ⟨z, hzx⟩ : ∃ z, x.toNat = z := ⟨_, rfl⟩
      have hzl := x.isLt
      rw [hzx] at hcell hzl
      have HZ := Lib.hid hzx
      have htl : t.length + 1 ≤ 1000000 := by have := hinv.out.2.2.1; simp only [List.length_cons] at this; omega
      rw [List.length_cons] at hc2
      clear hzx
      go_wp2
      go_loopw [5] (fun nn w2 => ∃ (q k : Nat), 1 ≤ q ∧ q ≤ t.length + 1 ∧ nn = .int .i64 q ∧ Hid (∀ j, 0 < j → j < q → byA (x :: t) j = x.toNat) ∧ w2 = wr.drewN k) (fun nn _ => t.length + 1 - (intOf nn).toNat)
      case atStart => exact ⟨1, 0, Nat.le_refl _, by omega, rfl, fun j h1 h2 => by omega, rfl⟩
      case round =>
        obtain ⟨q, k, hq1, hq2, rfl, hall, rfl⟩ := hrel
        by_cases hlt : q < t.length + 1
        · have hqT : q < (x :: t).length := by simpa using hlt
          obtain ⟨ad', e', hcq⟩ := byA_cell hrw q hqT
          cases e'
          obtain ⟨y, hy⟩ : ∃ y, byA (x :: t) q = y := ⟨_, rfl⟩
          rw [hy] at hcq
          have d0 : decide ((q : Int) < ((t.length : Int) + 1)) = true := by simp; omega
          by_cases hyz : y = z
          · subst hyz
            have HY := Lib.hid hy
            clear hy
            go_wp2
            go_quiet (fail)
            go_wp2
            go_roundw
            case rel =>
              refine ⟨q + 1, _, by omega, by omega, by go_num, fun j h1 h2 => ?_, rfl⟩
              rcases Nat.lt_or_ge j q with h | h
              · exact hall.out j h1 h
              · obtain rfl : j = q := by omega
                rw [HY.out, HZ.out]
            case measure => (simp [intOf]; try omega)
          · have HR := Lib.hid (runA_head x t q hq1 hq2 hall.out (.inr (by rw [hy, HZ.out]; exact hyz)))
            have f1 : ((y : Int) == (z : Int)) = false := by rw [beq_eq_false_iff_ne]; omega
            clear hy
            go_wp2
            go_quiet (fail)
            go_wp2
            have hqL := putU_len10 (n := q) (by omega)
            have hqq : q < 18446744073709551616 := by omega
            have hal : 11 * (t.length + 1) + acc.length ≤ 11000000 := by have h9 := hinv.out.2.2.2.1; simp only [List.length_cons] at h9; omega
            have hK : acc.length + (putU q).length ≤ 100000000 := by omega
            have hK2 : acc.length + (putU q).length + 1 ≤ 100000000 := by omega
            have d9 : IntKind.u64.wrap (q : Int) = (q : Int) := IntWalk.u64_in _ (by omega)
            have hzk : w.heap.size ≤ (((wr.drewN k).drewN nq)).heap.size := hz
            have hzn : w.heap.size ≤ (((wr.drewN k).drewN nq).alloc (.cells #[.int .u8 z] 5)).heap.size := Nat.le_trans hzk (by simp)
            go_region_held3 (fun w' => w'.cell? ad = some (.int .u8 z)) (first | exact rd_head (hrT.below hbw3) HZ.out | exact rd_head (hrT.below (Below.alloc hbw2 hbw2.size _)) HZ.out | exact rd_head (hrT.below hbw2) HZ.out | exact rd_head (hrT.below (Below.alloc hbw1 hbw1.size _)) HZ.out | exact rd_head (hrT.below hbw1) HZ.out | exact rd_head (hrT.below (Below.alloc (below_drewN hb _) hzk _)) HZ.out | exact hcell | (go_simp)) (first
              | (go_at_call 16; (with_reducible refine (putu_any _ _ hqq).mono ?_); rintro e1 w1 ⟨a1, c1, rfl, hc1, ho1, hb1⟩; (first
                  | (have hown1 := own_below (own_drewN hown _) hb1; have hbw1 := (below_drewN hb _).trans (hb1.mono hzk))
                  | (have hown1 := own_below ((own_drewN hown _).alloc _) hb1; have hbw1 := (Below.alloc (below_drewN hb _) hzk _).trans (hb1.mono hzn); have hone1 := (rd_one _ HZ.out).below hb1)))
              | (refine wp_apps8 (B := w.heap.size) _ _ (by rfl) (hown2.alloc _) (Nat.le_trans hbw2.size (by simp)) (k := [x]) rfl (rd_one w2 HZ.out) hK2 (by rfl) (by rfl) ?_; intro v3 w3 hown3 hb3 _; have hbw3 := (Below.alloc hbw2 hbw2.size _).trans hb3)
              | (refine wp_apps8 (B := w.heap.size) _ _ (by rfl) hown2 hbw2.size (k := [x]) rfl hone2 hK2 (by rfl) (by rfl) ?_; intro v3 w3 hown3 hb3 _; have hbw3 := hbw2.trans hb3)
              | (refine wp_apps8 (B := w.heap.size) _ _ (by rfl) hown1 hbw1.size rfl (Rd.of_own ho1) hK (by rfl) (by rfl) ?_; intro v2 w2 hown2 hb2 hg2; have hbw2 := hbw1.trans hb2; (try (have hone2 := rd_ones hone1 hown (Nat.le_refl _) hg2)))
              | (go_loud (refine wp_apps8 (B := w.heap.size) _ _ (by rfl) (hown1.alloc _) (Nat.le_trans hbw1.size (by simp)) rfl (Rd.of_own (ho1.alloc _)) hK (by rfl) (by rfl) ?_; intro v2 w2 hown2 hb2 hg2; have hbw2 := (Below.alloc hbw1 hbw1.size _).trans hb2; have hone2 := rd_ones (rd_one w1 HZ.out) hown1 (Nat.le_refl _) hg2)))
            all_goals go_wp2
            all_goals (refine ⟨PrR.step hrT hc2 hq1 hq2 HR.out hl hinv hown3 hbw3 (fun _ => rfl), ?_⟩; (first | (show _ - _ < _; simp only [List.length_cons]; omega) | (simp only [List.length_cons]; omega)))
        · have HR := Lib.hid (runA_head x t q hq1 hq2 hall.out (.inl (by omega)))
          have d0 : decide ((q : Int) < ((t.length : Int) + 1)) = false := by simp; omega
          go_wp2
          go_quiet (fail)
          go_wp2
          have hqL := putU_len10 (n := q) (by omega)
          have hqq : q < 18446744073709551616 := by omega
          have hal : 11 * (t.length + 1) + acc.length ≤ 11000000 := by have h9 := hinv.out.2.2.2.1; simp only [List.length_cons] at h9; omega
          have hK : acc.length + (putU q).length ≤ 100000000 := by omega
          have hK2 : acc.length + (putU q).length + 1 ≤ 100000000 := by omega
          have d9 : IntKind.u64.wrap (q : Int) = (q : Int) := IntWalk.u64_in _ (by omega)
          have hzk : w.heap.size ≤ (((wr.drewN k).drewN nq)).heap.size := hz
          have hzn : w.heap.size ≤ (((wr.drewN k).drewN nq).alloc (.cells #[.int .u8 z] 5)).heap.size := Nat.le_trans hzk (by simp)
          go_region_held3 (fun w' => w'.cell? ad = some (.int .u8 z)) (first | exact rd_head (hrT.below hbw3) HZ.out | exact rd_head (hrT.below (Below.alloc hbw2 hbw2.size _)) HZ.out | exact rd_head (hrT.below hbw2) HZ.out | exact rd_head (hrT.below (Below.alloc hbw1 hbw1.size _)) HZ.out | exact rd_head (hrT.below hbw1) HZ.out | exact rd_head (hrT.below (Below.alloc (below_drewN hb _) hzk _)) HZ.out | exact hcell | (go_simp)) (first
            | (go_at_call 16; (with_reducible refine (putu_any _ _ hqq).mono ?_); rintro e1 w1 ⟨a1, c1, rfl, hc1, ho1, hb1⟩; (first
                | (have hown1 := own_below (own_drewN hown _) hb1; have hbw1 := (below_drewN hb _).trans (hb1.mono hzk))
                | (have hown1 := own_below ((own_drewN hown _).alloc _) hb1; have hbw1 := (Below.alloc (below_drewN hb _) hzk _).trans (hb1.mono hzn); have hone1 := (rd_one _ HZ.out).below hb1)))
            | (refine wp_apps8 (B := w.heap.size) _ _ (by rfl) (hown2.alloc _) (Nat.le_trans hbw2.size (by simp)) (k := [x]) rfl (rd_one w2 HZ.out) hK2 (by rfl) (by rfl) ?_; intro v3 w3 hown3 hb3 _; have hbw3 := (Below.alloc hbw2 hbw2.size _).trans hb3)
            | (refine wp_apps8 (B := w.heap.size) _ _ (by rfl) hown2 hbw2.size (k := [x]) rfl hone2 hK2 (by rfl) (by rfl) ?_; intro v3 w3 hown3 hb3 _; have hbw3 := hbw2.trans hb3)
            | (refine wp_apps8 (B := w.heap.size) _ _ (by rfl) hown1 hbw1.size rfl (Rd.of_own ho1) hK (by rfl) (by rfl) ?_; intro v2 w2 hown2 hb2 hg2; have hbw2 := hbw1.trans hb2; (try (have hone2 := rd_ones hone1 hown (Nat.le_refl _) hg2)))
            | (go_loud (refine wp_apps8 (B := w.heap.size) _ _ (by rfl) (hown1.alloc _) (Nat.le_trans hbw1.size (by simp)) rfl (Rd.of_own (ho1.alloc _)) hK (by rfl) (by rfl) ?_; intro v2 w2 hown2 hb2 hg2; have hbw2 := (Below.alloc hbw1 hbw1.size _).trans hb2; have hone2 := rd_ones (rd_one w1 HZ.out) hown1 (Nat.le_refl _) hg2)))
          all_goals go_wp2
          all_goals (refine ⟨PrR.step hrT hc2 hq1 hq2 HR.out hl hinv hown3 hbw3 (fun h9 => absurd h9 hlt), ?_⟩; (first | (show _ - _ < _; simp only [List.length_cons]; omega) | (simp only [List.length_cons]; omega)))
end Go.Proofs.Ytbplcgbfhijbcaa
