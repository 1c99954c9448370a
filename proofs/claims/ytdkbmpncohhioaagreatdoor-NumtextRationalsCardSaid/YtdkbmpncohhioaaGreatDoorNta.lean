
import Derived.Test.YtdkbmpncohhioaaGreatDoorNt8
import Derived.Test.YtdkbmpncohhioaaGreatDoorNt4
import Derived.Deep.RegionHeld3
namespace Go.Proofs.YtdkbmpncohhioaaGreatDoor
open Go.RowKit
set_option linter.unusedVariables false
set_option linter.unusedSimpArgs false
attribute [local go_sem ↓] Go.wp_at_zero Go.wp_at_succ
theorem celAl {W : World} {b o : Nat} {v : Value} (h : W.cell? ⟨b, o, none⟩ = some v) (x : Obj) : (W.alloc x).cell? ⟨b, o, none⟩ = some v := bcs (Below.alloc (Below.refl _ _) (Nat.le_refl _) x) h
theorem celDr {W : World} {b o : Nat} {v : Value} (h : W.cell? ⟨b, o, none⟩ = some v) : W.drew.cell? ⟨b, o, none⟩ = some v := bcs (Below.refl _ _).drew h
def SlR (l : List UInt8) (n : Nat) (i : Value) (w wr : World) : Prop := ∃ j : Nat, j ≤ n ∧ i = .int .i64 j ∧ Hid (∀ c ∈ l.take j, c ≠ 47) ∧ w = wr
set_option maxRecDepth 50000 in
theorem rslash_any (S : ByteArray) (l : List UInt8) (w : World) (hS : S.data.toList = l) (hl : l.length ≤ 1000000) : Calls Tryz.prog 34 #[.string S] w fun e w' => e = .returned (.int .i64 (Lib.index l [47])) ∧ w = w' := by
  have hsz0 := str_size hS
  obtain ⟨n, hn⟩ : ∃ n, l.length = n := ⟨_, rfl⟩
  have hsz : S.size = n := by rw [hsz0, hn]
  obtain ⟨R, hR⟩ : ∃ R, Lib.index l [47] = R := ⟨_, rfl⟩
  rw [hR]
  have HR := Lib.hid hR
  have HS := Lib.hid hS
  have HN := Lib.hid hn
  rw [hn] at hl
  clear hR hS hsz0 hn
  go_enter Tryz.func34, Tryz.ntmps34
  go_wp2
  go_loopw [3] (fun i wr => SlR l n i w wr) (fun i _ => n - (intOf i).toNat)
  case atStart => exact ⟨0, by omega, rfl, fun c h => by simp at h, rfl⟩
  case round =>
    obtain ⟨j, hj, rfl, hno, rfl⟩ := hrel
    by_cases hlt : j < n
    · have hjl : j < l.length := by rw [HN.out]; exact hlt
      obtain ⟨y, hy⟩ : ∃ y, (l[j]'hjl).toNat = y := ⟨_, rfl⟩
      have hy256 : y < 256 := by rw [← hy]; exact (l[j]'hjl).toNat_lt
      have gy : ∀ h, (S[j]'h).toNat = y := fun h => by rw [str_get HS.out j h hjl]; exact hy
      have HY := Lib.hid hy
      clear hy
      by_cases hxy : y = 47
      · have hRj : Hid (R = (j : Int)) := by
          show _ = _
          rw [← HR.out]
          have e1 : l = l.take j ++ 47 :: l.drop (j + 1) := by
            have e2 : l[j]'hjl = 47 := UInt8.toNat_inj.1 (by rw [HY.out, hxy]; rfl)
            rw [← e2, ← List.drop_eq_getElem_cons hjl, List.take_append_drop]
          have e3 := idx_app (l.take j) (l.drop (j + 1)) hno.out
          rw [← e1, List.length_take, Nat.min_eq_left (by omega)] at e3
          exact e3
        clear HY hjl
        subst hxy
        go_wp2
        go_ret
        exact ⟨by rw [hRj.out]; rfl, rfl⟩
      · have hno2 : Hid (∀ c ∈ l.take (j + 1), c ≠ 47) := by
          intro c hc e
          rw [List.take_succ_eq_append_getElem hjl] at hc
          rcases List.mem_append.1 hc with h | h
          · exact hno.out c h e
          · rw [List.mem_singleton] at h
            apply hxy
            rw [← HY.out, ← h, e]; rfl
        clear HY hjl
        go_wp2
        go_roundw
        case rel => exact ⟨j + 1, by omega, by go_num, hno2, rfl⟩
        case measure => simp [intOf] <;> omega
    · obtain rfl : j = n := by omega
      have hRj : Hid (R = -1) := by
        show _ = _
        rw [← HR.out]
        refine idx_none l (fun c hc => hno.out c ?_)
        rw [← HN.out, List.take_length]; exact hc
      go_wp2
      go_ret
      exact ⟨by rw [hRj.out]; rfl, rfl⟩
/-- A fraction in rows, with no error. -/
def FrJ (w : World) (x y : Int) (e : Ending) (w' : World) : Prop := ∃ a c b d, e = .returned (.tuple #[.agg #[.bool (decide (x < 0)), .slice a (canon x.natAbs).length c, .bool (decide (y < 0)), .slice b (canon y.natAbs).length d], .int .i64 0]) ∧ RwF w.heap.size w' a (canon x.natAbs) ∧ RwF w.heap.size w' b (canon y.natAbs) ∧ Below w.heap.size w w'
set_option maxRecDepth 50000 in
set_option maxHeartbeats 1000000 in
theorem rnew_ok (s t : Bool) (a b : Option Addr) (n c m d : Nat) (l k : List (BitVec 32)) (w : World) (hn : l.length = n) (hm : k.length = m) (hl : n ≤ 300000) (hl2 : m ≤ 300000) (hr : Rw w a l) (hs : Rw w b k) (hy : 0 < zv t (valD k)) :
    Calls Tryz.prog 36 #[.agg #[.bool s, .slice a n c], .agg #[.bool t, .slice b m d]] w (FrJ w (rnN (zv s (valD l)) (zv t (valD k))) (rnD (zv s (valD l)) (zv t (valD k)))) := by
  subst hn hm
  have hS : ∀ W, Rw W b k → Calls Tryz.prog 56 #[.agg #[.bool t, .slice b k.length d]] W fun e w' => e = .returned (.int .i64 (zv t (valD k)).sign) ∧ Below W.heap.size W w' := fun W hW => by
    have := isign_any t b _ d k W rfl (by omega) hW
    rw [sgV_sign] at this
    exact this
  have hR := fun W (h1 : Rw W a l) (h2 : Rw W b k) => rred_pos s t a b _ c _ d l k W rfl rfl hl hl2 h1 h2 hy
  obtain ⟨P, hP⟩ : ∃ P, rnN (zv s (valD l)) (zv t (valD k)) = P := ⟨_, rfl⟩
  obtain ⟨Q, hQ⟩ : ∃ Q, rnD (zv s (valD l)) (zv t (valD k)) = Q := ⟨_, rfl⟩
  rw [hP, hQ] at hR ⊢
  rw [Int.sign_eq_one_of_pos hy] at hS
  have HS := Lib.hid hS
  have HR := Lib.hid hR
  clear hS hR hP hQ hy
  have hb1 := Below.alloc (Below.refl w.heap.size w) (Nat.le_refl _) (.cells #[Value.bool s, Value.slice a l.length c] 31)
  have hb2 := Below.alloc hb1 (by simp) (.cells #[Value.bool t, Value.slice b k.length d] 31)
  have hb3 := Below.alloc hb2 (by simp; omega) (.cells #[Value.bool false, Value.slice none 0 0, Value.bool false, Value.slice none 0 0] 33)
  have hz3 := hb3.size
  have hr3 := hr.below hb3
  have hs3 := hs.below hb3
  go_enter Tryz.func36, Tryz.ntmps36
  go_wp2_with (first
    | (go_at_call 56; go_loud ((with_reducible refine (HS.out _ hs3).mono ?_); rintro e w1 ⟨rfl, hc1⟩; have k1_p_0 : w1.cell? ⟨w.heap.size, 0, none⟩ = some (.bool s) := bcs hc1 (by first | with_reducible assumption | go_simp); have g1_p_0 : w1.frozen? ⟨w.heap.size, 0, none⟩ = false := bfs hc1 (v := .bool s) (by first | with_reducible assumption | go_simp) (by first | with_reducible assumption | go_simp); have k1_p_1 : w1.cell? ⟨w.heap.size, 1, none⟩ = some (.slice a l.length c) := bcs hc1 (by first | with_reducible assumption | go_simp); have g1_p_1 : w1.frozen? ⟨w.heap.size, 1, none⟩ = false := bfs hc1 (v := .slice a l.length c) (by first | with_reducible assumption | go_simp) (by first | with_reducible assumption | go_simp); have x1_p : ¬ w.heap.size = w1.heap.size := qne k1_p_0; have y1_p : ¬ w1.heap.size = w.heap.size := fun h => qne k1_p_0 h.symm; have q1_p : w.heap.size < w1.heap.size := qlt k1_p_0; have k1_q_0 : w1.cell? ⟨(w.heap.size + 1), 0, none⟩ = some (.bool t) := bcs hc1 (by first | with_reducible assumption | go_simp); have g1_q_0 : w1.frozen? ⟨(w.heap.size + 1), 0, none⟩ = false := bfs hc1 (v := .bool t) (by first | with_reducible assumption | go_simp) (by first | with_reducible assumption | go_simp); have k1_q_1 : w1.cell? ⟨(w.heap.size + 1), 1, none⟩ = some (.slice b k.length d) := bcs hc1 (by first | with_reducible assumption | go_simp); have g1_q_1 : w1.frozen? ⟨(w.heap.size + 1), 1, none⟩ = false := bfs hc1 (v := .slice b k.length d) (by first | with_reducible assumption | go_simp) (by first | with_reducible assumption | go_simp); have x1_q : ¬ (w.heap.size + 1) = w1.heap.size := qne k1_q_0; have y1_q : ¬ w1.heap.size = (w.heap.size + 1) := fun h => qne k1_q_0 h.symm; have q1_q : (w.heap.size + 1) < w1.heap.size := qlt k1_q_0; have k1_r_0 : w1.cell? ⟨(w.heap.size + 1 + 1), 0, none⟩ = some (.bool false) := bcs hc1 (by first | with_reducible assumption | go_simp); have g1_r_0 : w1.frozen? ⟨(w.heap.size + 1 + 1), 0, none⟩ = false := bfs hc1 (v := .bool false) (by first | with_reducible assumption | go_simp) (by first | with_reducible assumption | go_simp); have k1_r_1 : w1.cell? ⟨(w.heap.size + 1 + 1), 1, none⟩ = some (.slice none 0 0) := bcs hc1 (by first | with_reducible assumption | go_simp); have g1_r_1 : w1.frozen? ⟨(w.heap.size + 1 + 1), 1, none⟩ = false := bfs hc1 (v := .slice none 0 0) (by first | with_reducible assumption | go_simp) (by first | with_reducible assumption | go_simp); have k1_r_2 : w1.cell? ⟨(w.heap.size + 1 + 1), 2, none⟩ = some (.bool false) := bcs hc1 (by first | with_reducible assumption | go_simp); have g1_r_2 : w1.frozen? ⟨(w.heap.size + 1 + 1), 2, none⟩ = false := bfs hc1 (v := .bool false) (by first | with_reducible assumption | go_simp) (by first | with_reducible assumption | go_simp); have k1_r_3 : w1.cell? ⟨(w.heap.size + 1 + 1), 3, none⟩ = some (.slice none 0 0) := bcs hc1 (by first | with_reducible assumption | go_simp); have g1_r_3 : w1.frozen? ⟨(w.heap.size + 1 + 1), 3, none⟩ = false := bfs hc1 (v := .slice none 0 0) (by first | with_reducible assumption | go_simp) (by first | with_reducible assumption | go_simp); have x1_r : ¬ (w.heap.size + 1 + 1) = w1.heap.size := qne k1_r_0; have y1_r : ¬ w1.heap.size = (w.heap.size + 1 + 1) := fun h => qne k1_r_0 h.symm; have q1_r : (w.heap.size + 1 + 1) < w1.heap.size := qlt k1_r_0; have hbw1 := hb3.trans (hc1.mono hz3); have hr1 := hr.below hbw1; have hs1 := hs.below hbw1))
    | (go_at_call 61; go_loud ((with_reducible refine (HR.out _ hr1 hs1).mono ?_); rintro e w2 ⟨a3, c3, b3, d3, rfl, ho3, ho4, hc2⟩; have k2_p_0 : w2.cell? ⟨w.heap.size, 0, none⟩ = some (.bool s) := bcs hc2 (by first | with_reducible assumption | go_simp); have g2_p_0 : w2.frozen? ⟨w.heap.size, 0, none⟩ = false := bfs hc2 (v := .bool s) (by first | with_reducible assumption | go_simp) (by first | with_reducible assumption | go_simp); have k2_p_1 : w2.cell? ⟨w.heap.size, 1, none⟩ = some (.slice a l.length c) := bcs hc2 (by first | with_reducible assumption | go_simp); have g2_p_1 : w2.frozen? ⟨w.heap.size, 1, none⟩ = false := bfs hc2 (v := .slice a l.length c) (by first | with_reducible assumption | go_simp) (by first | with_reducible assumption | go_simp); have x2_p : ¬ w.heap.size = w2.heap.size := qne k2_p_0; have y2_p : ¬ w2.heap.size = w.heap.size := fun h => qne k2_p_0 h.symm; have q2_p : w.heap.size < w2.heap.size := qlt k2_p_0; have k2_q_0 : w2.cell? ⟨(w.heap.size + 1), 0, none⟩ = some (.bool t) := bcs hc2 (by first | with_reducible assumption | go_simp); have g2_q_0 : w2.frozen? ⟨(w.heap.size + 1), 0, none⟩ = false := bfs hc2 (v := .bool t) (by first | with_reducible assumption | go_simp) (by first | with_reducible assumption | go_simp); have k2_q_1 : w2.cell? ⟨(w.heap.size + 1), 1, none⟩ = some (.slice b k.length d) := bcs hc2 (by first | with_reducible assumption | go_simp); have g2_q_1 : w2.frozen? ⟨(w.heap.size + 1), 1, none⟩ = false := bfs hc2 (v := .slice b k.length d) (by first | with_reducible assumption | go_simp) (by first | with_reducible assumption | go_simp); have x2_q : ¬ (w.heap.size + 1) = w2.heap.size := qne k2_q_0; have y2_q : ¬ w2.heap.size = (w.heap.size + 1) := fun h => qne k2_q_0 h.symm; have q2_q : (w.heap.size + 1) < w2.heap.size := qlt k2_q_0; have k2_r_0 : w2.cell? ⟨(w.heap.size + 1 + 1), 0, none⟩ = some (.bool false) := bcs hc2 (by first | with_reducible assumption | go_simp); have g2_r_0 : w2.frozen? ⟨(w.heap.size + 1 + 1), 0, none⟩ = false := bfs hc2 (v := .bool false) (by first | with_reducible assumption | go_simp) (by first | with_reducible assumption | go_simp); have k2_r_1 : w2.cell? ⟨(w.heap.size + 1 + 1), 1, none⟩ = some (.slice none 0 0) := bcs hc2 (by first | with_reducible assumption | go_simp); have g2_r_1 : w2.frozen? ⟨(w.heap.size + 1 + 1), 1, none⟩ = false := bfs hc2 (v := .slice none 0 0) (by first | with_reducible assumption | go_simp) (by first | with_reducible assumption | go_simp); have k2_r_2 : w2.cell? ⟨(w.heap.size + 1 + 1), 2, none⟩ = some (.bool false) := bcs hc2 (by first | with_reducible assumption | go_simp); have g2_r_2 : w2.frozen? ⟨(w.heap.size + 1 + 1), 2, none⟩ = false := bfs hc2 (v := .bool false) (by first | with_reducible assumption | go_simp) (by first | with_reducible assumption | go_simp); have k2_r_3 : w2.cell? ⟨(w.heap.size + 1 + 1), 3, none⟩ = some (.slice none 0 0) := bcs hc2 (by first | with_reducible assumption | go_simp); have g2_r_3 : w2.frozen? ⟨(w.heap.size + 1 + 1), 3, none⟩ = false := bfs hc2 (v := .slice none 0 0) (by first | with_reducible assumption | go_simp) (by first | with_reducible assumption | go_simp); have x2_r : ¬ (w.heap.size + 1 + 1) = w2.heap.size := qne k2_r_0; have y2_r : ¬ w2.heap.size = (w.heap.size + 1 + 1) := fun h => qne k2_r_0 h.symm; have q2_r : (w.heap.size + 1 + 1) < w2.heap.size := qlt k2_r_0; have hbw2 := hbw1.trans (hc2.mono hbw1.size))))
  refine bodyPost_ret (v := .tuple #[.agg #[.bool (decide (P < 0)), .slice a3 (canon P.natAbs).length c3, .bool (decide (Q < 0)), .slice b3 (canon Q.natAbs).length d3], .int .i64 0]) (by simp [results, Tryz.results36, go_sem, *]) rfl ?_
  exact ⟨a3, c3, b3, d3, rfl, ((((ho3.set q1_r 0 _).set q1_r 1 _).set q1_r 2 _).set q1_r 3 _).mono hbw1.size, ((((ho4.set q1_r 0 _).set q1_r 1 _).set q1_r 2 _).set q1_r 3 _).mono hbw1.size, belSt (belSt (belSt (belSt hbw2 (le_two _)) (le_two _)) (le_two _)) (le_two _)⟩
set_option maxRecDepth 50000 in
set_option maxHeartbeats 1000000 in
theorem rfmtr_one (s t : Bool) (a b : Option Addr) (n c m d : Nat) (P Q : Int) (X Y : List (BitVec 32)) (w : World) (hQ1 : Q = 1) (hX : canon P.natAbs = X) (hY : canon Q.natAbs = Y) (hXl : X.length ≤ 90000) (hYl : Y.length ≤ 90000)
    (hN : ∀ W, Below w.heap.size w W → Calls Tryz.prog 38 #[.agg #[.bool s, .slice a n c, .bool t, .slice b m d]] W (FrG W P Q)) :
    Calls Tryz.prog 17 #[.agg #[.bool s, .slice a n c, .bool t, .slice b m d]] w fun e w' => e = .returned (sv (fmtR P Q)) ∧ Below w.heap.size w w' := by
  have hb0 := Below.alloc (Below.refl w.heap.size w) (Nat.le_refl _) (.cells #[Value.bool s, Value.slice a n c, Value.bool t, Value.slice b m d] 33)
  have hzP := zv_canon P
  have hzQ := zv_canon Q
  have lP := zfmt_len (z := P) (n := 90000) (by rw [hX]; omega) (by decide)
  have lQ := zfmt_len (z := Q) (n := 90000) (by rw [hY]; omega) (by decide)
  rw [hX] at hzP
  rw [hY] at hzQ
  have hFP := fun (W : World) (v : Option Addr) (vc : Nat) (h2 : Rw W v X) => qfmt_any (decide (P < 0)) v _ vc X W rfl hXl h2
  have hFQ := fun (W : World) (v : Option Addr) (vc : Nat) (h2 : Rw W v Y) => qfmt_any (decide (Q < 0)) v _ vc Y W rfl hYl h2
  simp only [hzP] at hFP
  simp only [hzQ] at hFQ
  have hR := (show sv (fmtR P Q) = sv (zfmt P) by unfold fmtR; rw [if_pos hQ1])
  unfold sv at hFP hFQ hR ⊢
  obtain ⟨S1, hS1⟩ : ∃ S : ByteArray, (⟨(zfmt P).toArray⟩ : ByteArray) = S := ⟨_, rfl⟩
  obtain ⟨S2, hS2⟩ : ∃ S : ByteArray, (⟨(zfmt Q).toArray⟩ : ByteArray) = S := ⟨_, rfl⟩
  have hS2l : S2.toList = zfmt Q := by rw [← hS2, ByteArray.toList_eq]
  have hq1 : (S2.toList == [49]) = true := by
    rw [hS2l]
    rw [hQ1]; unfold zfmt; rw [if_neg (by decide)]; simp [Lib.decDigits]
  have hz1 : S1.size ≤ 900002 := by rw [← hS1]; exact lP
  have hz2 : S2.size ≤ 900002 := by rw [← hS2]; exact lQ
  obtain ⟨n1, hn1⟩ : ∃ n, S1.size = n := ⟨_, rfl⟩
  obtain ⟨n2, hn2⟩ : ∃ n, S2.size = n := ⟨_, rfl⟩
  rw [hn1] at hz1
  rw [hn2] at hz2
  simp only [hS1] at hFP hR
  simp only [hS2] at hFQ
  have HN := Lib.hid (show Calls Tryz.prog 38 #[.agg #[.bool s, .slice a n c, .bool t, .slice b m d]] _ _ from hN _ hb0)
  have HX := Lib.hid hX
  have HY := Lib.hid hY
  have HFP := Lib.hid hFP
  have HFQ := Lib.hid hFQ
  have HR := Lib.hid hR
  clear hN hX hY hFP hFQ hR hzP hzQ lP lQ hQ1 hS1 hS2 hS2l
  go_enter Tryz.func17, Tryz.ntmps17
  go_wp2_with (go_at_call 38; go_loud ((with_reducible refine HN.out.mono ?_); rintro e w1 ⟨a3, c3, b3, d3, rfl, ho3, ho4, hc1⟩; rw [HX.out] at ho3; rw [HY.out] at ho4; rw [HX.out, HY.out]; have hbw1 : Below w.heap.size w w1 := hb0.trans (hc1.mono hb0.size); have hbg := belAl hbw1 (.cells #[Value.bool (decide (P < 0)), Value.slice a3 X.length c3, Value.bool (decide (Q < 0)), Value.slice b3 Y.length d3] 33); have hrX := (RwF.rw ho3).al (.cells #[Value.bool (decide (P < 0)), Value.slice a3 X.length c3, Value.bool (decide (Q < 0)), Value.slice b3 Y.length d3] 33); have hrY := (RwF.rw ho4).al (.cells #[Value.bool (decide (P < 0)), Value.slice a3 X.length c3, Value.bool (decide (Q < 0)), Value.slice b3 Y.length d3] 33)))
  go_region_held3 (fun w' => w'.cell? ⟨w1.heap.size, 0, none⟩ = some (.bool (decide (P < 0))) ∧ w'.cell? ⟨w1.heap.size, 1, none⟩ = some (.slice a3 X.length c3) ∧ w'.cell? ⟨w1.heap.size, 2, none⟩ = some (.bool (decide (Q < 0))) ∧ w'.cell? ⟨w1.heap.size, 3, none⟩ = some (.slice b3 Y.length d3)) (first | exact ⟨k3_g_0, k3_g_1, k3_g_2, k3_g_3⟩ | exact ⟨k2_g_0, k2_g_1, k2_g_2, k2_g_3⟩ | (refine ⟨?_, ?_, ?_, ?_⟩ <;> go_simp)) ((go_at_call 27; (first
      | ((with_reducible refine (HFQ.out _ _ _ hrY2).mono ?_); rintro e w3 ⟨rfl, hc3⟩; have hbw3 := bel_step hbw2 hc3; have k3_g_0 : w3.cell? ⟨w1.heap.size, 0, none⟩ = some (.bool (decide (P < 0))) := bcs hc3 (by first | with_reducible assumption | go_simp); have k3_g_1 : w3.cell? ⟨w1.heap.size, 1, none⟩ = some (.slice a3 X.length c3) := bcs hc3 (by first | with_reducible assumption | go_simp); have k3_g_2 : w3.cell? ⟨w1.heap.size, 2, none⟩ = some (.bool (decide (Q < 0))) := bcs hc3 (by first | with_reducible assumption | go_simp); have k3_g_3 : w3.cell? ⟨w1.heap.size, 3, none⟩ = some (.slice b3 Y.length d3) := bcs hc3 (by first | with_reducible assumption | go_simp))
      | ((with_reducible refine (HFP.out _ _ _ hrX.dr).mono ?_); rintro e w2 ⟨rfl, hc2⟩; have hbw2 := bel_step (belDr hbg) hc2; have hrY2 := hrY.dr.below hc2; have k2_g_0 : w2.cell? ⟨w1.heap.size, 0, none⟩ = some (.bool (decide (P < 0))) := bcs hc2 (by first | with_reducible assumption | go_simp); have k2_g_1 : w2.cell? ⟨w1.heap.size, 1, none⟩ = some (.slice a3 X.length c3) := bcs hc2 (by first | with_reducible assumption | go_simp); have k2_g_2 : w2.cell? ⟨w1.heap.size, 2, none⟩ = some (.bool (decide (Q < 0))) := bcs hc2 (by first | with_reducible assumption | go_simp); have k2_g_3 : w2.cell? ⟨w1.heap.size, 3, none⟩ = some (.slice b3 Y.length d3) := bcs hc2 (by first | with_reducible assumption | go_simp)))))
  go_wp2
  go_ret
  exact ⟨by rw [HR.out]; rfl, hbw3⟩
set_option maxRecDepth 50000 in
set_option maxHeartbeats 1000000 in
theorem rfmtr_two (s t : Bool) (a b : Option Addr) (n c m d : Nat) (P Q : Int) (X Y : List (BitVec 32)) (w : World) (hQ1 : Q ≠ 1) (hX : canon P.natAbs = X) (hY : canon Q.natAbs = Y) (hXl : X.length ≤ 90000) (hYl : Y.length ≤ 90000)
    (hN : ∀ W, Below w.heap.size w W → Calls Tryz.prog 38 #[.agg #[.bool s, .slice a n c, .bool t, .slice b m d]] W (FrG W P Q)) :
    Calls Tryz.prog 17 #[.agg #[.bool s, .slice a n c, .bool t, .slice b m d]] w fun e w' => e = .returned (sv (fmtR P Q)) ∧ Below w.heap.size w w' := by
  have hb0 := Below.alloc (Below.refl w.heap.size w) (Nat.le_refl _) (.cells #[Value.bool s, Value.slice a n c, Value.bool t, Value.slice b m d] 33)
  have hzP := zv_canon P
  have hzQ := zv_canon Q
  have lP := zfmt_len (z := P) (n := 90000) (by rw [hX]; omega) (by decide)
  have lQ := zfmt_len (z := Q) (n := 90000) (by rw [hY]; omega) (by decide)
  rw [hX] at hzP
  rw [hY] at hzQ
  have hFP := fun (W : World) (v : Option Addr) (vc : Nat) (h2 : Rw W v X) => qfmt_any (decide (P < 0)) v _ vc X W rfl hXl h2
  have hFQ := fun (W : World) (v : Option Addr) (vc : Nat) (h2 : Rw W v Y) => qfmt_any (decide (Q < 0)) v _ vc Y W rfl hYl h2
  simp only [hzP] at hFP
  simp only [hzQ] at hFQ
  have hR := fmtR_cat (P := P) hQ1
  unfold sv at hFP hFQ ⊢
  obtain ⟨S1, hS1⟩ : ∃ S : ByteArray, (⟨(zfmt P).toArray⟩ : ByteArray) = S := ⟨_, rfl⟩
  obtain ⟨S2, hS2⟩ : ∃ S : ByteArray, (⟨(zfmt Q).toArray⟩ : ByteArray) = S := ⟨_, rfl⟩
  have hS2l : S2.toList = zfmt Q := by rw [← hS2, ByteArray.toList_eq]
  have hq1 : (S2.toList == [49]) = false := by
    rw [hS2l]
    rw [beq_eq_false_iff_ne]
    intro e
    apply hQ1
    have e2 := (fmt_back Q).1
    rw [e] at e2
    rw [← e2]
    decide +kernel
  have hz1 : S1.size ≤ 900002 := by rw [← hS1]; exact lP
  have hz2 : S2.size ≤ 900002 := by rw [← hS2]; exact lQ
  obtain ⟨n1, hn1⟩ : ∃ n, S1.size = n := ⟨_, rfl⟩
  obtain ⟨n2, hn2⟩ : ∃ n, S2.size = n := ⟨_, rfl⟩
  rw [hn1] at hz1
  rw [hn2] at hz2
  simp only [hS1] at hFP
  simp only [hS2] at hFQ
  rw [hS1, hS2] at hR
  have HN := Lib.hid (show Calls Tryz.prog 38 #[.agg #[.bool s, .slice a n c, .bool t, .slice b m d]] _ _ from hN _ hb0)
  have HX := Lib.hid hX
  have HY := Lib.hid hY
  have HFP := Lib.hid hFP
  have HFQ := Lib.hid hFQ
  have HR := Lib.hid hR
  clear hN hX hY hFP hFQ hR hzP hzQ lP lQ hQ1 hS1 hS2 hS2l
  go_enter Tryz.func17, Tryz.ntmps17
  go_wp2_with (go_at_call 38; go_loud ((with_reducible refine HN.out.mono ?_); rintro e w1 ⟨a3, c3, b3, d3, rfl, ho3, ho4, hc1⟩; rw [HX.out] at ho3; rw [HY.out] at ho4; rw [HX.out, HY.out]; have hbw1 : Below w.heap.size w w1 := hb0.trans (hc1.mono hb0.size); have hbg := belAl hbw1 (.cells #[Value.bool (decide (P < 0)), Value.slice a3 X.length c3, Value.bool (decide (Q < 0)), Value.slice b3 Y.length d3] 33); have hrX := (RwF.rw ho3).al (.cells #[Value.bool (decide (P < 0)), Value.slice a3 X.length c3, Value.bool (decide (Q < 0)), Value.slice b3 Y.length d3] 33); have hrY := (RwF.rw ho4).al (.cells #[Value.bool (decide (P < 0)), Value.slice a3 X.length c3, Value.bool (decide (Q < 0)), Value.slice b3 Y.length d3] 33)))
  go_region_held3 (fun w' => w'.cell? ⟨w1.heap.size, 0, none⟩ = some (.bool (decide (P < 0))) ∧ w'.cell? ⟨w1.heap.size, 1, none⟩ = some (.slice a3 X.length c3) ∧ w'.cell? ⟨w1.heap.size, 2, none⟩ = some (.bool (decide (Q < 0))) ∧ w'.cell? ⟨w1.heap.size, 3, none⟩ = some (.slice b3 Y.length d3)) (first | exact ⟨k3_g_0, k3_g_1, k3_g_2, k3_g_3⟩ | exact ⟨k2_g_0, k2_g_1, k2_g_2, k2_g_3⟩ | (refine ⟨?_, ?_, ?_, ?_⟩ <;> go_simp)) ((go_at_call 27; (first
      | ((with_reducible refine (HFQ.out _ _ _ hrY2).mono ?_); rintro e w3 ⟨rfl, hc3⟩; have hbw3 := bel_step hbw2 hc3; have k3_g_0 : w3.cell? ⟨w1.heap.size, 0, none⟩ = some (.bool (decide (P < 0))) := bcs hc3 (by first | with_reducible assumption | go_simp); have k3_g_1 : w3.cell? ⟨w1.heap.size, 1, none⟩ = some (.slice a3 X.length c3) := bcs hc3 (by first | with_reducible assumption | go_simp); have k3_g_2 : w3.cell? ⟨w1.heap.size, 2, none⟩ = some (.bool (decide (Q < 0))) := bcs hc3 (by first | with_reducible assumption | go_simp); have k3_g_3 : w3.cell? ⟨w1.heap.size, 3, none⟩ = some (.slice b3 Y.length d3) := bcs hc3 (by first | with_reducible assumption | go_simp))
      | ((with_reducible refine (HFP.out _ _ _ hrX.dr).mono ?_); rintro e w2 ⟨rfl, hc2⟩; have hbw2 := bel_step (belDr hbg) hc2; have hrY2 := hrY.dr.below hc2; have k2_g_0 : w2.cell? ⟨w1.heap.size, 0, none⟩ = some (.bool (decide (P < 0))) := bcs hc2 (by first | with_reducible assumption | go_simp); have k2_g_1 : w2.cell? ⟨w1.heap.size, 1, none⟩ = some (.slice a3 X.length c3) := bcs hc2 (by first | with_reducible assumption | go_simp); have k2_g_2 : w2.cell? ⟨w1.heap.size, 2, none⟩ = some (.bool (decide (Q < 0))) := bcs hc2 (by first | with_reducible assumption | go_simp); have k2_g_3 : w2.cell? ⟨w1.heap.size, 3, none⟩ = some (.slice b3 Y.length d3) := bcs hc2 (by first | with_reducible assumption | go_simp)))))
  go_wp2
  go_ret
  exact ⟨by rw [← HR.out]; rfl, hbw3⟩
theorem rfmtr_any (s t : Bool) (a b : Option Addr) (n c m d : Nat) (l k : List (BitVec 32)) (w : World) (hn : l.length = n) (hm : k.length = m) (hl : n ≤ 80000) (hl2 : m ≤ 80000) (hr : Rw w a l) (hs : Rw w b k) :
    Calls Tryz.prog 17 #[.agg #[.bool s, .slice a n c, .bool t, .slice b m d]] w fun e w' => e = .returned (sv (fmtR (rnN (zv s (valD l)) (zv t (valD k))) (rnD (zv s (valD l)) (zv t (valD k))))) ∧ Below w.heap.size w w' := by
  subst hn hm
  have h1 := rnN_len s t l k
  have h2 := rnD_len s t l k
  have hN : ∀ W, Below w.heap.size w W → Calls Tryz.prog 38 #[.agg #[.bool s, .slice a l.length c, .bool t, .slice b k.length d]] W (FrG W (rnN (zv s (valD l)) (zv t (valD k))) (rnD (zv s (valD l)) (zv t (valD k)))) := fun W hW => rnorm_any s t a b _ c _ d l k W rfl rfl (by omega) (by omega) (hr.below hW) (hs.below hW)
  by_cases h : rnD (zv s (valD l)) (zv t (valD k)) = 1
  · exact rfmtr_one s t a b _ c _ d _ _ _ _ w h rfl rfl (by omega) (by omega) hN
  · exact rfmtr_two s t a b _ c _ d _ _ _ _ w h rfl rfl (by omega) (by omega) hN
end Go.Proofs.YtdkbmpncohhioaaGreatDoor
