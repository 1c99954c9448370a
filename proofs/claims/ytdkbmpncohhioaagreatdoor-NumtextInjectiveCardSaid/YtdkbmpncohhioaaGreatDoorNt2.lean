
import Derived.Test.YtdkbmpncohhioaaGreatDoorNt1
import Derived.Test.YtdkbmpncohhioaaGreatDoorJB
import Derived.Deep.RegionHeld3
namespace Go.Proofs.YtdkbmpncohhioaaGreatDoor
open Go.RowKit
set_option linter.unusedVariables false
set_option linter.unusedSimpArgs false
attribute [local go_sem ↓] Go.wp_at_zero Go.wp_at_succ
theorem canon_one_len : (canon 1).length ≤ 1 := canon_le_of (l := [1#32]) (by first | decide | simp [valD])
theorem rnN_len (s t : Bool) (l k : List (BitVec 32)) : (canon (rnN (zv s (valD l)) (zv t (valD k))).natAbs).length ≤ l.length := by
  unfold rnN
  split
  · exact canon_le_of (Nat.zero_le _)
  · rw [zv_abs, zv_abs]
    exact canon_le_of (Nat.div_le_self _ _)
theorem rnD_len (s t : Bool) (l k : List (BitVec 32)) : (canon (rnD (zv s (valD l)) (zv t (valD k))).natAbs).length ≤ k.length + 1 := by
  unfold rnD
  split
  · have := canon_one_len
    show (canon 1).length ≤ _
    omega
  · rw [Int.natAbs_natCast, zv_abs, zv_abs]
    have : (canon (valD k / Nat.gcd (valD l) (valD k))).length ≤ k.length := canon_le_of (Nat.div_le_self _ _)
    omega
/-- The text of a fraction. -/
def fmtR (P Q : Int) : List UInt8 := if Q = 1 then zfmt P else zfmt P ++ [47] ++ zfmt Q
theorem nt_cat (A B : ByteArray) : (A ++ B).data.toList = A.data.toList ++ B.data.toList := by
  simp [ByteArray.data_append]
theorem nt_inj {x y : ByteArray} (h : x.data.toList = y.data.toList) : x = y := by
  cases x; cases y; congr 1; exact Array.toList_inj.1 h
theorem fmtR_cat {P Q : Int} (h : Q ≠ 1) : ((⟨(zfmt P).toArray⟩ : ByteArray) ++ ⟨#[47]⟩) ++ ⟨(zfmt Q).toArray⟩ = ⟨(fmtR P Q).toArray⟩ := by
  apply nt_inj
  rw [nt_cat, nt_cat]
  unfold fmtR
  rw [if_neg h]
theorem zfmt_len {z : Int} {n : Nat} (h : (canon z.natAbs).length ≤ n) (hn : n ≤ 90000) : (zfmt z).length ≤ 900002 := by
  have h1 := dec_fit (canon z.natAbs) 90000 (by omega)
  rw [valD_canon] at h1
  unfold zfmt
  split
  · rw [List.length_cons]; omega
  · omega
theorem isone_any (s : Bool) (a : Option Addr) (n c : Nat) (l : List (BitVec 32)) (z : Int) (w : World) (hn : l.length = n) (hc : n ≤ c) (hl : n ≤ 400000) (hr : Rw w a l) (hz : zv s (valD l) = z) :
    Calls Tryz.prog 31 #[.agg #[.bool s, .slice a n c]] w fun e w' => e = .returned (.bool (decide (z = 1))) ∧ Below w.heap.size w w' := by
  have hF := fun W => zfrom_any 1 (by decide) (by decide) W
  have hC := fun (W : World) (b : Option Addr) (d : Nat) (hd : (canon (1 : Int).natAbs).length ≤ d) (h1 : Rw W a l) (h2 : Rw W b (canon (1 : Int).natAbs)) => zcmp_any s (decide ((1 : Int) < 0)) a b n c _ d l (canon (1 : Int).natAbs) W hn rfl hc hd hl (Nat.le_trans (canon_in (by decide) (by decide)) (by decide)) h1 h2
  have h1z := zv_canon 1
  simp only [hz, h1z] at hC
  have h1f : decide ((1 : Int) < 0) = false := rfl
  simp only [h1f] at hC
  have hd1 : ((z - 1).sign == 0) = decide (z = 1) := by
    rw [Bool.eq_iff_iff, beq_iff_eq, decide_eq_true_iff, Int.sign_eq_zero_iff_zero]; omega
  obtain ⟨sg, hsg⟩ : ∃ x, (z - 1).sign = x := ⟨_, rfl⟩
  rw [hsg] at hd1
  simp only [hsg] at hC
  obtain ⟨X, hX⟩ : ∃ X, canon (1 : Int).natAbs = X := ⟨_, rfl⟩
  simp only [hX] at hC
  have HF := Lib.hid hF
  have HC := Lib.hid hC
  have HX := Lib.hid hX
  have HD := Lib.hid hd1
  clear hF hC hd1 hsg h1z hX hz
  go_enter Tryz.func31, Tryz.ntmps31
  have hb0 := Below.alloc (Below.refl w.heap.size w) (Nat.le_refl _) (.cells #[Value.bool s, Value.slice a n c] 31)
  go_wp2
  go_region_held3 (fun w' => w'.cell? ⟨w.heap.size, 0, none⟩ = some (.bool s) ∧ w'.cell? ⟨w.heap.size, 1, none⟩ = some (.slice a n c)) (first | exact ⟨k2_p_0, k2_p_1⟩ | exact ⟨k1_p_0, k1_p_1⟩ | (refine ⟨?_, ?_⟩ <;> go_simp)) ((first
    | (go_at_call 26; (with_reducible refine (HF.out _).mono ?_); rintro e w1 ⟨b, d, rfl, ho, hc1⟩; rw [HX.out] at ho; rw [HX.out]; have hcap := own_cap ho; have hbw1 := hb0.drew.trans (hc1.mono hb0.drew.size); have k1_p_0 : w1.cell? ⟨w.heap.size, 0, none⟩ = some (.bool s) := bcs hc1 (by go_simp); have k1_p_1 : w1.cell? ⟨w.heap.size, 1, none⟩ = some (.slice a n c) := bcs hc1 (by go_simp))
    | (go_at_call 33; (with_reducible refine (HC.out _ _ _ hcap (hr.below hbw1) (Rw.of_own ho)).mono ?_); rintro e w2 ⟨rfl, hc2⟩; have hbw2 := bel_step hbw1 hc2; have k2_p_0 := bcs hc2 k1_p_0; have k2_p_1 := bcs hc2 k1_p_1)))
  go_wp2
  go_ret
  exact ⟨by rw [← HD.out]; rfl, hbw2⟩
set_option maxRecDepth 50000 in
set_option maxHeartbeats 1000000 in
theorem fmtr_one (s t : Bool) (a b : Option Addr) (n c m d : Nat) (P Q : Int) (X Y : List (BitVec 32)) (w : World) (hQ1 : Q = 1) (hX : canon P.natAbs = X) (hY : canon Q.natAbs = Y) (hXl : X.length ≤ 90000) (hYl : Y.length ≤ 90000) (hT : Tb w)
    (hN : ∀ W, Below w.heap.size w W → Calls Tryz.prog 37 #[.agg #[.bool s, .slice a n c, .bool t, .slice b m d]] W (FrF W P Q)) :
    Calls Tryz.prog 16 #[.agg #[.bool s, .slice a n c, .bool t, .slice b m d]] w fun e w' => e = .returned (sv (fmtR P Q)) ∧ Below w.heap.size w w' := by
  have hb0 := Below.alloc (Below.refl w.heap.size w) (Nat.le_refl _) (.cells #[Value.bool s, Value.slice a n c, Value.bool t, Value.slice b m d] 33)
  have hzP := zv_canon P
  have hzQ := zv_canon Q
  have lP := zfmt_len (z := P) (n := 90000) (by rw [hX]; omega) (by decide)
  have lQ := zfmt_len (z := Q) (n := 90000) (by rw [hY]; omega) (by decide)
  rw [hX] at hzP
  rw [hY] at hzQ
  have hFP := fun (W : World) (v : Option Addr) (vc : Nat) (h1 : X.length ≤ vc) (h2 : Rw W v X) (h3 : Tb W) => zfmt_any (decide (P < 0)) v _ vc X W rfl h1 hXl h2 h3
  have hFQ := fun (W : World) (v : Option Addr) (vc : Nat) (h1 : Y.length ≤ vc) (h2 : Rw W v Y) (h3 : Tb W) => zfmt_any (decide (Q < 0)) v _ vc Y W rfl h1 hYl h2 h3
  have hIO := fun (W : World) (v : Option Addr) (vc : Nat) (h1 : Y.length ≤ vc) (h2 : Rw W v Y) => isone_any (decide (Q < 0)) v _ vc Y Q W rfl h1 (by omega) h2 hzQ
  simp only [hzP] at hFP
  simp only [hzQ] at hFQ
  have hq : decide (Q = 1) = true := by simp; exact hQ1
  simp only [hq] at hIO
  have hR := (show sv (fmtR P Q) = sv (zfmt P) by unfold fmtR; rw [if_pos hQ1])
  unfold sv at hFP hFQ hR ⊢
  obtain ⟨S1, hS1⟩ : ∃ S : ByteArray, (⟨(zfmt P).toArray⟩ : ByteArray) = S := ⟨_, rfl⟩
  obtain ⟨S2, hS2⟩ : ∃ S : ByteArray, (⟨(zfmt Q).toArray⟩ : ByteArray) = S := ⟨_, rfl⟩
  have hz1 : S1.size ≤ 900002 := by rw [← hS1]; exact lP
  have hz2 : S2.size ≤ 900002 := by rw [← hS2]; exact lQ
  obtain ⟨n1, hn1⟩ : ∃ n, S1.size = n := ⟨_, rfl⟩
  obtain ⟨n2, hn2⟩ : ∃ n, S2.size = n := ⟨_, rfl⟩
  rw [hn1] at hz1
  rw [hn2] at hz2
  simp only [hS1] at hFP hR
  simp only [hS2] at hFQ
  have HN := Lib.hid (show Calls Tryz.prog 37 #[.agg #[.bool s, .slice a n c, .bool t, .slice b m d]] _ _ from hN _ hb0)
  have HX := Lib.hid hX
  have HY := Lib.hid hY
  have HFP := Lib.hid hFP
  have HFQ := Lib.hid hFQ
  have HIO := Lib.hid hIO
  have HR := Lib.hid hR
  clear hN hX hY hFP hFQ hIO hR hzP hzQ lP lQ hq hQ1 hS1 hS2
  go_enter Tryz.func16, Tryz.ntmps16
  go_wp2_with (first
    | (go_at_call 37; go_loud ((with_reducible refine HN.out.mono ?_); rintro e w1 ⟨a3, c3, b3, d3, rfl, ho3, ho4, hne, hc1⟩; rw [HX.out] at ho3; rw [HY.out] at ho4; rw [HX.out, HY.out]; have k1_p_0 : w1.cell? ⟨w.heap.size, 0, none⟩ = some (.bool s) := bcs hc1 (by first | with_reducible assumption | go_simp); have g1_p_0 : w1.frozen? ⟨w.heap.size, 0, none⟩ = false := bfs hc1 (v := .bool s) (by first | with_reducible assumption | go_simp) (by first | with_reducible assumption | go_simp); have k1_p_1 : w1.cell? ⟨w.heap.size, 1, none⟩ = some (.slice a n c) := bcs hc1 (by first | with_reducible assumption | go_simp); have g1_p_1 : w1.frozen? ⟨w.heap.size, 1, none⟩ = false := bfs hc1 (v := .slice a n c) (by first | with_reducible assumption | go_simp) (by first | with_reducible assumption | go_simp); have k1_p_2 : w1.cell? ⟨w.heap.size, 2, none⟩ = some (.bool t) := bcs hc1 (by first | with_reducible assumption | go_simp); have g1_p_2 : w1.frozen? ⟨w.heap.size, 2, none⟩ = false := bfs hc1 (v := .bool t) (by first | with_reducible assumption | go_simp) (by first | with_reducible assumption | go_simp); have k1_p_3 : w1.cell? ⟨w.heap.size, 3, none⟩ = some (.slice b m d) := bcs hc1 (by first | with_reducible assumption | go_simp); have g1_p_3 : w1.frozen? ⟨w.heap.size, 3, none⟩ = false := bfs hc1 (v := .slice b m d) (by first | with_reducible assumption | go_simp) (by first | with_reducible assumption | go_simp); have x1_p : ¬ w.heap.size = w1.heap.size := qne k1_p_0; have y1_p : ¬ w1.heap.size = w.heap.size := fun h => qne k1_p_0 h.symm; have q1_p : w.heap.size < w1.heap.size := qlt k1_p_0; have hbw1 : Below w.heap.size w w1 := hb0.trans (hc1.mono hb0.size); have hqlt : w.heap.size < (w.alloc (.cells #[Value.bool s, Value.slice a n c, Value.bool t, Value.slice b m d] 33)).heap.size := (by simp); have hcX := own_cap ho3; have hcY := own_cap ho4; have hrX : Rw ((((w1.setCell ⟨w.heap.size, 0, none⟩ (.bool (decide (P < 0)))).setCell ⟨w.heap.size, 1, none⟩ (.slice a3 X.length c3)).setCell ⟨w.heap.size, 2, none⟩ (.bool (decide (Q < 0)))).setCell ⟨w.heap.size, 3, none⟩ (.slice b3 Y.length d3)) a3 X := Rw.of_own (own_set_other (own_set_other (own_set_other (own_set_other ho3 hqlt 0 _) hqlt 1 _) hqlt 2 _) hqlt 3 _); have hrY : Rw ((((w1.setCell ⟨w.heap.size, 0, none⟩ (.bool (decide (P < 0)))).setCell ⟨w.heap.size, 1, none⟩ (.slice a3 X.length c3)).setCell ⟨w.heap.size, 2, none⟩ (.bool (decide (Q < 0)))).setCell ⟨w.heap.size, 3, none⟩ (.slice b3 Y.length d3)) b3 Y := Rw.of_own (own_set_other (own_set_other (own_set_other (own_set_other ho4 hqlt 0 _) hqlt 1 _) hqlt 2 _) hqlt 3 _); have hbV : Below w.heap.size w ((((w1.setCell ⟨w.heap.size, 0, none⟩ (.bool (decide (P < 0)))).setCell ⟨w.heap.size, 1, none⟩ (.slice a3 X.length c3)).setCell ⟨w.heap.size, 2, none⟩ (.bool (decide (Q < 0)))).setCell ⟨w.heap.size, 3, none⟩ (.slice b3 Y.length d3)) := (((hbw1.setCell (Nat.le_refl _) _).setCell (Nat.le_refl _) _).setCell (Nat.le_refl _) _).setCell (Nat.le_refl _) _; have hTV := hT.below hbV))
    | (go_at_call 25; go_loud (first
        | ((with_reducible refine (HFQ.out _ _ _ hcY hrY3 hT3).mono ?_); rintro e w4 ⟨rfl, hc4⟩; have hbw4 := bel_step hbw3 hc4)
        | ((with_reducible refine (HFP.out _ _ _ hcX hrX hTV).mono ?_); rintro e w2 ⟨rfl, hc2⟩; have k2_p_0 : w2.cell? ⟨w.heap.size, 0, none⟩ = some (.bool (decide (P < 0))) := bcs hc2 (by first | with_reducible assumption | go_simp); have k2_p_1 : w2.cell? ⟨w.heap.size, 1, none⟩ = some (.slice a3 X.length c3) := bcs hc2 (by first | with_reducible assumption | go_simp); have k2_p_2 : w2.cell? ⟨w.heap.size, 2, none⟩ = some (.bool (decide (Q < 0))) := bcs hc2 (by first | with_reducible assumption | go_simp); have k2_p_3 : w2.cell? ⟨w.heap.size, 3, none⟩ = some (.slice b3 Y.length d3) := bcs hc2 (by first | with_reducible assumption | go_simp); have hbw2 := bel_step hbV hc2; have hrY2 := hrY.below hc2)))
    | (go_at_call 31; go_loud ((with_reducible refine (HIO.out _ _ _ hcY hrY2).mono ?_); rintro e w3 ⟨rfl, hc3⟩; have k3_p_0 : w3.cell? ⟨w.heap.size, 0, none⟩ = some (.bool (decide (P < 0))) := bcs hc3 (by first | with_reducible assumption | go_simp); have k3_p_1 : w3.cell? ⟨w.heap.size, 1, none⟩ = some (.slice a3 X.length c3) := bcs hc3 (by first | with_reducible assumption | go_simp); have k3_p_2 : w3.cell? ⟨w.heap.size, 2, none⟩ = some (.bool (decide (Q < 0))) := bcs hc3 (by first | with_reducible assumption | go_simp); have k3_p_3 : w3.cell? ⟨w.heap.size, 3, none⟩ = some (.slice b3 Y.length d3) := bcs hc3 (by first | with_reducible assumption | go_simp); have hbw3 := bel_step hbw2 hc3; have hrY3 := hrY2.below hc3; have hT3 := hT.below hbw3)))
  go_ret
  exact ⟨by rw [HR.out]; rfl, hbw3⟩
set_option maxRecDepth 50000 in
set_option maxHeartbeats 1000000 in
theorem fmtr_two (s t : Bool) (a b : Option Addr) (n c m d : Nat) (P Q : Int) (X Y : List (BitVec 32)) (w : World) (hQ1 : Q ≠ 1) (hX : canon P.natAbs = X) (hY : canon Q.natAbs = Y) (hXl : X.length ≤ 90000) (hYl : Y.length ≤ 90000) (hT : Tb w)
    (hN : ∀ W, Below w.heap.size w W → Calls Tryz.prog 37 #[.agg #[.bool s, .slice a n c, .bool t, .slice b m d]] W (FrF W P Q)) :
    Calls Tryz.prog 16 #[.agg #[.bool s, .slice a n c, .bool t, .slice b m d]] w fun e w' => e = .returned (sv (fmtR P Q)) ∧ Below w.heap.size w w' := by
  have hb0 := Below.alloc (Below.refl w.heap.size w) (Nat.le_refl _) (.cells #[Value.bool s, Value.slice a n c, Value.bool t, Value.slice b m d] 33)
  have hzP := zv_canon P
  have hzQ := zv_canon Q
  have lP := zfmt_len (z := P) (n := 90000) (by rw [hX]; omega) (by decide)
  have lQ := zfmt_len (z := Q) (n := 90000) (by rw [hY]; omega) (by decide)
  rw [hX] at hzP
  rw [hY] at hzQ
  have hFP := fun (W : World) (v : Option Addr) (vc : Nat) (h1 : X.length ≤ vc) (h2 : Rw W v X) (h3 : Tb W) => zfmt_any (decide (P < 0)) v _ vc X W rfl h1 hXl h2 h3
  have hFQ := fun (W : World) (v : Option Addr) (vc : Nat) (h1 : Y.length ≤ vc) (h2 : Rw W v Y) (h3 : Tb W) => zfmt_any (decide (Q < 0)) v _ vc Y W rfl h1 hYl h2 h3
  have hIO := fun (W : World) (v : Option Addr) (vc : Nat) (h1 : Y.length ≤ vc) (h2 : Rw W v Y) => isone_any (decide (Q < 0)) v _ vc Y Q W rfl h1 (by omega) h2 hzQ
  simp only [hzP] at hFP
  simp only [hzQ] at hFQ
  have hq : decide (Q = 1) = false := by simp; exact hQ1
  simp only [hq] at hIO
  have hR := fmtR_cat (P := P) hQ1
  unfold sv at hFP hFQ ⊢
  obtain ⟨S1, hS1⟩ : ∃ S : ByteArray, (⟨(zfmt P).toArray⟩ : ByteArray) = S := ⟨_, rfl⟩
  obtain ⟨S2, hS2⟩ : ∃ S : ByteArray, (⟨(zfmt Q).toArray⟩ : ByteArray) = S := ⟨_, rfl⟩
  have hz1 : S1.size ≤ 900002 := by rw [← hS1]; exact lP
  have hz2 : S2.size ≤ 900002 := by rw [← hS2]; exact lQ
  obtain ⟨n1, hn1⟩ : ∃ n, S1.size = n := ⟨_, rfl⟩
  obtain ⟨n2, hn2⟩ : ∃ n, S2.size = n := ⟨_, rfl⟩
  rw [hn1] at hz1
  rw [hn2] at hz2
  simp only [hS1] at hFP
  simp only [hS2] at hFQ
  rw [hS1, hS2] at hR
  have HN := Lib.hid (show Calls Tryz.prog 37 #[.agg #[.bool s, .slice a n c, .bool t, .slice b m d]] _ _ from hN _ hb0)
  have HX := Lib.hid hX
  have HY := Lib.hid hY
  have HFP := Lib.hid hFP
  have HFQ := Lib.hid hFQ
  have HIO := Lib.hid hIO
  have HR := Lib.hid hR
  clear hN hX hY hFP hFQ hIO hR hzP hzQ lP lQ hq hQ1 hS1 hS2
  go_enter Tryz.func16, Tryz.ntmps16
  go_wp2_with (first
    | (go_at_call 37; go_loud ((with_reducible refine HN.out.mono ?_); rintro e w1 ⟨a3, c3, b3, d3, rfl, ho3, ho4, hne, hc1⟩; rw [HX.out] at ho3; rw [HY.out] at ho4; rw [HX.out, HY.out]; have k1_p_0 : w1.cell? ⟨w.heap.size, 0, none⟩ = some (.bool s) := bcs hc1 (by first | with_reducible assumption | go_simp); have g1_p_0 : w1.frozen? ⟨w.heap.size, 0, none⟩ = false := bfs hc1 (v := .bool s) (by first | with_reducible assumption | go_simp) (by first | with_reducible assumption | go_simp); have k1_p_1 : w1.cell? ⟨w.heap.size, 1, none⟩ = some (.slice a n c) := bcs hc1 (by first | with_reducible assumption | go_simp); have g1_p_1 : w1.frozen? ⟨w.heap.size, 1, none⟩ = false := bfs hc1 (v := .slice a n c) (by first | with_reducible assumption | go_simp) (by first | with_reducible assumption | go_simp); have k1_p_2 : w1.cell? ⟨w.heap.size, 2, none⟩ = some (.bool t) := bcs hc1 (by first | with_reducible assumption | go_simp); have g1_p_2 : w1.frozen? ⟨w.heap.size, 2, none⟩ = false := bfs hc1 (v := .bool t) (by first | with_reducible assumption | go_simp) (by first | with_reducible assumption | go_simp); have k1_p_3 : w1.cell? ⟨w.heap.size, 3, none⟩ = some (.slice b m d) := bcs hc1 (by first | with_reducible assumption | go_simp); have g1_p_3 : w1.frozen? ⟨w.heap.size, 3, none⟩ = false := bfs hc1 (v := .slice b m d) (by first | with_reducible assumption | go_simp) (by first | with_reducible assumption | go_simp); have x1_p : ¬ w.heap.size = w1.heap.size := qne k1_p_0; have y1_p : ¬ w1.heap.size = w.heap.size := fun h => qne k1_p_0 h.symm; have q1_p : w.heap.size < w1.heap.size := qlt k1_p_0; have hbw1 : Below w.heap.size w w1 := hb0.trans (hc1.mono hb0.size); have hqlt : w.heap.size < (w.alloc (.cells #[Value.bool s, Value.slice a n c, Value.bool t, Value.slice b m d] 33)).heap.size := (by simp); have hcX := own_cap ho3; have hcY := own_cap ho4; have hrX : Rw ((((w1.setCell ⟨w.heap.size, 0, none⟩ (.bool (decide (P < 0)))).setCell ⟨w.heap.size, 1, none⟩ (.slice a3 X.length c3)).setCell ⟨w.heap.size, 2, none⟩ (.bool (decide (Q < 0)))).setCell ⟨w.heap.size, 3, none⟩ (.slice b3 Y.length d3)) a3 X := Rw.of_own (own_set_other (own_set_other (own_set_other (own_set_other ho3 hqlt 0 _) hqlt 1 _) hqlt 2 _) hqlt 3 _); have hrY : Rw ((((w1.setCell ⟨w.heap.size, 0, none⟩ (.bool (decide (P < 0)))).setCell ⟨w.heap.size, 1, none⟩ (.slice a3 X.length c3)).setCell ⟨w.heap.size, 2, none⟩ (.bool (decide (Q < 0)))).setCell ⟨w.heap.size, 3, none⟩ (.slice b3 Y.length d3)) b3 Y := Rw.of_own (own_set_other (own_set_other (own_set_other (own_set_other ho4 hqlt 0 _) hqlt 1 _) hqlt 2 _) hqlt 3 _); have hbV : Below w.heap.size w ((((w1.setCell ⟨w.heap.size, 0, none⟩ (.bool (decide (P < 0)))).setCell ⟨w.heap.size, 1, none⟩ (.slice a3 X.length c3)).setCell ⟨w.heap.size, 2, none⟩ (.bool (decide (Q < 0)))).setCell ⟨w.heap.size, 3, none⟩ (.slice b3 Y.length d3)) := (((hbw1.setCell (Nat.le_refl _) _).setCell (Nat.le_refl _) _).setCell (Nat.le_refl _) _).setCell (Nat.le_refl _) _; have hTV := hT.below hbV))
    | (go_at_call 25; go_loud (first
        | ((with_reducible refine (HFQ.out _ _ _ hcY hrY3 hT3).mono ?_); rintro e w4 ⟨rfl, hc4⟩; have hbw4 := bel_step hbw3 hc4)
        | ((with_reducible refine (HFP.out _ _ _ hcX hrX hTV).mono ?_); rintro e w2 ⟨rfl, hc2⟩; have k2_p_0 : w2.cell? ⟨w.heap.size, 0, none⟩ = some (.bool (decide (P < 0))) := bcs hc2 (by first | with_reducible assumption | go_simp); have k2_p_1 : w2.cell? ⟨w.heap.size, 1, none⟩ = some (.slice a3 X.length c3) := bcs hc2 (by first | with_reducible assumption | go_simp); have k2_p_2 : w2.cell? ⟨w.heap.size, 2, none⟩ = some (.bool (decide (Q < 0))) := bcs hc2 (by first | with_reducible assumption | go_simp); have k2_p_3 : w2.cell? ⟨w.heap.size, 3, none⟩ = some (.slice b3 Y.length d3) := bcs hc2 (by first | with_reducible assumption | go_simp); have hbw2 := bel_step hbV hc2; have hrY2 := hrY.below hc2)))
    | (go_at_call 31; go_loud ((with_reducible refine (HIO.out _ _ _ hcY hrY2).mono ?_); rintro e w3 ⟨rfl, hc3⟩; have k3_p_0 : w3.cell? ⟨w.heap.size, 0, none⟩ = some (.bool (decide (P < 0))) := bcs hc3 (by first | with_reducible assumption | go_simp); have k3_p_1 : w3.cell? ⟨w.heap.size, 1, none⟩ = some (.slice a3 X.length c3) := bcs hc3 (by first | with_reducible assumption | go_simp); have k3_p_2 : w3.cell? ⟨w.heap.size, 2, none⟩ = some (.bool (decide (Q < 0))) := bcs hc3 (by first | with_reducible assumption | go_simp); have k3_p_3 : w3.cell? ⟨w.heap.size, 3, none⟩ = some (.slice b3 Y.length d3) := bcs hc3 (by first | with_reducible assumption | go_simp); have hbw3 := bel_step hbw2 hc3; have hrY3 := hrY2.below hc3; have hT3 := hT.below hbw3)))
  go_ret
  exact ⟨by rw [← HR.out]; rfl, hbw4⟩
/-- FormatRational, whatever its argument. -/
theorem fmtr_any (s t : Bool) (a b : Option Addr) (n c m d : Nat) (l k : List (BitVec 32)) (w : World) (hn : l.length = n) (hm : k.length = m) (hc : n ≤ c) (hd : m ≤ d) (hl : n ≤ 80000) (hl2 : m ≤ 80000) (hr : Rw w a l) (hs : Rw w b k) (hT : Tb w) :
    Calls Tryz.prog 16 #[.agg #[.bool s, .slice a n c, .bool t, .slice b m d]] w fun e w' => e = .returned (sv (fmtR (rnN (zv s (valD l)) (zv t (valD k))) (rnD (zv s (valD l)) (zv t (valD k))))) ∧ Below w.heap.size w w' := by
  subst hn hm
  have h1 := rnN_len s t l k
  have h2 := rnD_len s t l k
  have hN : ∀ W, Below w.heap.size w W → Calls Tryz.prog 37 #[.agg #[.bool s, .slice a l.length c, .bool t, .slice b k.length d]] W (FrF W (rnN (zv s (valD l)) (zv t (valD k))) (rnD (zv s (valD l)) (zv t (valD k)))) := fun W hW => ratn_any s t a b _ c _ d l k W rfl rfl hc hd (by omega) (by omega) (hr.below hW) (hs.below hW)
  by_cases h : rnD (zv s (valD l)) (zv t (valD k)) = 1
  · exact fmtr_one s t a b _ c _ d _ _ _ _ w h rfl rfl (by omega) (by omega) hT hN
  · exact fmtr_two s t a b _ c _ d _ _ _ _ w h rfl rfl (by omega) (by omega) hT hN
end Go.Proofs.YtdkbmpncohhioaaGreatDoor
