import Derived.Test.YtbnialhpflaoaaaDoorN2
import Derived.Laws.MakeOwn
import Derived.IntWalk
namespace Go.Proofs.YtbnialhpflaoaaaDoor
open Go.RowKit
set_option linter.unusedVariables false
set_option linter.unusedSimpArgs false
theorem rcmp_lt (a b : Option Addr) (n c m d : Nat) (l k : List (BitVec 32)) (w : World) (hn : l.length = n) (hm : k.length = m) (hl : n ≤ 1000000) (hl2 : m ≤ 1000000) (hr : Rw w a l) (hs : Rw w b k) (h : valD l < valD k) :
    Calls Tryd.prog 22 #[.slice a n c, .slice b m d] w fun e w' => e = .returned (.int .i64 (-1)) ∧ w = w' := by
  refine (rcmp_any a b n c m d l k w hn hm hl hl2 hr hs).mono ?_
  rintro e w' ⟨rfl, rfl⟩
  exact ⟨by rw [cmpN_lt h], rfl⟩
theorem rcmp_gt (a b : Option Addr) (n c m d : Nat) (l k : List (BitVec 32)) (w : World) (hn : l.length = n) (hm : k.length = m) (hl : n ≤ 1000000) (hl2 : m ≤ 1000000) (hr : Rw w a l) (hs : Rw w b k) (h : valD k < valD l) :
    Calls Tryd.prog 22 #[.slice a n c, .slice b m d] w fun e w' => e = .returned (.int .i64 1) ∧ w = w' := by
  refine (rcmp_any a b n c m d l k w hn hm hl hl2 hr hs).mono ?_
  rintro e w' ⟨rfl, rfl⟩
  exact ⟨by rw [cmpN_gt h], rfl⟩
theorem rcmp_ge (a b : Option Addr) (n c m d : Nat) (l k : List (BitVec 32)) (w : World) (hn : l.length = n) (hm : k.length = m) (hl : n ≤ 1000000) (hl2 : m ≤ 1000000) (hr : Rw w a l) (hs : Rw w b k) (h : valD k ≤ valD l) :
    Calls Tryd.prog 22 #[.slice a n c, .slice b m d] w fun e w' => ∃ r : Int, 0 ≤ r ∧ r ≤ 1 ∧ e = .returned (.int .i64 r) ∧ w = w' := by
  refine (rcmp_any a b n c m d l k w hn hm hl hl2 hr hs).mono ?_
  rintro e w' ⟨rfl, rfl⟩
  refine ⟨_, ?_, ?_, rfl, rfl⟩ <;> (unfold cmpN; split <;> (try split) <;> omega)
theorem rcmp_le (a b : Option Addr) (n c m d : Nat) (l k : List (BitVec 32)) (w : World) (hn : l.length = n) (hm : k.length = m) (hl : n ≤ 1000000) (hl2 : m ≤ 1000000) (hr : Rw w a l) (hs : Rw w b k) (h : valD l ≤ valD k) :
    Calls Tryd.prog 22 #[.slice a n c, .slice b m d] w fun e w' => ∃ r : Int, -1 ≤ r ∧ r ≤ 0 ∧ e = .returned (.int .i64 r) ∧ w = w' := by
  refine (rcmp_any a b n c m d l k w hn hm hl hl2 hr hs).mono ?_
  rintro e w' ⟨rfl, rfl⟩
  refine ⟨_, ?_, ?_, rfl, rfl⟩ <;> (unfold cmpN; split <;> (try split) <;> omega)
theorem rsub_no (a b : Option Addr) (n c m d : Nat) (l k : List (BitVec 32)) (w : World) (hn : l.length = n) (hm : k.length = m) (hl : n ≤ 1000000) (hl2 : m ≤ 1000000) (hr : Rw w a l) (hs : Rw w b k) (h : valD l < valD k) :
    Calls Tryd.prog 26 #[.slice a n c, .slice b m d] w fun e w' => e = .returned (.tuple #[.slice none 0 0, .bool false]) ∧ w = w' := by
  subst hn hm
  go_enter Tryd.func26, Tryd.ntmps26
  go_wp2_with (go_at_call 22; (with_reducible refine (rcmp_lt _ _ _ _ _ _ l k _ rfl rfl hl hl2 hr hs h).mono ?_); rintro e w1 ⟨rfl, rfl⟩)
  go_ret2
  exact ⟨rfl, rfl⟩
theorem take_val {l k : List (BitVec 32)} (h : valD k ≤ valD l) : valD (k.take l.length) = valD k := by
  have h1 := dig_split k l.length
  have h2 := valD_lt l
  have h3 : valD (k.drop l.length) = 0 := by
    rcases Nat.eq_zero_or_pos (valD (k.drop l.length)) with h4 | h4
    · exact h4
    · have := Nat.mul_le_mul_left (pw l.length) h4
      omega
  rw [h3] at h1
  omega
def SubRel (w : World) (l k : List (BitVec 32)) (v c i : Value) (wr : World) : Prop := ∃ (j q : Nat) (out : List (BitVec 32)), j ≤ l.length ∧ i = .int .i64 j ∧ c = .int .u64 q ∧ q ≤ 1 ∧ Hid (out.length = j ∧ valD (l.take j) + q * pw j = valD (k.take j) + valD out) ∧ wr.ownsRow w.heap.size 39 1 v j (bv32 out) ∧ Below w.heap.size w wr
theorem snoc_own_le {w w2 : World} {v : Value} {j : Nat} {out : List (BitVec 32)} (h : w2.ownsRow w.heap.size 39 1 v j (bv32 out)) : out.length = j := by
  have := h.1
  rw [bv32_len] at this
  omega
theorem own_le {w w2 : World} {v : Value} {j : Nat} {out : List (BitVec 32)} (h : w2.ownsRow w.heap.size 39 1 v j (bv32 out)) (hj : j ≤ 10000000) : out.length ≤ 10000000 := by rw [snoc_own_le h]; exact hj
set_option maxRecDepth 50000 in
set_option maxHeartbeats 1000000 in
theorem rsub_yes (a b : Option Addr) (n c m d : Nat) (l k : List (BitVec 32)) (w : World) (hn : l.length = n) (hm : k.length = m) (hl : n ≤ 1000000) (hl2 : m ≤ 1000000) (hr : Rw w a l) (hs : Rw w b k) (h : valD k ≤ valD l) :
    Calls Tryd.prog 26 #[.slice a n c, .slice b m d] w fun e w' => ∃ a' c', e = .returned (.tuple #[.slice a' (canon (valD l - valD k)).length c', .bool true]) ∧ w'.ownsRow w.heap.size 39 1 (.slice a' (canon (valD l - valD k)).length c') (canon (valD l - valD k)).length (bv32 (canon (valD l - valD k))) ∧ Below w.heap.size w w' := by
  subst hn hm
  have HV := Lib.hid h
  clear h
  go_enter Tryd.func26, Tryd.ntmps26
  go_wp2_with (go_at_call 22; (with_reducible refine (rcmp_ge _ _ _ _ _ _ l k _ rfl rfl hl hl2 hr hs HV.out).mono ?_); rintro e w1 ⟨r, hr0, hr1, rfl, rfl⟩)
  go_loopw [6, 7, 8] (fun v c i wr => SubRel w l k v c i wr) (fun _ _ i _ => l.length - (intOf i).toNat)
  case atStart => exact ⟨0, 0, [], Nat.zero_le _, rfl, rfl, by omega, ⟨rfl, by simp [valD_nil]⟩, fresh_row32 w, Below.alloc (Below.refl _ _) (Nat.le_refl _) _⟩
  case round =>
    obtain ⟨j, q, out, hj, rfl, rfl, hq, ho, hown, hb⟩ := hrel
    have hrb := hr.below hb
    have hsb := hs.below hb
    have hj2 : j + 1 ≤ 20000000 := by omega
    by_cases hlt : j < l.length
    · have e1 := digD_lt l j
      have e2 := digD_lt k j
      obtain ⟨t, ht⟩ : ∃ t, t + digD k j + q = 4294967296 + digD l j := ⟨4294967296 + digD l j - digD k j - q, by omega⟩
      have ht2 : t < 8589934592 := by omega
      have ht3 : 4294967296 + (digD l j : Int) - (digD k j : Int) - (q : Int) = (t : Int) := by omega
      have HT := Lib.hid ht
      clear ht
      go_wp2_with (first
        | (go_at_call 45; (with_reducible refine (dig_any a _ _ j l _ rfl hrb).mono ?_); rintro e w2 ⟨rfl, rfl⟩)
        | (go_at_call 45; (with_reducible refine (dig_any b _ _ j k _ rfl hsb).mono ?_); rintro e w2 ⟨rfl, rfl⟩)
        | (at_builtin; refine wpList_snoc32 rfl _ _ rfl hown hb hj2 (BitVec.ofNat 32 t) (toNat32' (by omega)) rfl rfl ?_; intro v' w2 hown2 hb2))
      go_roundw
      case rel =>
        refine ⟨j + 1, 1 - t / 4294967296, out ++ [BitVec.ofNat 32 t], by omega, by go_num, ?_, by omega, ⟨?_, ?_⟩, hown2, hb2⟩
        · have := HT.out
          congr 1
          omega
        · rw [List.length_append, ho.out.1]; rfl
        · rw [valD_dig, valD_dig, valD_snoc, ho.out.1, BitVec.toNat_ofNat, pw_succ]
          exact sub_num _ _ _ _ _ _ _ _ _ ho.out.2 (by have := HT.out; omega)
      case measure => simp [intOf] <;> omega
    · obtain ⟨a2, c2, rfl⟩ := own_slice hown
      go_wp2_with ((go_at_call 20; (with_reducible refine (norm_any _ _ _ out _ (snoc_own_le hown) (own_le hown (by omega)) (Rw.of_own hown)).mono ?_); rintro e w3 ⟨a3, c3, rfl, hown3, hb3⟩))
      have hv : trimD out = canon (valD l - valD k) := by
        rw [← canon_val]
        congr 1
        have e := ho.out.2
        have hjl : j = l.length := by omega
        rw [hjl, List.take_length, take_val HV.out] at e
        have h1 := valD_lt out
        rw [ho.out.1, hjl] at h1
        have h2 := HV.out
        have h3 : q = 0 := by
          rcases Nat.eq_zero_or_pos q with h4 | h4
          · exact h4
          · rw [show q = 1 by omega] at e; omega
        subst h3
        omega
      rw [hv] at hown3
      go_ret2
      exact ⟨a3, c3, by rw [hv]; rfl, own_mono hown3 hb.size, hb.trans (hb3.mono hb.size)⟩
def zer (n : Nat) : List (BitVec 32) := List.replicate n 0#32
theorem made32 (w : World) (n : Nat) (hn : n ≤ 10000000) : (w.alloc (.cells (madeCells #[Value.int .u32 0] n) 39)).ownsRow w.heap.size 39 1 (.slice (some ⟨w.heap.size, 0, none⟩) n n) n (bv32 (zer n)) := by
  have h := own_made w (madeCells #[Value.int .u32 0] n) 39 n (size_madeCells _ _) (by unfold maxLen; omega)
  rw [show (madeCells #[Value.int .u32 0] n).toList = bv32 (zer n) from ?_] at h
  · exact h
  · apply List.ext_getElem
    · simp [madeCells, bv32, zer]
    · intro i h1 h2
      simp [madeCells, bv32, zer, Nat.mod_one]
theorem mul_num (Q Q' p r s x B f b q t V X c : Nat) (h : Q' + p * q = Q + p * (t % 4294967296)) (h0 : Q + c * p = V + f * X * r) (hp : p = r * s) (ht : t = f * b + q + c) : Q' + (t / 4294967296) * (p * 4294967296) = V + f * (X + s * b) * r := by
  have h1 := congrArg (p * ·) (Nat.mod_add_div t 4294967296)
  simp only [Nat.mul_add] at h1
  subst hp
  grind
theorem bv32_set (l : List (BitVec 32)) (k : Nat) (d : BitVec 32) : bv32 (l.set k d) = (bv32 l).set k (.int .u32 (d.toNat : Int)) := by simp [bv32, List.map_set]
/-- The row of a product: inner loop. -/
def MuIn (w : World) (l k : List (BitVec 32)) (i : Nat) (g cp : Nat) (c j : Value) (wr : World) : Prop := ∃ (m q : Nat) (Q : List (BitVec 32)), m ≤ k.length ∧ j = .int .i64 m ∧ c = .int .u64 q ∧ q < 4294967296 ∧
  Hid (Q.length = l.length + k.length + 1 ∧ valD Q + q * pw (i + m) = valD (l.take i) * valD k + digD l i * valD (k.take m) * pw i ∧ ∀ z, i + k.length ≤ z → z < Q.length → Q[z]? = some 0#32) ∧
  wr.ownsRow w.heap.size 39 1 (.slice (some ⟨g, 0, none⟩) (l.length + k.length + 1) cp) (l.length + k.length + 1) (bv32 Q) ∧ Below w.heap.size w wr
def MuOut (w : World) (l k : List (BitVec 32)) (g cp : Nat) (i : Value) (wr : World) : Prop := ∃ (m : Nat) (Q : List (BitVec 32)), m ≤ l.length ∧ i = .int .i64 m ∧
  Hid (Q.length = l.length + k.length + 1 ∧ valD Q = valD (l.take m) * valD k ∧ ∀ z, m + k.length ≤ z → z < Q.length → Q[z]? = some 0#32) ∧
  wr.ownsRow w.heap.size 39 1 (.slice (some ⟨g, 0, none⟩) (l.length + k.length + 1) cp) (l.length + k.length + 1) (bv32 Q) ∧ Below w.heap.size w wr
set_option maxRecDepth 50000 in
set_option maxHeartbeats 1000000 in
theorem rmul_any (a b : Option Addr) (n c m d : Nat) (l k : List (BitVec 32)) (w : World) (hn : l.length = n) (hm : k.length = m) (hl : n ≤ 1000000) (hl2 : m ≤ 1000000) (hr : Rw w a l) (hs : Rw w b k) :
    Calls Tryd.prog 30 #[.slice a n c, .slice b m d] w (FrW w (canon (valD l * valD k))) := by
  subst hn hm
  have hmk := run_make_row' (P := Tryd.prog) 22 39 (.int .u32 0) 4 Tryd.underlying22 info32 rfl .i64 .i64 (l.length + k.length + 1) (by omega) (by omega)
  have hcast : ((l.length + k.length + 1 : Nat) : Int) = (l.length : Int) + (k.length : Int) + 1 := by omega
  rw [hcast] at hmk
  clear hcast
  go_enter Tryd.func30, Tryd.ntmps30
  go_wp2
  go_loopw [6, 7, 8, 9] (fun i _ _ _ wr => MuOut w l k w.heap.size (l.length + k.length + 1) i wr) (fun i _ _ _ _ => l.length - (intOf i).toNat)
  case atStart =>
    refine ⟨0, zer (l.length + k.length + 1), Nat.zero_le _, rfl, ⟨by simp [zer], by simp [zer, valD_zeros, valD_nil], ?_⟩, made32 w _ (by omega), Below.alloc (Below.refl _ _) (Nat.le_refl _) _⟩
    intro z _ hz
    rw [zer, List.getElem?_replicate, if_pos (by simpa [zer] using hz)]
  case round =>
    obtain ⟨i, Q, hi, rfl, hq, hown, hb⟩ := hrel
    by_cases hlt : i < l.length
    · go_wp2
      go_loopw [7, 8, 9] (fun c j _ wr => MuIn w l k i w.heap.size (l.length + k.length + 1) c j wr) (fun _ j _ _ => k.length - (intOf j).toNat)
      case atStart => exact ⟨0, 0, Q, Nat.zero_le _, rfl, rfl, by omega, ⟨hq.out.1, by rw [hq.out.2.1]; simp [valD_nil], hq.out.2.2⟩, hown, hb⟩
      case round =>
        obtain ⟨j, q, Q2, hj, rfl, rfl, hq2, ho, hown2, hb2⟩ := hrel
        have hrb := hr.below hb2
        have hsb := hs.below hb2
        have hQl := ho.out.1
        by_cases hlt2 : j < k.length
        · obtain ⟨ad, rfl, hc1⟩ := hrb i hlt
          obtain ⟨bd, rfl, hc2⟩ := hsb j hlt2
          have hjq : i + j < Q2.length := by omega
          obtain ⟨z, hz⟩ : ∃ z, Q2[i + j] = z := ⟨_, rfl⟩
          have hc3 := own_cell hown2 (i + j) (.int .u32 (z.toNat : Int)) (by simp [bv32, hjq, hz])
          have hf3 := hown2.frozenAt (i + j)
          have e3 := z.isLt
          obtain ⟨x, hx⟩ : ∃ x, l[i].toNat = x := ⟨_, rfl⟩
          obtain ⟨y, hy⟩ : ∃ y, k[j].toNat = y := ⟨_, rfl⟩
          have e1 := l[i].isLt
          have e2 := k[j].isLt
          rw [hx] at hc1 e1
          rw [hy] at hc2 e2
          have e4 := mul_lt32 e1 e2
          obtain ⟨s, hs2⟩ : ∃ s, x * y = s := ⟨_, rfl⟩
          have hsi : (x : Int) * (y : Int) = (s : Int) := by rw [← hs2]; simp
          rw [hs2] at e4
          have HF := Lib.hid (show x = digD l i ∧ y = k[j].toNat ∧ x * y = s ∧ Q2[i + j]? = some z from ⟨by rw [digD_in _ _ hlt, hx], hy.symm, hs2, by rw [List.getElem?_eq_getElem hjq, hz]⟩)
          clear hx hy hs2 hz
          have HQ := Lib.hid hQl
          clear hQl hjq
          have w1 : IntKind.i64.wrap ((i : Int) + (j : Int)) = (i : Int) + (j : Int) := IntWalk.i64_in _ (by omega)
          have w2 : IntKind.u64.wrap ((s : Int) + (z.toNat : Int)) = (s : Int) + (z.toNat : Int) := IntWalk.u64_in _ (by omega)
          have w3 : IntKind.u64.wrap ((s : Int) + (z.toNat : Int) + (q : Int)) = (s : Int) + (z.toNat : Int) + (q : Int) := IntWalk.u64_in _ (by omega)
          have w4 : IntKind.u64.wrap (s : Int) = (s : Int) := IntWalk.u64_in _ (by omega)
          go_wp2
          go_quiet (fail)
          clear w1 w2 w3 w4
          go_wp2
          go_roundw
          case rel =>
            have hlen : i + j < Q2.length := by have := HQ.out; omega
            refine ⟨j + 1, (s + z.toNat + q) / 4294967296, Q2.set (i + j) (BitVec.ofNat 32 (s + z.toNat + q)), by omega, by go_num, by go_num, by omega, ⟨?_, ?_, ?_⟩, ?_, ?_⟩
            · rw [List.length_set]; exact HQ.out
            · have hv := valD_set Q2 (i + j) (BitVec.ofNat 32 (s + z.toNat + q)) hlen
              have hz2 := HF.out.2.2.2
              rw [List.getElem?_eq_getElem hlen] at hz2
              rw [Option.some.inj hz2, BitVec.toNat_ofNat] at hv
              rw [show i + (j + 1) = (i + j) + 1 by omega, pw_succ, valD_take _ _ hlt2]
              exact mul_num _ _ _ _ _ x 4294967296 _ _ _ _ _ _ _ hv ho.out.2.1 (pw_add _ _) (by rw [← HF.out.1, ← HF.out.2.1, HF.out.2.2.1])
            · intro z2 h1 h2
              rw [List.length_set] at h2
              rw [List.getElem?_set_ne (by omega)]
              exact ho.out.2.2 z2 h1 h2
            · rw [bv32_set]
              rw [show ((BitVec.ofNat 32 (s + z.toNat + q)).toNat : Int) = ((s : Int) + (z.toNat : Int) + (q : Int)) % 4294967296 by rw [toNat32]; omega]
              exact own_set (w := wr.drewN _) hown2 _ _
            · exact Below.setCell (below_drewN hb2 _) (p := ⟨w.heap.size, i + j, none⟩) (Nat.le_refl _) _
          case measure => simp [intOf] <;> omega
        · have hjk : j = k.length := by omega
          subst hjk
          have hz0 := ho.out.2.2 (i + k.length) (Nat.le_refl _) (by omega)
          have hc3 := own_cell hown2 (i + k.length) (.int .u32 0) (by rw [bv32, List.getElem?_map, hz0]; rfl)
          have hf3 := hown2.frozenAt (i + k.length)
          have HQ := Lib.hid hQl
          have HZ := Lib.hid hz0
          clear hQl hz0
          go_wp2
          go_roundw
          case rel =>
            have hlen : i + k.length < Q2.length := by have := HQ.out; omega
            refine ⟨i + 1, Q2.set (i + k.length) (BitVec.ofNat 32 q), by omega, by go_num, ⟨?_, ?_, ?_⟩, ?_, ?_⟩
            · rw [List.length_set]; exact HQ.out
            · have hv := valD_set Q2 (i + k.length) (BitVec.ofNat 32 q) hlen
              have hz2 := HZ.out
              rw [List.getElem?_eq_getElem hlen] at hz2
              have e0 : (BitVec.ofNat 32 q).toNat = q := by rw [BitVec.toNat_ofNat]; omega
              have e00 : (0#32).toNat = 0 := rfl
              rw [Option.some.inj hz2, e0, e00, Nat.mul_zero, Nat.add_zero] at hv
              have h4 := ho.out.2.1
              rw [List.take_length] at h4
              rw [valD_dig, Nat.add_mul]
              grind
            · intro z2 h1 h2
              rw [List.length_set] at h2
              rw [List.getElem?_set_ne (by omega)]
              exact ho.out.2.2 z2 (by omega) h2
            · have := own_set hown2 (i + k.length) (.int .u32 (q : Int))
              rw [bv32_set]
              rw [show ((BitVec.ofNat 32 q).toNat : Int) = (q : Int) by rw [toNat32]; omega]
              exact this
            · exact Below.setCell hb2 (p := ⟨w.heap.size, i + k.length, none⟩) (Nat.le_refl _) _
          case measure => simp [intOf] <;> omega
    · obtain rfl : i = l.length := by omega
      go_wp2_with ((go_at_call 20; (with_reducible refine (norm_any _ _ _ Q _ (snoc_own_le hown) (own_le hown (by omega)) (Rw.of_own hown)).mono ?_); rintro e w3 ⟨a3, c3, rfl, hown3, hb3⟩))
      have hv : trimD Q = canon (valD l * valD k) := by
        rw [← canon_val, hq.out.2.1, List.take_length]
      rw [hv] at hown3
      go_ret
      exact ⟨a3, c3, by rw [hv]; rfl, own_mono hown3 hb.size, hb.trans (hb3.mono hb.size)⟩
end Go.Proofs.YtbnialhpflaoaaaDoor
