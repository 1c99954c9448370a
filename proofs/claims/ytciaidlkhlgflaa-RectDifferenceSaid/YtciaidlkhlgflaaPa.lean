import Derived.Test.YtciaidlkhlgflaaSt
import Derived.Test.YtciaidlkhlgflaaPk
import Derived.Test.YtciaidlkhlgflaaR3
import Derived.WalkKit
import Derived.WalkSpells
import Derived.WalkLawsBesides
import Derived.Lib.Hide
import Derived.Below
import Derived.Deep.QuietTactic
import Derived.BigQuiet
import Derived.StillTailTactics
import Derived.Deep.RegionHeld3
import Derived.IntWalk
namespace Go.Proofs.Ytciaidlkhlgflaa
open Go.RowKit
set_option linter.unusedVariables false
set_option linter.unusedSimpArgs false
def shV (s : Int × Int × Int) : List Value := [.int .i64 s.1, .int .i64 s.2.1, .int .i64 s.2.2]
def ptV (s : Int × Int) : List Value := [.int .i64 s.1, .int .i64 s.2]
def rcV (s : Int × Int × Int × Int) : List Value := [.int .i64 s.1, .int .i64 s.2.1, .int .i64 s.2.2.1, .int .i64 s.2.2.2]
theorem shV_len (s : Int × Int × Int) : (shV s).length = 3 := rfl
theorem ptV_len (s : Int × Int) : (ptV s).length = 2 := rfl
theorem rcV_len (s : Int × Int × Int × Int) : (rcV s).length = 4 := rfl
set_option maxHeartbeats 1000000 in
theorem vside_any (n : Int) (w : World) : Calls Try.prog 32 #[.int .i64 n] w fun e w' => e = .returned (.bool (sideB n)) ∧ w = w' := by
  by_cases h : 1 ≤ n
  · by_cases h2 : n ≤ 4096
    · go_enter Try.func32, Try.ntmps32
      go_wp2
      go_ret
      exact ⟨by simp [sideB, h, h2], rfl⟩
    · go_enter Try.func32, Try.ntmps32
      go_wp2
      go_ret
      exact ⟨by simp [sideB, h, h2], rfl⟩
  · go_enter Try.func32, Try.ntmps32
    go_wp2
    go_ret
    exact ⟨by simp [sideB]; omega, rfl⟩
set_option maxHeartbeats 1000000 in
theorem vsize_any (n : Int) (w : World) : Calls Try.prog 34 #[.int .i64 n] w fun e w' => e = .returned (.bool (sideB n)) ∧ w = w' := by
  by_cases h : 1 ≤ n
  · by_cases h2 : n ≤ 4096
    · go_enter Try.func34, Try.ntmps34
      go_wp2
      go_ret
      exact ⟨by simp [sideB, h, h2], rfl⟩
    · go_enter Try.func34, Try.ntmps34
      go_wp2
      go_ret
      exact ⟨by simp [sideB, h, h2], rfl⟩
  · go_enter Try.func34, Try.ntmps34
    go_wp2
    go_ret
    exact ⟨by simp [sideB]; omega, rfl⟩
set_option maxRecDepth 50000 in
set_option maxHeartbeats 2000000 in
theorem ff_any (a : Option Addr) (n c : Nat) (q x y : Int) (sh : List (Int × Int × Int)) (w : World) (hn : sh.length = n) (hnl : n ≤ 1000000) (hq0 : 0 ≤ q) (hq1 : q ≤ 4096)
    (hs : ∀ i (h : i < sh.length), 0 ≤ sh[i].2.2 ∧ sh[i].2.2 ≤ 4096) (hr : RS 3 shV w a sh) :
    Calls Try.prog 33 #[.slice a n c, .int .i64 q, .agg #[.int .i64 x, .int .i64 y]] w fun e w' => e = .returned (.int .i64 (ffit q (x, y) sh : Nat)) ∧ Below w.heap.size w w' := by
  subst hn
  have hb0 := Below.alloc (Below.refl w.heap.size w) (Nat.le_refl _) (.cells #[.int .i64 x, .int .i64 y] 44)
  have hc0 := row_cell (heap_alloc_new w (.cells #[.int .i64 x, .int .i64 y] 44)) 0
  have hc1 := row_cell (heap_alloc_new w (.cells #[.int .i64 x, .int .i64 y] 44)) 1
  go_enter Try.func33, Try.ntmps33
  go_wp2
  go_loopw [11] (fun i wr => ∃ k : Nat, k ≤ sh.length ∧ i = .int .i64 k ∧ (∀ j (hj : j < sh.length), j < k → fitB q (x, y) sh[j] = false) ∧ Below w.heap.size w wr ∧ wr.cell? ⟨w.heap.size, 0, none⟩ = some (.int .i64 x) ∧ wr.cell? ⟨w.heap.size, 1, none⟩ = some (.int .i64 y) ∧ w.heap.size < wr.heap.size) (fun i _ => sh.length - (intOf i).toNat)
  case atStart => exact ⟨0, Nat.zero_le _, rfl, fun j _ h => by omega, hb0, by rw [hc0]; rfl, by rw [hc1]; rfl, by simp⟩
  case round =>
    obtain ⟨k, hk, rfl, hno, hb, h0, h1, hlt0⟩ := hrel
    have HN := Lib.hid hno
    clear hno hc0 hc1 hb0
    by_cases hlt : k < sh.length
    · obtain ⟨ad, rfl, hcl⟩ := hr.below hb k hlt
      obtain ⟨s, hse⟩ : ∃ s, sh[k] = s := ⟨_, rfl⟩
      have hsb := hs k hlt
      rw [hse] at hcl hsb
      obtain ⟨s0, s1, s2⟩ := s
      obtain ⟨hs0, hs1⟩ : 0 ≤ s2 ∧ s2 ≤ 4096 := hsb
      have c0 : wr.cell? (ad.add (k * 3)) = some (.int .i64 s0) := hcl 0 _ rfl
      have c1 : wr.cell? ⟨(ad.add (k * 3)).block, (ad.add (k * 3)).off + 1, none⟩ = some (.int .i64 s1) := hcl 1 _ rfl
      have c2 : wr.cell? ⟨(ad.add (k * 3)).block, (ad.add (k * 3)).off + 2, none⟩ = some (.int .i64 s2) := hcl 2 _ rfl
      clear hcl hr hs
      have hz := hb.size
      by_cases f1 : y ≤ s1
      · by_cases f2 : x ≤ q - s2
        · have hff := Lib.hid (ffit_step (w := q) (p := (x, y)) hlt HN.out (by rw [hse]; simp [fitB, f1, f2]))
          clear hse
          go_wp2
          go_ret
          rw [hff.out]
          exact ⟨rfl, hb.alloc hz _⟩
        · have hff := Lib.hid (show fitB q (x, y) sh[k] = false by rw [hse]; simp [fitB, f1, f2])
          clear hse
          go_wp2
          go_roundw
          case rel => exact ⟨k + 1, by omega, by go_num, fun j hj hjk => by
            rcases Nat.lt_or_ge j k with h | h
            · exact HN.out j hj h
            · obtain rfl : j = k := by omega
              exact hff.out, hb.alloc hz _, by go_simp, by go_simp, by simp; omega⟩
          case measure => (simp [intOf]; try omega)
      · have hff := Lib.hid (show fitB q (x, y) sh[k] = false by rw [hse]; simp [fitB, f1])
        clear hse
        go_wp2
        go_roundw
        case rel => exact ⟨k + 1, by omega, by go_num, fun j hj hjk => by
          rcases Nat.lt_or_ge j k with h | h
          · exact HN.out j hj h
          · obtain rfl : j = k := by omega
            exact hff.out, hb.alloc hz _, by go_simp, by go_simp, by simp; omega⟩
        case measure => (simp [intOf]; try omega)
    · obtain rfl : k = sh.length := by omega
      have hff := Lib.hid (ffit_none (w := q) (p := (x, y)) (fun j hj => HN.out j hj hj))
      go_wp2
      go_ret
      rw [hff.out]
      exact ⟨rfl, hb⟩
/-- The reference's answer: -1 if there is none. -/
def rfit (q : Int) (p : Int × Int) (sh : List (Int × Int × Int)) : Int := if ffit q p sh < sh.length then (ffit q p sh : Nat) else -1
set_option maxRecDepth 50000 in
set_option maxHeartbeats 2000000 in
theorem rff_any (a : Option Addr) (n c : Nat) (q x y : Int) (sh : List (Int × Int × Int)) (w : World) (hn : sh.length = n) (hnl : n ≤ 1000000) (hq0 : 0 ≤ q) (hq1 : q ≤ 4096)
    (hs : ∀ i (h : i < sh.length), 0 ≤ sh[i].2.2 ∧ sh[i].2.2 ≤ 4096) (hr : RS 3 shV w a sh) :
    Calls Try.prog 35 #[.slice a n c, .int .i64 q, .agg #[.int .i64 x, .int .i64 y]] w fun e w' => e = .returned (.int .i64 (rfit q (x, y) sh)) ∧ Below w.heap.size w w' := by
  subst hn
  have hb0 := Below.alloc (Below.refl w.heap.size w) (Nat.le_refl _) (.cells #[.int .i64 x, .int .i64 y] 44)
  have hc0 := row_cell (heap_alloc_new w (.cells #[.int .i64 x, .int .i64 y] 44)) 0
  have hc1 := row_cell (heap_alloc_new w (.cells #[.int .i64 x, .int .i64 y] 44)) 1
  go_enter Try.func35, Try.ntmps35
  go_wp2
  go_loopw [7] (fun i wr => ∃ k : Nat, k ≤ sh.length ∧ i = .int .i64 k ∧ (∀ j (hj : j < sh.length), j < k → fitB q (x, y) sh[j] = false) ∧ Below w.heap.size w wr ∧ wr.cell? ⟨w.heap.size, 0, none⟩ = some (.int .i64 x) ∧ wr.cell? ⟨w.heap.size, 1, none⟩ = some (.int .i64 y) ∧ w.heap.size < wr.heap.size) (fun i _ => sh.length - (intOf i).toNat)
  case atStart => exact ⟨0, Nat.zero_le _, rfl, fun j _ h => by omega, hb0, by rw [hc0]; rfl, by rw [hc1]; rfl, by simp⟩
  case round =>
    obtain ⟨k, hk, rfl, hno, hb, h0, h1, hlt0⟩ := hrel
    have HN := Lib.hid hno
    clear hno hc0 hc1 hb0
    by_cases hlt : k < sh.length
    · obtain ⟨ad, rfl, hcl⟩ := hr.below hb k hlt
      obtain ⟨s, hse⟩ : ∃ s, sh[k] = s := ⟨_, rfl⟩
      have hsb := hs k hlt
      rw [hse] at hcl hsb
      obtain ⟨s0, s1, s2⟩ := s
      obtain ⟨hs0, hs1⟩ : 0 ≤ s2 ∧ s2 ≤ 4096 := hsb
      have c0 : wr.cell? (ad.add (k * 3)) = some (.int .i64 s0) := hcl 0 _ rfl
      have c1 : wr.cell? ⟨(ad.add (k * 3)).block, (ad.add (k * 3)).off + 1, none⟩ = some (.int .i64 s1) := hcl 1 _ rfl
      have c2 : wr.cell? ⟨(ad.add (k * 3)).block, (ad.add (k * 3)).off + 2, none⟩ = some (.int .i64 s2) := hcl 2 _ rfl
      clear hcl hr hs
      have hz := hb.size
      have d0 : decide (k < sh.length) = true := by simpa using hlt
      have w0 : IntKind.i64.wrap (q - s2) = q - s2 := IntWalk.i64_in _ (by omega)
      by_cases f1 : y ≤ s1
      · have g1 : decide (y ≤ s1) = true := by simpa using f1
        by_cases f2 : x ≤ q - s2
        · have g2 : decide (x ≤ q - s2) = true := by simpa using f2
          have hff := Lib.hid (ffit_step (w := q) (p := (x, y)) hlt HN.out (by rw [hse]; simp [fitB, f1, f2]))
          clear hse
          go_wp2
          go_quiet (fail)
          go_wp2
          go_ret
          rw [rfit, hff.out, if_pos hlt]
          exact ⟨rfl, below_drewN hb _⟩
        · have g2 : decide (x ≤ q - s2) = false := by simpa using f2
          have hff := Lib.hid (show fitB q (x, y) sh[k] = false by rw [hse]; simp [fitB, f1, f2])
          clear hse
          go_wp2
          go_quiet (fail)
          go_wp2
          go_roundw
          case rel => exact ⟨k + 1, by omega, by go_num, fun j hj hjk => by
            rcases Nat.lt_or_ge j k with h | h
            · exact HN.out j hj h
            · obtain rfl : j = k := by omega
              exact hff.out, below_drewN hb _, h0, h1, hlt0⟩
          case measure => (simp [intOf]; try omega)
      · have g1 : decide (y ≤ s1) = false := by simpa using f1
        have hff := Lib.hid (show fitB q (x, y) sh[k] = false by rw [hse]; simp [fitB, f1])
        clear hse
        go_wp2
        go_quiet (fail)
        go_wp2
        go_roundw
        case rel => exact ⟨k + 1, by omega, by go_num, fun j hj hjk => by
          rcases Nat.lt_or_ge j k with h | h
          · exact HN.out j hj h
          · obtain rfl : j = k := by omega
            exact hff.out, below_drewN hb _, h0, h1, hlt0⟩
        case measure => (simp [intOf]; try omega)
    · obtain rfl : k = sh.length := by omega
      have hff := Lib.hid (ffit_none (w := q) (p := (x, y)) (fun j hj => HN.out j hj hj))
      go_wp2
      go_ret
      rw [rfit, hff.out, if_neg (Nat.lt_irrefl _)]
      exact ⟨rfl, hb⟩
end Go.Proofs.Ytciaidlkhlgflaa
