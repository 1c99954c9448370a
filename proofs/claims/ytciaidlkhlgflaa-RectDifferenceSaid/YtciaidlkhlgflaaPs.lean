import Derived.Test.YtciaidlkhlgflaaPc
import Derived.Test.YtciaidlkhlgflaaRex
namespace Go.Proofs.Ytciaidlkhlgflaa
open Go.RowKit
set_option linter.unusedVariables false
set_option linter.unusedSimpArgs false
theorem neq4 {a b c d x y z u : Int} (h : ¬ ((a, b, c, d) : Int × Int × Int × Int) = (x, y, z, u)) : (a == x) = false ∨ (a = x ∧ (b == y) = false) ∨ (a = x ∧ b = y ∧ (c == z) = false) ∨ (a = x ∧ b = y ∧ c = z ∧ (d == u) = false) := by
  simp only [Prod.mk.injEq] at h
  simp only [beq_eq_false_iff_ne]
  omega
set_option maxRecDepth 50000 in
set_option maxHeartbeats 2000000 in
theorem sameR_any (a b : Option Addr) (n m c d : Nat) (l k : List (Int × Int × Int × Int)) (w : World) (hn : l.length = n) (hm : k.length = m) (hnl : n ≤ 1000000000) (hml : m ≤ 1000000000) (ha : RS 4 rcV w a l) (hb : RS 4 rcV w b k) :
    Calls Try.prog 10 #[.slice a n c, .slice b m d] w fun e w' => e = .returned (.bool (decide (l = k))) ∧ ∃ nd, w' = w.drewN nd := by
  subst hn hm
  by_cases hlen : l.length = k.length
  case neg =>
    have h1 : ((l.length : Int) != (k.length : Int)) = true := by simp; omega
    have hne := Lib.hid (show decide (l = k) = false by simp; rintro rfl; exact hlen rfl)
    have hlen2 : ¬ (l.length : Int) = (k.length : Int) := by omega
    go_enter Try.func10, Try.ntmps10
    go_wp2
    go_ret
    rw [hne.out]
    exact ⟨rfl, 0, rfl⟩
  obtain ⟨n, hn⟩ : ∃ n, k.length = n := ⟨_, rfl⟩
  have hk9 := Lib.hid hn
  have hl9 := Lib.hid (hlen.trans hn)
  rw [hlen, hn]
  rw [hn] at hml
  clear hlen hnl hn
  go_enter Try.func10, Try.ntmps10
  go_wp2
  go_loopw [5] (fun i wr => ∃ j : Nat, j ≤ n ∧ i = .int .i64 j ∧ (∀ i (h1 : i < l.length) (h2 : i < k.length), i < j → l[i] = k[i]) ∧ ∃ nd, wr = w.drewN nd) (fun i _ => n - (intOf i).toNat)
  case atStart => exact ⟨0, Nat.zero_le _, rfl, fun i _ _ h => by omega, 0, rfl⟩
  case round =>
    obtain ⟨j, hj, rfl, hall, nd, rfl⟩ := hrel
    have HA := Lib.hid hall
    clear hall
    by_cases hlt : j < n
    · have hj1 : j < l.length := by rw [hl9.out]; exact hlt
      have hj2 : j < k.length := by rw [hk9.out]; exact hlt
      obtain ⟨ad, rfl, hc1⟩ := ha j hj1
      obtain ⟨bd, rfl, hc2⟩ := hb j hj2
      obtain ⟨p, hp⟩ : ∃ p, l[j] = p := ⟨_, rfl⟩
      obtain ⟨q, hq⟩ : ∃ q, k[j] = q := ⟨_, rfl⟩
      rw [hp] at hc1
      rw [hq] at hc2
      obtain ⟨p0, p1, p2, p3⟩ := p
      obtain ⟨q0, q1, q2, q3⟩ := q
      have x0 : w.cell? (ad.add (j * 4)) = some (.int .i64 p0) := hc1 0 _ rfl
      have x1 : w.cell? ⟨(ad.add (j * 4)).block, (ad.add (j * 4)).off + 1, none⟩ = some (.int .i64 p1) := hc1 1 _ rfl
      have x2 : w.cell? ⟨(ad.add (j * 4)).block, (ad.add (j * 4)).off + 2, none⟩ = some (.int .i64 p2) := hc1 2 _ rfl
      have x3 : w.cell? ⟨(ad.add (j * 4)).block, (ad.add (j * 4)).off + 3, none⟩ = some (.int .i64 p3) := hc1 3 _ rfl
      have y0 : w.cell? (bd.add (j * 4)) = some (.int .i64 q0) := hc2 0 _ rfl
      have y1 : w.cell? ⟨(bd.add (j * 4)).block, (bd.add (j * 4)).off + 1, none⟩ = some (.int .i64 q1) := hc2 1 _ rfl
      have y2 : w.cell? ⟨(bd.add (j * 4)).block, (bd.add (j * 4)).off + 2, none⟩ = some (.int .i64 q2) := hc2 2 _ rfl
      have y3 : w.cell? ⟨(bd.add (j * 4)).block, (bd.add (j * 4)).off + 3, none⟩ = some (.int .i64 q3) := hc2 3 _ rfl
      have hd0 : decide (j < n) = true := by simpa using hlt
      by_cases he : ((p0, p1, p2, p3) : Int × Int × Int × Int) = (q0, q1, q2, q3)
      · have HE := Lib.hid (show l[j] = k[j] by rw [hp, hq, he])
        simp only [Prod.mk.injEq] at he
        obtain ⟨rfl, rfl, rfl, rfl⟩ := he
        clear hc1 hc2 hp hq
        go_wp2
        go_quiet (fail)
        go_wp2
        go_roundw
        case rel => exact ⟨j + 1, by omega, by go_num, fun i h1 h2 h3 => by
          rcases Nat.lt_or_ge i j with h | h
          · exact HA.out i h1 h2 h
          · obtain rfl : i = j := by omega
            exact HE.out, _, rfl⟩
        case measure => (simp [intOf]; try omega)
      · have HE := Lib.hid (show decide (l = k) = false by
          simp only [decide_eq_false_iff_not]
          rintro rfl
          exact he (by rw [← hp, ← hq]))
        have hne := neq4 he
        clear hc1 hc2 hp hq he
        rcases hne with h9 | ⟨rfl, h9⟩ | ⟨rfl, rfl, h9⟩ | ⟨rfl, rfl, rfl, h9⟩
        all_goals
          go_wp2
          go_quiet (fail)
          go_wp2
          go_ret
          rw [HE.out]
          exact ⟨rfl, _, World.drewN_drewN _ _ _⟩
    · obtain rfl : j = n := by omega
      have HE := Lib.hid (show decide (l = k) = true by
        simp only [decide_eq_true_eq]
        exact List.ext_getElem (by rw [hl9.out, hk9.out]) fun i h1 h2 => HA.out i h1 h2 (by rw [← hl9.out]; exact h1))
      have hd0 : decide (j < j) = false := by simp
      go_wp2
      go_ret
      rw [HE.out]
      exact ⟨rfl, nd, rfl⟩
end Go.Proofs.Ytciaidlkhlgflaa
