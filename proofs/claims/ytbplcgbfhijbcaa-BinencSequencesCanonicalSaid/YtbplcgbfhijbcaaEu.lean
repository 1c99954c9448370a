import Derived.Test.YtbplcgbfhijbcaaEt
namespace Go.Proofs.Ytbplcgbfhijbcaa
open Go.RowKit
set_option linter.unusedVariables false
set_option linter.unusedSimpArgs false
theorem rr_any (a : Option Addr) (n c : Nat) (at' most : Int) (l : List (BitVec 8)) (w : World) (hn : l.length = n) (hl : n ≤ 1000000) (hm : most ≤ 5000) (hr : Rd w a l) :
    Calls Try.prog 42 #[.slice a n c, .int .i64 at', .int .i64 most] w (RsA w (runsM l at' most)) := by
  unfold runsM
  by_cases h : at' < 0 ∨ (l.length : Int) < at'
  · rw [if_pos h]
    exact (rr_out a n c at' most w (by omega) (by omega)).mono fun e w' ⟨h1, h2⟩ => by subst h1; exact RsA.bad rfl (by decide) h2
  · rw [if_neg h]
    obtain ⟨k, rfl⟩ := Int.eq_ofNat_of_zero_le (show 0 ≤ at' by omega)
    rw [show ((k : Int)).toNat = k from rfl]
    by_cases hu : uvE (l.drop k) = 0
    · rw [if_neg (by omega)]
      by_cases hneg : most < 0
      · rw [if_pos hneg]
        exact (rr_neg a n c k most l w hn (by omega) hr (by omega) hu hneg).mono fun e w' ⟨h1, h2⟩ => by subst h1; exact RsA.bad rfl (by decide) h2
      · rw [if_neg hneg]
        obtain ⟨M, rfl⟩ := Int.eq_ofNat_of_zero_le (show 0 ≤ most by omega)
        exact rr_dec a n c k M _ l w hn hl rfl (by omega) hr (by omega) hu
    · rw [if_pos hu]
      exact (rr_bad a n c k most l w hn (by omega) hr (by omega) hu).mono fun e w' ⟨h1, h2⟩ => by subst h1; exact RsA.bad rfl hu h2
theorem grown_row {w w' : World} {g b : Nat} {o : Obj} (hg : w.grownBy w' (some g)) (h : w.heap[b]? = some o) (hne : b ≠ g) : w'.heap[b]? = some o := by
  rw [hg.block b (row_lt h) (fun e => hne (Option.some.inj e))]; exact h
theorem next_any (g : Nat) (l : List (BitVec 8)) (p e : Nat) (w : World) (hp : p + l.length ≤ 4611686018427387904) (hd : Ds w g l p e) :
    Calls Try.prog 49 #[.pointer (some ⟨g, 0, none⟩)] w fun e' w' => ∃ (x : Nat) (ok : Bool) (l' : List (BitVec 8)) (p' : Nat), e' = .returned (.tuple #[.int .u8 x, .bool ok]) ∧ p' + l'.length = p + l.length ∧ Ds w' g l' p' e ∧ w.grownBy w' (some g) := by
  rcases l with _ | ⟨d, t⟩
  · exact (next_nil g p e w hd).mono fun e' w' ⟨h1, h2⟩ => by subst h2; exact ⟨0, false, [], p, h1, rfl, hd, grown_refl _ _⟩
  · simp only [List.length_cons] at hp
    exact (next_cons g d t p e w (by omega) hd).mono fun e' w' ⟨h1, h2, h3⟩ => ⟨d.toNat, true, t, p + 1, h1, by simp only [List.length_cons]; omega, h2, h3⟩
theorem run_cells {w : World} {h : Nat} {u v : Value} {t : TypeId} (hrow : w.heap[h]? = some (.cells #[u, v] t (0, 0))) : w.cell? ⟨h, 0, none⟩ = some u ∧ w.cell? ⟨h, 1, none⟩ = some v ∧ w.frozen? ⟨h, 0, none⟩ = false ∧ w.frozen? ⟨h, 1, none⟩ = false :=
  ⟨row_cell hrow 0, row_cell hrow 1, row_open hrow 0, row_open hrow 1⟩
theorem Ds.set {w : World} {g h i p e : Nat} {l : List (BitVec 8)} {v : Value} (hd : Ds w g l p e) (hgh : g < h) : Ds (w.setCell ⟨h, i, none⟩ v) g l p e := by
  obtain ⟨a, c, hc, hr, hne, hrow⟩ := hd
  refine ⟨a, c, hc, hr.grown0 (grown_set w h i v) (fun h0 ad e1 e2 => ?_), hne, ?_⟩
  · have := hne h0 ad e1
    have := Option.some.inj e2
    omega
  · rw [heap_setCell_other w ⟨h, i, none⟩ g v (by intro e; simp at e; omega)]; exact hrow
theorem grown_late {w w4 : World} {r : Option Nat} {h i : Nat} {v : Value} (hg : w.grownBy w4 r) (hh : w.heap.size ≤ h) : w.grownBy (w4.setCell ⟨h, i, none⟩ v) r := by
  refine ⟨hg.os, hg.tape, hg.output, by rw [show (w4.setCell ⟨h, i, none⟩ v).heap.size = w4.heap.size by simp]; exact hg.size, fun k hk hn => ?_⟩
  rw [heap_setCell_other w4 ⟨h, i, none⟩ k v (by intro e; simp at e; omega)]
  exact hg.block k hk hn
theorem run_bad (g : Nat) (l : List (BitVec 8)) (p : Nat) (most : Int) (a : Option Addr) (n c : Nat) (w : World) (hp : p + l.length ≤ 4611686018427387904) (hd : Ds w g l p 0) (hu : uvE l ≠ 0) :
    Calls Try.prog 68 #[.pointer (some ⟨g, 0, none⟩), .slice a n c, .int .i64 most] w fun e' w' => e' = .returned (.agg #[.int .i64 0, .int .u8 0]) ∧ (∃ l' p', Ds w' g l' p' (uvE l)) ∧ w.grownBy w' (some g) := by
  have hgl := hd.lt
  have hcon := fun w hd => uvar_bad g l p w hp hd hu
  obtain ⟨E, hE⟩ : ∃ E, uvE l = E := ⟨_, rfl⟩
  rw [hE] at hu ⊢
  simp only [hE] at hcon
  have q1 : ((E : Int) == 0) = false := by simp; exact hu
  have q2 : ((E : Int) != 0) = true := by simp; exact hu
  have HC := Lib.hid hcon
  have HU := Lib.hid hu
  clear hcon hE hu
  have hrow0 := heap_alloc_new w (.cells #[.int .i64 0, .int .u8 0] 93)
  have hne : w.heap.size ≠ g := by omega
  have hd0 := hd.below (Below.alloc (Below.refl _ _) (Nat.le_refl _) (.cells #[.int .i64 0, .int .u8 0] 93))
  go_enter Try.func68, Try.ntmps68
  go_wp2_with (first
    | (go_at_call 46; go_loud ((with_reducible refine (HC.out _ hd0).mono ?_); rintro e1 w2 ⟨rfl, ⟨l', p', hlp, hd2⟩, hg2⟩; have hp2 : p' + l'.length ≤ 4611686018427387904 := (by omega); have hrow2 := grown_row hg2 hrow0 hne))
    | (go_at_call 49; go_loud ((with_reducible refine (next_any _ _ _ _ _ hp2 hd2).mono ?_); rintro e1 w3 ⟨x, ok, l3, p3, rfl, hlp3, hd3, hg3⟩; have hrow3 := grown_row hg3 hrow2 hne))
    | (go_at_call 50; go_loud (first | ((with_reducible refine (fail_any _ _ _ _ 4 _ _ lit4 hd3).mono ?_); rw [if_neg HU.out]; rintro e1 w4 ⟨rfl, hd4, hg4⟩; obtain ⟨k4a, k4b⟩ := hd4.cells; obtain ⟨r1, r2, r3, r4⟩ := run_cells (grown_row hg4 hrow3 hne)) | ((with_reducible refine (fail_any _ _ _ _ 3 _ _ lit3 hd3).mono ?_); rw [if_neg HU.out]; rintro e1 w4 ⟨rfl, hd4, hg4⟩; obtain ⟨k4a, k4b⟩ := hd4.cells; obtain ⟨r1, r2, r3, r4⟩ := run_cells (grown_row hg4 hrow3 hne)))))
  all_goals refine bodyPost_ret (v := .agg #[.int .i64 0, .int .u8 0]) (by simp [results, Try.results68, go_sem, *]) rfl ?_
  all_goals exact ⟨rfl, ⟨l3, p3, (hd4.set hgl).set hgl⟩, grown_late (grown_late (grown_trans (World.grownBy_alloc w _ _) (grown_trans hg2 (grown_trans hg3 hg4))) (Nat.le_refl _)) (Nat.le_refl _)⟩
theorem drop_head (l : List (BitVec 8)) (N : Nat) (h : N < l.length) : ∃ D T, l.drop N = D :: T ∧ D.toNat = byA l N := ⟨l[N], l.drop (N + 1), List.drop_eq_getElem_cons h, (byA_in l N h).symm⟩
theorem run_cut (g : Nat) (l : List (BitVec 8)) (p : Nat) (most : Int) (a : Option Addr) (n c : Nat) (w : World) (hp : p + l.length ≤ 4611686018427387904) (hd : Ds w g l p 0) (hu : uvE l = 0) (hN : l.length ≤ uvN l) :
    Calls Try.prog 68 #[.pointer (some ⟨g, 0, none⟩), .slice a n c, .int .i64 most] w fun e' w' => e' = .returned (.agg #[.int .i64 0, .int .u8 0]) ∧ (∃ l' p', Ds w' g l' p' 4) ∧ w.grownBy w' (some g) := by
  have hgl := hd.lt
  have hcon := fun w hd => uvar_ok g l p w hp hd hu
  have hNl := uvE_len l hu
  have hnil : l.drop (uvN l) = [] := List.drop_eq_nil_iff.2 hN
  simp only [hnil] at hcon
  obtain ⟨V, hV⟩ : ∃ V, uvV l = V := ⟨_, rfl⟩
  simp only [hV] at hcon
  have HC := Lib.hid hcon
  clear hcon
  have hrow0 := heap_alloc_new w (.cells #[.int .i64 0, .int .u8 0] 93)
  have hne : w.heap.size ≠ g := by omega
  have hd0 := hd.below (Below.alloc (Below.refl _ _) (Nat.le_refl _) (.cells #[.int .i64 0, .int .u8 0] 93))
  go_enter Try.func68, Try.ntmps68
  go_wp2_with (first
    | (go_at_call 46; go_loud ((with_reducible refine (HC.out _ hd0).mono ?_); rintro e1 w2 ⟨rfl, hd2, hg2⟩; have hrow2 := grown_row hg2 hrow0 hne))
    | (go_at_call 49; go_loud ((with_reducible refine (next_nil _ _ _ _ hd2).mono ?_); rintro e1 w3 ⟨rfl, rfl⟩; have hg3 := grown_refl w2 (some g); have hrow3 := hrow2))
    | (go_at_call 50; go_loud ((with_reducible refine (fail_any _ _ _ _ 4 _ _ lit4 hd2).mono ?_); rw [if_pos rfl]; rintro e1 w4 ⟨rfl, hd4, hg4⟩; obtain ⟨k4a, k4b⟩ := hd4.cells; obtain ⟨r1, r2, r3, r4⟩ := run_cells (grown_row hg4 hrow3 hne))))
  all_goals refine bodyPost_ret (v := .agg #[.int .i64 0, .int .u8 0]) (by simp [results, Try.results68, go_sem, *]) rfl ?_
  all_goals exact ⟨rfl, ⟨_, _, (hd4.set hgl).set hgl⟩, grown_late (grown_late (grown_trans (World.grownBy_alloc w _ _) (grown_trans hg2 (grown_trans hg3 hg4))) (Nat.le_refl _)) (Nat.le_refl _)⟩
end Go.Proofs.Ytbplcgbfhijbcaa
