import Derived.Test.YtbplcgbfhijbcaaEu
namespace Go.Proofs.Ytbplcgbfhijbcaa
open Go.RowKit
set_option linter.unusedVariables false
set_option linter.unusedSimpArgs false
theorem run_syn0 (g : Nat) (l : List (BitVec 8)) (p : Nat) (M : Nat) (w : World) (a : Option Addr) (n c : Nat) (hp : p + l.length ≤ 4611686018427387904) (hM : M ≤ 5000) (hd : Ds w g l p 0) (hu : uvE l = 0) (hN : uvN l < l.length) (h0 : uvV l = 0) :
    Calls Try.prog 68 #[.pointer (some ⟨g, 0, none⟩), .slice a n c, .int .i64 M] w fun e' w' => e' = .returned (.agg #[.int .i64 0, .int .u8 0]) ∧ (∃ l' p', Ds w' g l' p' 3) ∧ w.grownBy w' (some g) := by
  have hgl := hd.lt
  have hcon := fun w hd => uvar_ok g l p w hp hd hu
  have hNl := uvE_len l hu
  obtain ⟨V, hV⟩ : ∃ V, uvV l = V := ⟨_, rfl⟩
  have hVl := uvV_lt l hu
  obtain ⟨D, T, hDT, hD⟩ := drop_head l (uvN l) hN
  obtain ⟨PP, hPP⟩ : ∃ PP, p + uvN l = PP := ⟨_, rfl⟩
  have hT : T = l.drop (uvN l + 1) := by
    have := congrArg List.tail hDT
    simpa using this.symm
  have hTl : PP + T.length + 1 ≤ 4611686018427387904 := by rw [hT, List.length_drop]; omega
  have hp2 := Lib.hid hTl
  simp only [hV, hDT, hPP] at hcon
  obtain ⟨y, hy⟩ : ∃ y, D.toNat = y := ⟨_, rfl⟩
  have hyB : byA l (uvN l) = y := by rw [← hD, hy]
  obtain rfl : V = 0 := by rw [← hV, h0]
  have HYB := Lib.hid hyB
  have HY := Lib.hid hy
  have HT := Lib.hid hT
  have HP := Lib.hid hPP
  have HVV := Lib.hid hV
  have HC := Lib.hid hcon
  have hNC := fun w hd => next_cons g D T PP 0 w hp2.out hd
  simp only [hy] at hNC
  have HN := Lib.hid hNC
  have hM9 : IntKind.u64.wrap (M : Int) = (M : Int) := IntWalk.u64_in _ (by omega)
  clear hcon hDT hPP hT hTl hy hyB hV hD hNl hNC h0
  have hrow0 := heap_alloc_new w (.cells #[.int .i64 0, .int .u8 0] 93)
  have hne : w.heap.size ≠ g := by omega
  have hd0 := hd.below (Below.alloc (Below.refl _ _) (Nat.le_refl _) (.cells #[.int .i64 0, .int .u8 0] 93))
  go_enter Try.func68, Try.ntmps68
  go_wp2_with (first
    | (go_at_call 46; go_loud ((with_reducible refine (HC.out _ hd0).mono ?_); rintro e1 w2 ⟨rfl, hd2, hg2⟩; have hrow2 := grown_row hg2 hrow0 hne))
    | (go_at_call 49; go_loud ((with_reducible refine (HN.out _ hd2).mono ?_); rintro e1 w3 ⟨rfl, hd3, hg3⟩; have hrow3 := grown_row hg3 hrow2 hne))
    | (go_at_call 50; go_loud ((with_reducible refine (fail_any _ _ _ _ 3 _ _ lit3 hd3).mono ?_); rw [if_pos rfl]; rintro e1 w4 ⟨rfl, hd4, hg4⟩; obtain ⟨k4a, k4b⟩ := hd4.cells; obtain ⟨r1, r2, r3, r4⟩ := run_cells (grown_row hg4 hrow3 hne))))
  all_goals refine bodyPost_ret (v := .agg #[.int .i64 0, .int .u8 0]) (by simp [results, Try.results68, go_sem, *]) rfl ?_
  all_goals exact ⟨rfl, ⟨_, _, (hd4.set hgl).set hgl⟩, grown_late (grown_late (grown_trans (World.grownBy_alloc w _ _) (grown_trans hg2 (grown_trans hg3 hg4))) (Nat.le_refl _)) (Nat.le_refl _)⟩
theorem run_syn1 (g : Nat) (l : List (BitVec 8)) (p : Nat) (M : Nat) (w : World) (ad : Addr) (m c z : Nat) (hadg : ad.block ≠ g) (hm : m ≤ 1000000) (hlast : w.cell? ⟨(ad.add (m * 2)).block, (ad.add (m * 2)).off + 1, none⟩ = some (.int .u8 z)) (hp : p + l.length ≤ 4611686018427387904) (hM : M ≤ 5000) (hd : Ds w g l p 0) (hu : uvE l = 0) (hN : uvN l < l.length) (h0 : uvV l ≠ 0) (hs : byA l (uvN l) = z) :
    Calls Try.prog 68 #[.pointer (some ⟨g, 0, none⟩), .slice (some ad) (m + 1) c, .int .i64 M] w fun e' w' => e' = .returned (.agg #[.int .i64 0, .int .u8 0]) ∧ (∃ l' p', Ds w' g l' p' 3) ∧ w.grownBy w' (some g) := by
  have hgl := hd.lt
  have hcon := fun w hd => uvar_ok g l p w hp hd hu
  have hNl := uvE_len l hu
  obtain ⟨V, hV⟩ : ∃ V, uvV l = V := ⟨_, rfl⟩
  have hVl := uvV_lt l hu
  obtain ⟨D, T, hDT, hD⟩ := drop_head l (uvN l) hN
  obtain ⟨PP, hPP⟩ : ∃ PP, p + uvN l = PP := ⟨_, rfl⟩
  have hT : T = l.drop (uvN l + 1) := by
    have := congrArg List.tail hDT
    simpa using this.symm
  have hTl : PP + T.length + 1 ≤ 4611686018427387904 := by rw [hT, List.length_drop]; omega
  have hp2 := Lib.hid hTl
  simp only [hV, hDT, hPP] at hcon
  obtain ⟨y, hy⟩ : ∃ y, D.toNat = y := ⟨_, rfl⟩
  have hyB : byA l (uvN l) = y := by rw [← hD, hy]
  rw [hV] at h0 hVl
  obtain rfl : y = z := by rw [← hyB, hs]
  have HYB := Lib.hid hyB
  have HY := Lib.hid hy
  have HT := Lib.hid hT
  have HP := Lib.hid hPP
  have HVV := Lib.hid hV
  have HC := Lib.hid hcon
  have hNC := fun w hd => next_cons g D T PP 0 w hp2.out hd
  simp only [hy] at hNC
  have HN := Lib.hid hNC
  have g1 : ((V : Int) == 0) = false := by simp; exact h0
  have hM9 : IntKind.u64.wrap (M : Int) = (M : Int) := IntWalk.u64_in _ (by omega)
  clear hcon hDT hPP hT hTl hy hyB hV hD hNl hNC hs
  have hrow0 := heap_alloc_new w (.cells #[.int .i64 0, .int .u8 0] 93)
  have hne : w.heap.size ≠ g := by omega
  have hd0 := hd.below (Below.alloc (Below.refl _ _) (Nat.le_refl _) (.cells #[.int .i64 0, .int .u8 0] 93))
  go_enter Try.func68, Try.ntmps68
  go_wp2_with (first
    | (go_at_call 46; go_loud ((with_reducible refine (HC.out _ hd0).mono ?_); rintro e1 w2 ⟨rfl, hd2, hg2⟩; have hrow2 := grown_row hg2 hrow0 hne))
    | (go_at_call 49; go_loud ((with_reducible refine (HN.out _ hd2).mono ?_); rintro e1 w3 ⟨rfl, hd3, hg3⟩; have hrow3 := grown_row hg3 hrow2 hne; have hlast3 := (hg3.cell (hg2.cell (((World.grownBy_alloc w _ none).cell hlast (by simp))) (by show some (ad.add (m * 2)).block ≠ _; rw [block_add]; exact fun e => hadg (Option.some.inj e))) (by show some (ad.add (m * 2)).block ≠ _; rw [block_add]; exact fun e => hadg (Option.some.inj e)))))
    | (go_at_call 50; go_loud ((with_reducible refine (fail_any _ _ _ _ 3 _ _ lit3 hd3).mono ?_); rw [if_pos rfl]; rintro e1 w4 ⟨rfl, hd4, hg4⟩; obtain ⟨k4a, k4b⟩ := hd4.cells; obtain ⟨r1, r2, r3, r4⟩ := run_cells (grown_row hg4 hrow3 hne))))
  all_goals refine bodyPost_ret (v := .agg #[.int .i64 0, .int .u8 0]) (by simp [results, Try.results68, go_sem, *]) rfl ?_
  all_goals exact ⟨rfl, ⟨_, _, (hd4.set hgl).set hgl⟩, grown_late (grown_late (grown_trans (World.grownBy_alloc w _ _) (grown_trans hg2 (grown_trans hg3 hg4))) (Nat.le_refl _)) (Nat.le_refl _)⟩
theorem run_lim0 (g : Nat) (l : List (BitVec 8)) (p : Nat) (M : Nat) (w : World) (a : Option Addr) (c : Nat) (hp : p + l.length ≤ 4611686018427387904) (hM : M ≤ 5000) (hd : Ds w g l p 0) (hu : uvE l = 0) (hN : uvN l < l.length) (h0 : uvV l ≠ 0) (hlim : M < uvV l) :
    Calls Try.prog 68 #[.pointer (some ⟨g, 0, none⟩), .slice a 0 c, .int .i64 M] w fun e' w' => e' = .returned (.agg #[.int .i64 0, .int .u8 0]) ∧ (∃ l' p', Ds w' g l' p' 5) ∧ w.grownBy w' (some g) := by
  have hgl := hd.lt
  have hcon := fun w hd => uvar_ok g l p w hp hd hu
  have hNl := uvE_len l hu
  obtain ⟨V, hV⟩ : ∃ V, uvV l = V := ⟨_, rfl⟩
  have hVl := uvV_lt l hu
  obtain ⟨D, T, hDT, hD⟩ := drop_head l (uvN l) hN
  obtain ⟨PP, hPP⟩ : ∃ PP, p + uvN l = PP := ⟨_, rfl⟩
  have hT : T = l.drop (uvN l + 1) := by
    have := congrArg List.tail hDT
    simpa using this.symm
  have hTl : PP + T.length + 1 ≤ 4611686018427387904 := by rw [hT, List.length_drop]; omega
  have hp2 := Lib.hid hTl
  simp only [hV, hDT, hPP] at hcon
  obtain ⟨y, hy⟩ : ∃ y, D.toNat = y := ⟨_, rfl⟩
  have hyB : byA l (uvN l) = y := by rw [← hD, hy]
  rw [hV] at h0 hVl hlim
  have HYB := Lib.hid hyB
  have HY := Lib.hid hy
  have HT := Lib.hid hT
  have HP := Lib.hid hPP
  have HVV := Lib.hid hV
  have HC := Lib.hid hcon
  have hNC := fun w hd => next_cons g D T PP 0 w hp2.out hd
  simp only [hy] at hNC
  have HN := Lib.hid hNC
  have g1 : ((V : Int) == 0) = false := by simp; exact h0
  have g4 : decide ((M : Int) < (V : Int)) = true := by simp; omega
  have g5 : M < V := by omega
  have hM9 : IntKind.u64.wrap (M : Int) = (M : Int) := IntWalk.u64_in _ (by omega)
  clear hcon hDT hPP hT hTl hy hyB hV hD hNl hNC hlim
  have hrow0 := heap_alloc_new w (.cells #[.int .i64 0, .int .u8 0] 93)
  have hne : w.heap.size ≠ g := by omega
  have hd0 := hd.below (Below.alloc (Below.refl _ _) (Nat.le_refl _) (.cells #[.int .i64 0, .int .u8 0] 93))
  go_enter Try.func68, Try.ntmps68
  go_wp2_with (first
    | (go_at_call 46; go_loud ((with_reducible refine (HC.out _ hd0).mono ?_); rintro e1 w2 ⟨rfl, hd2, hg2⟩; have hrow2 := grown_row hg2 hrow0 hne))
    | (go_at_call 49; go_loud ((with_reducible refine (HN.out _ hd2).mono ?_); rintro e1 w3 ⟨rfl, hd3, hg3⟩; have hrow3 := grown_row hg3 hrow2 hne))
    | (go_at_call 50; go_loud ((with_reducible refine (fail_any _ _ _ _ 5 _ _ lit5 hd3).mono ?_); rw [if_pos rfl]; rintro e1 w4 ⟨rfl, hd4, hg4⟩; obtain ⟨k4a, k4b⟩ := hd4.cells; obtain ⟨r1, r2, r3, r4⟩ := run_cells (grown_row hg4 hrow3 hne))))
  all_goals refine bodyPost_ret (v := .agg #[.int .i64 0, .int .u8 0]) (by simp [results, Try.results68, go_sem, *]) rfl ?_
  all_goals exact ⟨rfl, ⟨_, _, (hd4.set hgl).set hgl⟩, grown_late (grown_late (grown_trans (World.grownBy_alloc w _ _) (grown_trans hg2 (grown_trans hg3 hg4))) (Nat.le_refl _)) (Nat.le_refl _)⟩
theorem run_ok0 (g : Nat) (l : List (BitVec 8)) (p : Nat) (M : Nat) (w : World) (a : Option Addr) (c : Nat) (hp : p + l.length ≤ 4611686018427387904) (hM : M ≤ 5000) (hd : Ds w g l p 0) (hu : uvE l = 0) (hN : uvN l < l.length) (h0 : uvV l ≠ 0) (hlim : uvV l ≤ M) :
    Calls Try.prog 68 #[.pointer (some ⟨g, 0, none⟩), .slice a 0 c, .int .i64 M] w fun e' w' => e' = .returned (.agg #[.int .i64 (uvV l), .int .u8 (byA l (uvN l))]) ∧ Ds w' g (l.drop (uvN l + 1)) (p + uvN l + 1) 0 ∧ w.grownBy w' (some g) := by
  have hgl := hd.lt
  have hcon := fun w hd => uvar_ok g l p w hp hd hu
  have hNl := uvE_len l hu
  obtain ⟨V, hV⟩ : ∃ V, uvV l = V := ⟨_, rfl⟩
  have hVl := uvV_lt l hu
  obtain ⟨D, T, hDT, hD⟩ := drop_head l (uvN l) hN
  obtain ⟨PP, hPP⟩ : ∃ PP, p + uvN l = PP := ⟨_, rfl⟩
  have hT : T = l.drop (uvN l + 1) := by
    have := congrArg List.tail hDT
    simpa using this.symm
  have hTl : PP + T.length + 1 ≤ 4611686018427387904 := by rw [hT, List.length_drop]; omega
  have hp2 := Lib.hid hTl
  simp only [hV, hDT, hPP] at hcon
  obtain ⟨y, hy⟩ : ∃ y, D.toNat = y := ⟨_, rfl⟩
  have hyB : byA l (uvN l) = y := by rw [← hD, hy]
  rw [hV] at h0 hVl hlim
  have HYB := Lib.hid hyB
  have HY := Lib.hid hy
  have HT := Lib.hid hT
  have HP := Lib.hid hPP
  have HVV := Lib.hid hV
  have HC := Lib.hid hcon
  have hNC := fun w hd => next_cons g D T PP 0 w hp2.out hd
  simp only [hy] at hNC
  have HN := Lib.hid hNC
  have g1 : ((V : Int) == 0) = false := by simp; exact h0
  have g4 : decide ((M : Int) < (V : Int)) = false := by simp; omega
  have g5 : ¬ M < V := by omega
  have g6 : IntKind.i64.wrap (V : Int) = (V : Int) := IntWalk.i64_in _ (by omega)
  have hM9 : IntKind.u64.wrap (M : Int) = (M : Int) := IntWalk.u64_in _ (by omega)
  clear hcon hDT hPP hT hTl hy hyB hV hD hNl hNC hlim
  have hrow0 := heap_alloc_new w (.cells #[.int .i64 0, .int .u8 0] 93)
  have hne : w.heap.size ≠ g := by omega
  have hd0 := hd.below (Below.alloc (Below.refl _ _) (Nat.le_refl _) (.cells #[.int .i64 0, .int .u8 0] 93))
  go_enter Try.func68, Try.ntmps68
  go_wp2_with (first
    | (go_at_call 46; go_loud ((with_reducible refine (HC.out _ hd0).mono ?_); rintro e1 w2 ⟨rfl, hd2, hg2⟩; have hrow2 := grown_row hg2 hrow0 hne))
    | (go_at_call 49; go_loud ((with_reducible refine (HN.out _ hd2).mono ?_); rintro e1 w3 ⟨rfl, hd3, hg3⟩; have hrow3 := grown_row hg3 hrow2 hne; obtain ⟨k4a, k4b⟩ := hd3.cells; obtain ⟨r1, r2, r3, r4⟩ := run_cells hrow3))
    | (go_at_call 50; go_loud (fail)))
  all_goals refine bodyPost_ret (v := .agg #[.int .i64 V, .int .u8 y]) (by simp [results, Try.results68, go_sem, *]) rfl ?_
  all_goals exact ⟨by rw [HVV.out, HYB.out], by rw [← HT.out, HP.out]; exact (hd3.set hgl).set hgl, grown_late (grown_late (grown_trans (World.grownBy_alloc w _ _) (grown_trans hg2 hg3)) (Nat.le_refl _)) (Nat.le_refl _)⟩
theorem run_lim1 (g : Nat) (l : List (BitVec 8)) (p : Nat) (M : Nat) (w : World) (ad : Addr) (m c z : Nat) (hadg : ad.block ≠ g) (hm : m ≤ 1000000) (hlast : w.cell? ⟨(ad.add (m * 2)).block, (ad.add (m * 2)).off + 1, none⟩ = some (.int .u8 z)) (hp : p + l.length ≤ 4611686018427387904) (hM : M ≤ 5000) (hd : Ds w g l p 0) (hu : uvE l = 0) (hN : uvN l < l.length) (h0 : uvV l ≠ 0) (hs : byA l (uvN l) ≠ z) (hlim : M < uvV l) :
    Calls Try.prog 68 #[.pointer (some ⟨g, 0, none⟩), .slice (some ad) (m + 1) c, .int .i64 M] w fun e' w' => e' = .returned (.agg #[.int .i64 0, .int .u8 0]) ∧ (∃ l' p', Ds w' g l' p' 5) ∧ w.grownBy w' (some g) := by
  have hgl := hd.lt
  have hcon := fun w hd => uvar_ok g l p w hp hd hu
  have hNl := uvE_len l hu
  obtain ⟨V, hV⟩ : ∃ V, uvV l = V := ⟨_, rfl⟩
  have hVl := uvV_lt l hu
  obtain ⟨D, T, hDT, hD⟩ := drop_head l (uvN l) hN
  obtain ⟨PP, hPP⟩ : ∃ PP, p + uvN l = PP := ⟨_, rfl⟩
  have hT : T = l.drop (uvN l + 1) := by
    have := congrArg List.tail hDT
    simpa using this.symm
  have hTl : PP + T.length + 1 ≤ 4611686018427387904 := by rw [hT, List.length_drop]; omega
  have hp2 := Lib.hid hTl
  simp only [hV, hDT, hPP] at hcon
  obtain ⟨y, hy⟩ : ∃ y, D.toNat = y := ⟨_, rfl⟩
  have hyB : byA l (uvN l) = y := by rw [← hD, hy]
  rw [hV] at h0 hVl hlim
  rw [hyB] at hs
  have HYB := Lib.hid hyB
  have HY := Lib.hid hy
  have HT := Lib.hid hT
  have HP := Lib.hid hPP
  have HVV := Lib.hid hV
  have HC := Lib.hid hcon
  have hNC := fun w hd => next_cons g D T PP 0 w hp2.out hd
  simp only [hy] at hNC
  have HN := Lib.hid hNC
  have g1 : ((V : Int) == 0) = false := by simp; exact h0
  have g2 : ((z : Int) == (y : Int)) = false := by rw [beq_eq_false_iff_ne]; omega
  have g4 : decide ((M : Int) < (V : Int)) = true := by simp; omega
  have g5 : M < V := by omega
  have hM9 : IntKind.u64.wrap (M : Int) = (M : Int) := IntWalk.u64_in _ (by omega)
  clear hcon hDT hPP hT hTl hy hyB hV hD hNl hNC hlim
  have hrow0 := heap_alloc_new w (.cells #[.int .i64 0, .int .u8 0] 93)
  have hne : w.heap.size ≠ g := by omega
  have hd0 := hd.below (Below.alloc (Below.refl _ _) (Nat.le_refl _) (.cells #[.int .i64 0, .int .u8 0] 93))
  go_enter Try.func68, Try.ntmps68
  go_wp2_with (first
    | (go_at_call 46; go_loud ((with_reducible refine (HC.out _ hd0).mono ?_); rintro e1 w2 ⟨rfl, hd2, hg2⟩; have hrow2 := grown_row hg2 hrow0 hne))
    | (go_at_call 49; go_loud ((with_reducible refine (HN.out _ hd2).mono ?_); rintro e1 w3 ⟨rfl, hd3, hg3⟩; have hrow3 := grown_row hg3 hrow2 hne; have hlast3 := (hg3.cell (hg2.cell (((World.grownBy_alloc w _ none).cell hlast (by simp))) (by show some (ad.add (m * 2)).block ≠ _; rw [block_add]; exact fun e => hadg (Option.some.inj e))) (by show some (ad.add (m * 2)).block ≠ _; rw [block_add]; exact fun e => hadg (Option.some.inj e)))))
    | (go_at_call 50; go_loud ((with_reducible refine (fail_any _ _ _ _ 5 _ _ lit5 hd3).mono ?_); rw [if_pos rfl]; rintro e1 w4 ⟨rfl, hd4, hg4⟩; obtain ⟨k4a, k4b⟩ := hd4.cells; obtain ⟨r1, r2, r3, r4⟩ := run_cells (grown_row hg4 hrow3 hne))))
  all_goals refine bodyPost_ret (v := .agg #[.int .i64 0, .int .u8 0]) (by simp [results, Try.results68, go_sem, *]) rfl ?_
  all_goals exact ⟨rfl, ⟨_, _, (hd4.set hgl).set hgl⟩, grown_late (grown_late (grown_trans (World.grownBy_alloc w _ _) (grown_trans hg2 (grown_trans hg3 hg4))) (Nat.le_refl _)) (Nat.le_refl _)⟩
theorem run_ok1 (g : Nat) (l : List (BitVec 8)) (p : Nat) (M : Nat) (w : World) (ad : Addr) (m c z : Nat) (hadg : ad.block ≠ g) (hm : m ≤ 1000000) (hlast : w.cell? ⟨(ad.add (m * 2)).block, (ad.add (m * 2)).off + 1, none⟩ = some (.int .u8 z)) (hp : p + l.length ≤ 4611686018427387904) (hM : M ≤ 5000) (hd : Ds w g l p 0) (hu : uvE l = 0) (hN : uvN l < l.length) (h0 : uvV l ≠ 0) (hs : byA l (uvN l) ≠ z) (hlim : uvV l ≤ M) :
    Calls Try.prog 68 #[.pointer (some ⟨g, 0, none⟩), .slice (some ad) (m + 1) c, .int .i64 M] w fun e' w' => e' = .returned (.agg #[.int .i64 (uvV l), .int .u8 (byA l (uvN l))]) ∧ Ds w' g (l.drop (uvN l + 1)) (p + uvN l + 1) 0 ∧ w.grownBy w' (some g) := by
  have hgl := hd.lt
  have hcon := fun w hd => uvar_ok g l p w hp hd hu
  have hNl := uvE_len l hu
  obtain ⟨V, hV⟩ : ∃ V, uvV l = V := ⟨_, rfl⟩
  have hVl := uvV_lt l hu
  obtain ⟨D, T, hDT, hD⟩ := drop_head l (uvN l) hN
  obtain ⟨PP, hPP⟩ : ∃ PP, p + uvN l = PP := ⟨_, rfl⟩
  have hT : T = l.drop (uvN l + 1) := by
    have := congrArg List.tail hDT
    simpa using this.symm
  have hTl : PP + T.length + 1 ≤ 4611686018427387904 := by rw [hT, List.length_drop]; omega
  have hp2 := Lib.hid hTl
  simp only [hV, hDT, hPP] at hcon
  obtain ⟨y, hy⟩ : ∃ y, D.toNat = y := ⟨_, rfl⟩
  have hyB : byA l (uvN l) = y := by rw [← hD, hy]
  rw [hV] at h0 hVl hlim
  rw [hyB] at hs
  have HYB := Lib.hid hyB
  have HY := Lib.hid hy
  have HT := Lib.hid hT
  have HP := Lib.hid hPP
  have HVV := Lib.hid hV
  have HC := Lib.hid hcon
  have hNC := fun w hd => next_cons g D T PP 0 w hp2.out hd
  simp only [hy] at hNC
  have HN := Lib.hid hNC
  have g1 : ((V : Int) == 0) = false := by simp; exact h0
  have g2 : ((z : Int) == (y : Int)) = false := by rw [beq_eq_false_iff_ne]; omega
  have g4 : decide ((M : Int) < (V : Int)) = false := by simp; omega
  have g5 : ¬ M < V := by omega
  have g6 : IntKind.i64.wrap (V : Int) = (V : Int) := IntWalk.i64_in _ (by omega)
  have hM9 : IntKind.u64.wrap (M : Int) = (M : Int) := IntWalk.u64_in _ (by omega)
  clear hcon hDT hPP hT hTl hy hyB hV hD hNl hNC hlim
  have hrow0 := heap_alloc_new w (.cells #[.int .i64 0, .int .u8 0] 93)
  have hne : w.heap.size ≠ g := by omega
  have hd0 := hd.below (Below.alloc (Below.refl _ _) (Nat.le_refl _) (.cells #[.int .i64 0, .int .u8 0] 93))
  go_enter Try.func68, Try.ntmps68
  go_wp2_with (first
    | (go_at_call 46; go_loud ((with_reducible refine (HC.out _ hd0).mono ?_); rintro e1 w2 ⟨rfl, hd2, hg2⟩; have hrow2 := grown_row hg2 hrow0 hne))
    | (go_at_call 49; go_loud ((with_reducible refine (HN.out _ hd2).mono ?_); rintro e1 w3 ⟨rfl, hd3, hg3⟩; have hrow3 := grown_row hg3 hrow2 hne; obtain ⟨k4a, k4b⟩ := hd3.cells; obtain ⟨r1, r2, r3, r4⟩ := run_cells hrow3; have hlast3 := (hg3.cell (hg2.cell (((World.grownBy_alloc w _ none).cell hlast (by simp))) (by show some (ad.add (m * 2)).block ≠ _; rw [block_add]; exact fun e => hadg (Option.some.inj e))) (by show some (ad.add (m * 2)).block ≠ _; rw [block_add]; exact fun e => hadg (Option.some.inj e)))))
    | (go_at_call 50; go_loud (fail)))
  all_goals refine bodyPost_ret (v := .agg #[.int .i64 V, .int .u8 y]) (by simp [results, Try.results68, go_sem, *]) rfl ?_
  all_goals exact ⟨by rw [HVV.out, HYB.out], by rw [← HT.out, HP.out]; exact (hd3.set hgl).set hgl, grown_late (grown_late (grown_trans (World.grownBy_alloc w _ _) (grown_trans hg2 hg3)) (Nat.le_refl _)) (Nat.le_refl _)⟩
end Go.Proofs.Ytbplcgbfhijbcaa
