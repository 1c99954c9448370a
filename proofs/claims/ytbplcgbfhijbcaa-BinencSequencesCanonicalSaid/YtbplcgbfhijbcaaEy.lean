import Derived.Test.YtbplcgbfhijbcaaEx
namespace Go.Proofs.Ytbplcgbfhijbcaa
open Go.RowKit
set_option linter.unusedVariables false
set_option linter.unusedSimpArgs false
theorem alloc_size (w : World) (o : Obj) : (w.alloc o).heap.size = w.heap.size + 1 := by simp
theorem cast_sub9 {a b c : Nat} (h : a - b = c) (hb : b ≤ a) : (a : Int) - (b : Int) = (c : Int) := by omega
set_option maxRecDepth 50000 in
set_option maxHeartbeats 2000000 in
theorem br_dec (a : Option Addr) (n c k M : Nat) (most : Int) (l : List (BitVec 8)) (w : World) (hn : l.length = n) (hc : n ≤ c) (hl : n ≤ 1000000) (hm : most = (M : Int)) (hM : M ≤ 5000) (hr : Rd w a l) (hk : k ≤ n) (h3 : uvE (l.drop k) = 0) :
    Calls Try.prog 41 #[.slice a n c, .int .i64 k, .int .i64 most] w (RsA w (rdec l M (uvV (l.drop k)) (k + uvN (l.drop k)) [])) := by
  subst hn hm
  have hp : k + (l.drop k).length ≤ 4611686018427387904 := by rw [List.length_drop]; omega
  have hcon := fun g w hd => uvar_ok g (l.drop k) k w hp hd h3
  have hN := uvE_len _ h3
  rw [List.length_drop] at hN
  have hxV := uvV_lt _ h3
  simp only [List.drop_drop] at hcon
  obtain ⟨x, hx⟩ : ∃ x, uvV (l.drop k) = x := ⟨_, rfl⟩
  obtain ⟨p, hpp⟩ : ∃ p, k + uvN (l.drop k) = p := ⟨_, rfl⟩
  simp only [hpp] at hcon
  simp only [hx] at hcon hxV
  rw [hpp, hx]
  have hpl : p ≤ l.length := by omega
  obtain ⟨F, hF⟩ : ∃ F, rdec l M x p [] = F := ⟨_, rfl⟩
  rw [hF]
  have HF := Lib.hid hF
  have HC := Lib.hid hcon
  have hcl : l.length ≤ 4611686018427387904 := by omega
  have dm : decide ((M : Int) < 0) = false := by simp
  clear hcon hx hpp hF hN h3
  go_enter Try.func41, Try.ntmps41
  go_wp2_with (first
    | (go_at_call 45; go_loud ((with_reducible refine (newd_ok a _ c k l _ rfl hc hcl hr hk).mono ?_); rintro e1 w1 ⟨rfl, hd1, hb1⟩; have hgl := hd1.lt))
    | (go_at_call 46; go_loud ((with_reducible refine (HC.out _ _ hd1).mono ?_); rintro e1 w2 ⟨rfl, hd2, hg2⟩; have hb2 := hb1.grown hg2 hb1.size (fun q hq => by cases hq; exact Nat.le_refl _))))
  go_loopw [11, 12, 13] (fun v to i wr => BrR w w1 l M x F v to i wr) (fun _ _ i _ => x - (intOf i).toNat)
  case atStart => exact ⟨0, rfl, by omega, hb2, hg2.size, .inl ⟨x, p, 0, 0, [], by omega, rfl, HF.out, ⟨rfl, rfl, fun q hq => by simp at hq⟩, by omega, hpl, nil_rowR _ _, hd2⟩⟩
  case round =>
    obtain ⟨j, rfl, hjx, hb, hz, hst⟩ := hrel
    rcases hst with ⟨r, p, T, m, rs, hj, rfl, hid, hap, hTM, hpl, hown, hd⟩ | ⟨E, T, p', l', rfl, hFE, hE, hd⟩
    · obtain ⟨hk1, hk2⟩ := hd.cells
      obtain ⟨a3, c3, rfl⟩ := own_slice hown
      rcases r with _ | r
      · obtain rfl : j = x := by omega
        rw [rdec_zero] at hid
        have hmm := hap.out.2.1
        have hrs : RunsAt wr.drew a3 rs := runs_own hown
        have hdd : Ds wr.drew w.heap.size (l.drop p) p 0 := hd
        have hbd : Below w.heap.size w wr.drew := below_drewN hb 1
        have hmle : m ≤ 1000000 := by have := runs_le rs hap.out.2.2; have := hap.out; omega
        go_wp2
        go_region_held3 (fun w' => w'.cell? ⟨w.heap.size, 1, none⟩ = some (.int .i64 p)) (first | exact hk5 | exact hk1 | (go_simp)) ((go_at_call 69; go_loud ((with_reducible refine (expand_any a3 m c3 T rs _ hmm hap.out.1 (by omega) hmle hrs).mono ?_); rintro e1 w5 ⟨a5, c5, rfl, hc5, ho5, hb5⟩; have hk5 := (hdd.below hb5).cells.1)))
        all_goals go_wp2
        all_goals go_ret3
        all_goals exact RsA.good hid.out.symm rfl (own_mono ho5 hb.size) (hbd.trans (hb5.mono hb.size))
      · have hgB : w.heap.size < w1.heap.size := hgl
        have hv0 : (Value.slice a3 m c3).ownBlock = none ∨ (Value.slice a3 m c3).ownBlock ≠ some w.heap.size := by
          rcases hq : (Value.slice a3 m c3).ownBlock with _ | q
          · exact .inl rfl
          · right; intro e; injection e with e; have := (hown.lt q hq).1; omega
        have hp2 : p + (l.drop p).length ≤ 4611686018427387904 := by rw [List.length_drop]; omega
        have hm6 := Lib.hid (show m + 1 ≤ 1000000 by have := runs_le rs hap.out.2.2; have := hap.out; omega)
        obtain ⟨D, hD⟩ : ∃ D, M - T = D := ⟨_, rfl⟩
        have hMT := cast_sub9 hD hTM
        have hD5 : D ≤ 5000 := by omega
        have HAcc := Lib.hid (show M - (exR rs).length = D by rw [hap.out.1]; exact hD)
        clear hD
        by_cases he : uvE (l.drop p) = 0
        · by_cases hcut : l.length ≤ p + uvN (l.drop p)
          · have hcv := fun M' => run_cut w.heap.size (l.drop p) p M' a3 m c3 wr hp2 hd he (by rw [List.length_drop]; omega)
            rw [rdec_cut he hcut] at hid
            have HV := Lib.hid hcv
            clear hcv he hcut
            go_wp2_with (first
              | (go_at_call 68; go_loud ((with_reducible refine (HV.out _).mono ?_); rintro e w3 ⟨rfl, ⟨l3, p3, hd3⟩, hg3⟩; have hown3 := hown.kept hg3 hv0; have hz3 := Nat.le_trans hz hg3.size; have hb3 := hb.grown hg3 hb.size (fun q hq => (by cases hq; exact Nat.le_refl _)); have hown3a := hown3.alloc (.cells #[.int .i64 0, .int .u8 0] 93); have hza : w1.heap.size ≤ (w3.alloc (.cells #[.int .i64 0, .int .u8 0] 93)).heap.size := Nat.le_trans hz3 (by simp)))
              | (at_builtin; go_loud (refine wpList_snocR (B := w1.heap.size) rfl _ _ rfl hown3a hza hm6.out 0 0#8 zz0 zz8 (alloc_size _ _) rfl rfl ?_; intro v4 w4 hown4 hb4 hg4; have hcl := hg4.cell (row_cell (heap_alloc_new w3 (.cells #[.int .i64 0, .int .u8 0] 93)) 0) (fun e => absurd (hown3.lt _ e.symm).2 (Nat.lt_irrefl _)))))
            go_roundw
            case rel => exact ⟨j + 1, by go_num, by omega, (Below.alloc hb3 hb3.size _).trans (hb4.mono (Nat.le_trans hb1.size (Nat.le_refl _))), Nat.le_trans hza hb4.size, .inr ⟨4, T, p3, l3, by go_num, hid.out.symm, (by decide), (hd3.below (Below.alloc (Below.refl _ _) (Nat.le_refl _) _)).belowB hb4 hgB⟩⟩
            case measure => (simp [intOf]; try omega)
          · have hlt : p + uvN (l.drop p) < l.length := by omega
            have hltd : uvN (l.drop p) < (l.drop p).length := by rw [List.length_drop]; omega
            by_cases h0 : uvV (l.drop p) = 0
            · have hcv := run_syn0 w.heap.size (l.drop p) p D wr a3 m c3 hp2 hD5 hd he hltd h0
              rw [rdec_syn he hlt (.inl h0)] at hid
              have HV := Lib.hid hcv
              clear hcv he hcut hlt h0 hltd
              go_wp2_with (first
                | (go_at_call 68; go_loud ((with_reducible refine HV.out.mono ?_); rintro e w3 ⟨rfl, ⟨l3, p3, hd3⟩, hg3⟩; have hown3 := hown.kept hg3 hv0; have hz3 := Nat.le_trans hz hg3.size; have hb3 := hb.grown hg3 hb.size (fun q hq => (by cases hq; exact Nat.le_refl _)); have hown3a := hown3.alloc (.cells #[.int .i64 0, .int .u8 0] 93); have hza : w1.heap.size ≤ (w3.alloc (.cells #[.int .i64 0, .int .u8 0] 93)).heap.size := Nat.le_trans hz3 (by simp)))
                | (at_builtin; go_loud (refine wpList_snocR (B := w1.heap.size) rfl _ _ rfl hown3a hza hm6.out 0 0#8 zz0 zz8 (alloc_size _ _) rfl rfl ?_; intro v4 w4 hown4 hb4 hg4; have hcl := hg4.cell (row_cell (heap_alloc_new w3 (.cells #[.int .i64 0, .int .u8 0] 93)) 0) (fun e => absurd (hown3.lt _ e.symm).2 (Nat.lt_irrefl _)))))
              go_roundw
              case rel => exact ⟨j + 1, by go_num, by omega, (Below.alloc hb3 hb3.size _).trans (hb4.mono (Nat.le_trans hb1.size (Nat.le_refl _))), Nat.le_trans hza hb4.size, .inr ⟨3, T, p3, l3, by go_num, hid.out.symm, (by decide), (hd3.below (Below.alloc (Below.refl _ _) (Nat.le_refl _) _)).belowB hb4 hgB⟩⟩
              case measure => (simp [intOf]; try omega)
            · rcases m with _ | m
              · have hrs0 : rs = [] := List.length_eq_zero_iff.1 hap.out.2.1
                have hnot : ¬ (uvV (l.drop p) = 0 ∨ (exR rs ≠ [] ∧ byA (exR rs) ((exR rs).length - 1) = byA l (p + uvN (l.drop p)))) := by
                  rintro (h | ⟨h, _⟩)
                  · exact h0 h
                  · exact h (by rw [hrs0]; rfl)
                by_cases hlim : D < uvV (l.drop p)
                · have hcv := run_lim0 w.heap.size (l.drop p) p D wr a3 c3 hp2 hD5 hd he hltd h0 hlim
                  rw [rdec_lim he hlt hnot (by rw [HAcc.out]; exact hlim)] at hid
                  clear hrs0
                  have HV := Lib.hid hcv
                  clear hcv he hcut hlt h0 hltd hnot hlim
                  go_wp2_with (first
                    | (go_at_call 68; go_loud ((with_reducible refine HV.out.mono ?_); rintro e w3 ⟨rfl, ⟨l3, p3, hd3⟩, hg3⟩; have hown3 := hown.kept hg3 hv0; have hz3 := Nat.le_trans hz hg3.size; have hb3 := hb.grown hg3 hb.size (fun q hq => (by cases hq; exact Nat.le_refl _)); have hown3a := hown3.alloc (.cells #[.int .i64 0, .int .u8 0] 93); have hza : w1.heap.size ≤ (w3.alloc (.cells #[.int .i64 0, .int .u8 0] 93)).heap.size := Nat.le_trans hz3 (by simp)))
                    | (at_builtin; go_loud (refine wpList_snocR (B := w1.heap.size) rfl _ _ rfl hown3a hza hm6.out 0 0#8 zz0 zz8 (alloc_size _ _) rfl rfl ?_; intro v4 w4 hown4 hb4 hg4; have hcl := hg4.cell (row_cell (heap_alloc_new w3 (.cells #[.int .i64 0, .int .u8 0] 93)) 0) (fun e => absurd (hown3.lt _ e.symm).2 (Nat.lt_irrefl _)))))
                  go_roundw
                  case rel => exact ⟨j + 1, by go_num, by omega, (Below.alloc hb3 hb3.size _).trans (hb4.mono (Nat.le_trans hb1.size (Nat.le_refl _))), Nat.le_trans hza hb4.size, .inr ⟨5, T, p3, l3, by go_num, hid.out.symm, (by decide), (hd3.below (Below.alloc (Below.refl _ _) (Nat.le_refl _) _)).belowB hb4 hgB⟩⟩
                  case measure => (simp [intOf]; try omega)
                · have hcv := run_ok0 w.heap.size (l.drop p) p D wr a3 c3 hp2 hD5 hd he hltd h0 (by omega)
                  rw [rdec_ok he hlt hnot (by rw [HAcc.out]; omega)] at hid
                  clear hrs0
                  obtain ⟨V, hV⟩ : ∃ V, uvV (l.drop p) = V := ⟨_, rfl⟩
                  obtain ⟨cB, hcB⟩ : ∃ cB, l.getD (p + uvN (l.drop p)) 0#8 = cB := ⟨_, rfl⟩
                  obtain ⟨y, hy⟩ : ∃ y, byA (l.drop p) (uvN (l.drop p)) = y := ⟨_, rfl⟩
                  have hyc : (y : Int) = (cB.toNat : Int) := by rw [← hy, byA_drop, ← hcB]; rfl
                  rw [List.drop_drop, ← Nat.add_assoc, hV, hy] at hcv
                  obtain ⟨P, hP⟩ : ∃ P, p + uvN (l.drop p) + 1 = P := ⟨_, rfl⟩
                  rw [hP] at hcv
                  rw [hcB, hV, hP, ← exR_snoc rs (V, cB)] at hid
                  have hPl : P ≤ l.length := by omega
                  have hVD : V ≤ D := by omega
                  have hV0 : 0 < V := by omega
                  have HVD := Lib.hid (show T + V ≤ M by omega)
                  have HYC := Lib.hid hyc
                  have HV := Lib.hid hcv
                  clear hcv hcB hy hyc hP hV he hcut hlt hltd hlim hnot h0
                  go_wp2_with (first
                    | (go_at_call 68; go_loud ((with_reducible refine HV.out.mono ?_); rintro e w3 ⟨rfl, hd3, hg3⟩; have hown3 := hown.kept hg3 hv0; have hz3 := Nat.le_trans hz hg3.size; have hb3 := hb.grown hg3 hb.size (fun q hq => (by cases hq; exact Nat.le_refl _)); have hown3a := hown3.alloc (.cells #[.int .i64 V, .int .u8 y] 93); have hza : w1.heap.size ≤ (w3.alloc (.cells #[.int .i64 V, .int .u8 y] 93)).heap.size := Nat.le_trans hz3 (by simp)))
                    | (at_builtin; go_loud (refine wpList_snocR (B := w1.heap.size) rfl _ _ rfl hown3a hza hm6.out V cB rfl HYC.out (alloc_size _ _) rfl rfl ?_; intro v4 w4 hown4 hb4 hg4; have hcl := hg4.cell (row_cell (heap_alloc_new w3 (.cells #[.int .i64 V, .int .u8 y] 93)) 0) (fun e => absurd (hown3.lt _ e.symm).2 (Nat.lt_irrefl _)))))
                  go_roundw
                  case rel =>
                    refine ⟨j + 1, by go_num, by omega, (Below.alloc hb3 hb3.size _).trans (hb4.mono (Nat.le_trans hb1.size (Nat.le_refl _))), Nat.le_trans hza hb4.size, .inl ⟨r, P, T + V, 0 + 1, rs ++ [(V, cB)], by omega, by go_num, hid.out, ⟨?_, ?_, ?_⟩, HVD.out, hPl, hown4, (hd3.below (Below.alloc (Below.refl _ _) (Nat.le_refl _) _)).belowB hb4 hgB⟩⟩
                    · rw [exR_snoc, List.length_append, List.length_replicate, hap.out.1]
                    · rw [List.length_append, hap.out.2.1]; rfl
                    · intro q hq
                      rcases List.mem_append.1 hq with h | h
                      · exact hap.out.2.2 q h
                      · simp at h; subst h; exact hV0
                  case measure => (simp [intOf]; try omega)
              · obtain ⟨hne, hla⟩ := runs_last rs m hap.out.2.1 hap.out.2.2
                have hmlt : m < rs.length := by have := hap.out.2.1; omega
                obtain ⟨ad3, e3, -, hlast⟩ := runs_own hown m hmlt
                obtain rfl := e3
                have hadg : ad3.block ≠ w.heap.size := fun e => by
                  have := (hown.lt ad3.block rfl).1
                  omega
                obtain ⟨z, hz9⟩ : ∃ z, (rs[m]).2.toNat = z := ⟨_, rfl⟩
                rw [hz9] at hla hlast
                have hby := byA_drop l p (uvN (l.drop p))
                by_cases hsame : byA l (p + uvN (l.drop p)) = z
                · have hcv := run_syn1 w.heap.size (l.drop p) p D wr ad3 m c3 z hadg (by have := hm6.out; omega) hlast hp2 hD5 hd he hltd h0 (by rw [hby]; exact hsame)
                  rw [rdec_syn he hlt (.inr ⟨hne, by rw [hla, hsame]⟩)] at hid
                  clear hne hla hby hsame hz9 hmlt
                  have HV := Lib.hid hcv
                  clear hcv he hcut hlt h0 hltd hlast
                  go_wp2_with (first
                    | (go_at_call 68; go_loud ((with_reducible refine HV.out.mono ?_); rintro e w3 ⟨rfl, ⟨l3, p3, hd3⟩, hg3⟩; have hown3 := hown.kept hg3 hv0; have hz3 := Nat.le_trans hz hg3.size; have hb3 := hb.grown hg3 hb.size (fun q hq => (by cases hq; exact Nat.le_refl _)); have hown3a := hown3.alloc (.cells #[.int .i64 0, .int .u8 0] 93); have hza : w1.heap.size ≤ (w3.alloc (.cells #[.int .i64 0, .int .u8 0] 93)).heap.size := Nat.le_trans hz3 (by simp)))
                    | (at_builtin; go_loud (refine wpList_snocR (B := w1.heap.size) rfl _ _ rfl hown3a hza hm6.out 0 0#8 zz0 zz8 (alloc_size _ _) rfl rfl ?_; intro v4 w4 hown4 hb4 hg4; have hcl := hg4.cell (row_cell (heap_alloc_new w3 (.cells #[.int .i64 0, .int .u8 0] 93)) 0) (fun e => absurd (hown3.lt _ e.symm).2 (Nat.lt_irrefl _)))))
                  go_roundw
                  case rel => exact ⟨j + 1, by go_num, by omega, (Below.alloc hb3 hb3.size _).trans (hb4.mono (Nat.le_trans hb1.size (Nat.le_refl _))), Nat.le_trans hza hb4.size, .inr ⟨3, T, p3, l3, by go_num, hid.out.symm, (by decide), (hd3.below (Below.alloc (Below.refl _ _) (Nat.le_refl _) _)).belowB hb4 hgB⟩⟩
                  case measure => (simp [intOf]; try omega)
                · have hnot : ¬ (uvV (l.drop p) = 0 ∨ (exR rs ≠ [] ∧ byA (exR rs) ((exR rs).length - 1) = byA l (p + uvN (l.drop p)))) := by
                    rintro (h | ⟨_, h⟩)
                    · exact h0 h
                    · rw [hla] at h; exact hsame h.symm
                  by_cases hlim : D < uvV (l.drop p)
                  · have hcv := run_lim1 w.heap.size (l.drop p) p D wr ad3 m c3 z hadg (by have := hm6.out; omega) hlast hp2 hD5 hd he hltd h0 (by rw [hby]; exact hsame) hlim
                    rw [rdec_lim he hlt hnot (by rw [HAcc.out]; exact hlim)] at hid
                    clear hne hla hby hsame hz9 hmlt
                    have HV := Lib.hid hcv
                    clear hcv he hcut hlt h0 hltd hnot hlim hlast
                    go_wp2_with (first
                      | (go_at_call 68; go_loud ((with_reducible refine HV.out.mono ?_); rintro e w3 ⟨rfl, ⟨l3, p3, hd3⟩, hg3⟩; have hown3 := hown.kept hg3 hv0; have hz3 := Nat.le_trans hz hg3.size; have hb3 := hb.grown hg3 hb.size (fun q hq => (by cases hq; exact Nat.le_refl _)); have hown3a := hown3.alloc (.cells #[.int .i64 0, .int .u8 0] 93); have hza : w1.heap.size ≤ (w3.alloc (.cells #[.int .i64 0, .int .u8 0] 93)).heap.size := Nat.le_trans hz3 (by simp)))
                      | (at_builtin; go_loud (refine wpList_snocR (B := w1.heap.size) rfl _ _ rfl hown3a hza hm6.out 0 0#8 zz0 zz8 (alloc_size _ _) rfl rfl ?_; intro v4 w4 hown4 hb4 hg4; have hcl := hg4.cell (row_cell (heap_alloc_new w3 (.cells #[.int .i64 0, .int .u8 0] 93)) 0) (fun e => absurd (hown3.lt _ e.symm).2 (Nat.lt_irrefl _)))))
                    go_roundw
                    case rel => exact ⟨j + 1, by go_num, by omega, (Below.alloc hb3 hb3.size _).trans (hb4.mono (Nat.le_trans hb1.size (Nat.le_refl _))), Nat.le_trans hza hb4.size, .inr ⟨5, T, p3, l3, by go_num, hid.out.symm, (by decide), (hd3.below (Below.alloc (Below.refl _ _) (Nat.le_refl _) _)).belowB hb4 hgB⟩⟩
                    case measure => (simp [intOf]; try omega)
                  · have hcv := run_ok1 w.heap.size (l.drop p) p D wr ad3 m c3 z hadg (by have := hm6.out; omega) hlast hp2 hD5 hd he hltd h0 (by rw [hby]; exact hsame) (by omega)
                    rw [rdec_ok he hlt hnot (by rw [HAcc.out]; omega)] at hid
                    clear hne hla hby hsame hz9 hmlt hlast
                    obtain ⟨V, hV⟩ : ∃ V, uvV (l.drop p) = V := ⟨_, rfl⟩
                    obtain ⟨cB, hcB⟩ : ∃ cB, l.getD (p + uvN (l.drop p)) 0#8 = cB := ⟨_, rfl⟩
                    obtain ⟨y, hy⟩ : ∃ y, byA (l.drop p) (uvN (l.drop p)) = y := ⟨_, rfl⟩
                    have hyc : (y : Int) = (cB.toNat : Int) := by rw [← hy, byA_drop, ← hcB]; rfl
                    rw [List.drop_drop, ← Nat.add_assoc, hV, hy] at hcv
                    obtain ⟨P, hP⟩ : ∃ P, p + uvN (l.drop p) + 1 = P := ⟨_, rfl⟩
                    rw [hP] at hcv
                    rw [hcB, hV, hP, ← exR_snoc rs (V, cB)] at hid
                    have hPl : P ≤ l.length := by omega
                    have hVD : V ≤ D := by omega
                    have hV0 : 0 < V := by omega
                    have HVD := Lib.hid (show T + V ≤ M by omega)
                    have HYC := Lib.hid hyc
                    have HV := Lib.hid hcv
                    clear hcv hcB hy hyc hP hV he hcut hlt hltd hlim hnot h0
                    go_wp2_with (first
                      | (go_at_call 68; go_loud ((with_reducible refine HV.out.mono ?_); rintro e w3 ⟨rfl, hd3, hg3⟩; have hown3 := hown.kept hg3 hv0; have hz3 := Nat.le_trans hz hg3.size; have hb3 := hb.grown hg3 hb.size (fun q hq => (by cases hq; exact Nat.le_refl _)); have hown3a := hown3.alloc (.cells #[.int .i64 V, .int .u8 y] 93); have hza : w1.heap.size ≤ (w3.alloc (.cells #[.int .i64 V, .int .u8 y] 93)).heap.size := Nat.le_trans hz3 (by simp)))
                      | (at_builtin; go_loud (refine wpList_snocR (B := w1.heap.size) rfl _ _ rfl hown3a hza hm6.out V cB rfl HYC.out (alloc_size _ _) rfl rfl ?_; intro v4 w4 hown4 hb4 hg4; have hcl := hg4.cell (row_cell (heap_alloc_new w3 (.cells #[.int .i64 V, .int .u8 y] 93)) 0) (fun e => absurd (hown3.lt _ e.symm).2 (Nat.lt_irrefl _)))))
                    go_roundw
                    case rel =>
                      refine ⟨j + 1, by go_num, by omega, (Below.alloc hb3 hb3.size _).trans (hb4.mono (Nat.le_trans hb1.size (Nat.le_refl _))), Nat.le_trans hza hb4.size, .inl ⟨r, P, T + V, (m + 1) + 1, rs ++ [(V, cB)], by omega, by go_num, hid.out, ⟨?_, ?_, ?_⟩, HVD.out, hPl, hown4, (hd3.below (Below.alloc (Below.refl _ _) (Nat.le_refl _) _)).belowB hb4 hgB⟩⟩
                      · rw [exR_snoc, List.length_append, List.length_replicate, hap.out.1]
                      · rw [List.length_append, hap.out.2.1]; rfl
                      · intro q hq
                        rcases List.mem_append.1 hq with h | h
                        · exact hap.out.2.2 q h
                        · simp at h; subst h; exact hV0
                    case measure => (simp [intOf]; try omega)
        · have hcv := fun M' => run_bad w.heap.size (l.drop p) p M' a3 m c3 wr hp2 hd he
          rw [rdec_bad he] at hid
          obtain ⟨E, hE⟩ : ∃ E, uvE (l.drop p) = E := ⟨_, rfl⟩
          rw [hE] at hid he
          simp only [hE] at hcv
          have HE0 := Lib.hid he
          clear he hE
          have HV := Lib.hid hcv
          clear hcv
          go_wp2_with (first
            | (go_at_call 68; go_loud ((with_reducible refine (HV.out _).mono ?_); rintro e w3 ⟨rfl, ⟨l3, p3, hd3⟩, hg3⟩; have hown3 := hown.kept hg3 hv0; have hz3 := Nat.le_trans hz hg3.size; have hb3 := hb.grown hg3 hb.size (fun q hq => (by cases hq; exact Nat.le_refl _)); have hown3a := hown3.alloc (.cells #[.int .i64 0, .int .u8 0] 93); have hza : w1.heap.size ≤ (w3.alloc (.cells #[.int .i64 0, .int .u8 0] 93)).heap.size := Nat.le_trans hz3 (by simp)))
            | (at_builtin; go_loud (refine wpList_snocR (B := w1.heap.size) rfl _ _ rfl hown3a hza hm6.out 0 0#8 zz0 zz8 (alloc_size _ _) rfl rfl ?_; intro v4 w4 hown4 hb4 hg4; have hcl := hg4.cell (row_cell (heap_alloc_new w3 (.cells #[.int .i64 0, .int .u8 0] 93)) 0) (fun e => absurd (hown3.lt _ e.symm).2 (Nat.lt_irrefl _)))))
          go_roundw
          case rel => exact ⟨j + 1, by go_num, by omega, (Below.alloc hb3 hb3.size _).trans (hb4.mono (Nat.le_trans hb1.size (Nat.le_refl _))), Nat.le_trans hza hb4.size, .inr ⟨E, T, p3, l3, by go_num, hid.out.symm, HE0.out, (hd3.below (Below.alloc (Below.refl _ _) (Nat.le_refl _) _)).belowB hb4 hgB⟩⟩
          case measure => (simp [intOf]; try omega)
    · obtain ⟨hk1, hk2⟩ := hd.cells
      have q1 : ((E : Int) == 0) = false := by simp; exact hE
      have q2 : ((E : Int) != 0) = true := by simp; exact hE
      have HE := Lib.hid hE
      clear hE
      go_wp2
      all_goals go_quiet (fail)
      all_goals go_wp2
      all_goals go_ret3
      all_goals exact RsA.bad hFE.out HE.out (below_drewN hb _)
end Go.Proofs.Ytbplcgbfhijbcaa
