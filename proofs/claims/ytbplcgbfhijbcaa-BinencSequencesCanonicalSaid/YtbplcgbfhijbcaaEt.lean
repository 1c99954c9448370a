import Derived.Test.YtbplcgbfhijbcaaEs
namespace Go.Proofs.Ytbplcgbfhijbcaa
open Go.RowKit
set_option linter.unusedVariables false
set_option linter.unusedSimpArgs false
/-- The reference's loop over the runs. -/
def RrD (w : World) (l : List (BitVec 8)) (M n : Nat) (F : List (BitVec 8) × Nat × Nat) (ne v i : Value) (wr : World) : Prop := ∃ (j r p m : Nat) (acc : List (BitVec 8)), j + r = n ∧ i = .int .u64 j ∧ ne = .int .i64 p ∧
  Hid (rdec l M r p acc = F) ∧ Hid (acc.length = m) ∧ m ≤ M ∧ p ≤ l.length ∧ wr.ownsRow w.heap.size 5 1 v m (bv8 acc) ∧ Below w.heap.size w wr
theorem own_last {w : World} {B : Nat} {a : Option Addr} {m c : Nat} {acc : List (BitVec 8)} (ho : w.ownsRow B 5 1 (.slice a (m + 1) c) (m + 1) (bv8 acc)) (hm : acc.length = m + 1) : ∃ ad, a = some ad ∧ w.cell? (ad.add m) = some (.int .u8 (byA acc m : Int)) := byA_cell (Rd.of_own ho) m (by omega)
theorem rep_snoc (acc : List (BitVec 8)) (t : Nat) (c : BitVec 8) : (acc ++ List.replicate t c) ++ [c] = acc ++ List.replicate (t + 1) c := by rw [List.append_assoc, List.replicate_succ']
set_option maxRecDepth 50000 in
set_option maxHeartbeats 1000000 in
theorem rr_dec (a : Option Addr) (n c k M : Nat) (most : Int) (l : List (BitVec 8)) (w : World) (hn : l.length = n) (hl : n ≤ 1000000) (hm : most = (M : Int)) (hM : M ≤ 5000) (hr : Rd w a l) (hk : k ≤ n) (h3 : uvE (l.drop k) = 0) :
    Calls Try.prog 42 #[.slice a n c, .int .i64 k, .int .i64 most] w (RsA w (rdec l M (uvV (l.drop k)) (k + uvN (l.drop k)) [])) := by
  subst hn hm
  have hcon := ru_ok a _ c k l w rfl (by omega) hr hk h3
  have hN := uvE_len _ h3
  rw [List.length_drop] at hN
  have hxV := uvV_lt _ h3
  obtain ⟨x, hx⟩ : ∃ x, uvV (l.drop k) = x := ⟨_, rfl⟩
  obtain ⟨p, hpp⟩ : ∃ p, k + uvN (l.drop k) = p := ⟨_, rfl⟩
  rw [hpp, hx] at hcon ⊢
  rw [hx] at hxV
  have hpl : p ≤ l.length := by omega
  obtain ⟨F, hF⟩ : ∃ F, rdec l M x p [] = F := ⟨_, rfl⟩
  rw [hF]
  have HF := Lib.hid hF
  have HC := Lib.hid hcon
  have hcl : l.length ≤ 4611686018427387904 := by omega
  clear hcon hx hpp hF hN h3
  go_enter Try.func42, Try.ntmps42
  go_wp2_with ((go_at_call 14; go_loud ((with_reducible refine HC.out.mono ?_); rintro e1 w1 ⟨rfl, rfl⟩; unfold tri)))
  go_loopw [10, 12, 13] (fun ne v i wr => RrD w l M x F ne v i wr) (fun _ _ i _ => x - (intOf i).toNat)
  case atStart => exact ⟨0, x, p, 0, [], by omega, rfl, rfl, HF.out, rfl, by omega, hpl, fresh_row8 _, Below.alloc (Below.refl _ _) (Nat.le_refl _) _⟩
  case round =>
    obtain ⟨j, r, p, m, acc, hj, rfl, rfl, hid, hap, hmM, hpl, hown, hb⟩ := hrel
    have hz := hb.size
    obtain ⟨a3, c3, rfl⟩ := own_slice hown
    rcases r with _ | r
    · obtain rfl : j = x := by omega
      rw [rdec_zero] at hid
      go_wp2
      go_ret3
      exact RsA.good hid.out.symm hap.out hown hb
    · have hrw := hr.below hb
      by_cases he : uvE (l.drop p) = 0
      · by_cases hcut : l.length ≤ p + uvN (l.drop p)
        · have hcv := rrun_cut a _ c p l wr rfl hcl hrw hpl he hcut
          rw [rdec_cut he hcut] at hid
          have HV := Lib.hid hcv
          clear hcv he hcut
          go_wp2_with (go_at_call 70; go_loud ((with_reducible refine HV.out.mono ?_); unfold qua; rintro e w3 ⟨rfl, rfl⟩))
          go_ret3
          exact RsA.bad hid.out.symm (by decide) hb
        · have hlt : p + uvN (l.drop p) < l.length := by omega
          have hcv := rrun_ok a _ c p l wr rfl hcl hrw hpl he hlt
          have hVV := uvV_lt _ he
          have hcB : (l.getD (p + uvN (l.drop p)) 0#8).toNat = byA l (p + uvN (l.drop p)) := rfl
          have HE := Lib.hid he
          by_cases h0 : uvV (l.drop p) = 0
          · rw [rdec_syn he hlt (.inl h0)] at hid
            rw [h0] at hcv
            obtain ⟨y, hy⟩ : ∃ y, byA l (p + uvN (l.drop p)) = y := ⟨_, rfl⟩
            obtain ⟨P, hP⟩ : ∃ P, p + uvN (l.drop p) + 1 = P := ⟨_, rfl⟩
            rw [hy, hP] at hcv
            have HV := Lib.hid hcv
            clear hcv he hcut hy hP h0 hlt hcB hVV
            go_wp2_with (go_at_call 70; go_loud ((with_reducible refine HV.out.mono ?_); unfold qua; rintro e w3 ⟨rfl, nq, rfl⟩))
            go_ret3
            exact RsA.bad hid.out.symm (by decide) (below_drewN hb _)
          · rcases m with _ | m
            · have hacc : acc = [] := List.length_eq_zero_iff.1 hap.out
              have hnot : ¬ (uvV (l.drop p) = 0 ∨ (acc ≠ [] ∧ byA acc (acc.length - 1) = byA l (p + uvN (l.drop p)))) := by
                rintro (h | ⟨h, _⟩)
                · exact h0 h
                · exact h hacc
              have hDl : M - acc.length = M - (0) := by rw [hap.out]
              by_cases hlim : M - (0) < uvV (l.drop p)
              · rw [rdec_lim he hlt hnot (by rw [hDl]; exact hlim)] at hid
                obtain ⟨D, hD⟩ : ∃ D, M - (0) = D := ⟨_, rfl⟩
                obtain ⟨V, hV⟩ : ∃ V, uvV (l.drop p) = V := ⟨_, rfl⟩
                obtain ⟨y, hy⟩ : ∃ y, byA l (p + uvN (l.drop p)) = y := ⟨_, rfl⟩
                obtain ⟨P, hP⟩ : ∃ P, p + uvN (l.drop p) + 1 = P := ⟨_, rfl⟩
                rw [hV, hy, hP] at hcv
                rw [hV] at h0 hlim hVV
                have g1 : ((V : Int) == 0) = false := by simp; exact h0
                have HV := Lib.hid hcv
                have g3 : IntKind.u64.wrap ((M : Int)) = (D : Int) := by rw [IntWalk.u64_in _ (by omega)]; omega
                have g4 : decide ((D : Int) < (V : Int)) = true := by simp; omega
                have hDV : D < V := by omega
                clear hcv he hcut hy hP hlt hcB hVV hV hD hlim hDl hnot hacc
                go_wp2_with (go_at_call 70; go_loud ((with_reducible refine HV.out.mono ?_); unfold qua; rintro e w3 ⟨rfl, nq, rfl⟩))
                go_ret3
                exact RsA.bad hid.out.symm (by decide) (below_drewN hb _)
              · rw [rdec_ok he hlt hnot (by rw [hDl]; omega)] at hid
                obtain ⟨D, hD⟩ : ∃ D, M - (0) = D := ⟨_, rfl⟩
                obtain ⟨cB, hcBe⟩ : ∃ cB, l.getD (p + uvN (l.drop p)) 0#8 = cB := ⟨_, rfl⟩
                rw [hcBe] at hcB hid
                have hPl : p + uvN (l.drop p) + 1 ≤ l.length := by omega
                obtain ⟨V, hV⟩ : ∃ V, uvV (l.drop p) = V := ⟨_, rfl⟩
                obtain ⟨y, hy⟩ : ∃ y, byA l (p + uvN (l.drop p)) = y := ⟨_, rfl⟩
                obtain ⟨P, hP⟩ : ∃ P, p + uvN (l.drop p) + 1 = P := ⟨_, rfl⟩
                rw [hV, hy, hP] at hcv
                rw [hV] at h0 hid hlim hVV
                have g1 : ((V : Int) == 0) = false := by simp; exact h0
                have HV := Lib.hid hcv
                rw [hP] at hid hPl
                have HB := Lib.hid (show (y : Int) = (cB.toNat : Int) by rw [hcB, hy])
                have g3 : IntKind.u64.wrap ((M : Int)) = (D : Int) := by rw [IntWalk.u64_in _ (by omega)]; omega
                have g4 : decide ((D : Int) < (V : Int)) = false := by simp; omega
                have hDV : ¬ D < V := by omega
                have hVD : V ≤ M - (0) := by omega
                clear hcv he hcut hy hP hlt hcB hVV hV hD hlim hDl hnot hcBe hacc
                go_wp2_with (go_at_call 70; go_loud ((with_reducible refine HV.out.mono ?_); unfold qua; rintro e w3 ⟨rfl, nq, rfl⟩))
                go_loopw [12, 18] (fun v kk w2 => ∃ t, t ≤ V ∧ kk = .int .u64 t ∧ w2.ownsRow w.heap.size 5 1 v (0 + t) (bv8 (acc ++ List.replicate t cB)) ∧ Below w.heap.size w w2) (fun _ kk _ => V - (intOf kk).toNat)
                case atStart => exact ⟨0, by omega, rfl, by simpa using (own_drewN hown _), below_drewN hb _⟩
                case round =>
                  obtain ⟨t, ht, rfl, hown4, hb4⟩ := hrel
                  have hz4 := hb4.size
                  obtain ⟨a4, c4, rfl⟩ := own_slice hown4
                  by_cases htV : t < V
                  · have g5 : decide ((t : Int) < (V : Int)) = true := by simp; omega
                    have hn5 := Lib.hid (show 0 + t + 1 ≤ 100000000 by omega)
                    go_wp2_with (at_builtin; go_loud (refine wpList_snoc8 (B := w.heap.size) rfl _ _ rfl hown4 hz4 hn5.out cB HB.out rfl rfl ?_; intro v5 w5 hown5 hb5 _ _))
                    go_roundw
                    case rel => exact ⟨t + 1, by omega, by go_num, by rw [rep_snoc] at hown5; exact hown5, hb4.trans hb5⟩
                    case measure => (simp [intOf]; try omega)
                  · obtain rfl : t = V := by omega
                    have g5 : decide ((t : Int) < (t : Int)) = false := by simp
                    go_wp2
                    go_roundw
                    case rel => exact ⟨j + 1, r, P, 0 + t, acc ++ List.replicate t cB, by omega, by go_num, rfl, hid.out, by have := hap.out; show _ = _; rw [List.length_append, List.length_replicate, this], by omega, by omega, hown4, hb4⟩
                    case measure => (simp [intOf]; try omega)
            · have hne : acc ≠ [] := by intro e; have := hap.out; rw [e] at this; cases this
              have hla : acc.length - 1 = m := by have := hap.out; omega
              obtain ⟨ad3, e3, hlast⟩ := own_last hown hap.out
              obtain rfl := e3
              by_cases hsame : byA acc m = byA l (p + uvN (l.drop p))
              · rw [rdec_syn he hlt (.inr ⟨hne, by rw [hla]; exact hsame⟩)] at hid
                obtain ⟨V, hV⟩ : ∃ V, uvV (l.drop p) = V := ⟨_, rfl⟩
                obtain ⟨y, hy⟩ : ∃ y, byA l (p + uvN (l.drop p)) = y := ⟨_, rfl⟩
                obtain ⟨P, hP⟩ : ∃ P, p + uvN (l.drop p) + 1 = P := ⟨_, rfl⟩
                rw [hV, hy, hP] at hcv
                rw [hV] at h0
                rw [hsame, hy] at hlast
                have g1 : ((V : Int) == 0) = false := by simp; exact h0
                have HV := Lib.hid hcv
                clear hcv he hcut hy hP hlt hcB hVV hV hsame
                go_wp2_with (go_at_call 70; go_loud ((with_reducible refine HV.out.mono ?_); unfold qua; rintro e w3 ⟨rfl, nq, rfl⟩))
                go_ret3
                exact RsA.bad hid.out.symm (by decide) (below_drewN hb _)
              · have hnot : ¬ (uvV (l.drop p) = 0 ∨ (acc ≠ [] ∧ byA acc (acc.length - 1) = byA l (p + uvN (l.drop p)))) := by
                  rintro (h | ⟨_, h⟩)
                  · exact h0 h
                  · rw [hla] at h; exact hsame h
                have hDl : M - acc.length = M - (m + 1) := by rw [hap.out]
                by_cases hlim : M - (m + 1) < uvV (l.drop p)
                · rw [rdec_lim he hlt hnot (by rw [hDl]; exact hlim)] at hid
                  obtain ⟨D, hD⟩ : ∃ D, M - (m + 1) = D := ⟨_, rfl⟩
                  obtain ⟨V, hV⟩ : ∃ V, uvV (l.drop p) = V := ⟨_, rfl⟩
                  obtain ⟨y, hy⟩ : ∃ y, byA l (p + uvN (l.drop p)) = y := ⟨_, rfl⟩
                  obtain ⟨P, hP⟩ : ∃ P, p + uvN (l.drop p) + 1 = P := ⟨_, rfl⟩
                  rw [hV, hy, hP] at hcv
                  rw [hy] at hsame
                  have g2 : ((byA acc m : Int) == (y : Int)) = false := by rw [beq_eq_false_iff_ne]; omega
                  have hlast := hlast
                  rw [hV] at h0 hlim hVV
                  have g1 : ((V : Int) == 0) = false := by simp; exact h0
                  have HV := Lib.hid hcv
                  have g3 : IntKind.u64.wrap ((M : Int) - ((m : Int) + 1)) = (D : Int) := by rw [IntWalk.u64_in _ (by omega)]; omega
                  have g4 : decide ((D : Int) < (V : Int)) = true := by simp; omega
                  have hDV : D < V := by omega
                  clear hcv he hcut hy hP hlt hcB hVV hV hD hlim hDl hnot hsame hla hne
                  go_wp2_with (go_at_call 70; go_loud ((with_reducible refine HV.out.mono ?_); unfold qua; rintro e w3 ⟨rfl, nq, rfl⟩))
                  go_ret3
                  exact RsA.bad hid.out.symm (by decide) (below_drewN hb _)
                · rw [rdec_ok he hlt hnot (by rw [hDl]; omega)] at hid
                  obtain ⟨D, hD⟩ : ∃ D, M - (m + 1) = D := ⟨_, rfl⟩
                  obtain ⟨cB, hcBe⟩ : ∃ cB, l.getD (p + uvN (l.drop p)) 0#8 = cB := ⟨_, rfl⟩
                  rw [hcBe] at hcB hid
                  have hPl : p + uvN (l.drop p) + 1 ≤ l.length := by omega
                  obtain ⟨V, hV⟩ : ∃ V, uvV (l.drop p) = V := ⟨_, rfl⟩
                  obtain ⟨y, hy⟩ : ∃ y, byA l (p + uvN (l.drop p)) = y := ⟨_, rfl⟩
                  obtain ⟨P, hP⟩ : ∃ P, p + uvN (l.drop p) + 1 = P := ⟨_, rfl⟩
                  rw [hV, hy, hP] at hcv
                  rw [hy] at hsame
                  have g2 : ((byA acc m : Int) == (y : Int)) = false := by rw [beq_eq_false_iff_ne]; omega
                  have hlast := hlast
                  rw [hV] at h0 hid hlim hVV
                  have g1 : ((V : Int) == 0) = false := by simp; exact h0
                  have HV := Lib.hid hcv
                  rw [hP] at hid hPl
                  have HB := Lib.hid (show (y : Int) = (cB.toNat : Int) by rw [hcB, hy])
                  have g3 : IntKind.u64.wrap ((M : Int) - ((m : Int) + 1)) = (D : Int) := by rw [IntWalk.u64_in _ (by omega)]; omega
                  have g4 : decide ((D : Int) < (V : Int)) = false := by simp; omega
                  have hDV : ¬ D < V := by omega
                  have hVD : V ≤ M - (m + 1) := by omega
                  clear hcv he hcut hy hP hlt hcB hVV hV hD hlim hDl hnot hcBe hsame hla hne
                  go_wp2_with (go_at_call 70; go_loud ((with_reducible refine HV.out.mono ?_); unfold qua; rintro e w3 ⟨rfl, nq, rfl⟩))
                  go_loopw [12, 18] (fun v kk w2 => ∃ t, t ≤ V ∧ kk = .int .u64 t ∧ w2.ownsRow w.heap.size 5 1 v (m + 1 + t) (bv8 (acc ++ List.replicate t cB)) ∧ Below w.heap.size w w2) (fun _ kk _ => V - (intOf kk).toNat)
                  case atStart => exact ⟨0, by omega, rfl, by simpa using (own_drewN hown _), below_drewN hb _⟩
                  case round =>
                    obtain ⟨t, ht, rfl, hown4, hb4⟩ := hrel
                    have hz4 := hb4.size
                    obtain ⟨a4, c4, rfl⟩ := own_slice hown4
                    by_cases htV : t < V
                    · have g5 : decide ((t : Int) < (V : Int)) = true := by simp; omega
                      have hn5 := Lib.hid (show m + 1 + t + 1 ≤ 100000000 by omega)
                      go_wp2_with (at_builtin; go_loud (refine wpList_snoc8 (B := w.heap.size) rfl _ _ rfl hown4 hz4 hn5.out cB HB.out rfl rfl ?_; intro v5 w5 hown5 hb5 _ _))
                      go_roundw
                      case rel => exact ⟨t + 1, by omega, by go_num, by rw [rep_snoc] at hown5; exact hown5, hb4.trans hb5⟩
                      case measure => (simp [intOf]; try omega)
                    · obtain rfl : t = V := by omega
                      have g5 : decide ((t : Int) < (t : Int)) = false := by simp
                      go_wp2
                      go_roundw
                      case rel => exact ⟨j + 1, r, P, m + 1 + t, acc ++ List.replicate t cB, by omega, by go_num, rfl, hid.out, by have := hap.out; show _ = _; rw [List.length_append, List.length_replicate, this], by omega, by omega, hown4, hb4⟩
                      case measure => (simp [intOf]; try omega)
      · have hcv := rrun_bad a _ c p l wr rfl hcl hrw hpl he
        rw [rdec_bad he] at hid
        obtain ⟨E, hE⟩ : ∃ E, uvE (l.drop p) = E := ⟨_, rfl⟩
        rw [hE] at hid hcv he
        have q1 : ((E : Int) == 0) = false := by simp; exact he
        have q2 : ((E : Int) != 0) = true := by simp; exact he
        have HV := Lib.hid hcv
        have HE := Lib.hid he
        clear hcv hE he
        go_wp2_with (go_at_call 70; go_loud ((with_reducible refine HV.out.mono ?_); unfold qua; rintro e w3 ⟨rfl, rfl⟩))
        go_ret3
        exact RsA.bad hid.out.symm HE.out hb
end Go.Proofs.Ytbplcgbfhijbcaa
