import Derived.Test.YtfaiogomhjmhhaaC5
import Derived.WalkKit
import Derived.WalkSpells
import Derived.WalkLawsBesides
import Derived.Lib.Hide
import Derived.Below
import Derived.Deep.QuietTactic
import Derived.BigQuiet
import Derived.IntWalk
import Derived.Laws.BitsAllLaws
namespace Go.Proofs.Ytfaiogomhjmhhaa
open Go.RowKit
set_option linter.unusedVariables false
set_option linter.unusedSimpArgs false
theorem parC_len {l : List UInt8} (h : l.length ≠ 9) : parC l = none := by
  cases l with
  | nil => rfl
  | cons c t =>
    unfold parC
    by_cases hc : c = 35
    · simp only [hc, if_true]
      cases hd : decL t with
      | none => rfl
      | some xs =>
        have h1 := dec_len _ t xs (Nat.le_refl _) hd
        have h2 : ¬ xs.length = 4 := by
          intro e
          apply h
          rw [List.length_cons]
          omega
        simp [h2]
    · simp only [hc, if_false]
set_option maxRecDepth 50000 in
set_option maxHeartbeats 4000000 in
theorem rparse_any (S : ByteArray) (l : List UInt8) (w : World) (hS : S.data.toList = l) (hl : l.length ≤ 140737488355328) :
    Calls Try.prog 20 #[.string S] w fun e w' => PaE l e ∧ Below w.heap.size w w' := by
  have hsz0 := str_size hS
  obtain ⟨n, hn⟩ : ∃ n, l.length = n := ⟨_, rfl⟩
  have hsz : S.size = n := by rw [hsz0, hn]
  have HS := Lib.hid hS
  have HN := Lib.hid hn
  have hb0 := Below.alloc (Below.refl w.heap.size w) (Nat.le_refl _) (.cells #[.int .u8 0, .int .u8 0, .int .u8 0, .int .u8 0] 23)
  have hz0 := hb0.size
  have q0 : (w.alloc (.cells #[.int .u8 0, .int .u8 0, .int .u8 0, .int .u8 0] 23)).cell? ⟨w.heap.size, 0, none⟩ = some (.int .u8 0) := by go_simp
  have q1 : (w.alloc (.cells #[.int .u8 0, .int .u8 0, .int .u8 0, .int .u8 0] 23)).cell? ⟨w.heap.size, 1, none⟩ = some (.int .u8 0) := by go_simp
  have q2 : (w.alloc (.cells #[.int .u8 0, .int .u8 0, .int .u8 0, .int .u8 0] 23)).cell? ⟨w.heap.size, 2, none⟩ = some (.int .u8 0) := by go_simp
  have q3 : (w.alloc (.cells #[.int .u8 0, .int .u8 0, .int .u8 0, .int .u8 0] 23)).cell? ⟨w.heap.size, 3, none⟩ = some (.int .u8 0) := by go_simp
  have p0 : (w.alloc (.cells #[.int .u8 0, .int .u8 0, .int .u8 0, .int .u8 0] 23)).frozen? ⟨w.heap.size, 0, none⟩ = false := by go_simp
  have p1 : (w.alloc (.cells #[.int .u8 0, .int .u8 0, .int .u8 0, .int .u8 0] 23)).frozen? ⟨w.heap.size, 1, none⟩ = false := by go_simp
  have p2 : (w.alloc (.cells #[.int .u8 0, .int .u8 0, .int .u8 0, .int .u8 0] 23)).frozen? ⟨w.heap.size, 2, none⟩ = false := by go_simp
  have p3 : (w.alloc (.cells #[.int .u8 0, .int .u8 0, .int .u8 0, .int .u8 0] 23)).frozen? ⟨w.heap.size, 3, none⟩ = false := by go_simp
  have hb2 := hb0
  by_cases h9 : n = 9
  case neg =>
    have hpn : Hid (parC l = none) := parC_len (by rw [hn]; exact h9)
    have h9b : ¬ (n : Int) = 9 := by omega
    clear hS hsz0 hl hn
    go_enter Try.func20, Try.ntmps20
    go_wp2
    refine bodyPost_ret (v := .tuple #[.agg #[.int .u8 0, .int .u8 0, .int .u8 0, .int .u8 0], .int .i64 3]) (by simp [results, Try.results20, go_sem, *]) rfl ?_
    exact ⟨.inl ⟨hpn.out, rfl⟩, by (repeat (first | with_reducible exact hb2 | with_reducible apply Below.drew | (with_reducible refine Below.setCell ?_ (by first | (simp; done) | (simp; omega) | omega) _)))⟩
  subst h9
  obtain ⟨h, t, hlt, htl⟩ : ∃ h t, l = h :: t ∧ t.length = 8 := by
    rcases l with _ | ⟨h, t⟩
    · simp at hn
    · exact ⟨h, t, rfl, by rw [List.length_cons] at hn; omega⟩
  have hps : 0 < S.size := by omega
  have gp := str_get hS 0 hps (by omega)
  obtain ⟨x, hx⟩ : ∃ x, h.toNat = x := ⟨_, rfl⟩
  have hgp : (S[0]'hps).toNat = x := by
    rw [gp, ← hx]
    congr 1
    simp [hlt]
  have HL := Lib.hid hlt
  have HX := Lib.hid hx
  obtain ⟨T, hT⟩ : ∃ T, S.extract 1 9 = T := ⟨_, rfl⟩
  have hTd : Hid (T.data.toList = t) := by
    show _ = _
    rw [← hT, Lib.extract_data, hS, hlt]
    simp [List.take_of_length_le, htl]
  have HTL := Lib.hid htl
  clear hsz0 hl hn gp hx hlt htl
  by_cases h35 : x = 35
  case neg =>
    have hpn : Hid (parC l = none) := by
      show _ = _
      rw [HL.out]
      unfold parC
      simp only
      rw [if_neg (by intro e; apply h35; rw [← HX.out, e]; rfl)]
    have h35b : ¬ (x : Int) = 35 := by omega
    have h35c : ((x : Int) != 35) = true := by rw [bne_iff_ne]; exact h35b
    clear hS
    go_enter Try.func20, Try.ntmps20
    go_wp2
    refine bodyPost_ret (v := .tuple #[.agg #[.int .u8 0, .int .u8 0, .int .u8 0, .int .u8 0], .int .i64 3]) (by simp [results, Try.results20, go_sem, *]) rfl ?_
    exact ⟨.inl ⟨hpn.out, rfl⟩, by (repeat (first | with_reducible exact hb2 | with_reducible apply Below.drew | (with_reducible refine Below.setCell ?_ (by first | (simp; done) | (simp; omega) | omega) _)))⟩
  subst h35
  have hh : h = 35 := UInt8.toNat_inj.1 HX.out
  clear hS
  cases hd : decL t with
  | none =>
    have hpn : Hid (parC l = none) := by show _ = _; rw [HL.out, hh]; simp [parC, hd]
    have HD := Lib.hid (fun W => rhexdec_none T t W hTd.out (by rw [HTL.out]; omega) hd)
    clear hd
    go_enter Try.func20, Try.ntmps20
    go_wp2_with (go_at_call 40; (with_reducible refine (HD.out _).mono ?_); rintro e w2 ⟨rfl, hb2'⟩; have k0 := bcs hb2' q0; have k1 := bcs hb2' q1; have k2 := bcs hb2' q2; have k3 := bcs hb2' q3; have g0 := bfs hb2' q0 p0; have g1 := bfs hb2' q1 p1; have g2 := bfs hb2' q2 p2; have g3 := bfs hb2' q3 p3; have lt2 := qlt k0; have hb2 := hb0.trans (hb2'.mono hz0); have hz2 := hb2.size; clear hb2')
    refine bodyPost_ret (v := .tuple #[.agg #[.int .u8 0, .int .u8 0, .int .u8 0, .int .u8 0], .int .i64 3]) (by simp [results, Try.results20, go_sem, *]) rfl ?_
    exact ⟨.inl ⟨hpn.out, rfl⟩, by (repeat (first | with_reducible exact hb2 | with_reducible apply Below.drew | (with_reducible refine Below.setCell ?_ (by first | (simp; done) | (simp; omega) | omega) _)))⟩
  | some xs =>
    have h1 := dec_len _ t xs (Nat.le_refl _) hd
    obtain ⟨x, y, z, u, rfl⟩ := four (l := xs) (by have := HTL.out; omega)
    have HD := Lib.hid (fun W => rhexdec_some T t [x, y, z, u] W hTd.out (by rw [HTL.out]; omega) hd)
    have hps4 : Hid (parC l = some [x, y, z, u]) := by show _ = _; rw [HL.out, hh]; simp [parC, hd]
    clear hd h1
    go_enter Try.func20, Try.ntmps20
    go_wp2_with (go_at_call 40; (with_reducible refine (HD.out _).mono ?_); rintro e w2 ⟨a, c, rfl, hown, hb2'⟩; obtain ⟨g, rfl, hg⟩ := own_form hown (by simp); have m0 := own_cell hown 0 _ rfl; have m1 := own_cell hown 1 _ rfl; have m2 := own_cell hown 2 _ rfl; have m3 := own_cell hown 3 _ rfl; have hg2 : ¬ g = w.heap.size := (by have e9 : (w.alloc (.cells #[.int .u8 0, .int .u8 0, .int .u8 0, .int .u8 0] 23)).heap.size = w.heap.size + 1 := Array.size_push _; omega); have hg3 : ¬ w.heap.size = g := (fun h => hg2 h.symm); clear hown; have k0 := bcs hb2' q0; have k1 := bcs hb2' q1; have k2 := bcs hb2' q2; have k3 := bcs hb2' q3; have g0 := bfs hb2' q0 p0; have g1 := bfs hb2' q1 p1; have g2 := bfs hb2' q2 p2; have g3 := bfs hb2' q3 p3; have lt2 := qlt k0; have hb2 := hb0.trans (hb2'.mono hz0); have hz2 := hb2.size; clear hb2')
    go_still_tail 13, (by kernel_rfl)
    go_wp2
    refine bodyPost_ret (v := .tuple #[.agg #[.int .u8 x.toNat, .int .u8 y.toNat, .int .u8 z.toNat, .int .u8 u.toNat], .int .i64 0]) (by simp [results, Try.results20, go_sem, *]) rfl ?_
    exact ⟨.inr ⟨x, y, z, u, hps4.out, rfl⟩, by (repeat (first | with_reducible exact hb2 | with_reducible apply Below.drew | (with_reducible refine Below.setCell ?_ (by first | (simp; done) | (simp; omega) | omega) _)))⟩
set_option maxRecDepth 50000 in
set_option maxHeartbeats 4000000 in
theorem PaE.some {l : List UInt8} {x y z u : UInt8} {e : Ending} (h : PaE l e) (hp : parC l = some [x, y, z, u]) : e = .returned (.tuple #[c4 x y z u, .int .i64 0]) := by
  rcases h with ⟨h1, _⟩ | ⟨a, b, c, d, h1, h2⟩
  · rw [hp] at h1; cases h1
  · rw [hp] at h1
    cases h1
    exact h2
theorem PaE.none {l : List UInt8} {e : Ending} (h : PaE l e) (hp : parC l = none) : e = .returned (.tuple #[c4 0 0 0 0, .int .i64 3]) := by
  rcases h with ⟨h1, h2⟩ | ⟨a, b, c, d, h1, h2⟩
  · exact h2
  · rw [hp] at h1; cases h1
theorem parC_fmt (x y z u : UInt8) : parC (fmtL x y z u) = some [x, y, z, u] := by
  unfold fmtL parC
  simp only [if_true]
  rw [dec_enc]
  rfl
theorem fmt_parC {l : List UInt8} {x y z u : UInt8} (h : parC l = some [x, y, z, u]) : fmtL x y z u = l := by
  cases l with
  | nil => cases h
  | cons c t =>
    unfold parC at h
    by_cases hc : c = 35
    · subst hc
      simp only [if_true] at h
      cases hd : decL t with
      | none => rw [hd] at h; cases h
      | some xs =>
        rw [hd] at h
        simp only [Option.bind_some] at h
        by_cases h4 : xs.length = 4
        · rw [if_pos h4] at h
          cases h
          unfold fmtL
          rw [enc_dec _ t _ (Nat.le_refl _) hd]
        · rw [if_neg h4] at h; cases h
    · simp only [hc, if_false] at h
      cases h
theorem fmtL_len (x y z u : UInt8) : (fmtL x y z u).length = 9 := by
  unfold fmtL
  rw [List.length_cons, encL_len]
  rfl
end Go.Proofs.Ytfaiogomhjmhhaa
