
import Derived.Test.YtmelfdajhnbnlaaHr
import Derived.Test.YtmelfdajhnbnlaaEnv
import Derived.Deep.RegionHeld3
import Derived.StillTailTactics
import Derived.WalkKit
import Derived.WalkSpells
import Derived.WalkLawsBesides
import Derived.Lib.Hide
import Derived.Below
import Derived.Deep.QuietTactic
import Derived.BigQuiet
import Derived.IntWalk
import Derived.Laws.BitsAllLaws
namespace Go.Proofs.Ytmelfdajhnbnlaa
open Go.RowKit
set_option linter.unusedVariables false
set_option linter.unusedSimpArgs false
/-- The bytes of a color. -/
def c4 (x y z t : UInt8) : Value := .agg #[.int .u8 x.toNat, .int .u8 y.toNat, .int .u8 z.toNat, .int .u8 t.toNat]
def fmtL (x y z t : UInt8) : List UInt8 := 35 :: encL [x, y, z, t]
theorem row4 (x y z t : UInt8) (w : World) : RdV (w.alloc (.cells #[.int .u8 x.toNat, .int .u8 y.toNat, .int .u8 z.toNat, .int .u8 t.toNat] 5)) (some ⟨w.heap.size, 0, none⟩) (Lib.byteCells [x, y, z, t]) :=
  own_vals (own_made w #[.int .u8 x.toNat, .int .u8 y.toNat, .int .u8 z.toNat, .int .u8 t.toNat] 5 4 rfl (by unfold maxLen; omega))
theorem enc4 (x y z t : UInt8) (w : World) : Calls Try.prog 17 #[.slice (some ⟨w.heap.size, 0, none⟩) 4 4] (w.alloc (.cells #[.int .u8 x.toNat, .int .u8 y.toNat, .int .u8 z.toNat, .int .u8 t.toNat] 5)) fun e w' => e = .returned (.string ⟨(encL [x, y, z, t]).toArray⟩) ∧ Below w.heap.size w w' := by
  refine (hexenc_any [x, y, z, t] _ 4 _ (row4 x y z t w) (by simp)).mono ?_
  rintro e w' ⟨rfl, hb⟩
  have ha := Below.alloc (Below.refl w.heap.size w) (Nat.le_refl _) (.cells #[.int .u8 x.toNat, .int .u8 y.toNat, .int .u8 z.toNat, .int .u8 t.toNat] 5)
  exact ⟨rfl, ha.trans (hb.mono ha.size)⟩
set_option maxRecDepth 50000 in
set_option maxHeartbeats 2000000 in
theorem format_any (x y z t : UInt8) (w : World) : Calls Try.prog 10 #[c4 x y z t] w fun e w' => e = .returned (.string ⟨(fmtL x y z t).toArray⟩) ∧ Below w.heap.size w w' := by
  obtain ⟨T, hT⟩ : ∃ T : ByteArray, (⟨(encL [x, y, z, t]).toArray⟩ : ByteArray) = T := ⟨_, rfl⟩
  have hTs : T.size = 8 := by rw [← hT]; exact encL_len _
  have e1 : (w.alloc (.cells #[.int .u8 x.toNat, .int .u8 y.toNat, .int .u8 z.toNat, .int .u8 t.toNat] 23)).heap.size = w.heap.size + 1 := Array.size_push _
  have he := enc4 x y z t (w.alloc (.cells #[.int .u8 x.toNat, .int .u8 y.toNat, .int .u8 z.toNat, .int .u8 t.toNat] 23))
  rw [hT, e1] at he
  have HE := Lib.hid he
  clear he e1
  have hres : Hid ((⟨(fmtL x y z t).toArray⟩ : ByteArray) = ⟨#[35]⟩ ++ T) := by
    show _ = _
    rw [← hT]
    apply data_inj
    rw [cat_data]
    rfl
  have hb0 := Below.alloc (Below.refl w.heap.size w) (Nat.le_refl _) (.cells #[.int .u8 x.toNat, .int .u8 y.toNat, .int .u8 z.toNat, .int .u8 t.toNat] 23)
  unfold c4
  clear hT
  go_enter Try.func10, Try.ntmps10
  go_wp2_with (go_at_call 17; go_loud ((with_reducible refine HE.out.mono ?_); rintro e w2 ⟨rfl, hb2'⟩; have hb2 := hb0.trans (hb2'.mono (Nat.le_succ _))))
  go_ret
  exact ⟨by rw [hres.out]; rfl, hb2⟩
def parC (s : List UInt8) : Option (List UInt8) := match s with
  | [] => none
  | h :: t => if h = 35 then (decL t).bind fun l => if l.length = 4 then some l else none else none
/-- What Parse answers. -/
def PaE (s : List UInt8) (e : Ending) : Prop :=
  (parC s = none ∧ e = .returned (.tuple #[c4 0 0 0 0, .int .i64 3])) ∨
  (∃ x y z t : UInt8, parC s = some [x, y, z, t] ∧ e = .returned (.tuple #[c4 x y z t, .int .i64 0]))
theorem four {l : List UInt8} (h : l.length = 4) : ∃ x y z t, l = [x, y, z, t] := by
  rcases l with _ | ⟨x, _ | ⟨y, _ | ⟨z, _ | ⟨t, _ | ⟨u, l⟩⟩⟩⟩⟩
  · simp at h
  · simp at h
  · simp at h
  · simp at h
  · exact ⟨x, y, z, t, rfl⟩
  · simp at h
theorem cut_data (l : List UInt8) : (Lib.hasPrefix l [35] = true ∧ ∃ t, l = 35 :: t ∧ Lib.trimPrefix l [35] = t) ∨ (Lib.hasPrefix l [35] = false ∧ parC l = none ∧ Lib.trimPrefix l [35] = l) := by
  cases l with
  | nil => exact .inr ⟨rfl, rfl, rfl⟩
  | cons h t =>
    by_cases h35 : h = 35
    · subst h35
      refine .inl ⟨by simp [Lib.hasPrefix], t, rfl, ?_⟩
      simp [Lib.trimPrefix, Lib.hasPrefix]
    · have hp : Lib.hasPrefix (h :: t) [35] = false := by simp [Lib.hasPrefix, List.isPrefixOf, Ne.symm h35]
      refine .inr ⟨hp, by simp [parC, h35], ?_⟩
      unfold Lib.trimPrefix
      rw [hp]
      rfl
theorem hexdec_none (S : ByteArray) (l : List UInt8) (w : World) (hS : S.data.toList = l) (hl : l.length ≤ 140737488355328) (hd : decL l = none) :
    Calls Try.prog 13 #[.string S] w fun e w' => e = .returned (.tuple #[.slice none 0 0, .int .i64 3]) ∧ Below w.heap.size w w' := by
  refine (hexdec_any S l w hS hl).mono ?_
  rintro e w' ⟨⟨_, h⟩ | ⟨xs, a, c, h, _⟩, hb⟩
  · exact ⟨h, hb⟩
  · rw [hd] at h; cases h
theorem hexdec_some (S : ByteArray) (l xs : List UInt8) (w : World) (hS : S.data.toList = l) (hl : l.length ≤ 140737488355328) (hd : decL l = some xs) :
    Calls Try.prog 13 #[.string S] w fun e w' => ∃ (a : Option Addr) (c : Nat), e = .returned (.tuple #[.slice a xs.length c, .int .i64 0]) ∧ w'.ownsRow w.heap.size 5 1 (.slice a xs.length c) xs.length (Lib.byteCells xs) ∧ Below w.heap.size w w' := by
  refine (hexdec_any S l w hS hl).mono ?_
  rintro e w' ⟨⟨h, _⟩ | ⟨ys, a, c, h, h2, h3⟩, hb⟩
  · rw [hd] at h; cases h
  · rw [hd] at h
    cases h
    exact ⟨a, c, h2, h3, hb⟩
set_option maxRecDepth 50000 in
set_option maxHeartbeats 4000000 in
theorem parse_any (S : ByteArray) (l : List UInt8) (w : World) (hS : S.data.toList = l) (hl : l.length ≤ 140737488355328) :
    Calls Try.prog 8 #[.string S] w fun e w' => PaE l e ∧ Below w.heap.size w w' := by
  have hcp := Try.strings_CutPrefix S ⟨#[35]⟩ (w.alloc (.cells #[.int .u8 0, .int .u8 0, .int .u8 0, .int .u8 0] 23))
  change Calls Try.prog 12 #[.string S, .string ⟨#[35]⟩] _ (fun e w' => e = .returned (.tuple #[.string ⟨(Lib.trimPrefix S.data.toList [35]).toArray⟩, .bool (Lib.hasPrefix S.data.toList [35])]) ∧ w' = _) at hcp
  rw [hS] at hcp
  have hb0 := Below.alloc (Below.refl w.heap.size w) (Nat.le_refl _) (.cells #[.int .u8 0, .int .u8 0, .int .u8 0, .int .u8 0] 23)
  have hz0 := hb0.size
  have q0 : (w.alloc (.cells #[.int .u8 0, .int .u8 0, .int .u8 0, .int .u8 0] 23)).cell? ⟨w.heap.size, 0, none⟩ = some (.int .u8 0) := by go_simp
  have q1 : (w.alloc (.cells #[.int .u8 0, .int .u8 0, .int .u8 0, .int .u8 0] 23)).cell? ⟨w.heap.size, 1, none⟩ = some (.int .u8 0) := by go_simp
  have q2 : (w.alloc (.cells #[.int .u8 0, .int .u8 0, .int .u8 0, .int .u8 0] 23)).cell? ⟨w.heap.size, 2, none⟩ = some (.int .u8 0) := by go_simp
  have q3 : (w.alloc (.cells #[.int .u8 0, .int .u8 0, .int .u8 0, .int .u8 0] 23)).cell? ⟨w.heap.size, 3, none⟩ = some (.int .u8 0) := by go_simp
  have p0 : (w.alloc (.cells #[.int .u8 0, .int .u8 0, .int .u8 0, .int .u8 0] 23)).frozen? ⟨w.heap.size, 0, none⟩ = false := by go_simp
  have p1 : (w.alloc (.cells #[.int .u8 0, .int .u8 0, .int .u8 0, .int .u8 0] 23)).frozen? ⟨w.heap.size, 1, none⟩ = false := by go_simp
  have p2 : (w.alloc (.cells #[.int .u8 0, .int .u8 0, .int .u8 0, .int .u8 0] 23)).frozen? ⟨w.heap.size, 2, none⟩ = false := by go_simp
  have p3 : (w.alloc (.cells #[.int .u8 0, .int .u8 0, .int .u8 0, .int .u8 0] 23)).frozen? ⟨w.heap.size, 3, none⟩ = false := by go_simp
  rcases cut_data l with ⟨h1, t, h2, h3⟩ | ⟨h1, h2, h3⟩
  · rw [h1, h3] at hcp
    obtain ⟨T, hT⟩ : ∃ T : ByteArray, (⟨t.toArray⟩ : ByteArray) = T := ⟨_, rfl⟩
    have hTd : T.data.toList = t := by rw [← hT]
    rw [hT] at hcp
    have HC := Lib.hid hcp
    have htl : t.length ≤ 140737488355328 := by rw [h2, List.length_cons] at hl; omega
    have HTD := Lib.hid hTd
    have HL := Lib.hid h2
    clear hcp hS hl h1 h2 h3 hT hTd
    cases hd : decL t with
    | none =>
      have hpn : Hid (parC l = none) := by show _ = _; rw [HL.out]; simp [parC, hd]
      have HD := Lib.hid (fun W => hexdec_none T t W HTD.out htl hd)
      clear hd
      go_enter Try.func8, Try.ntmps8
      go_wp2_with (first | (go_at_call 12; (with_reducible refine HC.out.mono ?_); rintro e w1 ⟨rfl, rfl⟩) | (go_at_call 13; (with_reducible refine (HD.out _).mono ?_); rintro e w2 ⟨rfl, hb2'⟩; have k0 := bcs hb2' q0; have k1 := bcs hb2' q1; have k2 := bcs hb2' q2; have k3 := bcs hb2' q3; have g0 := bfs hb2' q0 p0; have g1 := bfs hb2' q1 p1; have g2 := bfs hb2' q2 p2; have g3 := bfs hb2' q3 p3; have lt2 := qlt k0; have hb2 := hb0.trans (hb2'.mono hz0); have hz2 := hb2.size; clear hb2'))
      refine bodyPost_ret (v := .tuple #[.agg #[.int .u8 0, .int .u8 0, .int .u8 0, .int .u8 0], .int .i64 3]) (by simp [results, Try.results8, go_sem, *]) rfl ?_
      exact ⟨.inl ⟨hpn.out, rfl⟩, by (repeat (first | with_reducible exact hb2 | with_reducible apply Below.drew | (with_reducible refine Below.setCell ?_ (by first | (simp; done) | (simp; omega) | omega) _)))⟩
    | some xs =>
      have HD := Lib.hid (fun W => hexdec_some T t xs W HTD.out htl hd)
      obtain ⟨m, hm⟩ : ∃ m, xs.length = m := ⟨_, rfl⟩
      by_cases h4 : m = 4
      · obtain ⟨x, y, z, u, rfl⟩ := four (hm.trans h4)
        have hps : Hid (parC l = some [x, y, z, u]) := by show _ = _; rw [HL.out]; simp [parC, hd]
        clear hd hm h4
        go_enter Try.func8, Try.ntmps8
        go_wp2_with (first | (go_at_call 12; (with_reducible refine HC.out.mono ?_); rintro e w1 ⟨rfl, rfl⟩) | (go_at_call 13; (with_reducible refine (HD.out _).mono ?_); rintro e w2 ⟨a, c, rfl, hown, hb2'⟩; obtain ⟨g, rfl, hg⟩ := own_form hown (by simp); have m0 := own_cell hown 0 _ rfl; have m1 := own_cell hown 1 _ rfl; have m2 := own_cell hown 2 _ rfl; have m3 := own_cell hown 3 _ rfl; have hg2 : ¬ g = w.heap.size := (by have e9 : (w.alloc (.cells #[.int .u8 0, .int .u8 0, .int .u8 0, .int .u8 0] 23)).heap.size = w.heap.size + 1 := Array.size_push _; omega); have hg3 : ¬ w.heap.size = g := (fun h => hg2 h.symm); clear hown; have k0 := bcs hb2' q0; have k1 := bcs hb2' q1; have k2 := bcs hb2' q2; have k3 := bcs hb2' q3; have g0 := bfs hb2' q0 p0; have g1 := bfs hb2' q1 p1; have g2 := bfs hb2' q2 p2; have g3 := bfs hb2' q3 p3; have lt2 := qlt k0; have hb2 := hb0.trans (hb2'.mono hz0); have hz2 := hb2.size; clear hb2'))
        go_still_tail 13, (by kernel_rfl)
        go_wp2
        refine bodyPost_ret (v := .tuple #[.agg #[.int .u8 x.toNat, .int .u8 y.toNat, .int .u8 z.toNat, .int .u8 u.toNat], .int .i64 0]) (by simp [results, Try.results8, go_sem, *]) rfl ?_
        exact ⟨.inr ⟨x, y, z, u, hps.out, rfl⟩, by (repeat (first | with_reducible exact hb2 | with_reducible apply Below.drew | (with_reducible refine Below.setCell ?_ (by first | (simp; done) | (simp; omega) | omega) _)))⟩
      · have hpn : Hid (parC l = none) := by show _ = _; rw [HL.out]; simp [parC, hd, hm, h4]
        have h4b : ¬ (m : Int) = 4 := by omega
        rw [hm] at HD
        clear hd hm
        go_enter Try.func8, Try.ntmps8
        go_wp2_with (first | (go_at_call 12; (with_reducible refine HC.out.mono ?_); rintro e w1 ⟨rfl, rfl⟩) | (go_at_call 13; (with_reducible refine (HD.out _).mono ?_); rintro e w2 ⟨a, c, rfl, hown, hb2'⟩; have k0 := bcs hb2' q0; have k1 := bcs hb2' q1; have k2 := bcs hb2' q2; have k3 := bcs hb2' q3; have g0 := bfs hb2' q0 p0; have g1 := bfs hb2' q1 p1; have g2 := bfs hb2' q2 p2; have g3 := bfs hb2' q3 p3; have lt2 := qlt k0; have hb2 := hb0.trans (hb2'.mono hz0); have hz2 := hb2.size; clear hb2'))
        refine bodyPost_ret (v := .tuple #[.agg #[.int .u8 0, .int .u8 0, .int .u8 0, .int .u8 0], .int .i64 3]) (by simp [results, Try.results8, go_sem, *]) rfl ?_
        exact ⟨.inl ⟨hpn.out, rfl⟩, by (repeat (first | with_reducible exact hb2 | with_reducible apply Below.drew | (with_reducible refine Below.setCell ?_ (by first | (simp; done) | (simp; omega) | omega) _)))⟩
  · rw [h1, h3, ← eq_arr hS] at hcp
    have HC := Lib.hid hcp
    have HP := Lib.hid h2
    cases hd : decL l with
    | none =>
      have HD := Lib.hid (fun W => hexdec_none S l W hS hl hd)
      clear hcp hS hl h1 h2 h3 hd
      go_enter Try.func8, Try.ntmps8
      go_wp2_with (first | (go_at_call 12; (with_reducible refine HC.out.mono ?_); rintro e w1 ⟨rfl, rfl⟩) | (go_at_call 13; (with_reducible refine (HD.out _).mono ?_); rintro e w2 ⟨rfl, hb2'⟩; have k0 := bcs hb2' q0; have k1 := bcs hb2' q1; have k2 := bcs hb2' q2; have k3 := bcs hb2' q3; have g0 := bfs hb2' q0 p0; have g1 := bfs hb2' q1 p1; have g2 := bfs hb2' q2 p2; have g3 := bfs hb2' q3 p3; have lt2 := qlt k0; have hb2 := hb0.trans (hb2'.mono hz0); have hz2 := hb2.size; clear hb2'))
      refine bodyPost_ret (v := .tuple #[.agg #[.int .u8 0, .int .u8 0, .int .u8 0, .int .u8 0], .int .i64 3]) (by simp [results, Try.results8, go_sem, *]) rfl ?_
      exact ⟨.inl ⟨HP.out, rfl⟩, by (repeat (first | with_reducible exact hb2 | with_reducible apply Below.drew | (with_reducible refine Below.setCell ?_ (by first | (simp; done) | (simp; omega) | omega) _)))⟩
    | some xs =>
      have HD := Lib.hid (fun W => hexdec_some S l xs W hS hl hd)
      clear hcp hS hl h1 h2 h3 hd
      go_enter Try.func8, Try.ntmps8
      go_wp2_with (first | (go_at_call 12; (with_reducible refine HC.out.mono ?_); rintro e w1 ⟨rfl, rfl⟩) | (go_at_call 13; (with_reducible refine (HD.out _).mono ?_); rintro e w2 ⟨a, c, rfl, hown, hb2'⟩; have k0 := bcs hb2' q0; have k1 := bcs hb2' q1; have k2 := bcs hb2' q2; have k3 := bcs hb2' q3; have g0 := bfs hb2' q0 p0; have g1 := bfs hb2' q1 p1; have g2 := bfs hb2' q2 p2; have g3 := bfs hb2' q3 p3; have lt2 := qlt k0; have hb2 := hb0.trans (hb2'.mono hz0); have hz2 := hb2.size; clear hb2'))
      refine bodyPost_ret (v := .tuple #[.agg #[.int .u8 0, .int .u8 0, .int .u8 0, .int .u8 0], .int .i64 3]) (by simp [results, Try.results8, go_sem, *]) rfl ?_
      exact ⟨.inl ⟨HP.out, rfl⟩, by (repeat (first | with_reducible exact hb2 | with_reducible apply Below.drew | (with_reducible refine Below.setCell ?_ (by first | (simp; done) | (simp; omega) | omega) _)))⟩
end Go.Proofs.Ytmelfdajhnbnlaa
