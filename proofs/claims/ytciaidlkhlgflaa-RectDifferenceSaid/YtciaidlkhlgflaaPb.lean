import Derived.Test.YtciaidlkhlgflaaPa
import Derived.Laws.MakeOwn
namespace Go.Proofs.Ytciaidlkhlgflaa
open Go.RowKit
set_option linter.unusedVariables false
set_option linter.unusedSimpArgs false
theorem info_rc : (Try.prog.info? 23).map (fun i => (i.zero, i.size, i.bytes)) = some (some (.agg #[.int .i64 0, .int .i64 0, .int .i64 0, .int .i64 0]), 4, 32) := by kernel_rfl
theorem info_sh : (Try.prog.info? 57).map (fun i => (i.zero, i.size, i.bytes)) = some (some (.agg #[.int .i64 0, .int .i64 0, .int .i64 0]), 3, 24) := by kernel_rfl
theorem info_sh2 : (Try.prog.info? 62).map (fun i => (i.zero, i.size, i.bytes)) = some (some (.agg #[.int .i64 0, .int .i64 0, .int .i64 0]), 3, 24) := by kernel_rfl
theorem one3 (s : Int × Int × Int) : ∀ u ∈ shV s, u.oneCell' = true := by
  intro u hu; simp [shV] at hu; rcases hu with rfl | rfl | rfl <;> rfl
theorem one4 (s : Int × Int × Int × Int) : ∀ u ∈ rcV s, u.oneCell' = true := by
  intro u hu; simp [rcV] at hu; rcases hu with rfl | rfl | rfl | rfl <;> rfl
/-- The two rows that packing makes: shelves of type T, rectangles. -/
def Two (T : TypeId) (w wr : World) (vs vp : Value) (sh : List (Int × Int × Int)) (acc : List (Int × Int × Int × Int)) : Prop :=
  wr.ownsRow w.heap.size T 3 vs sh.length (Cl shV sh) ∧ wr.ownsRow w.heap.size 23 4 vp acc.length (Cl rcV acc) ∧ Below w.heap.size w wr
section
variable {T : TypeId} {w wr w' : World} {vs vp : Value} {sh : List (Int × Int × Int)} {acc : List (Int × Int × Int × Int)}
theorem Two.below (h : Two T w wr vs vp sh acc) (hb : Below wr.heap.size wr w') : Two T w w' vs vp sh acc := ⟨own_keep h.1 hb, own_keep h.2.1 hb, h.2.2.trans (hb.mono h.2.2.size)⟩
theorem Two.alloc (h : Two T w wr vs vp sh acc) (o : Obj) : Two T w (wr.alloc o) vs vp sh acc := h.below (Below.alloc (Below.refl _ _) (Nat.le_refl _) o)
theorem Two.drewN (h : Two T w wr vs vp sh acc) (n : Nat) : Two T w (wr.drewN n) vs vp sh acc := h.below (below_drewN (Below.refl _ _) n)
theorem Two.onShelf (h : Two T w wr vs vp sh acc) (hT : T ≠ 23) {vs' : Value} {sh' : List (Int × Int × Int)} (ho : w'.ownsRow w.heap.size T 3 vs' sh'.length (Cl shV sh')) (hb : Below w.heap.size wr w') (hg : wr.grownBy w' vs.ownBlock) : Two T w w' vs' vp sh' acc :=
  ⟨ho, own_kept2 h.2.1 h.1 (fun e => hT e.symm) hg, h.2.2.trans hb⟩
theorem Two.onRect (h : Two T w wr vs vp sh acc) (hT : T ≠ 23) {vp' : Value} {acc' : List (Int × Int × Int × Int)} (ho : w'.ownsRow w.heap.size 23 4 vp' acc'.length (Cl rcV acc')) (hb : Below w.heap.size wr w') (hg : wr.grownBy w' vp.ownBlock) : Two T w w' vs vp' sh acc' :=
  ⟨own_kept2 h.1 h.2.1 hT hg, ho, h.2.2.trans hb⟩
theorem Two.put {ad : Addr} {c : Nat} (h : Two T w wr (.slice (some ad) sh.length c) vp sh acc) (hT : T ≠ 23) {i : Nat} (hi : i < sh.length) {y : Int × Int × Int} {u : Value} (he : shV y = (shV sh[i]).set 2 u) :
    Two T w (wr.setCell ⟨(ad.add (i * 3)).block, (ad.add (i * 3)).off + 2, none⟩ u) (.slice (some ad) sh.length c) vp (sh.set i y) acc := by
  obtain ⟨h1, h2⟩ := own_put shV_len h.1 i hi 2 (by omega) u y he
  have hB := (h.1.lt ad.block rfl).1
  refine ⟨by rw [List.length_set]; exact h1, own_kept2 h.2.1 h.1 (fun e => hT e.symm) h2, h.2.2.setCell (by show _ ≤ (ad.add (i * 3)).block; rw [block_add]; exact hB) u⟩
end
def packR (q h : Int) (l : List (Int × Int)) : Option (List (Int × Int × Int × Int)) := if (sideB q && sideB h && decide (l.length ≤ 1024)) = true then packL q h [] 0 l else none
def PkPost (w : World) (r : Option (List (Int × Int × Int × Int))) (e : Ending) (w' : World) : Prop :=
  ∃ a c, e = .returned (.tuple #[.slice a (r.getD []).length c, .bool r.isSome]) ∧ w'.ownsRow w.heap.size 23 4 (.slice a (r.getD []).length c) (r.getD []).length (Cl rcV (r.getD [])) ∧ Below w.heap.size w w'
theorem PkPost.no {w w' : World} {r : Option (List (Int × Int × Int × Int))} (hr : r = none) (hb : Below w.heap.size w w') : PkPost w r (.returned (.tuple #[.slice none 0 0, .bool false])) w' := by
  subst hr
  exact ⟨none, 0, rfl, World.ownsRow_nil _ _ _ _, hb⟩
def PkRel (T : TypeId) (w : World) (q h : Int) (l : List (Int × Int)) (vs vp vb vi : Value) (wr : World) : Prop :=
  ∃ (k : Nat) (sh : List (Int × Int × Int)) (acc : List (Int × Int × Int × Int)) (b : Int), k ≤ l.length ∧ vi = .int .i64 k ∧ vb = .int .i64 b ∧ Two T w wr vs vp sh acc ∧ SOk b sh ∧ acc.length = k ∧ sh.length ≤ k ∧ Hid (packL q h [] 0 l = (packL q h sh b (l.drop k)).map (acc ++ ·))
theorem okP_iff (q x y : Int) : okP q (x, y) = true ↔ sideB x = true ∧ sideB y = true ∧ x ≤ q := by simp [okP, and_assoc]
set_option maxRecDepth 50000 in
set_option maxHeartbeats 4000000 in
theorem pack_any (a : Option Addr) (n c : Nat) (q h : Int) (l : List (Int × Int)) (w : World) (hn : l.length = n) (hr : RS 2 ptV w a l) :
    Calls Try.prog 22 #[.int .i64 q, .int .i64 h, .slice a n c] w (PkPost w (packR q h l)) := by
  subst hn
  have v1 := fun W => vside_any q W
  have v2 := fun W => vside_any h W
  cases e1 : sideB q
  · rw [e1] at v1
    go_enter Try.func22, Try.ntmps22
    go_wp2_with (go_at_call 32; go_loud (first | ((with_reducible refine (v1 _).mono ?_); rintro e w1 ⟨rfl, rfl⟩) | ((with_reducible refine (v2 _).mono ?_); rintro e w1 ⟨rfl, rfl⟩)))
    go_ret2
    exact PkPost.no (by simp [packR, e1]) (Below.refl _ _)
  rw [e1] at v1
  cases e2 : sideB h
  · rw [e2] at v2
    go_enter Try.func22, Try.ntmps22
    go_wp2_with (go_at_call 32; go_loud (first | ((with_reducible refine (v1 _).mono ?_); rintro e w1 ⟨rfl, rfl⟩) | ((with_reducible refine (v2 _).mono ?_); rintro e w1 ⟨rfl, rfl⟩)))
    go_ret2
    exact PkPost.no (by simp [packR, e2]) (Below.refl _ _)
  rw [e2] at v2
  by_cases e3 : l.length ≤ 1024
  case neg =>
    go_enter Try.func22, Try.ntmps22
    go_wp2_with (go_at_call 32; go_loud (first | ((with_reducible refine (v1 _).mono ?_); rintro e w1 ⟨rfl, rfl⟩) | ((with_reducible refine (v2 _).mono ?_); rintro e w1 ⟨rfl, rfl⟩)))
    go_ret2
    exact PkPost.no (by simp [packR, e3]) (Below.refl _ _)
  have hpr := Lib.hid (show packR q h l = packL q h [] 0 l by simp [packR, e1, e2, e3])
  obtain ⟨hq0, hq1⟩ := (sideB_iff q).1 e1
  obtain ⟨hh0, hh1⟩ := (sideB_iff h).1 e2
  obtain ⟨i0, hi, hz0, hz1, hz2⟩ := info_parts info_rc
  obtain ⟨w1, hmk, hown0, hg0⟩ := run_make_own (P := Try.prog) w w.heap.size 25 23 i0 (.agg #[.int .i64 0, .int .i64 0, .int .i64 0, .int .i64 0]) 4 Try.underlying25 hi hz0 hz1 .i64 .i64 l.length (by rw [hz2]; omega) (by unfold maxLen; omega) (Nat.le_refl _)
  have hb0 : Below w.heap.size w w1 := (Below.refl _ w).grown hg0 (Nat.le_refl _) (fun q hq => by cases hq)
  have htw : Two 57 w w1 (.slice none 0 0) (.slice (some ⟨w.heap.size, 0, none⟩) 0 l.length) [] [] := ⟨World.ownsRow_nil _ _ _ _, hown0, hb0⟩
  clear hi hz0 hz1 hz2 e1 e2 hown0 hg0
  go_enter Try.func22, Try.ntmps22
  go_wp2_with (go_at_call 32; go_loud (first | ((with_reducible refine (v1 _).mono ?_); rintro e w1 ⟨rfl, rfl⟩) | ((with_reducible refine (v2 _).mono ?_); rintro e w1 ⟨rfl, rfl⟩)))
  go_loopw [8, 9, 10, 33] (fun vs vp vb vi wr => PkRel 57 w q h l vs vp vb vi wr) (fun _ _ _ vi _ => l.length - (intOf vi).toNat)
  case atStart => exact ⟨0, [], [], 0, Nat.zero_le _, rfl, rfl, htw, SOk.zero, rfl, Nat.le_refl _, by show _ = _; simp⟩
  case round =>
    clear htw hb0 hmk
    obtain ⟨k, sh, acc, b, hk, rfl, rfl, htw, hso, hac, hsk, hpk⟩ := hrel
    have hbel := htw.2.2
    have hz := hbel.size
    by_cases hlt : k < l.length
    · obtain ⟨ad, rfl, hcl⟩ := hr.below hbel k hlt
      obtain ⟨p, hpe⟩ : ∃ p, l[k] = p := ⟨_, rfl⟩
      have hdr : l.drop k = p :: l.drop (k + 1) := by rw [List.drop_eq_getElem_cons hlt, hpe]
      rw [hpe] at hcl
      obtain ⟨x, y⟩ := p
      have c0 : wr.cell? (ad.add (k * 2)) = some (.int .i64 x) := hcl 0 _ rfl
      have c1 : wr.cell? ⟨(ad.add (k * 2)).block, (ad.add (k * 2)).off + 1, none⟩ = some (.int .i64 y) := hcl 1 _ rfl
      rw [hdr] at hpk
      have x1 := fun W => vside_any x W
      have x2 := fun W => vside_any y W
      have hd9 : decide (k < l.length) = true := by simpa using hlt
      clear hcl hpe
      cases f1 : sideB x
      · rw [f1] at x1
        have hno := Lib.hid (show packR q h l = none by rw [hpr.out, hpk.out, packL_bad (by simp [okP, f1])]; rfl)
        clear hdr
        go_wp2_with (go_at_call 32; go_loud (first | ((with_reducible refine (x1 _).mono ?_); rintro e w2 ⟨rfl, rfl⟩) | ((with_reducible refine (x2 _).mono ?_); rintro e w2 ⟨rfl, rfl⟩)))
        go_ret2
        exact PkPost.no hno.out (hbel.alloc hz _)
      rw [f1] at x1
      cases f2 : sideB y
      · rw [f2] at x2
        have hno := Lib.hid (show packR q h l = none by rw [hpr.out, hpk.out, packL_bad (by simp [okP, f2])]; rfl)
        clear hdr
        go_wp2_with (go_at_call 32; go_loud (first | ((with_reducible refine (x1 _).mono ?_); rintro e w2 ⟨rfl, rfl⟩) | ((with_reducible refine (x2 _).mono ?_); rintro e w2 ⟨rfl, rfl⟩)))
        go_ret2
        exact PkPost.no hno.out (hbel.alloc hz _)
      rw [f2] at x2
      by_cases f3 : x ≤ q
      case neg =>
        have hno := Lib.hid (show packR q h l = none by rw [hpr.out, hpk.out, packL_bad (by simp [okP, f3])]; rfl)
        clear hdr
        go_wp2_with (go_at_call 32; go_loud (first | ((with_reducible refine (x1 _).mono ?_); rintro e w2 ⟨rfl, rfl⟩) | ((with_reducible refine (x2 _).mono ?_); rintro e w2 ⟨rfl, rfl⟩)))
        go_ret2
        exact PkPost.no hno.out (hbel.alloc hz _)
      have hok := (okP_iff q x y).2 ⟨f1, f2, f3⟩
      obtain ⟨hx0, hx1⟩ := (sideB_iff x).1 f1
      obtain ⟨hy0, hy1⟩ := (sideB_iff y).1 f2
      obtain ⟨a3, c3, rfl⟩ := own_slice htw.1
      obtain ⟨i, hie⟩ : ∃ i, ffit q (x, y) sh = i := ⟨_, rfl⟩
      have hff : ∀ W, Below wr.heap.size wr W → Calls Try.prog 33 #[.slice a3 sh.length c3, .int .i64 q, .agg #[.int .i64 x, .int .i64 y]] W fun e w' => e = .returned (.int .i64 i) ∧ Below W.heap.size W w' := fun W hbW => by
        rw [← hie]
        exact ff_any a3 _ c3 q x y sh W rfl (by omega) (by omega) hq1 (fun j hj => (hso.2.2 j hj).2.2.2.2) ((own_rs (by omega) shV_len htw.1).below hbW)
      have hile : i ≤ sh.length := by rw [← hie]; exact ffit_le _ _ _
      have hbA := Below.alloc (Below.refl wr.heap.size wr) (Nat.le_refl _) (.cells #[.int .i64 x, .int .i64 y] 44)
      have hA0 := row_cell (heap_alloc_new wr (.cells #[.int .i64 x, .int .i64 y] 44)) 0
      have hA1 := row_cell (heap_alloc_new wr (.cells #[.int .i64 x, .int .i64 y] 44)) 1
      have HFF := Lib.hid hff
      clear hff
      by_cases hil : i < sh.length
      · have hpk2 := Lib.hid (show packL q h [] 0 l = (packL q h (sh.set i (takeS sh[i] (x, y))) b (l.drop (k + 1))).map ((acc ++ [placeR sh[i] (x, y)]) ++ ·) by
          rw [hpk.out, packL_fit hok hil hie]; cases packL q h (sh.set i (takeS sh[i] (x, y))) b (l.drop (k + 1)) <;> simp)
        have hat := ffit_at hil hie
        obtain ⟨s, hse⟩ : ∃ s, sh[i] = s := ⟨_, rfl⟩
        have hsb := hso.2.2 i hil
        have hso2 := fun h1 h2 => SOk.take (p := (x, y)) hso hil h1 h2
        rw [hse] at hat hsb hpk2 hso2
        obtain ⟨s0, s1, s2⟩ := s
        obtain ⟨b0, b1, b2, b3, b4, b5⟩ : 0 ≤ s0 ∧ s0 ≤ 4096 ∧ 1 ≤ s1 ∧ s1 ≤ 4096 ∧ 0 ≤ s2 ∧ s2 ≤ 4096 := hsb
        obtain ⟨b6, b7⟩ : y ≤ s1 ∧ x ≤ q - s2 := hat
        have hso3 := hso2 (by show 0 ≤ x; omega) (by show s2 + x ≤ 4096; omega)
        have HSE := Lib.hid hse
        have hie2 : ¬ i = sh.length := by omega
        have hie3 : ((i : Int) == (sh.length : Int)) = false := by simp; omega
        clear hso2 hse hpk hdr hie
        go_wp2_with (first | (go_at_call 32; go_loud (first | ((with_reducible refine (x1 _).mono ?_); rintro e w2 ⟨rfl, rfl⟩) | ((with_reducible refine (x2 _).mono ?_); rintro e w2 ⟨rfl, rfl⟩))) | (go_at_call 33; go_loud ((with_reducible refine (HFF.out _ (by exact hbA)).mono ?_); rintro e w3 ⟨rfl, hb3⟩; have hb4 : Below wr.heap.size wr w3 := hbA.trans (hb3.mono hbA.size); have ht3 := htw.below hb4; have k0 := (hb3.cell (p := ⟨wr.heap.size, 0, none⟩) (by simp)).trans hA0; have k1 := (hb3.cell (p := ⟨wr.heap.size, 1, none⟩) (by simp)).trans hA1; simp at k0 k1; have hz9 : wr.heap.size < w3.heap.size := (by have := hb3.size; simp at this; omega); obtain ⟨ad3, rfl, hB3, hlt3, hcl3, hfz3⟩ := own_at (by omega) shV_len ht3.1 i hil; rw [HSE.out] at hcl3; have d0 : w3.cell? (ad3.add (i * 3)) = some (.int .i64 s0) := hcl3 0 _ rfl; have d1 : w3.cell? ⟨(ad3.add (i * 3)).block, (ad3.add (i * 3)).off + 1, none⟩ = some (.int .i64 s1) := hcl3 1 _ rfl; have d2 : w3.cell? ⟨(ad3.add (i * 3)).block, (ad3.add (i * 3)).off + 2, none⟩ = some (.int .i64 s2) := hcl3 2 _ rfl; clear hcl3 hfz3)))
        have t0 : IntKind.i64.wrap (s2 + x) = s2 + x := IntWalk.i64_in _ (by omega)
        have t1 : IntKind.i64.wrap (s0 + y) = s0 + y := IntWalk.i64_in _ (by omega)
        have hz3 : w.heap.size ≤ w3.heap.size := ht3.2.2.size
        have hvp : u9.ownBlock ≠ some wr.heap.size := fun e => by have := (htw.2.1.lt _ e).2; omega
        have hn9 : acc.length + 1 ≤ 1000000 := by omega
        have ht5 : Two 57 w w3.drew (.slice (some ad3) sh.length c3) _ sh acc := ht3.drewN 1
        have hz5 : w.heap.size ≤ w3.drew.heap.size := hz3
        have hne3 : ¬ ad3.block = w3.heap.size := by omega
        have hne4 : ¬ w3.heap.size = ad3.block := by omega
        have hne5 : ¬ wr.heap.size = w3.heap.size := by omega
        have hne6 : ¬ w3.heap.size = wr.heap.size := fun e => hne5 e.symm
        have hat4 : ∀ v4 w4, Two 57 w w4 (.slice (some ad3) sh.length c3) v4 sh (acc ++ [placeR (s0, s1, s2) (x, y)]) → w3.drew.grownBy w4 u9.ownBlock → (w4.cell? (ad3.add (i * 3)) = some (.int .i64 s0) ∧ w4.cell? ⟨(ad3.add (i * 3)).block, (ad3.add (i * 3)).off + 2, none⟩ = some (.int .i64 s2) ∧ w4.cell? ⟨wr.heap.size, 0, none⟩ = some (.int .i64 x) ∧ w4.cell? ⟨wr.heap.size, 1, none⟩ = some (.int .i64 y)) ∧ w4.frozen? ⟨(ad3.add (i * 3)).block, (ad3.add (i * 3)).off + 2, none⟩ = false ∧ w4.cell? ⟨(ad3.add (i * 3)).block, (ad3.add (i * 3)).off + 2, none⟩ = some (.int .i64 s2) := by
          intro v4 w4 h4 hg4
          obtain ⟨ad4, e4, hB4, hlt4, hcl4, hfz4⟩ := own_at (by omega) shV_len h4.1 i hil
          obtain rfl : ad3 = ad4 := Option.some.inj e4
          rw [HSE.out] at hcl4
          exact ⟨⟨hcl4 0 _ rfl, hcl4 2 _ rfl, hg4.cell (a := ⟨wr.heap.size, 0, none⟩) k0 (fun e => hvp e.symm), hg4.cell (a := ⟨wr.heap.size, 1, none⟩) k1 (fun e => hvp e.symm)⟩, hfz4 2, hcl4 2 _ rfl⟩
        have HAT := Lib.hid hat4
        clear hat4
        go_region_held3 (fun w' => (w'.cell? (ad3.add (i * 3)) = some (.int .i64 s0) ∧ w'.cell? ⟨(ad3.add (i * 3)).block, (ad3.add (i * 3)).off + 2, none⟩ = some (.int .i64 s2) ∧ w'.cell? ⟨wr.heap.size, 0, none⟩ = some (.int .i64 x) ∧ w'.cell? ⟨wr.heap.size, 1, none⟩ = some (.int .i64 y))) (first | go_keep | (with_reducible exact KP.1) | fail) ((refine wp_snocS (B := w.heap.size) rcV _ _ _ _ rfl Try.underlying25 info_rc rfl (by omega) ht5.2.1 hz5 hn9 (by omega) (placeR (s0, s1, s2) (x, y)) _ rfl rfl (one4 _) rfl rfl rfl ?_; intro v4 w4 hown4 hbw4 hgr4; have ht6 : Two 57 w w4 (.slice (some ad3) sh.length c3) v4 sh (acc ++ [placeR (s0, s1, s2) (x, y)]) := ht5.onRect (by decide) (by rw [List.length_append]; exact hown4) hbw4 hgr4; have KP := HAT.out v4 w4 ht6 hgr4))
        obtain ⟨⟨d3, d4, d5, d6⟩, d7, d8⟩ := KP
        have ht8 := (ht6.put (by decide) hil (y := takeS (s0, s1, s2) (x, y)) (u := .int .i64 (s2 + x)) (by rw [HSE.out]; simp [shV, takeS])).drewN 1
        clear d0 d1 d2 k0 k1
        go_wp2
        go_still_tail 9, (by kernel_rfl)
        go_wp2
        go_roundw
        case rel => exact ⟨k + 1, _, _, b, by omega, by go_num, rfl, by first | exact ht8 | (rw [HL.out] at ht8; exact ht8) | simpa using ht8, hso3, by simp; omega, by simp; omega, hpk2⟩
        case measure => (simp [intOf]; try omega)
      · obtain rfl : i = sh.length := by omega
        have hie3 : ((sh.length : Int) == (sh.length : Int)) = true := by simp
        have hb1' := hso.1
        have hb2' := hso.2.1
        by_cases hfull : b + y ≤ h
        case neg =>
          have hno := Lib.hid (show packR q h l = none by rw [hpr.out, hpk.out, packL_full hok hie hfull]; rfl)
          clear hdr hie hpk
          go_wp2_with (first | (go_at_call 32; go_loud (first | ((with_reducible refine (x1 _).mono ?_); rintro e w2 ⟨rfl, rfl⟩) | ((with_reducible refine (x2 _).mono ?_); rintro e w2 ⟨rfl, rfl⟩))) | (go_at_call 33; go_loud ((with_reducible refine (HFF.out _ (by exact hbA)).mono ?_); rintro e w3 ⟨rfl, hb3⟩; have hb4 : Below wr.heap.size wr w3 := hbA.trans (hb3.mono hbA.size); have ht3 := htw.below hb4; have k0 := (hb3.cell (p := ⟨wr.heap.size, 0, none⟩) (by simp)).trans hA0; have k1 := (hb3.cell (p := ⟨wr.heap.size, 1, none⟩) (by simp)).trans hA1; simp at k0 k1; have hz9 : wr.heap.size < w3.heap.size := (by have := hb3.size; simp at this; omega))))
          go_ret2
          exact PkPost.no hno.out ht3.2.2
        obtain ⟨sh', hsh'⟩ : ∃ sh', sh ++ [(b, y, (0 : Int))] = sh' := ⟨_, rfl⟩
        have hlsh : sh'.length = sh.length + 1 := by rw [← hsh']; simp
        have hil : sh.length < sh'.length := by omega
        have hse : sh'[sh.length]'hil = (b, y, 0) := by subst hsh'; simp
        have hset : sh'.set sh.length (takeS (b, y, 0) (x, y)) = sh ++ [takeS (b, y, 0) (x, y)] := by subst hsh'; simp
        have hpk2 := Lib.hid (show packL q h [] 0 l = (packL q h (sh'.set sh.length (takeS (b, y, 0) (x, y))) (b + y) (l.drop (k + 1))).map ((acc ++ [(0, b, x, b + y)]) ++ ·) by
          rw [hpk.out, packL_new hok hie hfull, hset]; cases packL q h (sh ++ [takeS (b, y, 0) (x, y)]) (b + y) (l.drop (k + 1)) <;> simp [placeR])
        have hso4 := SOk.new (h' := 0) hso (y := y) hy0 hy1 (by omega)
        rw [hsh'] at hso4
        have hso2 := fun h1 h2 => SOk.take (p := (x, y)) hso4 hil h1 h2
        rw [hse] at hso2
        have hso3 := hso2 (by show 0 ≤ x; omega) (by show 0 + x ≤ 4096; omega)
        have HSE := Lib.hid hse
        have HSH := Lib.hid hsh'
        have HL := Lib.hid hlsh
        have hn8 : sh.length + 1 ≤ 1000000 := by omega
        have hzr : w.heap.size ≤ wr.heap.size := hz
        clear hso2 hse hpk hdr hie hset hsh' hlsh hso4
        go_wp2_with (first | (go_at_call 32; go_loud (first | ((with_reducible refine (x1 _).mono ?_); rintro e w2 ⟨rfl, rfl⟩) | ((with_reducible refine (x2 _).mono ?_); rintro e w2 ⟨rfl, rfl⟩))) | (go_at_call 33; go_loud ((with_reducible refine (HFF.out _ (by exact hbA)).mono ?_); rintro e w3 ⟨rfl, hb3⟩; have hb4 : Below wr.heap.size wr w3 := hbA.trans (hb3.mono hbA.size); have ht3 := htw.below hb4; have k0 := (hb3.cell (p := ⟨wr.heap.size, 0, none⟩) (by simp)).trans hA0; have k1 := (hb3.cell (p := ⟨wr.heap.size, 1, none⟩) (by simp)).trans hA1; simp at k0 k1; have hz9 : wr.heap.size < w3.heap.size := (by have := hb3.size; simp at this; omega))) | (at_builtin; go_loud (refine wpList_snocS (B := w.heap.size) shV rfl _ _ _ _ rfl Try.underlying54 info_sh rfl (by omega) ht3.1 ht3.2.2.size hn8 (by omega) (b, y, 0) _ rfl rfl (one3 _) rfl rfl rfl ?_; intro v5 w5 hown5 hbw5 hgr5; have hvs : (Value.slice a3 sh.length c3).ownBlock ≠ some wr.heap.size := (fun e => by have := (htw.1.lt _ e).2; omega); replace k0 := hgr5.cell k0 (fun e => hvs e.symm); replace k1 := hgr5.cell k1 (fun e => hvs e.symm); replace ht3 : Two 57 w w5 v5 u9 sh' acc := ht3.onShelf (by decide) (by rw [← HSH.out, List.length_append]; exact hown5) hbw5 hgr5; have hz8 : wr.heap.size < w5.heap.size := Nat.lt_of_lt_of_le hz9 hgr5.size; obtain ⟨a5, c5, rfl⟩ := own_slice ht3.1; obtain ⟨ad3, rfl, hB3, hlt3, hcl3, hfz3⟩ := own_at (by omega) shV_len ht3.1 sh.length hil; rw [HSE.out] at hcl3; have d0 : w5.cell? (ad3.add (sh.length * 3)) = some (.int .i64 b) := hcl3 0 _ rfl; have d1 : w5.cell? ⟨(ad3.add (sh.length * 3)).block, (ad3.add (sh.length * 3)).off + 1, none⟩ = some (.int .i64 y) := hcl3 1 _ rfl; have d2 : w5.cell? ⟨(ad3.add (sh.length * 3)).block, (ad3.add (sh.length * 3)).off + 2, none⟩ = some (.int .i64 0) := hcl3 2 _ rfl; clear hcl3 hfz3)))
        have t0 : IntKind.i64.wrap (x) = x := IntWalk.i64_in _ (by omega)
        have t1 : IntKind.i64.wrap (b + y) = b + y := IntWalk.i64_in _ (by omega)
        have hz3 : w.heap.size ≤ w5.heap.size := ht3.2.2.size
        have hvp : u9.ownBlock ≠ some wr.heap.size := fun e => by have := (htw.2.1.lt _ e).2; omega
        have hn9 : acc.length + 1 ≤ 1000000 := by omega
        have ht5 : Two 57 w w5.drew (.slice (some ad3) sh'.length c5) _ sh' acc := ht3.drewN 1
        have hz5 : w.heap.size ≤ w5.drew.heap.size := hz3
        have hne3 : ¬ ad3.block = w5.heap.size := by omega
        have hne4 : ¬ w5.heap.size = ad3.block := by omega
        have hne5 : ¬ wr.heap.size = w5.heap.size := by omega
        have hne6 : ¬ w5.heap.size = wr.heap.size := fun e => hne5 e.symm
        have hat4 : ∀ v4 w4, Two 57 w w4 (.slice (some ad3) sh'.length c5) v4 sh' (acc ++ [(0, b, x, b + y)]) → w5.drew.grownBy w4 u9.ownBlock → (w4.cell? (ad3.add (sh.length * 3)) = some (.int .i64 b) ∧ w4.cell? ⟨(ad3.add (sh.length * 3)).block, (ad3.add (sh.length * 3)).off + 2, none⟩ = some (.int .i64 0) ∧ w4.cell? ⟨wr.heap.size, 0, none⟩ = some (.int .i64 x) ∧ w4.cell? ⟨wr.heap.size, 1, none⟩ = some (.int .i64 y)) ∧ w4.frozen? ⟨(ad3.add (sh.length * 3)).block, (ad3.add (sh.length * 3)).off + 2, none⟩ = false ∧ w4.cell? ⟨(ad3.add (sh.length * 3)).block, (ad3.add (sh.length * 3)).off + 2, none⟩ = some (.int .i64 0) := by
          intro v4 w4 h4 hg4
          obtain ⟨ad4, e4, hB4, hlt4, hcl4, hfz4⟩ := own_at (by omega) shV_len h4.1 sh.length hil
          obtain rfl : ad3 = ad4 := Option.some.inj e4
          rw [HSE.out] at hcl4
          exact ⟨⟨hcl4 0 _ rfl, hcl4 2 _ rfl, hg4.cell (a := ⟨wr.heap.size, 0, none⟩) k0 (fun e => hvp e.symm), hg4.cell (a := ⟨wr.heap.size, 1, none⟩) k1 (fun e => hvp e.symm)⟩, hfz4 2, hcl4 2 _ rfl⟩
        have HAT := Lib.hid hat4
        clear hat4
        go_region_held3 (fun w' => (w'.cell? (ad3.add (sh.length * 3)) = some (.int .i64 b) ∧ w'.cell? ⟨(ad3.add (sh.length * 3)).block, (ad3.add (sh.length * 3)).off + 2, none⟩ = some (.int .i64 0) ∧ w'.cell? ⟨wr.heap.size, 0, none⟩ = some (.int .i64 x) ∧ w'.cell? ⟨wr.heap.size, 1, none⟩ = some (.int .i64 y))) (first | go_keep | (with_reducible exact KP.1) | fail) ((refine wp_snocS (B := w.heap.size) rcV _ _ _ _ rfl Try.underlying25 info_rc rfl (by omega) ht5.2.1 hz5 hn9 (by omega) ((0, b, x, b + y)) _ rfl rfl (one4 _) rfl rfl rfl ?_; intro v4 w4 hown4 hbw4 hgr4; have ht6 : Two 57 w w4 (.slice (some ad3) sh'.length c5) v4 sh' (acc ++ [(0, b, x, b + y)]) := ht5.onRect (by decide) (by rw [List.length_append]; exact hown4) hbw4 hgr4; have KP := HAT.out v4 w4 ht6 hgr4))
        obtain ⟨⟨d3, d4, d5, d6⟩, d7, d8⟩ := KP
        have ht8 := (ht6.put (by decide) hil (y := takeS (b, y, 0) (x, y)) (u := .int .i64 (x)) (by rw [HSE.out]; simp [shV, takeS])).drewN 1
        clear d0 d1 d2 k0 k1
        go_wp2
        go_still_tail 9, (by kernel_rfl)
        go_wp2
        go_roundw
        case rel => exact ⟨k + 1, _, _, b + y, by omega, by go_num, rfl, by first | exact ht8 | (rw [HL.out] at ht8; exact ht8) | simpa using ht8, hso3, by simp; omega, by have hlsh := HL.out; simp; omega, hpk2⟩
        case measure => (simp [intOf]; try omega)
    · obtain rfl : k = l.length := by omega
      have hres := Lib.hid (show packR q h l = some acc by rw [hpr.out, hpk.out, List.drop_length]; simp [packL])
      obtain ⟨a3, c3, rfl⟩ := own_slice htw.2.1
      have hd9 : decide (l.length < l.length) = false := by simp
      go_wp2
      go_ret2
      rw [PkPost, hres.out]
      exact ⟨a3, c3, rfl, htw.2.1, hbel⟩
end Go.Proofs.Ytciaidlkhlgflaa
