import Derived.Test.YtfbgfnebodabpaaMo
import Derived.WalkKit
import Derived.WalkSpells
import Derived.WalkLawsBesides
import Derived.Lib.Hide
import Derived.Below
import Derived.Deep.QuietTactic
import Derived.BigQuiet
import Derived.StillTailTactics
import Derived.Deep.RegionHeld3
import Derived.IntWalk
namespace Go.Proofs.Ytfbgfnebodabpaa
open Go.RowKit
set_option linter.unusedVariables false
set_option linter.unusedSimpArgs false
structure Msk where
  a : Int
  b : Int
  c : Int
  d : Int
  p : Option Addr
  n : Nat
  q : Nat
  l : List Int
def Msk.v (m : Msk) : List Value := [.int .i64 m.a, .int .i64 m.b, .int .i64 m.c, .int .i64 m.d, .slice m.p m.n m.q]
theorem Msk.v_len (m : Msk) : m.v.length = 5 := rfl
def Msk.ok (w : World) (m : Msk) : Prop := m.l.length = m.n ∧ RS 1 u8V w m.p m.l ∧ BB m.l
def Msk.valid (m : Msk) : Bool := vM m.a m.b m.c m.d m.n
def Msk.at (m : Msk) (x y : Int) : Int := mAt m.a m.b m.c m.d m.l x y
/-- A slice of masks. -/
def MS (w : World) (P : Option Addr) (ms : List Msk) : Prop := RS 5 Msk.v w P ms ∧ ∀ m ∈ ms, m.ok w
theorem Msk.ok.below {w w' : World} {m : Msk} (h : m.ok w) (hb : Below w.heap.size w w') : m.ok w' := ⟨h.1, h.2.1.below hb, h.2.2⟩
theorem MS.below {w w' : World} {P : Option Addr} {ms : List Msk} (h : MS w P ms) (hb : Below w.heap.size w w') : MS w' P ms := ⟨h.1.below hb, fun m hm => (h.2 m hm).below hb⟩
theorem RS.tail5 {w : World} {ad : Addr} {m : Msk} {t : List Msk} (h : RS 5 Msk.v w (some ad) (m :: t)) : RS 5 Msk.v w (some (ad.add 5)) t := by
  intro i hi
  obtain ⟨ad', e, hc⟩ := h (i + 1) (by simpa using hi)
  cases e
  refine ⟨_, rfl, fun j u hu => ?_⟩
  have := hc j u (by simpa using hu)
  rw [add_addr] at this ⊢
  rw [add_addr]
  rw [show 5 + (i * 5 + j) = (i + 1) * 5 + j by omega]
  exact this
theorem RS.five {w : World} {ad : Addr} {ms : List Msk} (h : RS 5 Msk.v w (some ad) ms) {k : Nat} (hk : k < ms.length) : w.cell? (ad.add (k * 5)) = some (.int .i64 ms[k].a) ∧ w.cell? ⟨(ad.add (k * 5)).block, (ad.add (k * 5)).off + 1, none⟩ = some (.int .i64 ms[k].b) ∧ w.cell? ⟨(ad.add (k * 5)).block, (ad.add (k * 5)).off + 2, none⟩ = some (.int .i64 ms[k].c) ∧ w.cell? ⟨(ad.add (k * 5)).block, (ad.add (k * 5)).off + 3, none⟩ = some (.int .i64 ms[k].d) ∧ w.cell? ⟨(ad.add (k * 5)).block, (ad.add (k * 5)).off + 4, none⟩ = some (.slice ms[k].p ms[k].n ms[k].q) := by
  obtain ⟨ad', e, hc⟩ := h k hk
  cases e
  exact ⟨hc 0 _ rfl, hc 1 _ rfl, hc 2 _ rfl, hc 3 _ rfl, hc 4 _ rfl⟩
theorem RS.fiveB {w : World} {b o : Nat} {ms : List Msk} (h : RS 5 Msk.v w (some ⟨b, o, none⟩) ms) {k : Nat} (hk : k < ms.length) : w.cell? ⟨b, o + k * 5, none⟩ = some (.int .i64 ms[k].a) ∧ w.cell? ⟨b, o + k * 5 + 1, none⟩ = some (.int .i64 ms[k].b) ∧ w.cell? ⟨b, o + k * 5 + 2, none⟩ = some (.int .i64 ms[k].c) ∧ w.cell? ⟨b, o + k * 5 + 3, none⟩ = some (.int .i64 ms[k].d) ∧ w.cell? ⟨b, o + k * 5 + 4, none⟩ = some (.slice ms[k].p ms[k].n ms[k].q) := by
  obtain ⟨ad', e, hc⟩ := h k hk
  cases e
  have ha : ∀ j, ((⟨b, o, none⟩ : Addr).add (k * 5)).add j = ⟨b, o + k * 5 + j, none⟩ := fun j => by
    rw [add_addr]
    unfold Addr.add
    split
    · rename_i h0
      have : k * 5 = 0 := by omega
      have : j = 0 := by omega
      simp [*]
    · simp [Nat.add_assoc]
  exact ⟨by have := hc 0 _ rfl; rwa [ha] at this, by have := hc 1 _ rfl; rwa [ha] at this, by have := hc 2 _ rfl; rwa [ha] at this, by have := hc 3 _ rfl; rwa [ha] at this, by have := hc 4 _ rfl; rwa [ha] at this⟩
theorem addr_zero (ad : Addr) : ad.add 0 = ad := by unfold Addr.add; split <;> simp_all
def mulV (m : Msk) (t : List Msk) (x y : Int) : Int := t.foldl (fun v m => mn8 v (m.at x y)) (m.at x y)
theorem Msk.at_bd {w : World} {m : Msk} (h : m.ok w) (x y : Int) : 0 ≤ m.at x y ∧ m.at x y ≤ 255 := mAt_bd h.2.2
theorem mulV_bd {w : World} {m : Msk} {t : List Msk} (hm : m.ok w) (ht : ∀ m ∈ t, m.ok w) (x y : Int) : 0 ≤ mulV m t x y ∧ mulV m t x y ≤ 255 := by
  have : ∀ (t : List Msk) (v : Int), (∀ m ∈ t, m.ok w) → 0 ≤ v ∧ v ≤ 255 → 0 ≤ t.foldl (fun v m => mn8 v (m.at x y)) v ∧ t.foldl (fun v m => mn8 v (m.at x y)) v ≤ 255 := by
    intro t
    induction t with
    | nil => intro v _ hv; exact hv
    | cons m t ih =>
      intro v ht hv
      have ha := Msk.at_bd (ht m (by simp)) x y
      obtain ⟨_, _, h1, h2, _, _⟩ := mn8_bd v (m.at x y) hv.1 hv.2 ha.1 ha.2
      exact ih _ (fun m hm => ht m (by simp [hm])) ⟨h1, h2⟩
  exact this t _ ht (Msk.at_bd hm x y)
theorem mulV_step (m : Msk) (t : List Msk) (x y : Int) {k : Nat} (hk : k < t.length) : mulV m (t.take (k + 1)) x y = mn8 (mulV m (t.take k) x y) (t[k].at x y) := by
  unfold mulV
  rw [List.take_add_one, List.getElem?_eq_getElem hk, List.foldl_append]
  rfl
theorem slice_tail (ad : Addr) (n q : Nat) (h1 : 1 ≤ n) (hq : n ≤ q) : ∃ A : Addr, (∀ W, (Instr.slice 38 (.slice (some ad) n q) (some (.int .i64 1)) none none).run Try.prog W = .ok (.slice (some A) (n - 1) (q - 1)) W) ∧ (1 < n → A = ad.add 5) := by
  have hi : (1 : Int) ≤ (n : Int) := by omega
  by_cases hq1 : q = 1
  · refine ⟨ad, fun W => ?_, fun h => by omega⟩
    subst hq1
    obtain rfl : n = 1 := by omega
    go_simp
  · refine ⟨ad.add 5, fun W => ?_, fun _ => rfl⟩
    go_simp
set_option maxRecDepth 50000 in
set_option maxHeartbeats 4000000 in
theorem mul1_any (x y : Int) (P : Option Addr) (n q g : Nat) (m : Msk) (t : List Msk) (w : World) (hn : (m :: t).length = n) (hq : n ≤ q) (hmx : n ≤ 1000000) (hms : MS w P (m :: t)) (hv : ∀ m' ∈ m :: t, m'.valid = true) (hb : B.Bx w g [.slice P n q]) :
    Calls Try.prog 60 #[.int .i64 x, .int .i64 y, .pointer (some ⟨g, 0, none⟩)] w fun e w' => e = .returned (.int .u8 (mulV m t x y)) ∧ Below w.heap.size w w' := by
  obtain ⟨ad, rfl, _⟩ := hms.1 0 (by simp)
  have h5 := RS.five hms.1 (k := 0) (by simp)
  simp only [List.getElem_cons_zero, Nat.zero_mul, addr_zero] at h5
  obtain ⟨e0, e1, e2, e3, e4⟩ := h5
  have hok := hms.2 m (by simp)
  have hat := fun W hr => at_any m.a m.b m.c m.d x y m.p m.n m.q m.l W hok.1 (hv m (by simp)) hr
  have hr0 := hok.2.1
  obtain ⟨⟨k0, g0⟩, xa, ya, za⟩ := id hb.x1
  have ht : ∀ m' ∈ t, m'.ok w := fun m' h => hms.2 m' (by simp [h])
  have htv : ∀ m' ∈ t, m'.valid = true := fun m' h => hv m' (by simp [h])
  have hmb := fun k => mulV_bd hok (fun m' (h : m' ∈ t.take k) => ht m' (List.mem_of_mem_take h)) x y
  have hst := fun k (h : k < t.length) => mulV_step m t x y h
  rw [show mAt m.a m.b m.c m.d m.l x y = mulV m (t.take 0) x y by simp [mulV, Msk.at]] at hat
  obtain ⟨n', rfl⟩ : ∃ n', n = n' + 1 := ⟨t.length, by rw [← hn]; simp⟩
  obtain ⟨q', rfl⟩ : ∃ q', q = q' + 1 := ⟨q - 1, by omega⟩
  have hnt : n' = t.length := by simpa using hn.symm
  subst hnt
  have hmx2 : t.length ≤ 1000000 := by omega
  obtain ⟨V, hV⟩ : ∃ V, mulV m t x y = V := ⟨_, rfl⟩
  rw [hV]
  have HV := Lib.hid hV
  clear hV
  by_cases hq0 : q' = 0
  · subst hq0
    have hl0 : t.length = 0 := by omega
    go_enter Try.func60, Try.ntmps60
    go_wp2_with (go_at_call 50; go_loud ((with_reducible refine (hat _ (by (with_reducible repeat' first | assumption | apply B.rs_al | apply B.rs_drN | apply RS.drewN | apply B.rs_dr))).mono ?_); rintro e w1 ⟨rfl, hb1⟩; have c1 := B.cs hb1 k0))
    go_loopw [6, 18] (fun v i wr => ∃ k : Nat, k ≤ t.length ∧ i = .int .i64 k ∧ v = .int .u8 (mulV m (t.take k) x y) ∧ Below w.heap.size w wr) (fun _ i _ => t.length - (intOf i).toNat)
    case atStart => exact ⟨0, Nat.zero_le _, by go_num, rfl, hb1⟩
    case round =>
      obtain ⟨k, hk, rfl, rfl, hbw⟩ := hrel
      by_cases hlt : k < t.length
      · exact absurd hlt (by omega)
      · obtain rfl : k = t.length := by omega
        rw [List.take_length, HV.out]
        go_wp2
        go_ret
        exact ⟨rfl, hbw⟩
  · have hT : RS 5 Msk.v w (some ⟨ad.block, ad.off + 5, none⟩) t := RS.tail5 hms.1
    go_enter Try.func60, Try.ntmps60
    go_wp2_with (go_at_call 50; go_loud ((with_reducible refine (hat _ (by (with_reducible repeat' first | assumption | apply B.rs_al | apply B.rs_drN | apply RS.drewN | apply B.rs_dr))).mono ?_); rintro e w1 ⟨rfl, hb1⟩; have c1 := B.cs hb1 k0))
    go_loopw [6, 18] (fun v i wr => ∃ k : Nat, k ≤ t.length ∧ i = .int .i64 k ∧ v = .int .u8 (mulV m (t.take k) x y) ∧ Below w.heap.size w wr) (fun _ i _ => t.length - (intOf i).toNat)
    case atStart => exact ⟨0, Nat.zero_le _, by go_num, rfl, hb1⟩
    case round =>
      obtain ⟨k, hk, rfl, rfl, hbw⟩ := hrel
      by_cases hlt : k < t.length
      · obtain ⟨f0, f1, f2, f3, f4⟩ := RS.fiveB (hT.below hbw) hlt
        have hmem := List.getElem_mem hlt
        have hst2 := hst k hlt
        have hmb2 := hmb k
        obtain ⟨m2, hm2⟩ : ∃ m2, t[k] = m2 := ⟨_, rfl⟩
        rw [hm2] at f0 f1 f2 f3 f4 hmem hst2
        obtain ⟨V1, hV1⟩ : ∃ V1, mulV m (t.take k) x y = V1 := ⟨_, rfl⟩
        rw [hV1] at hst2 hmb2 ⊢
        have ho2 := ht m2 hmem
        have hat2 := fun W hr => at_any m2.a m2.b m2.c m2.d x y m2.p m2.n m2.q m2.l W ho2.1 (htv m2 hmem) hr
        have hr2 := RS.below ho2.2.1 hbw
        have hab := Msk.at_bd ho2 x y
        have hmn := fun W => mulNorm8_any V1 (m2.at x y) hmb2.1 hmb2.2 hab.1 hab.2 W
        rw [← hst2] at hmn
        rw [show mAt m2.a m2.b m2.c m2.d m2.l x y = m2.at x y from rfl] at hat2
        obtain ⟨Z, hZ⟩ : ∃ Z, m2.at x y = Z := ⟨_, rfl⟩
        rw [hZ] at hmn hat2
        obtain ⟨V2, hV2⟩ : ∃ V2, mulV m (t.take (k + 1)) x y = V2 := ⟨_, rfl⟩
        rw [hV2] at hmn
        have HV2 := Lib.hid hV2
        clear hm2 hV1 hst2 hZ hV2 hat hst hmb
        have hltn : (k : Int) < (t.length : Int) := by omega
        go_wp2_with (first
          | (go_at_call 50; go_loud ((with_reducible refine (hat2 _ (by (with_reducible repeat' first | assumption | apply B.rs_al | apply B.rs_drN | apply RS.drewN | apply B.rs_dr))).mono ?_); rintro e w9 ⟨rfl, hb9⟩; have hB9 := B.bel_step (show Below w.heap.size w _ from (by (with_reducible repeat' first | exact Below.refl _ _ | assumption | apply B.belA | apply Below.drew | apply below_drewN | refine B.belS ?_ (by first | assumption | omega | (simp; done) | (simp; omega))))) hb9))
          | (go_at_call 61; go_loud ((with_reducible refine (hmn _).mono ?_); rintro e w8 ⟨rfl, rfl⟩)))
        go_roundw
        case rel => exact ⟨k + 1, by omega, by go_num, by rw [HV2.out], hB9⟩
        case measure => (simp [intOf]; try omega)
      · obtain rfl : k = t.length := by omega
        rw [List.take_length, HV.out]
        go_wp2
        go_ret
        exact ⟨rfl, hbw⟩
end Go.Proofs.Ytfbgfnebodabpaa
