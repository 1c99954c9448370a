import Derived.Test.YtgaabdidddglhaaN2
import Derived.Test.YtgaabdidddglhaaN3
import Derived.WalkKit
import Derived.WalkSpells
import Derived.WalkLawsBesides
import Derived.Lib.Hide
import Derived.Below
import Derived.Deep.QuietTactic
import Derived.BigQuiet
import Derived.Deep.RegionHeld3
import Derived.Deep.DrawnRows
import Derived.Deep.DeepFit
import Derived.IntWalk
namespace Go.Proofs.Ytgaabdidddglhaa
open Go.RowKit
set_option linter.unusedVariables false
set_option linter.unusedSimpArgs false
attribute [local go_sem ↓] Go.wp_at_zero Go.wp_at_succ
attribute [local go_sem] rhoF_tmp rhoF_const rhoF_global rhoF_func

def NcInv (w wr : World) (x y p q h : Nat) (r g b s t u x0 x1 x2 tt ll aa : Int) (c0 c1 c2 : Int) : Prop :=
  wr.cell? ⟨x, 0, none⟩ = some (.int .u8 0) ∧ wr.frozen? ⟨x, 0, none⟩ = false ∧ wr.cell? ⟨x, 1, none⟩ = some (.int .u8 0) ∧ wr.frozen? ⟨x, 1, none⟩ = false ∧ wr.cell? ⟨x, 2, none⟩ = some (.int .u8 0) ∧ wr.frozen? ⟨x, 2, none⟩ = false ∧ wr.cell? ⟨y, 0, none⟩ = some (.int .u8 c0) ∧ wr.frozen? ⟨y, 0, none⟩ = false ∧ wr.cell? ⟨y, 1, none⟩ = some (.int .u8 c1) ∧ wr.frozen? ⟨y, 1, none⟩ = false ∧ wr.cell? ⟨y, 2, none⟩ = some (.int .u8 c2) ∧ wr.frozen? ⟨y, 2, none⟩ = false ∧ wr.cell? ⟨p, 0, none⟩ = some (.int .i64 r) ∧ wr.frozen? ⟨p, 0, none⟩ = false ∧ wr.cell? ⟨p, 1, none⟩ = some (.int .i64 g) ∧ wr.frozen? ⟨p, 1, none⟩ = false ∧ wr.cell? ⟨p, 2, none⟩ = some (.int .i64 b) ∧ wr.frozen? ⟨p, 2, none⟩ = false ∧ wr.cell? ⟨q, 0, none⟩ = some (.int .i64 s) ∧ wr.frozen? ⟨q, 0, none⟩ = false ∧ wr.cell? ⟨q, 1, none⟩ = some (.int .i64 t) ∧ wr.frozen? ⟨q, 1, none⟩ = false ∧ wr.cell? ⟨q, 2, none⟩ = some (.int .i64 u) ∧ wr.frozen? ⟨q, 2, none⟩ = false ∧ wr.cell? ⟨h, 0, none⟩ = some (.int .i64 x0) ∧ wr.frozen? ⟨h, 0, none⟩ = false ∧ wr.cell? ⟨h, 1, none⟩ = some (.int .i64 x1) ∧ wr.frozen? ⟨h, 1, none⟩ = false ∧ wr.cell? ⟨h, 2, none⟩ = some (.int .i64 x2) ∧ wr.frozen? ⟨h, 2, none⟩ = false ∧ wr.cell? ⟨h, 3, none⟩ = some (.int .i64 tt) ∧ wr.frozen? ⟨h, 3, none⟩ = false ∧ wr.cell? ⟨h, 4, none⟩ = some (.int .i64 ll) ∧ wr.frozen? ⟨h, 4, none⟩ = false ∧ wr.cell? ⟨h, 5, none⟩ = some (.int .i64 aa) ∧ wr.frozen? ⟨h, 5, none⟩ = false ∧ Below w.heap.size w wr

theorem cover_bd {r a s d : Int} (r0 : 0 ≤ r) (ra : r ≤ a) (a1 : a ≤ 255) (s0 : 0 ≤ s) (sd : s ≤ d) (d1 : d ≤ 255) : unc r a s d + a * d ≤ 65025 ∧ unc r a s d + a * d ≤ unc a a d d + a * d := by
  have q1 : r * (255 - d) ≤ a * (255 - d) := Int.mul_le_mul_of_nonneg_right ra (by omega)
  have q2 : s * (255 - a) ≤ d * (255 - a) := Int.mul_le_mul_of_nonneg_right sd (by omega)
  have q3 : 0 ≤ (255 - a) * (255 - d) := Int.mul_nonneg (by omega) (by omega)
  have e1 : (255 - a) * (255 - d) = 65025 - 255 * a - 255 * d + a * d := by rw [Int.mul_sub, Int.sub_mul, Int.sub_mul]; omega
  have e2 : a * (255 - d) = 255 * a - a * d := by rw [Int.mul_sub]; omega
  have e3 : d * (255 - a) = 255 * d - a * d := by rw [Int.mul_sub, Int.mul_comm d a]; omega
  unfold unc
  omega

set_option maxRecDepth 20000 in
set_option maxHeartbeats 16000000 in
theorem bcols_any (m r g b a s t u d x0 x1 x2 tt ll aa lo hi lm mm kk : Int) (r0 : 0 ≤ r) (r1 : r ≤ 255) (g0 : 0 ≤ g) (g1 : g ≤ 255) (b0 : 0 ≤ b) (b1 : b ≤ 255) (a0 : 0 ≤ a) (a1 : a ≤ 255) (s0 : 0 ≤ s) (s1 : s ≤ 255) (t0 : 0 ≤ t) (t1 : t ≤ 255) (u0 : 0 ≤ u) (u1 : u ≤ 255) (d0 : 0 ≤ d) (d1 : d ≤ 255) (ra : r ≤ a) (ga : g ≤ a) (ba : b ≤ a) (sd : s ≤ d) (td : t ≤ d) (ud : u ≤ d) (haa : a * d = aa) (aa0 : 0 ≤ aa) (aa1 : aa ≤ 65025) (x00 : 0 ≤ x0) (x01 : x0 ≤ aa) (x10 : 0 ≤ x1) (x11 : x1 ≤ aa) (x20 : 0 ≤ x2) (x21 : x2 ≤ aa) (tt0 : 0 ≤ tt) (tt1 : tt ≤ aa) (ll0 : 0 ≤ ll) (ll1 : ll ≤ 100 * aa) (hlo : lo3 x0 x1 x2 = lo) (hhi : hi3 x0 x1 x2 = hi) (hlm : lm3 x0 x1 x2 = lm) (hmm : hi - lo = mm) (hkk : lm - 100 * lo = kk)
    (ch : ∀ w : World, Calls Try.prog 47 #[.int .i64 m, .agg #[.int .i64 (d * r), .int .i64 (d * g), .int .i64 (d * b)], .agg #[.int .i64 (a * s), .int .i64 (a * t), .int .i64 (a * u)], .int .i64 aa] w fun e w' => e = .returned (.agg #[.int .i64 x0, .int .i64 x1, .int .i64 x2, .int .i64 tt, .int .i64 ll, .int .i64 aa]) ∧ Below w.heap.size w w') (w : World) :
    Calls Try.prog 37 #[.int .i64 m, .agg #[.int .u8 r, .int .u8 g, .int .u8 b, .int .u8 a], .agg #[.int .u8 s, .int .u8 t, .int .u8 u, .int .u8 d]] w fun e w' => e = .returned (.agg #[.int .u8 (mixQ (unc r a s d) (frN x0 lo hi mm kk tt ll aa) (frD mm kk tt ll aa)), .int .u8 (mixQ (unc g a t d) (frN x1 lo hi mm kk tt ll aa) (frD mm kk tt ll aa)), .int .u8 (mixQ (unc b a u d) (frN x2 lo hi mm kk tt ll aa) (frD mm kk tt ll aa))]) ∧ Below w.heap.size w w' := by
  have hc0 := cover_bd r0 ra a1 s0 sd d1
  have hc1 := cover_bd g0 ga a1 t0 td d1
  have hc2 := cover_bd b0 ba a1 u0 ud d1
  rw [haa] at hc0 hc1 hc2
  have lo0 : 0 ≤ lo ∧ hi ≤ aa := by rw [← hlo, ← hhi]; unfold lo3 hi3; omega
  have lox : lo ≤ x0 ∧ lo ≤ x1 ∧ lo ≤ x2 ∧ x0 ≤ hi ∧ x1 ≤ hi ∧ x2 ≤ hi := by rw [← hlo, ← hhi]; unfold lo3 hi3; omega
  obtain ⟨lb0, lb1⟩ := lm3_bd x0 x1 x2
  rw [hlo, hlm] at lb0
  rw [hhi, hlm] at lb1
  have ct0 := fun w => term3_any x0 x1 x2 tt ll aa x0 lo hi lm mm kk aa0 aa1 x00 x01 x10 x11 x20 x21 tt0 tt1 ll0 ll1 hlo hhi hlm hmm hkk (by omega) (by omega) w
  obtain ⟨fd0, fn0, fm0⟩ := fr_bd (c := x0) (lo := lo) (hi := hi) (m := mm) (k := kk) (t := tt) (l := ll) (a := aa) hmm (by omega) (by omega) (by omega) (by omega) tt0 tt1 ll0 ll1 aa0
  have cu0 := fun w => unc_any r a s d (by omega) w
  have bu0 := (unc_bd (s := r) (sa := a) (d := s) (da := d) (by omega)).2.2.2.2
  obtain ⟨n0, hn0⟩ : ∃ x, frN x0 lo hi mm kk tt ll aa = x := ⟨_, rfl⟩
  obtain ⟨e0, he0⟩ : ∃ x, frD mm kk tt ll aa = x := ⟨_, rfl⟩
  obtain ⟨v0, hv0⟩ : ∃ x, unc r a s d = x := ⟨_, rfl⟩
  have eb0 : e0 ≤ 6502500 := by rw [← he0]; unfold frD; split <;> (try split) <;> (try split) <;> omega
  rw [hn0, he0] at ct0 fm0
  rw [hn0] at fn0
  rw [he0] at fd0
  rw [hv0] at cu0 bu0 hc0
  obtain ⟨zb0, zc0⟩ := mixQ_bd bu0.1 fd0 fn0 fm0
  have zd0 : mixQ v0 n0 e0 ≤ 255 := by omega
  clear zc0
  have pb0 := mulB bu0.1 bu0.2 (Int.le_of_lt fd0) eb0
  have nb0 : n0 ≤ 65025 * 6502500 := Int.le_trans fm0 (mulB aa0 aa1 (Int.le_of_lt fd0) eb0).2
  obtain ⟨z0, hz0⟩ : ∃ x, mixQ v0 n0 e0 = x := ⟨_, rfl⟩
  rw [hz0] at zb0 zd0
  have hQ0 : mixQ (unc r a s d) (frN x0 lo hi mm kk tt ll aa) (frD mm kk tt ll aa) = z0 := by rw [hn0, he0, hv0]; exact hz0
  unfold mixQ at hz0
  obtain ⟨p0, hp0⟩ : ∃ x, v0 * e0 = x := ⟨_, rfl⟩
  rw [hp0] at hz0 pb0
  obtain ⟨sm0, hs0⟩ : ∃ x, n0 + p0 = x := ⟨_, rfl⟩
  rw [hs0] at hz0
  have sb0 : 0 ≤ sm0 ∧ sm0 ≤ 1300500000000 := by omega
  obtain ⟨f0, hf0⟩ : ∃ x, e0 * 255 = x := ⟨_, rfl⟩
  have ff0 : 0 < f0 ∧ f0 ≤ 1658137500 := by omega
  rw [hf0] at hz0
  have hw0 : (2 * sm0 + f0).tdiv (2 * f0) = z0 := by rw [Int.tdiv_eq_ediv_of_nonneg (by omega)]; exact hz0
  have hy0 : (2 * f0 == 0) = false := by simp; omega
  clear hc0
  have ct1 := fun w => term3_any x0 x1 x2 tt ll aa x1 lo hi lm mm kk aa0 aa1 x00 x01 x10 x11 x20 x21 tt0 tt1 ll0 ll1 hlo hhi hlm hmm hkk (by omega) (by omega) w
  obtain ⟨fd1, fn1, fm1⟩ := fr_bd (c := x1) (lo := lo) (hi := hi) (m := mm) (k := kk) (t := tt) (l := ll) (a := aa) hmm (by omega) (by omega) (by omega) (by omega) tt0 tt1 ll0 ll1 aa0
  have cu1 := fun w => unc_any g a t d (by omega) w
  have bu1 := (unc_bd (s := g) (sa := a) (d := t) (da := d) (by omega)).2.2.2.2
  obtain ⟨n1, hn1⟩ : ∃ x, frN x1 lo hi mm kk tt ll aa = x := ⟨_, rfl⟩
  obtain ⟨e1, he1⟩ : ∃ x, frD mm kk tt ll aa = x := ⟨_, rfl⟩
  obtain ⟨v1, hv1⟩ : ∃ x, unc g a t d = x := ⟨_, rfl⟩
  have eb1 : e1 ≤ 6502500 := by rw [← he1]; unfold frD; split <;> (try split) <;> (try split) <;> omega
  rw [hn1, he1] at ct1 fm1
  rw [hn1] at fn1
  rw [he1] at fd1
  rw [hv1] at cu1 bu1 hc1
  obtain ⟨zb1, zc1⟩ := mixQ_bd bu1.1 fd1 fn1 fm1
  have zd1 : mixQ v1 n1 e1 ≤ 255 := by omega
  clear zc1
  have pb1 := mulB bu1.1 bu1.2 (Int.le_of_lt fd1) eb1
  have nb1 : n1 ≤ 65025 * 6502500 := Int.le_trans fm1 (mulB aa0 aa1 (Int.le_of_lt fd1) eb1).2
  obtain ⟨z1, hz1⟩ : ∃ x, mixQ v1 n1 e1 = x := ⟨_, rfl⟩
  rw [hz1] at zb1 zd1
  have hQ1 : mixQ (unc g a t d) (frN x1 lo hi mm kk tt ll aa) (frD mm kk tt ll aa) = z1 := by rw [hn1, he1, hv1]; exact hz1
  unfold mixQ at hz1
  obtain ⟨p1, hp1⟩ : ∃ x, v1 * e1 = x := ⟨_, rfl⟩
  rw [hp1] at hz1 pb1
  obtain ⟨sm1, hs1⟩ : ∃ x, n1 + p1 = x := ⟨_, rfl⟩
  rw [hs1] at hz1
  have sb1 : 0 ≤ sm1 ∧ sm1 ≤ 1300500000000 := by omega
  obtain ⟨f1, hf1⟩ : ∃ x, e1 * 255 = x := ⟨_, rfl⟩
  have ff1 : 0 < f1 ∧ f1 ≤ 1658137500 := by omega
  rw [hf1] at hz1
  have hw1 : (2 * sm1 + f1).tdiv (2 * f1) = z1 := by rw [Int.tdiv_eq_ediv_of_nonneg (by omega)]; exact hz1
  have hy1 : (2 * f1 == 0) = false := by simp; omega
  clear hc1
  have ct2 := fun w => term3_any x0 x1 x2 tt ll aa x2 lo hi lm mm kk aa0 aa1 x00 x01 x10 x11 x20 x21 tt0 tt1 ll0 ll1 hlo hhi hlm hmm hkk (by omega) (by omega) w
  obtain ⟨fd2, fn2, fm2⟩ := fr_bd (c := x2) (lo := lo) (hi := hi) (m := mm) (k := kk) (t := tt) (l := ll) (a := aa) hmm (by omega) (by omega) (by omega) (by omega) tt0 tt1 ll0 ll1 aa0
  have cu2 := fun w => unc_any b a u d (by omega) w
  have bu2 := (unc_bd (s := b) (sa := a) (d := u) (da := d) (by omega)).2.2.2.2
  obtain ⟨n2, hn2⟩ : ∃ x, frN x2 lo hi mm kk tt ll aa = x := ⟨_, rfl⟩
  obtain ⟨e2, he2⟩ : ∃ x, frD mm kk tt ll aa = x := ⟨_, rfl⟩
  obtain ⟨v2, hv2⟩ : ∃ x, unc b a u d = x := ⟨_, rfl⟩
  have eb2 : e2 ≤ 6502500 := by rw [← he2]; unfold frD; split <;> (try split) <;> (try split) <;> omega
  rw [hn2, he2] at ct2 fm2
  rw [hn2] at fn2
  rw [he2] at fd2
  rw [hv2] at cu2 bu2 hc2
  obtain ⟨zb2, zc2⟩ := mixQ_bd bu2.1 fd2 fn2 fm2
  have zd2 : mixQ v2 n2 e2 ≤ 255 := by omega
  clear zc2
  have pb2 := mulB bu2.1 bu2.2 (Int.le_of_lt fd2) eb2
  have nb2 : n2 ≤ 65025 * 6502500 := Int.le_trans fm2 (mulB aa0 aa1 (Int.le_of_lt fd2) eb2).2
  obtain ⟨z2, hz2⟩ : ∃ x, mixQ v2 n2 e2 = x := ⟨_, rfl⟩
  rw [hz2] at zb2 zd2
  have hQ2 : mixQ (unc b a u d) (frN x2 lo hi mm kk tt ll aa) (frD mm kk tt ll aa) = z2 := by rw [hn2, he2, hv2]; exact hz2
  unfold mixQ at hz2
  obtain ⟨p2, hp2⟩ : ∃ x, v2 * e2 = x := ⟨_, rfl⟩
  rw [hp2] at hz2 pb2
  obtain ⟨sm2, hs2⟩ : ∃ x, n2 + p2 = x := ⟨_, rfl⟩
  rw [hs2] at hz2
  have sb2 : 0 ≤ sm2 ∧ sm2 ≤ 1300500000000 := by omega
  obtain ⟨f2, hf2⟩ : ∃ x, e2 * 255 = x := ⟨_, rfl⟩
  have ff2 : 0 < f2 ∧ f2 ≤ 1658137500 := by omega
  rw [hf2] at hz2
  have hw2 : (2 * sm2 + f2).tdiv (2 * f2) = z2 := by rw [Int.tdiv_eq_ediv_of_nonneg (by omega)]; exact hz2
  have hy2 : (2 * f2 == 0) = false := by simp; omega
  clear hc2
  clear lb0 lb1
  have fin : (.agg #[.int .u8 (mixQ (unc r a s d) (frN x0 lo hi mm kk tt ll aa) (frD mm kk tt ll aa)), .int .u8 (mixQ (unc g a t d) (frN x1 lo hi mm kk tt ll aa) (frD mm kk tt ll aa)), .int .u8 (mixQ (unc b a u d) (frN x2 lo hi mm kk tt ll aa) (frD mm kk tt ll aa))] : Value) = .agg #[.int .u8 z0, .int .u8 z1, .int .u8 z2] := by
    rw [hQ0, hQ1, hQ2]
  rw [fin]
  clear fin hQ0 hQ1 hQ2 hlo hhi hlm hmm hkk lox he0 he1 he2 hn0 hn1 hn2 hv0 hv1 hv2 hz0 hz1 hz2 fm0 fm1 fm2 nb0 nb1 nb2
  go_enter Try.func37, Try.ntmps37
  go_wp2
  refine wp_region_env (fun w' => w'.cell? ⟨w.heap.size, 0, none⟩ = some (.int .u8 r) ∧ w'.frozen? ⟨w.heap.size, 0, none⟩ = false ∧ w'.cell? ⟨w.heap.size, 1, none⟩ = some (.int .u8 g) ∧ w'.frozen? ⟨w.heap.size, 1, none⟩ = false ∧ w'.cell? ⟨w.heap.size, 2, none⟩ = some (.int .u8 b) ∧ w'.frozen? ⟨w.heap.size, 2, none⟩ = false ∧ w'.cell? ⟨w.heap.size, 3, none⟩ = some (.int .u8 a) ∧ w'.frozen? ⟨w.heap.size, 3, none⟩ = false ∧ w'.cell? ⟨w.heap.size + 1, 0, none⟩ = some (.int .u8 s) ∧ w'.frozen? ⟨w.heap.size + 1, 0, none⟩ = false ∧ w'.cell? ⟨w.heap.size + 1, 1, none⟩ = some (.int .u8 t) ∧ w'.frozen? ⟨w.heap.size + 1, 1, none⟩ = false ∧ w'.cell? ⟨w.heap.size + 1, 2, none⟩ = some (.int .u8 u) ∧ w'.frozen? ⟨w.heap.size + 1, 2, none⟩ = false ∧ w'.cell? ⟨w.heap.size + 1, 3, none⟩ = some (.int .u8 d) ∧ w'.frozen? ⟨w.heap.size + 1, 3, none⟩ = false ∧ w'.cell? ⟨w.heap.size + 1 + 1, 0, none⟩ = some (.int .u8 0) ∧ w'.frozen? ⟨w.heap.size + 1 + 1, 0, none⟩ = false ∧ w'.cell? ⟨w.heap.size + 1 + 1, 1, none⟩ = some (.int .u8 0) ∧ w'.frozen? ⟨w.heap.size + 1 + 1, 1, none⟩ = false ∧ w'.cell? ⟨w.heap.size + 1 + 1, 2, none⟩ = some (.int .u8 0) ∧ w'.frozen? ⟨w.heap.size + 1 + 1, 2, none⟩ = false ∧ w'.cell? ⟨w.heap.size + 1 + 1 + 1, 0, none⟩ = some (.int .u8 0) ∧ w'.frozen? ⟨w.heap.size + 1 + 1 + 1, 0, none⟩ = false ∧ w'.cell? ⟨w.heap.size + 1 + 1 + 1, 1, none⟩ = some (.int .u8 0) ∧ w'.frozen? ⟨w.heap.size + 1 + 1 + 1, 1, none⟩ = false ∧ w'.cell? ⟨w.heap.size + 1 + 1 + 1, 2, none⟩ = some (.int .u8 0) ∧ w'.frozen? ⟨w.heap.size + 1 + 1 + 1, 2, none⟩ = false) (fun W => W.cell? ⟨w.heap.size, 0, none⟩ = some (.int .u8 r) ∧ W.frozen? ⟨w.heap.size, 0, none⟩ = false ∧ W.cell? ⟨w.heap.size, 1, none⟩ = some (.int .u8 g) ∧ W.frozen? ⟨w.heap.size, 1, none⟩ = false ∧ W.cell? ⟨w.heap.size, 2, none⟩ = some (.int .u8 b) ∧ W.frozen? ⟨w.heap.size, 2, none⟩ = false ∧ W.cell? ⟨w.heap.size, 3, none⟩ = some (.int .u8 a) ∧ W.frozen? ⟨w.heap.size, 3, none⟩ = false ∧ W.cell? ⟨w.heap.size + 1, 0, none⟩ = some (.int .u8 s) ∧ W.frozen? ⟨w.heap.size + 1, 0, none⟩ = false ∧ W.cell? ⟨w.heap.size + 1, 1, none⟩ = some (.int .u8 t) ∧ W.frozen? ⟨w.heap.size + 1, 1, none⟩ = false ∧ W.cell? ⟨w.heap.size + 1, 2, none⟩ = some (.int .u8 u) ∧ W.frozen? ⟨w.heap.size + 1, 2, none⟩ = false ∧ W.cell? ⟨w.heap.size + 1, 3, none⟩ = some (.int .u8 d) ∧ W.frozen? ⟨w.heap.size + 1, 3, none⟩ = false ∧ W.cell? ⟨w.heap.size + 1 + 1, 0, none⟩ = some (.int .u8 0) ∧ W.frozen? ⟨w.heap.size + 1 + 1, 0, none⟩ = false ∧ W.cell? ⟨w.heap.size + 1 + 1, 1, none⟩ = some (.int .u8 0) ∧ W.frozen? ⟨w.heap.size + 1 + 1, 1, none⟩ = false ∧ W.cell? ⟨w.heap.size + 1 + 1, 2, none⟩ = some (.int .u8 0) ∧ W.frozen? ⟨w.heap.size + 1 + 1, 2, none⟩ = false ∧ W.cell? ⟨w.heap.size + 1 + 1 + 1, 0, none⟩ = some (.int .u8 0) ∧ W.frozen? ⟨w.heap.size + 1 + 1 + 1, 0, none⟩ = false ∧ W.cell? ⟨w.heap.size + 1 + 1 + 1, 1, none⟩ = some (.int .u8 0) ∧ W.frozen? ⟨w.heap.size + 1 + 1 + 1, 1, none⟩ = false ∧ W.cell? ⟨w.heap.size + 1 + 1 + 1, 2, none⟩ = some (.int .u8 0) ∧ W.frozen? ⟨w.heap.size + 1 + 1 + 1, 2, none⟩ = false ∧ Below w.heap.size w W ∧ w.heap.size + 1 + 1 + 1 + 1 ≤ W.heap.size) 8 76 [.val (.pointer (some ⟨w.heap.size, 3, none⟩)), .val (.int .u8 a), .val (.int .i64 a), .val (.pointer (some ⟨w.heap.size + 1, 3, none⟩)), .val (.int .u8 d), .val (.int .i64 d), .val (.int .i64 a), .val (.int .i64 d)] (by kernel_rfl) (by kernel_rfl) rfl (by kernel_rfl) (by rintro w1 w2 ⟨h0, h1, h2, h3, h4, h5, h6, h7, h8, h9, h10, h11, h12, h13, h14, h15, h16, h17, h18, h19, h20, h21, h22, h23, h24, h25, h26, h27⟩ hb; exact ⟨bcs hb h0, bfs hb h0 h1, bcs hb h2, bfs hb h2 h3, bcs hb h4, bfs hb h4 h5, bcs hb h6, bfs hb h6 h7, bcs hb h8, bfs hb h8 h9, bcs hb h10, bfs hb h10 h11, bcs hb h12, bfs hb h12 h13, bcs hb h14, bfs hb h14 h15, bcs hb h16, bfs hb h16 h17, bcs hb h18, bfs hb h18 h19, bcs hb h20, bfs hb h20 h21, bcs hb h22, bfs hb h22 h23, bcs hb h24, bfs hb h24 h25, bcs hb h26, bfs hb h26 h27⟩) ⟨by first | with_reducible assumption | go_simp, by first | with_reducible assumption | go_simp, by first | with_reducible assumption | go_simp, by first | with_reducible assumption | go_simp, by first | with_reducible assumption | go_simp, by first | with_reducible assumption | go_simp, by first | with_reducible assumption | go_simp, by first | with_reducible assumption | go_simp, by first | with_reducible assumption | go_simp, by first | with_reducible assumption | go_simp, by first | with_reducible assumption | go_simp, by first | with_reducible assumption | go_simp, by first | with_reducible assumption | go_simp, by first | with_reducible assumption | go_simp, by first | with_reducible assumption | go_simp, by first | with_reducible assumption | go_simp, by first | with_reducible assumption | go_simp, by first | with_reducible assumption | go_simp, by first | with_reducible assumption | go_simp, by first | with_reducible assumption | go_simp, by first | with_reducible assumption | go_simp, by first | with_reducible assumption | go_simp, by first | with_reducible assumption | go_simp, by first | with_reducible assumption | go_simp, by first | with_reducible assumption | go_simp, by first | with_reducible assumption | go_simp, by first | with_reducible assumption | go_simp, by first | with_reducible assumption | go_simp, by repeat (first | with_reducible exact Below.refl _ _ | fail | with_reducible apply below_drewN | with_reducible apply Below.drew | (with_reducible refine Below.alloc ?_ (by first | (simp; done) | (simp; omega) | omega) _) | (with_reducible refine Below.setCell ?_ (by first | (simp; done) | (simp; omega) | omega) _)), by first | with_reducible assumption | (simp; done) | (simp; omega)⟩ ?_ ?_
  · rintro W ⟨k1_b4_0, g1_b4_0, k1_b4_1, g1_b4_1, k1_b4_2, g1_b4_2, k1_b4_3, g1_b4_3, k1_b5_0, g1_b5_0, k1_b5_1, g1_b5_1, k1_b5_2, g1_b5_2, k1_b5_3, g1_b5_3, k1_b6_0, g1_b6_0, k1_b6_1, g1_b6_1, k1_b6_2, g1_b6_2, k1_g7_0, g1_g7_0, k1_g7_1, g1_g7_1, k1_g7_2, g1_g7_2, B1, z1⟩; exact ⟨k1_b4_0, g1_b4_0, k1_b4_1, g1_b4_1, k1_b4_2, g1_b4_2, k1_b4_3, g1_b4_3, k1_b5_0, g1_b5_0, k1_b5_1, g1_b5_1, k1_b5_2, g1_b5_2, k1_b5_3, g1_b5_3, k1_b6_0, g1_b6_0, k1_b6_1, g1_b6_1, k1_b6_2, g1_b6_2, k1_g7_0, g1_g7_0, k1_g7_1, g1_g7_1, k1_g7_2, g1_g7_2⟩
  rintro w1 ⟨k1_b4_0, g1_b4_0, k1_b4_1, g1_b4_1, k1_b4_2, g1_b4_2, k1_b4_3, g1_b4_3, k1_b5_0, g1_b5_0, k1_b5_1, g1_b5_1, k1_b5_2, g1_b5_2, k1_b5_3, g1_b5_3, k1_b6_0, g1_b6_0, k1_b6_1, g1_b6_1, k1_b6_2, g1_b6_2, k1_g7_0, g1_g7_0, k1_g7_1, g1_g7_1, k1_g7_2, g1_g7_2, B1, z1⟩ gg
  simp only [List.take_succ_cons, List.take_zero, List.drop_succ_cons, List.drop_zero, List.cons_append, List.nil_append, List.append_nil]
  refine obe_val (by rfl) ?_ ?_
  · clear k1_b4_0 g1_b4_0 k1_b4_1 g1_b4_1 k1_b4_2 g1_b4_2 k1_b4_3 g1_b4_3 k1_b5_0 g1_b5_0 k1_b5_1 g1_b5_1 k1_b5_2 g1_b5_2 k1_b5_3 g1_b5_3 k1_b6_0 g1_b6_0 k1_b6_1 g1_b6_1 k1_b6_2 g1_b6_2 k1_g7_0 g1_g7_0 k1_g7_1 g1_g7_1 k1_g7_2 g1_g7_2 B1 z1; intro f hf; have u4 : f 4 = (.pointer (some ⟨w.heap.size, 0, none⟩)) := (by rw [← hf]; rfl); clear hf; rintro w' ⟨h0, h1, h2, h3, h4, h5, h6, h7, h8, h9, h10, h11, h12, h13, h14, h15, h16, h17, h18, h19, h20, h21, h22, h23, h24, h25, h26, h27⟩; go_simp; try exact IntWalk.i64_in _ (by omega)
  refine obe_val (by rfl) ?_ ?_
  · clear k1_b4_0 g1_b4_0 k1_b4_1 g1_b4_1 k1_b4_2 g1_b4_2 k1_b4_3 g1_b4_3 k1_b5_0 g1_b5_0 k1_b5_1 g1_b5_1 k1_b5_2 g1_b5_2 k1_b5_3 g1_b5_3 k1_b6_0 g1_b6_0 k1_b6_1 g1_b6_1 k1_b6_2 g1_b6_2 k1_g7_0 g1_g7_0 k1_g7_1 g1_g7_1 k1_g7_2 g1_g7_2 B1 z1; intro f hf; have u16 : f 16 = (.pointer (some ⟨w.heap.size, 3, none⟩)) := (by rw [← hf]; rfl); clear hf; rintro w' ⟨h0, h1, h2, h3, h4, h5, h6, h7, h8, h9, h10, h11, h12, h13, h14, h15, h16, h17, h18, h19, h20, h21, h22, h23, h24, h25, h26, h27⟩; go_simp; try exact IntWalk.i64_in _ (by omega)
  refine obe_val (by rfl) ?_ ?_
  · clear k1_b4_0 g1_b4_0 k1_b4_1 g1_b4_1 k1_b4_2 g1_b4_2 k1_b4_3 g1_b4_3 k1_b5_0 g1_b5_0 k1_b5_1 g1_b5_1 k1_b5_2 g1_b5_2 k1_b5_3 g1_b5_3 k1_b6_0 g1_b6_0 k1_b6_1 g1_b6_1 k1_b6_2 g1_b6_2 k1_g7_0 g1_g7_0 k1_g7_1 g1_g7_1 k1_g7_2 g1_g7_2 B1 z1; intro f hf; have u17 : f 17 = (.int .u8 a) := (by rw [← hf]; rfl); clear hf; rintro w' ⟨h0, h1, h2, h3, h4, h5, h6, h7, h8, h9, h10, h11, h12, h13, h14, h15, h16, h17, h18, h19, h20, h21, h22, h23, h24, h25, h26, h27⟩; go_simp; try exact IntWalk.i64_in _ (by omega)
  refine obe_val (by rfl) ?_ ?_
  · clear k1_b4_0 g1_b4_0 k1_b4_1 g1_b4_1 k1_b4_2 g1_b4_2 k1_b4_3 g1_b4_3 k1_b5_0 g1_b5_0 k1_b5_1 g1_b5_1 k1_b5_2 g1_b5_2 k1_b5_3 g1_b5_3 k1_b6_0 g1_b6_0 k1_b6_1 g1_b6_1 k1_b6_2 g1_b6_2 k1_g7_0 g1_g7_0 k1_g7_1 g1_g7_1 k1_g7_2 g1_g7_2 B1 z1; intro f hf; have u5 : f 5 = (.pointer (some ⟨w.heap.size + 1, 0, none⟩)) := (by rw [← hf]; rfl); clear hf; rintro w' ⟨h0, h1, h2, h3, h4, h5, h6, h7, h8, h9, h10, h11, h12, h13, h14, h15, h16, h17, h18, h19, h20, h21, h22, h23, h24, h25, h26, h27⟩; go_simp; try exact IntWalk.i64_in _ (by omega)
  refine obe_val (by rfl) ?_ ?_
  · clear k1_b4_0 g1_b4_0 k1_b4_1 g1_b4_1 k1_b4_2 g1_b4_2 k1_b4_3 g1_b4_3 k1_b5_0 g1_b5_0 k1_b5_1 g1_b5_1 k1_b5_2 g1_b5_2 k1_b5_3 g1_b5_3 k1_b6_0 g1_b6_0 k1_b6_1 g1_b6_1 k1_b6_2 g1_b6_2 k1_g7_0 g1_g7_0 k1_g7_1 g1_g7_1 k1_g7_2 g1_g7_2 B1 z1; intro f hf; have u19 : f 19 = (.pointer (some ⟨w.heap.size + 1, 3, none⟩)) := (by rw [← hf]; rfl); clear hf; rintro w' ⟨h0, h1, h2, h3, h4, h5, h6, h7, h8, h9, h10, h11, h12, h13, h14, h15, h16, h17, h18, h19, h20, h21, h22, h23, h24, h25, h26, h27⟩; go_simp; try exact IntWalk.i64_in _ (by omega)
  refine obe_val (by rfl) ?_ ?_
  · clear k1_b4_0 g1_b4_0 k1_b4_1 g1_b4_1 k1_b4_2 g1_b4_2 k1_b4_3 g1_b4_3 k1_b5_0 g1_b5_0 k1_b5_1 g1_b5_1 k1_b5_2 g1_b5_2 k1_b5_3 g1_b5_3 k1_b6_0 g1_b6_0 k1_b6_1 g1_b6_1 k1_b6_2 g1_b6_2 k1_g7_0 g1_g7_0 k1_g7_1 g1_g7_1 k1_g7_2 g1_g7_2 B1 z1; intro f hf; have u20 : f 20 = (.int .u8 d) := (by rw [← hf]; rfl); clear hf; rintro w' ⟨h0, h1, h2, h3, h4, h5, h6, h7, h8, h9, h10, h11, h12, h13, h14, h15, h16, h17, h18, h19, h20, h21, h22, h23, h24, h25, h26, h27⟩; go_simp; try exact IntWalk.i64_in _ (by omega)
  refine obe_val (by rfl) ?_ ?_
  · clear k1_b4_0 g1_b4_0 k1_b4_1 g1_b4_1 k1_b4_2 g1_b4_2 k1_b4_3 g1_b4_3 k1_b5_0 g1_b5_0 k1_b5_1 g1_b5_1 k1_b5_2 g1_b5_2 k1_b5_3 g1_b5_3 k1_b6_0 g1_b6_0 k1_b6_1 g1_b6_1 k1_b6_2 g1_b6_2 k1_g7_0 g1_g7_0 k1_g7_1 g1_g7_1 k1_g7_2 g1_g7_2 B1 z1; intro f hf; have u18 : f 18 = (.int .i64 a) := (by rw [← hf]; rfl); clear hf; rintro w' ⟨h0, h1, h2, h3, h4, h5, h6, h7, h8, h9, h10, h11, h12, h13, h14, h15, h16, h17, h18, h19, h20, h21, h22, h23, h24, h25, h26, h27⟩; go_simp; try exact IntWalk.i64_in _ (by omega)
  refine obe_val (by rfl) ?_ ?_
  · clear k1_b4_0 g1_b4_0 k1_b4_1 g1_b4_1 k1_b4_2 g1_b4_2 k1_b4_3 g1_b4_3 k1_b5_0 g1_b5_0 k1_b5_1 g1_b5_1 k1_b5_2 g1_b5_2 k1_b5_3 g1_b5_3 k1_b6_0 g1_b6_0 k1_b6_1 g1_b6_1 k1_b6_2 g1_b6_2 k1_g7_0 g1_g7_0 k1_g7_1 g1_g7_1 k1_g7_2 g1_g7_2 B1 z1; intro f hf; have u21 : f 21 = (.int .i64 d) := (by rw [← hf]; rfl); clear hf; rintro w' ⟨h0, h1, h2, h3, h4, h5, h6, h7, h8, h9, h10, h11, h12, h13, h14, h15, h16, h17, h18, h19, h20, h21, h22, h23, h24, h25, h26, h27⟩; go_simp; try exact IntWalk.i64_in _ (by omega)
  refine obe_nil ?_
  rintro w2 ⟨h0, h1, h2, h3, h4, h5, h6, h7, h8, h9, h10, h11, h12, h13, h14, h15, h16, h17, h18, h19, h20, h21, h22, h23, h24, h25, h26, h27⟩ hb2 hF
  (try simp only [List.nil_append, List.append_nil, List.cons_append] at hF)
  simp only [puts, putD, Act.put, List.setIfInBounds_toArray, List.set_cons_zero, List.set_cons_succ]
  clear hF
  have k2_b4_0 := bcs hb2 k1_b4_0
  have g2_b4_0 := bfs hb2 k1_b4_0 g1_b4_0
  have k2_b4_1 := bcs hb2 k1_b4_1
  have g2_b4_1 := bfs hb2 k1_b4_1 g1_b4_1
  have k2_b4_2 := bcs hb2 k1_b4_2
  have g2_b4_2 := bfs hb2 k1_b4_2 g1_b4_2
  have k2_b4_3 := bcs hb2 k1_b4_3
  have g2_b4_3 := bfs hb2 k1_b4_3 g1_b4_3
  have k2_b5_0 := bcs hb2 k1_b5_0
  have g2_b5_0 := bfs hb2 k1_b5_0 g1_b5_0
  have k2_b5_1 := bcs hb2 k1_b5_1
  have g2_b5_1 := bfs hb2 k1_b5_1 g1_b5_1
  have k2_b5_2 := bcs hb2 k1_b5_2
  have g2_b5_2 := bfs hb2 k1_b5_2 g1_b5_2
  have k2_b5_3 := bcs hb2 k1_b5_3
  have g2_b5_3 := bfs hb2 k1_b5_3 g1_b5_3
  have k2_b6_0 := bcs hb2 k1_b6_0
  have g2_b6_0 := bfs hb2 k1_b6_0 g1_b6_0
  have k2_b6_1 := bcs hb2 k1_b6_1
  have g2_b6_1 := bfs hb2 k1_b6_1 g1_b6_1
  have k2_b6_2 := bcs hb2 k1_b6_2
  have g2_b6_2 := bfs hb2 k1_b6_2 g1_b6_2
  have k2_g7_0 := bcs hb2 k1_g7_0
  have g2_g7_0 := bfs hb2 k1_g7_0 g1_g7_0
  have k2_g7_1 := bcs hb2 k1_g7_1
  have g2_g7_1 := bfs hb2 k1_g7_1 g1_g7_1
  have k2_g7_2 := bcs hb2 k1_g7_2
  have g2_g7_2 := bfs hb2 k1_g7_2 g1_g7_2
  clear h0 h1 h2 h3 h4 h5 h6 h7 h8 h9 h10 h11 h12 h13 h14 h15 h16 h17 h18 h19 h20 h21 h22 h23 h24 h25 h26 h27
  have B2 := bel_step B1 hb2
  have z2 := Nat.le_trans z1 hb2.size
  clear hb2
  (try clear B1)
  (try clear z1)
  (try clear k1_b4_0)
  (try clear g1_b4_0)
  (try clear k1_b4_1)
  (try clear g1_b4_1)
  (try clear k1_b4_2)
  (try clear g1_b4_2)
  (try clear k1_b4_3)
  (try clear g1_b4_3)
  (try clear k1_b5_0)
  (try clear g1_b5_0)
  (try clear k1_b5_1)
  (try clear g1_b5_1)
  (try clear k1_b5_2)
  (try clear g1_b5_2)
  (try clear k1_b5_3)
  (try clear g1_b5_3)
  (try clear k1_b6_0)
  (try clear g1_b6_0)
  (try clear k1_b6_1)
  (try clear g1_b6_1)
  (try clear k1_b6_2)
  (try clear g1_b6_2)
  (try clear k1_g7_0)
  (try clear g1_g7_0)
  (try clear k1_g7_1)
  (try clear g1_g7_1)
  (try clear k1_g7_2)
  (try clear g1_g7_2)
  (try clear q1_b4)
  (try clear x1_b4)
  (try clear y1_b4)
  (try clear q1_b5)
  (try clear x1_b5)
  (try clear y1_b5)
  (try clear q1_b6)
  (try clear x1_b6)
  (try clear y1_b6)
  (try clear q1_g7)
  (try clear x1_g7)
  (try clear y1_g7)
  have q2_b4 : w.heap.size < w2.heap.size := qlt k2_b4_0
  have x2_b4 : ¬ w.heap.size = w2.heap.size := qne k2_b4_0
  have y2_b4 : ¬ w2.heap.size = w.heap.size := fun h => qne k2_b4_0 h.symm
  have q2_b5 : w.heap.size + 1 < w2.heap.size := qlt k2_b5_0
  have x2_b5 : ¬ w.heap.size + 1 = w2.heap.size := qne k2_b5_0
  have y2_b5 : ¬ w2.heap.size = w.heap.size + 1 := fun h => qne k2_b5_0 h.symm
  have q2_b6 : w.heap.size + 1 + 1 < w2.heap.size := qlt k2_b6_0
  have x2_b6 : ¬ w.heap.size + 1 + 1 = w2.heap.size := qne k2_b6_0
  have y2_b6 : ¬ w2.heap.size = w.heap.size + 1 + 1 := fun h => qne k2_b6_0 h.symm
  have q2_g7 : w.heap.size + 1 + 1 + 1 < w2.heap.size := qlt k2_g7_0
  have x2_g7 : ¬ w.heap.size + 1 + 1 + 1 = w2.heap.size := qne k2_g7_0
  have y2_g7 : ¬ w2.heap.size = w.heap.size + 1 + 1 + 1 := fun h => qne k2_g7_0 h.symm
  unfold wpList
  go_wp2
  refine wp_region_env (fun w' => w'.cell? ⟨w.heap.size, 0, none⟩ = some (.int .u8 r) ∧ w'.frozen? ⟨w.heap.size, 0, none⟩ = false ∧ w'.cell? ⟨w.heap.size, 1, none⟩ = some (.int .u8 g) ∧ w'.frozen? ⟨w.heap.size, 1, none⟩ = false ∧ w'.cell? ⟨w.heap.size, 2, none⟩ = some (.int .u8 b) ∧ w'.frozen? ⟨w.heap.size, 2, none⟩ = false ∧ w'.cell? ⟨w.heap.size, 3, none⟩ = some (.int .u8 a) ∧ w'.frozen? ⟨w.heap.size, 3, none⟩ = false ∧ w'.cell? ⟨w.heap.size + 1, 0, none⟩ = some (.int .u8 s) ∧ w'.frozen? ⟨w.heap.size + 1, 0, none⟩ = false ∧ w'.cell? ⟨w.heap.size + 1, 1, none⟩ = some (.int .u8 t) ∧ w'.frozen? ⟨w.heap.size + 1, 1, none⟩ = false ∧ w'.cell? ⟨w.heap.size + 1, 2, none⟩ = some (.int .u8 u) ∧ w'.frozen? ⟨w.heap.size + 1, 2, none⟩ = false ∧ w'.cell? ⟨w.heap.size + 1, 3, none⟩ = some (.int .u8 d) ∧ w'.frozen? ⟨w.heap.size + 1, 3, none⟩ = false ∧ w'.cell? ⟨w.heap.size + 1 + 1, 0, none⟩ = some (.int .u8 0) ∧ w'.frozen? ⟨w.heap.size + 1 + 1, 0, none⟩ = false ∧ w'.cell? ⟨w.heap.size + 1 + 1, 1, none⟩ = some (.int .u8 0) ∧ w'.frozen? ⟨w.heap.size + 1 + 1, 1, none⟩ = false ∧ w'.cell? ⟨w.heap.size + 1 + 1, 2, none⟩ = some (.int .u8 0) ∧ w'.frozen? ⟨w.heap.size + 1 + 1, 2, none⟩ = false ∧ w'.cell? ⟨w.heap.size + 1 + 1 + 1, 0, none⟩ = some (.int .u8 0) ∧ w'.frozen? ⟨w.heap.size + 1 + 1 + 1, 0, none⟩ = false ∧ w'.cell? ⟨w.heap.size + 1 + 1 + 1, 1, none⟩ = some (.int .u8 0) ∧ w'.frozen? ⟨w.heap.size + 1 + 1 + 1, 1, none⟩ = false ∧ w'.cell? ⟨w.heap.size + 1 + 1 + 1, 2, none⟩ = some (.int .u8 0) ∧ w'.frozen? ⟨w.heap.size + 1 + 1 + 1, 2, none⟩ = false) (fun W => W.cell? ⟨w.heap.size, 0, none⟩ = some (.int .u8 r) ∧ W.frozen? ⟨w.heap.size, 0, none⟩ = false ∧ W.cell? ⟨w.heap.size, 1, none⟩ = some (.int .u8 g) ∧ W.frozen? ⟨w.heap.size, 1, none⟩ = false ∧ W.cell? ⟨w.heap.size, 2, none⟩ = some (.int .u8 b) ∧ W.frozen? ⟨w.heap.size, 2, none⟩ = false ∧ W.cell? ⟨w.heap.size, 3, none⟩ = some (.int .u8 a) ∧ W.frozen? ⟨w.heap.size, 3, none⟩ = false ∧ W.cell? ⟨w.heap.size + 1, 0, none⟩ = some (.int .u8 s) ∧ W.frozen? ⟨w.heap.size + 1, 0, none⟩ = false ∧ W.cell? ⟨w.heap.size + 1, 1, none⟩ = some (.int .u8 t) ∧ W.frozen? ⟨w.heap.size + 1, 1, none⟩ = false ∧ W.cell? ⟨w.heap.size + 1, 2, none⟩ = some (.int .u8 u) ∧ W.frozen? ⟨w.heap.size + 1, 2, none⟩ = false ∧ W.cell? ⟨w.heap.size + 1, 3, none⟩ = some (.int .u8 d) ∧ W.frozen? ⟨w.heap.size + 1, 3, none⟩ = false ∧ W.cell? ⟨w.heap.size + 1 + 1, 0, none⟩ = some (.int .u8 0) ∧ W.frozen? ⟨w.heap.size + 1 + 1, 0, none⟩ = false ∧ W.cell? ⟨w.heap.size + 1 + 1, 1, none⟩ = some (.int .u8 0) ∧ W.frozen? ⟨w.heap.size + 1 + 1, 1, none⟩ = false ∧ W.cell? ⟨w.heap.size + 1 + 1, 2, none⟩ = some (.int .u8 0) ∧ W.frozen? ⟨w.heap.size + 1 + 1, 2, none⟩ = false ∧ W.cell? ⟨w.heap.size + 1 + 1 + 1, 0, none⟩ = some (.int .u8 0) ∧ W.frozen? ⟨w.heap.size + 1 + 1 + 1, 0, none⟩ = false ∧ W.cell? ⟨w.heap.size + 1 + 1 + 1, 1, none⟩ = some (.int .u8 0) ∧ W.frozen? ⟨w.heap.size + 1 + 1 + 1, 1, none⟩ = false ∧ W.cell? ⟨w.heap.size + 1 + 1 + 1, 2, none⟩ = some (.int .u8 0) ∧ W.frozen? ⟨w.heap.size + 1 + 1 + 1, 2, none⟩ = false ∧ Below w.heap.size w W ∧ w.heap.size + 1 + 1 + 1 + 1 ≤ W.heap.size) 6 76 [.val (.agg #[.int .u8 r, .int .u8 g, .int .u8 b, .int .u8 a]), .call 45 #[.agg #[.int .u8 r, .int .u8 g, .int .u8 b, .int .u8 a]] (.agg #[.int .i64 r, .int .i64 g, .int .i64 b]), .val (.agg #[.int .u8 s, .int .u8 t, .int .u8 u, .int .u8 d]), .call 45 #[.agg #[.int .u8 s, .int .u8 t, .int .u8 u, .int .u8 d]] (.agg #[.int .i64 s, .int .i64 t, .int .i64 u]), .fresh (.cells #[.int .i64 0, .int .i64 0, .int .i64 0] 58), .fresh (.cells #[.int .i64 0, .int .i64 0, .int .i64 0] 58)] (by kernel_rfl) (by kernel_rfl) rfl (by kernel_rfl) (by rintro w1 w2 ⟨h0, h1, h2, h3, h4, h5, h6, h7, h8, h9, h10, h11, h12, h13, h14, h15, h16, h17, h18, h19, h20, h21, h22, h23, h24, h25, h26, h27⟩ hb; exact ⟨bcs hb h0, bfs hb h0 h1, bcs hb h2, bfs hb h2 h3, bcs hb h4, bfs hb h4 h5, bcs hb h6, bfs hb h6 h7, bcs hb h8, bfs hb h8 h9, bcs hb h10, bfs hb h10 h11, bcs hb h12, bfs hb h12 h13, bcs hb h14, bfs hb h14 h15, bcs hb h16, bfs hb h16 h17, bcs hb h18, bfs hb h18 h19, bcs hb h20, bfs hb h20 h21, bcs hb h22, bfs hb h22 h23, bcs hb h24, bfs hb h24 h25, bcs hb h26, bfs hb h26 h27⟩) ⟨by first | with_reducible assumption | go_simp, by first | with_reducible assumption | go_simp, by first | with_reducible assumption | go_simp, by first | with_reducible assumption | go_simp, by first | with_reducible assumption | go_simp, by first | with_reducible assumption | go_simp, by first | with_reducible assumption | go_simp, by first | with_reducible assumption | go_simp, by first | with_reducible assumption | go_simp, by first | with_reducible assumption | go_simp, by first | with_reducible assumption | go_simp, by first | with_reducible assumption | go_simp, by first | with_reducible assumption | go_simp, by first | with_reducible assumption | go_simp, by first | with_reducible assumption | go_simp, by first | with_reducible assumption | go_simp, by first | with_reducible assumption | go_simp, by first | with_reducible assumption | go_simp, by first | with_reducible assumption | go_simp, by first | with_reducible assumption | go_simp, by first | with_reducible assumption | go_simp, by first | with_reducible assumption | go_simp, by first | with_reducible assumption | go_simp, by first | with_reducible assumption | go_simp, by first | with_reducible assumption | go_simp, by first | with_reducible assumption | go_simp, by first | with_reducible assumption | go_simp, by first | with_reducible assumption | go_simp, by repeat (first | with_reducible exact Below.refl _ _ | with_reducible exact B2 | with_reducible apply below_drewN | with_reducible apply Below.drew | (with_reducible refine Below.alloc ?_ (by first | (simp; done) | (simp; omega) | omega) _) | (with_reducible refine Below.setCell ?_ (by first | (simp; done) | (simp; omega) | omega) _)), by first | with_reducible assumption | (simp; done) | (simp; omega)⟩ ?_ ?_
  · rintro W ⟨k3_b4_0, g3_b4_0, k3_b4_1, g3_b4_1, k3_b4_2, g3_b4_2, k3_b4_3, g3_b4_3, k3_b5_0, g3_b5_0, k3_b5_1, g3_b5_1, k3_b5_2, g3_b5_2, k3_b5_3, g3_b5_3, k3_b6_0, g3_b6_0, k3_b6_1, g3_b6_1, k3_b6_2, g3_b6_2, k3_g7_0, g3_g7_0, k3_g7_1, g3_g7_1, k3_g7_2, g3_g7_2, B3, z3⟩; exact ⟨k3_b4_0, g3_b4_0, k3_b4_1, g3_b4_1, k3_b4_2, g3_b4_2, k3_b4_3, g3_b4_3, k3_b5_0, g3_b5_0, k3_b5_1, g3_b5_1, k3_b5_2, g3_b5_2, k3_b5_3, g3_b5_3, k3_b6_0, g3_b6_0, k3_b6_1, g3_b6_1, k3_b6_2, g3_b6_2, k3_g7_0, g3_g7_0, k3_g7_1, g3_g7_1, k3_g7_2, g3_g7_2⟩
  (try clear B2)
  (try clear z2)
  (try clear k2_b4_0)
  (try clear g2_b4_0)
  (try clear k2_b4_1)
  (try clear g2_b4_1)
  (try clear k2_b4_2)
  (try clear g2_b4_2)
  (try clear k2_b4_3)
  (try clear g2_b4_3)
  (try clear k2_b5_0)
  (try clear g2_b5_0)
  (try clear k2_b5_1)
  (try clear g2_b5_1)
  (try clear k2_b5_2)
  (try clear g2_b5_2)
  (try clear k2_b5_3)
  (try clear g2_b5_3)
  (try clear k2_b6_0)
  (try clear g2_b6_0)
  (try clear k2_b6_1)
  (try clear g2_b6_1)
  (try clear k2_b6_2)
  (try clear g2_b6_2)
  (try clear k2_g7_0)
  (try clear g2_g7_0)
  (try clear k2_g7_1)
  (try clear g2_g7_1)
  (try clear k2_g7_2)
  (try clear g2_g7_2)
  (try clear q2_b4)
  (try clear x2_b4)
  (try clear y2_b4)
  (try clear q2_b5)
  (try clear x2_b5)
  (try clear y2_b5)
  (try clear q2_b6)
  (try clear x2_b6)
  (try clear y2_b6)
  (try clear q2_g7)
  (try clear x2_g7)
  (try clear y2_g7)
  rintro w3 ⟨k3_b4_0, g3_b4_0, k3_b4_1, g3_b4_1, k3_b4_2, g3_b4_2, k3_b4_3, g3_b4_3, k3_b5_0, g3_b5_0, k3_b5_1, g3_b5_1, k3_b5_2, g3_b5_2, k3_b5_3, g3_b5_3, k3_b6_0, g3_b6_0, k3_b6_1, g3_b6_1, k3_b6_2, g3_b6_2, k3_g7_0, g3_g7_0, k3_g7_1, g3_g7_1, k3_g7_2, g3_g7_2, B3, z3⟩ gg
  simp only [List.take_succ_cons, List.take_zero, List.drop_succ_cons, List.drop_zero, List.cons_append, List.nil_append, List.append_nil]
  refine obe_val (by rfl) ?_ ?_
  · clear k3_b4_0 g3_b4_0 k3_b4_1 g3_b4_1 k3_b4_2 g3_b4_2 k3_b4_3 g3_b4_3 k3_b5_0 g3_b5_0 k3_b5_1 g3_b5_1 k3_b5_2 g3_b5_2 k3_b5_3 g3_b5_3 k3_b6_0 g3_b6_0 k3_b6_1 g3_b6_1 k3_b6_2 g3_b6_2 k3_g7_0 g3_g7_0 k3_g7_1 g3_g7_1 k3_g7_2 g3_g7_2 B3 z3; intro f hf; have u4 : f 4 = (.pointer (some ⟨w.heap.size, 0, none⟩)) := (by rw [← hf]; rfl); clear hf; rintro w' ⟨h0, h1, h2, h3, h4, h5, h6, h7, h8, h9, h10, h11, h12, h13, h14, h15, h16, h17, h18, h19, h20, h21, h22, h23, h24, h25, h26, h27⟩; go_simp; try exact IntWalk.i64_in _ (by omega)
  refine obe_call (by rfl) ?_ ?_ ?_
  · clear k3_b4_0 g3_b4_0 k3_b4_1 g3_b4_1 k3_b4_2 g3_b4_2 k3_b4_3 g3_b4_3 k3_b5_0 g3_b5_0 k3_b5_1 g3_b5_1 k3_b5_2 g3_b5_2 k3_b5_3 g3_b5_3 k3_b6_0 g3_b6_0 k3_b6_1 g3_b6_1 k3_b6_2 g3_b6_2 k3_g7_0 g3_g7_0 k3_g7_1 g3_g7_1 k3_g7_2 g3_g7_2 B3 z3; intro f hf; have u22 : f 22 = (.agg #[.int .u8 r, .int .u8 g, .int .u8 b, .int .u8 a]) := (by rw [← hf]; rfl); clear hf; intro w' _; simp only [execOp, resolve, invoke, rhoF_tmp, rhoF_func, rhoF_const, u22, List.map_toArray, List.map_cons, List.map_nil]; go_simp
  · clear k3_b4_0 g3_b4_0 k3_b4_1 g3_b4_1 k3_b4_2 g3_b4_2 k3_b4_3 g3_b4_3 k3_b5_0 g3_b5_0 k3_b5_1 g3_b5_1 k3_b5_2 g3_b5_2 k3_b5_3 g3_b5_3 k3_b6_0 g3_b6_0 k3_b6_1 g3_b6_1 k3_b6_2 g3_b6_2 k3_g7_0 g3_g7_0 k3_g7_1 g3_g7_1 k3_g7_2 g3_g7_2 B3 z3; rintro w' ⟨h0, h1, h2, h3, h4, h5, h6, h7, h8, h9, h10, h11, h12, h13, h14, h15, h16, h17, h18, h19, h20, h21, h22, h23, h24, h25, h26, h27⟩; exact comps_any r g b a r0 r1 g0 g1 b0 b1 a0 a1 _
  refine obe_val (by rfl) ?_ ?_
  · clear k3_b4_0 g3_b4_0 k3_b4_1 g3_b4_1 k3_b4_2 g3_b4_2 k3_b4_3 g3_b4_3 k3_b5_0 g3_b5_0 k3_b5_1 g3_b5_1 k3_b5_2 g3_b5_2 k3_b5_3 g3_b5_3 k3_b6_0 g3_b6_0 k3_b6_1 g3_b6_1 k3_b6_2 g3_b6_2 k3_g7_0 g3_g7_0 k3_g7_1 g3_g7_1 k3_g7_2 g3_g7_2 B3 z3; intro f hf; have u5 : f 5 = (.pointer (some ⟨w.heap.size + 1, 0, none⟩)) := (by rw [← hf]; rfl); clear hf; rintro w' ⟨h0, h1, h2, h3, h4, h5, h6, h7, h8, h9, h10, h11, h12, h13, h14, h15, h16, h17, h18, h19, h20, h21, h22, h23, h24, h25, h26, h27⟩; go_simp; try exact IntWalk.i64_in _ (by omega)
  refine obe_call (by rfl) ?_ ?_ ?_
  · clear k3_b4_0 g3_b4_0 k3_b4_1 g3_b4_1 k3_b4_2 g3_b4_2 k3_b4_3 g3_b4_3 k3_b5_0 g3_b5_0 k3_b5_1 g3_b5_1 k3_b5_2 g3_b5_2 k3_b5_3 g3_b5_3 k3_b6_0 g3_b6_0 k3_b6_1 g3_b6_1 k3_b6_2 g3_b6_2 k3_g7_0 g3_g7_0 k3_g7_1 g3_g7_1 k3_g7_2 g3_g7_2 B3 z3; intro f hf; have u24 : f 24 = (.agg #[.int .u8 s, .int .u8 t, .int .u8 u, .int .u8 d]) := (by rw [← hf]; rfl); clear hf; intro w' _; simp only [execOp, resolve, invoke, rhoF_tmp, rhoF_func, rhoF_const, u24, List.map_toArray, List.map_cons, List.map_nil]; go_simp
  · clear k3_b4_0 g3_b4_0 k3_b4_1 g3_b4_1 k3_b4_2 g3_b4_2 k3_b4_3 g3_b4_3 k3_b5_0 g3_b5_0 k3_b5_1 g3_b5_1 k3_b5_2 g3_b5_2 k3_b5_3 g3_b5_3 k3_b6_0 g3_b6_0 k3_b6_1 g3_b6_1 k3_b6_2 g3_b6_2 k3_g7_0 g3_g7_0 k3_g7_1 g3_g7_1 k3_g7_2 g3_g7_2 B3 z3; rintro w' ⟨h0, h1, h2, h3, h4, h5, h6, h7, h8, h9, h10, h11, h12, h13, h14, h15, h16, h17, h18, h19, h20, h21, h22, h23, h24, h25, h26, h27⟩; exact comps_any s t u d s0 s1 t0 t1 u0 u1 d0 d1 _
  refine obe_fresh (by rfl) ?_ ?_
  · clear k3_b4_0 g3_b4_0 k3_b4_1 g3_b4_1 k3_b4_2 g3_b4_2 k3_b4_3 g3_b4_3 k3_b5_0 g3_b5_0 k3_b5_1 g3_b5_1 k3_b5_2 g3_b5_2 k3_b5_3 g3_b5_3 k3_b6_0 g3_b6_0 k3_b6_1 g3_b6_1 k3_b6_2 g3_b6_2 k3_g7_0 g3_g7_0 k3_g7_1 g3_g7_1 k3_g7_2 g3_g7_2 B3 z3; intro f hf; clear hf; rintro w' ⟨h0, h1, h2, h3, h4, h5, h6, h7, h8, h9, h10, h11, h12, h13, h14, h15, h16, h17, h18, h19, h20, h21, h22, h23, h24, h25, h26, h27⟩; go_simp
  refine obe_fresh (by rfl) ?_ ?_
  · clear k3_b4_0 g3_b4_0 k3_b4_1 g3_b4_1 k3_b4_2 g3_b4_2 k3_b4_3 g3_b4_3 k3_b5_0 g3_b5_0 k3_b5_1 g3_b5_1 k3_b5_2 g3_b5_2 k3_b5_3 g3_b5_3 k3_b6_0 g3_b6_0 k3_b6_1 g3_b6_1 k3_b6_2 g3_b6_2 k3_g7_0 g3_g7_0 k3_g7_1 g3_g7_1 k3_g7_2 g3_g7_2 B3 z3; intro f hf; clear hf; rintro w' ⟨h0, h1, h2, h3, h4, h5, h6, h7, h8, h9, h10, h11, h12, h13, h14, h15, h16, h17, h18, h19, h20, h21, h22, h23, h24, h25, h26, h27⟩; go_simp
  refine obe_nil ?_
  rintro w4 ⟨h0, h1, h2, h3, h4, h5, h6, h7, h8, h9, h10, h11, h12, h13, h14, h15, h16, h17, h18, h19, h20, h21, h22, h23, h24, h25, h26, h27⟩ hb4 hF
  (try simp only [List.nil_append, List.append_nil, List.cons_append] at hF)
  simp only [puts, putD, Act.put, List.setIfInBounds_toArray, List.set_cons_zero, List.set_cons_succ]
  have lg10 : w3.heap.size ≤ gg 4 := hF.1.1
  have ug10 : gg 4 < w4.heap.size := hF.1.2.1
  have pg10 : w4.heap[gg 4]? = some (.cells #[.int .i64 0, .int .i64 0, .int .i64 0] 58) := hF.1.2.2
  have ng10_g11 : ¬ gg 4 = gg 5 := hF.2.1 (5, .cells #[.int .i64 0, .int .i64 0, .int .i64 0] 58) (by simp)
  have lg11 : w3.heap.size ≤ gg 5 := hF.2.2.1.1
  have ug11 : gg 5 < w4.heap.size := hF.2.2.1.2.1
  have pg11 : w4.heap[gg 5]? = some (.cells #[.int .i64 0, .int .i64 0, .int .i64 0] 58) := hF.2.2.1.2.2
  clear hF
  obtain ⟨g10, eg10⟩ : ∃ x, gg 4 = x := ⟨_, rfl⟩
  rw [eg10] at lg10 ug10 pg10 ng10_g11 ⊢
  clear eg10
  obtain ⟨g11, eg11⟩ : ∃ x, gg 5 = x := ⟨_, rfl⟩
  rw [eg11] at lg11 ug11 pg11 ng10_g11 ⊢
  clear eg11
  clear gg
  have k4_b4_0 := bcs hb4 k3_b4_0
  have g4_b4_0 := bfs hb4 k3_b4_0 g3_b4_0
  have k4_b4_1 := bcs hb4 k3_b4_1
  have g4_b4_1 := bfs hb4 k3_b4_1 g3_b4_1
  have k4_b4_2 := bcs hb4 k3_b4_2
  have g4_b4_2 := bfs hb4 k3_b4_2 g3_b4_2
  have k4_b4_3 := bcs hb4 k3_b4_3
  have g4_b4_3 := bfs hb4 k3_b4_3 g3_b4_3
  have k4_b5_0 := bcs hb4 k3_b5_0
  have g4_b5_0 := bfs hb4 k3_b5_0 g3_b5_0
  have k4_b5_1 := bcs hb4 k3_b5_1
  have g4_b5_1 := bfs hb4 k3_b5_1 g3_b5_1
  have k4_b5_2 := bcs hb4 k3_b5_2
  have g4_b5_2 := bfs hb4 k3_b5_2 g3_b5_2
  have k4_b5_3 := bcs hb4 k3_b5_3
  have g4_b5_3 := bfs hb4 k3_b5_3 g3_b5_3
  have k4_b6_0 := bcs hb4 k3_b6_0
  have g4_b6_0 := bfs hb4 k3_b6_0 g3_b6_0
  have k4_b6_1 := bcs hb4 k3_b6_1
  have g4_b6_1 := bfs hb4 k3_b6_1 g3_b6_1
  have k4_b6_2 := bcs hb4 k3_b6_2
  have g4_b6_2 := bfs hb4 k3_b6_2 g3_b6_2
  have k4_g7_0 := bcs hb4 k3_g7_0
  have g4_g7_0 := bfs hb4 k3_g7_0 g3_g7_0
  have k4_g7_1 := bcs hb4 k3_g7_1
  have g4_g7_1 := bfs hb4 k3_g7_1 g3_g7_1
  have k4_g7_2 := bcs hb4 k3_g7_2
  have g4_g7_2 := bfs hb4 k3_g7_2 g3_g7_2
  clear h0 h1 h2 h3 h4 h5 h6 h7 h8 h9 h10 h11 h12 h13 h14 h15 h16 h17 h18 h19 h20 h21 h22 h23 h24 h25 h26 h27
  have B4 := bel_step B3 hb4
  have z4 := Nat.le_trans z3 hb4.size
  have mg10 : w.heap.size ≤ g10 := by omega
  have ng10_b4 : ¬ g10 = w.heap.size := by omega
  have nb4_g10 : ¬ w.heap.size = g10 := by omega
  have ng10_b5 : ¬ g10 = w.heap.size + 1 := by omega
  have nb5_g10 : ¬ w.heap.size + 1 = g10 := by omega
  have ng10_b6 : ¬ g10 = w.heap.size + 1 + 1 := by omega
  have nb6_g10 : ¬ w.heap.size + 1 + 1 = g10 := by omega
  have ng10_g7 : ¬ g10 = w.heap.size + 1 + 1 + 1 := by omega
  have ng7_g10 : ¬ w.heap.size + 1 + 1 + 1 = g10 := by omega
  have k4_g10_0 : w4.cell? ⟨g10, 0, none⟩ = some (.int .i64 0) := cob pg10 0 rfl
  have g4_g10_0 : w4.frozen? ⟨g10, 0, none⟩ = false := fob pg10 0
  have k4_g10_1 : w4.cell? ⟨g10, 1, none⟩ = some (.int .i64 0) := cob pg10 1 rfl
  have g4_g10_1 : w4.frozen? ⟨g10, 1, none⟩ = false := fob pg10 1
  have k4_g10_2 : w4.cell? ⟨g10, 2, none⟩ = some (.int .i64 0) := cob pg10 2 rfl
  have g4_g10_2 : w4.frozen? ⟨g10, 2, none⟩ = false := fob pg10 2
  have mg11 : w.heap.size ≤ g11 := by omega
  have ng11_b4 : ¬ g11 = w.heap.size := by omega
  have nb4_g11 : ¬ w.heap.size = g11 := by omega
  have ng11_b5 : ¬ g11 = w.heap.size + 1 := by omega
  have nb5_g11 : ¬ w.heap.size + 1 = g11 := by omega
  have ng11_b6 : ¬ g11 = w.heap.size + 1 + 1 := by omega
  have nb6_g11 : ¬ w.heap.size + 1 + 1 = g11 := by omega
  have ng11_g7 : ¬ g11 = w.heap.size + 1 + 1 + 1 := by omega
  have ng7_g11 : ¬ w.heap.size + 1 + 1 + 1 = g11 := by omega
  have k4_g11_0 : w4.cell? ⟨g11, 0, none⟩ = some (.int .i64 0) := cob pg11 0 rfl
  have g4_g11_0 : w4.frozen? ⟨g11, 0, none⟩ = false := fob pg11 0
  have k4_g11_1 : w4.cell? ⟨g11, 1, none⟩ = some (.int .i64 0) := cob pg11 1 rfl
  have g4_g11_1 : w4.frozen? ⟨g11, 1, none⟩ = false := fob pg11 1
  have k4_g11_2 : w4.cell? ⟨g11, 2, none⟩ = some (.int .i64 0) := cob pg11 2 rfl
  have g4_g11_2 : w4.frozen? ⟨g11, 2, none⟩ = false := fob pg11 2
  have ng11_g10 : ¬ g11 = g10 := fun h => ng10_g11 h.symm
  clear lg10 ug10 pg10
  clear lg11 ug11 pg11
  clear hb4
  (try clear B3)
  (try clear z3)
  (try clear k3_b4_0)
  (try clear g3_b4_0)
  (try clear k3_b4_1)
  (try clear g3_b4_1)
  (try clear k3_b4_2)
  (try clear g3_b4_2)
  (try clear k3_b4_3)
  (try clear g3_b4_3)
  (try clear k3_b5_0)
  (try clear g3_b5_0)
  (try clear k3_b5_1)
  (try clear g3_b5_1)
  (try clear k3_b5_2)
  (try clear g3_b5_2)
  (try clear k3_b5_3)
  (try clear g3_b5_3)
  (try clear k3_b6_0)
  (try clear g3_b6_0)
  (try clear k3_b6_1)
  (try clear g3_b6_1)
  (try clear k3_b6_2)
  (try clear g3_b6_2)
  (try clear k3_g7_0)
  (try clear g3_g7_0)
  (try clear k3_g7_1)
  (try clear g3_g7_1)
  (try clear k3_g7_2)
  (try clear g3_g7_2)
  (try clear q3_b4)
  (try clear x3_b4)
  (try clear y3_b4)
  (try clear q3_b5)
  (try clear x3_b5)
  (try clear y3_b5)
  (try clear q3_b6)
  (try clear x3_b6)
  (try clear y3_b6)
  (try clear q3_g7)
  (try clear x3_g7)
  (try clear y3_g7)
  have q4_b4 : w.heap.size < w4.heap.size := qlt k4_b4_0
  have x4_b4 : ¬ w.heap.size = w4.heap.size := qne k4_b4_0
  have y4_b4 : ¬ w4.heap.size = w.heap.size := fun h => qne k4_b4_0 h.symm
  have q4_b5 : w.heap.size + 1 < w4.heap.size := qlt k4_b5_0
  have x4_b5 : ¬ w.heap.size + 1 = w4.heap.size := qne k4_b5_0
  have y4_b5 : ¬ w4.heap.size = w.heap.size + 1 := fun h => qne k4_b5_0 h.symm
  have q4_b6 : w.heap.size + 1 + 1 < w4.heap.size := qlt k4_b6_0
  have x4_b6 : ¬ w.heap.size + 1 + 1 = w4.heap.size := qne k4_b6_0
  have y4_b6 : ¬ w4.heap.size = w.heap.size + 1 + 1 := fun h => qne k4_b6_0 h.symm
  have q4_g7 : w.heap.size + 1 + 1 + 1 < w4.heap.size := qlt k4_g7_0
  have x4_g7 : ¬ w.heap.size + 1 + 1 + 1 = w4.heap.size := qne k4_g7_0
  have y4_g7 : ¬ w4.heap.size = w.heap.size + 1 + 1 + 1 := fun h => qne k4_g7_0 h.symm
  have q4_g10 : g10 < w4.heap.size := qlt k4_g10_0
  have x4_g10 : ¬ g10 = w4.heap.size := qne k4_g10_0
  have y4_g10 : ¬ w4.heap.size = g10 := fun h => qne k4_g10_0 h.symm
  have q4_g11 : g11 < w4.heap.size := qlt k4_g11_0
  have x4_g11 : ¬ g11 = w4.heap.size := qne k4_g11_0
  have y4_g11 : ¬ w4.heap.size = g11 := fun h => qne k4_g11_0 h.symm
  go_wp2
  refine wp_region_env (fun w' => w'.cell? ⟨w.heap.size, 0, none⟩ = some (.int .u8 r) ∧ w'.frozen? ⟨w.heap.size, 0, none⟩ = false ∧ w'.cell? ⟨w.heap.size, 1, none⟩ = some (.int .u8 g) ∧ w'.frozen? ⟨w.heap.size, 1, none⟩ = false ∧ w'.cell? ⟨w.heap.size, 2, none⟩ = some (.int .u8 b) ∧ w'.frozen? ⟨w.heap.size, 2, none⟩ = false ∧ w'.cell? ⟨w.heap.size, 3, none⟩ = some (.int .u8 a) ∧ w'.frozen? ⟨w.heap.size, 3, none⟩ = false ∧ w'.cell? ⟨w.heap.size + 1, 0, none⟩ = some (.int .u8 s) ∧ w'.frozen? ⟨w.heap.size + 1, 0, none⟩ = false ∧ w'.cell? ⟨w.heap.size + 1, 1, none⟩ = some (.int .u8 t) ∧ w'.frozen? ⟨w.heap.size + 1, 1, none⟩ = false ∧ w'.cell? ⟨w.heap.size + 1, 2, none⟩ = some (.int .u8 u) ∧ w'.frozen? ⟨w.heap.size + 1, 2, none⟩ = false ∧ w'.cell? ⟨w.heap.size + 1, 3, none⟩ = some (.int .u8 d) ∧ w'.frozen? ⟨w.heap.size + 1, 3, none⟩ = false ∧ w'.cell? ⟨w.heap.size + 1 + 1, 0, none⟩ = some (.int .u8 0) ∧ w'.frozen? ⟨w.heap.size + 1 + 1, 0, none⟩ = false ∧ w'.cell? ⟨w.heap.size + 1 + 1, 1, none⟩ = some (.int .u8 0) ∧ w'.frozen? ⟨w.heap.size + 1 + 1, 1, none⟩ = false ∧ w'.cell? ⟨w.heap.size + 1 + 1, 2, none⟩ = some (.int .u8 0) ∧ w'.frozen? ⟨w.heap.size + 1 + 1, 2, none⟩ = false ∧ w'.cell? ⟨w.heap.size + 1 + 1 + 1, 0, none⟩ = some (.int .u8 0) ∧ w'.frozen? ⟨w.heap.size + 1 + 1 + 1, 0, none⟩ = false ∧ w'.cell? ⟨w.heap.size + 1 + 1 + 1, 1, none⟩ = some (.int .u8 0) ∧ w'.frozen? ⟨w.heap.size + 1 + 1 + 1, 1, none⟩ = false ∧ w'.cell? ⟨w.heap.size + 1 + 1 + 1, 2, none⟩ = some (.int .u8 0) ∧ w'.frozen? ⟨w.heap.size + 1 + 1 + 1, 2, none⟩ = false ∧ w'.cell? ⟨g10, 0, none⟩ = some (.int .i64 r) ∧ w'.frozen? ⟨g10, 0, none⟩ = false ∧ w'.cell? ⟨g10, 1, none⟩ = some (.int .i64 g) ∧ w'.frozen? ⟨g10, 1, none⟩ = false ∧ w'.cell? ⟨g10, 2, none⟩ = some (.int .i64 b) ∧ w'.frozen? ⟨g10, 2, none⟩ = false ∧ w'.cell? ⟨g11, 0, none⟩ = some (.int .i64 s) ∧ w'.frozen? ⟨g11, 0, none⟩ = false ∧ w'.cell? ⟨g11, 1, none⟩ = some (.int .i64 t) ∧ w'.frozen? ⟨g11, 1, none⟩ = false ∧ w'.cell? ⟨g11, 2, none⟩ = some (.int .i64 u) ∧ w'.frozen? ⟨g11, 2, none⟩ = false) (fun W => W.cell? ⟨w.heap.size, 0, none⟩ = some (.int .u8 r) ∧ W.frozen? ⟨w.heap.size, 0, none⟩ = false ∧ W.cell? ⟨w.heap.size, 1, none⟩ = some (.int .u8 g) ∧ W.frozen? ⟨w.heap.size, 1, none⟩ = false ∧ W.cell? ⟨w.heap.size, 2, none⟩ = some (.int .u8 b) ∧ W.frozen? ⟨w.heap.size, 2, none⟩ = false ∧ W.cell? ⟨w.heap.size, 3, none⟩ = some (.int .u8 a) ∧ W.frozen? ⟨w.heap.size, 3, none⟩ = false ∧ W.cell? ⟨w.heap.size + 1, 0, none⟩ = some (.int .u8 s) ∧ W.frozen? ⟨w.heap.size + 1, 0, none⟩ = false ∧ W.cell? ⟨w.heap.size + 1, 1, none⟩ = some (.int .u8 t) ∧ W.frozen? ⟨w.heap.size + 1, 1, none⟩ = false ∧ W.cell? ⟨w.heap.size + 1, 2, none⟩ = some (.int .u8 u) ∧ W.frozen? ⟨w.heap.size + 1, 2, none⟩ = false ∧ W.cell? ⟨w.heap.size + 1, 3, none⟩ = some (.int .u8 d) ∧ W.frozen? ⟨w.heap.size + 1, 3, none⟩ = false ∧ W.cell? ⟨w.heap.size + 1 + 1, 0, none⟩ = some (.int .u8 0) ∧ W.frozen? ⟨w.heap.size + 1 + 1, 0, none⟩ = false ∧ W.cell? ⟨w.heap.size + 1 + 1, 1, none⟩ = some (.int .u8 0) ∧ W.frozen? ⟨w.heap.size + 1 + 1, 1, none⟩ = false ∧ W.cell? ⟨w.heap.size + 1 + 1, 2, none⟩ = some (.int .u8 0) ∧ W.frozen? ⟨w.heap.size + 1 + 1, 2, none⟩ = false ∧ W.cell? ⟨w.heap.size + 1 + 1 + 1, 0, none⟩ = some (.int .u8 0) ∧ W.frozen? ⟨w.heap.size + 1 + 1 + 1, 0, none⟩ = false ∧ W.cell? ⟨w.heap.size + 1 + 1 + 1, 1, none⟩ = some (.int .u8 0) ∧ W.frozen? ⟨w.heap.size + 1 + 1 + 1, 1, none⟩ = false ∧ W.cell? ⟨w.heap.size + 1 + 1 + 1, 2, none⟩ = some (.int .u8 0) ∧ W.frozen? ⟨w.heap.size + 1 + 1 + 1, 2, none⟩ = false ∧ W.cell? ⟨g10, 0, none⟩ = some (.int .i64 r) ∧ W.frozen? ⟨g10, 0, none⟩ = false ∧ W.cell? ⟨g10, 1, none⟩ = some (.int .i64 g) ∧ W.frozen? ⟨g10, 1, none⟩ = false ∧ W.cell? ⟨g10, 2, none⟩ = some (.int .i64 b) ∧ W.frozen? ⟨g10, 2, none⟩ = false ∧ W.cell? ⟨g11, 0, none⟩ = some (.int .i64 s) ∧ W.frozen? ⟨g11, 0, none⟩ = false ∧ W.cell? ⟨g11, 1, none⟩ = some (.int .i64 t) ∧ W.frozen? ⟨g11, 1, none⟩ = false ∧ W.cell? ⟨g11, 2, none⟩ = some (.int .i64 u) ∧ W.frozen? ⟨g11, 2, none⟩ = false ∧ Below w.heap.size w W ∧ w.heap.size + 1 + 1 + 1 + 1 ≤ W.heap.size) 12 76 [.val (.int .i64 m), .val (.agg #[.int .i64 r, .int .i64 g, .int .i64 b]), .val (.int .i64 d), .call 48 #[.agg #[.int .i64 r, .int .i64 g, .int .i64 b], .int .i64 d] (.agg #[.int .i64 (d * r), .int .i64 (d * g), .int .i64 (d * b)]), .val (.agg #[.int .i64 s, .int .i64 t, .int .i64 u]), .val (.int .i64 a), .call 48 #[.agg #[.int .i64 s, .int .i64 t, .int .i64 u], .int .i64 a] (.agg #[.int .i64 (a * s), .int .i64 (a * t), .int .i64 (a * u)]), .val (.int .i64 a), .val (.int .i64 d), .val (.int .i64 aa), .call 47 #[.int .i64 m, .agg #[.int .i64 (d * r), .int .i64 (d * g), .int .i64 (d * b)], .agg #[.int .i64 (a * s), .int .i64 (a * t), .int .i64 (a * u)], .int .i64 aa] (.agg #[.int .i64 x0, .int .i64 x1, .int .i64 x2, .int .i64 tt, .int .i64 ll, .int .i64 aa]), .fresh (.cells #[.int .i64 0, .int .i64 0, .int .i64 0, .int .i64 0, .int .i64 0, .int .i64 0] 62)] (by kernel_rfl) (by kernel_rfl) rfl (by kernel_rfl) (by rintro w1 w2 ⟨h0, h1, h2, h3, h4, h5, h6, h7, h8, h9, h10, h11, h12, h13, h14, h15, h16, h17, h18, h19, h20, h21, h22, h23, h24, h25, h26, h27, h28, h29, h30, h31, h32, h33, h34, h35, h36, h37, h38, h39⟩ hb; exact ⟨bcs hb h0, bfs hb h0 h1, bcs hb h2, bfs hb h2 h3, bcs hb h4, bfs hb h4 h5, bcs hb h6, bfs hb h6 h7, bcs hb h8, bfs hb h8 h9, bcs hb h10, bfs hb h10 h11, bcs hb h12, bfs hb h12 h13, bcs hb h14, bfs hb h14 h15, bcs hb h16, bfs hb h16 h17, bcs hb h18, bfs hb h18 h19, bcs hb h20, bfs hb h20 h21, bcs hb h22, bfs hb h22 h23, bcs hb h24, bfs hb h24 h25, bcs hb h26, bfs hb h26 h27, bcs hb h28, bfs hb h28 h29, bcs hb h30, bfs hb h30 h31, bcs hb h32, bfs hb h32 h33, bcs hb h34, bfs hb h34 h35, bcs hb h36, bfs hb h36 h37, bcs hb h38, bfs hb h38 h39⟩) ⟨by first | with_reducible assumption | go_simp, by first | with_reducible assumption | go_simp, by first | with_reducible assumption | go_simp, by first | with_reducible assumption | go_simp, by first | with_reducible assumption | go_simp, by first | with_reducible assumption | go_simp, by first | with_reducible assumption | go_simp, by first | with_reducible assumption | go_simp, by first | with_reducible assumption | go_simp, by first | with_reducible assumption | go_simp, by first | with_reducible assumption | go_simp, by first | with_reducible assumption | go_simp, by first | with_reducible assumption | go_simp, by first | with_reducible assumption | go_simp, by first | with_reducible assumption | go_simp, by first | with_reducible assumption | go_simp, by first | with_reducible assumption | go_simp, by first | with_reducible assumption | go_simp, by first | with_reducible assumption | go_simp, by first | with_reducible assumption | go_simp, by first | with_reducible assumption | go_simp, by first | with_reducible assumption | go_simp, by first | with_reducible assumption | go_simp, by first | with_reducible assumption | go_simp, by first | with_reducible assumption | go_simp, by first | with_reducible assumption | go_simp, by first | with_reducible assumption | go_simp, by first | with_reducible assumption | go_simp, by first | with_reducible assumption | go_simp, by first | with_reducible assumption | go_simp, by first | with_reducible assumption | go_simp, by first | with_reducible assumption | go_simp, by first | with_reducible assumption | go_simp, by first | with_reducible assumption | go_simp, by first | with_reducible assumption | go_simp, by first | with_reducible assumption | go_simp, by first | with_reducible assumption | go_simp, by first | with_reducible assumption | go_simp, by first | with_reducible assumption | go_simp, by first | with_reducible assumption | go_simp, by repeat (first | with_reducible exact Below.refl _ _ | with_reducible exact B4 | with_reducible apply below_drewN | with_reducible apply Below.drew | (with_reducible refine Below.alloc ?_ (by first | (simp; done) | (simp; omega) | omega) _) | (with_reducible refine Below.setCell ?_ (by first | (simp; done) | (simp; omega) | omega) _)), by first | with_reducible assumption | (simp; done) | (simp; omega)⟩ ?_ ?_
  · rintro W ⟨k5_b4_0, g5_b4_0, k5_b4_1, g5_b4_1, k5_b4_2, g5_b4_2, k5_b4_3, g5_b4_3, k5_b5_0, g5_b5_0, k5_b5_1, g5_b5_1, k5_b5_2, g5_b5_2, k5_b5_3, g5_b5_3, k5_b6_0, g5_b6_0, k5_b6_1, g5_b6_1, k5_b6_2, g5_b6_2, k5_g7_0, g5_g7_0, k5_g7_1, g5_g7_1, k5_g7_2, g5_g7_2, k5_g10_0, g5_g10_0, k5_g10_1, g5_g10_1, k5_g10_2, g5_g10_2, k5_g11_0, g5_g11_0, k5_g11_1, g5_g11_1, k5_g11_2, g5_g11_2, B5, z5⟩; exact ⟨k5_b4_0, g5_b4_0, k5_b4_1, g5_b4_1, k5_b4_2, g5_b4_2, k5_b4_3, g5_b4_3, k5_b5_0, g5_b5_0, k5_b5_1, g5_b5_1, k5_b5_2, g5_b5_2, k5_b5_3, g5_b5_3, k5_b6_0, g5_b6_0, k5_b6_1, g5_b6_1, k5_b6_2, g5_b6_2, k5_g7_0, g5_g7_0, k5_g7_1, g5_g7_1, k5_g7_2, g5_g7_2, k5_g10_0, g5_g10_0, k5_g10_1, g5_g10_1, k5_g10_2, g5_g10_2, k5_g11_0, g5_g11_0, k5_g11_1, g5_g11_1, k5_g11_2, g5_g11_2⟩
  (try clear B4)
  (try clear z4)
  (try clear k4_b4_0)
  (try clear g4_b4_0)
  (try clear k4_b4_1)
  (try clear g4_b4_1)
  (try clear k4_b4_2)
  (try clear g4_b4_2)
  (try clear k4_b4_3)
  (try clear g4_b4_3)
  (try clear k4_b5_0)
  (try clear g4_b5_0)
  (try clear k4_b5_1)
  (try clear g4_b5_1)
  (try clear k4_b5_2)
  (try clear g4_b5_2)
  (try clear k4_b5_3)
  (try clear g4_b5_3)
  (try clear k4_b6_0)
  (try clear g4_b6_0)
  (try clear k4_b6_1)
  (try clear g4_b6_1)
  (try clear k4_b6_2)
  (try clear g4_b6_2)
  (try clear k4_g7_0)
  (try clear g4_g7_0)
  (try clear k4_g7_1)
  (try clear g4_g7_1)
  (try clear k4_g7_2)
  (try clear g4_g7_2)
  (try clear k4_g10_0)
  (try clear g4_g10_0)
  (try clear k4_g10_1)
  (try clear g4_g10_1)
  (try clear k4_g10_2)
  (try clear g4_g10_2)
  (try clear k4_g11_0)
  (try clear g4_g11_0)
  (try clear k4_g11_1)
  (try clear g4_g11_1)
  (try clear k4_g11_2)
  (try clear g4_g11_2)
  (try clear q4_b4)
  (try clear x4_b4)
  (try clear y4_b4)
  (try clear q4_b5)
  (try clear x4_b5)
  (try clear y4_b5)
  (try clear q4_b6)
  (try clear x4_b6)
  (try clear y4_b6)
  (try clear q4_g7)
  (try clear x4_g7)
  (try clear y4_g7)
  (try clear q4_g10)
  (try clear x4_g10)
  (try clear y4_g10)
  (try clear q4_g11)
  (try clear x4_g11)
  (try clear y4_g11)
  rintro w5 ⟨k5_b4_0, g5_b4_0, k5_b4_1, g5_b4_1, k5_b4_2, g5_b4_2, k5_b4_3, g5_b4_3, k5_b5_0, g5_b5_0, k5_b5_1, g5_b5_1, k5_b5_2, g5_b5_2, k5_b5_3, g5_b5_3, k5_b6_0, g5_b6_0, k5_b6_1, g5_b6_1, k5_b6_2, g5_b6_2, k5_g7_0, g5_g7_0, k5_g7_1, g5_g7_1, k5_g7_2, g5_g7_2, k5_g10_0, g5_g10_0, k5_g10_1, g5_g10_1, k5_g10_2, g5_g10_2, k5_g11_0, g5_g11_0, k5_g11_1, g5_g11_1, k5_g11_2, g5_g11_2, B5, z5⟩ gg
  simp only [List.take_succ_cons, List.take_zero, List.drop_succ_cons, List.drop_zero, List.cons_append, List.nil_append, List.append_nil]
  refine obe_val (by rfl) ?_ ?_
  · clear k5_b4_0 g5_b4_0 k5_b4_1 g5_b4_1 k5_b4_2 g5_b4_2 k5_b4_3 g5_b4_3 k5_b5_0 g5_b5_0 k5_b5_1 g5_b5_1 k5_b5_2 g5_b5_2 k5_b5_3 g5_b5_3 k5_b6_0 g5_b6_0 k5_b6_1 g5_b6_1 k5_b6_2 g5_b6_2 k5_g7_0 g5_g7_0 k5_g7_1 g5_g7_1 k5_g7_2 g5_g7_2 k5_g10_0 g5_g10_0 k5_g10_1 g5_g10_1 k5_g10_2 g5_g10_2 k5_g11_0 g5_g11_0 k5_g11_1 g5_g11_1 k5_g11_2 g5_g11_2 B5 z5; intro f hf; have u0 : f 0 = (.int .i64 m) := (by rw [← hf]; rfl); clear hf; rintro w' ⟨h0, h1, h2, h3, h4, h5, h6, h7, h8, h9, h10, h11, h12, h13, h14, h15, h16, h17, h18, h19, h20, h21, h22, h23, h24, h25, h26, h27, h28, h29, h30, h31, h32, h33, h34, h35, h36, h37, h38, h39⟩; go_simp; try exact IntWalk.i64_in _ (by omega)
  refine obe_val (by rfl) ?_ ?_
  · clear k5_b4_0 g5_b4_0 k5_b4_1 g5_b4_1 k5_b4_2 g5_b4_2 k5_b4_3 g5_b4_3 k5_b5_0 g5_b5_0 k5_b5_1 g5_b5_1 k5_b5_2 g5_b5_2 k5_b5_3 g5_b5_3 k5_b6_0 g5_b6_0 k5_b6_1 g5_b6_1 k5_b6_2 g5_b6_2 k5_g7_0 g5_g7_0 k5_g7_1 g5_g7_1 k5_g7_2 g5_g7_2 k5_g10_0 g5_g10_0 k5_g10_1 g5_g10_1 k5_g10_2 g5_g10_2 k5_g11_0 g5_g11_0 k5_g11_1 g5_g11_1 k5_g11_2 g5_g11_2 B5 z5; intro f hf; have u10 : f 10 = (.pointer (some ⟨g10, 0, none⟩)) := (by rw [← hf]; rfl); clear hf; rintro w' ⟨h0, h1, h2, h3, h4, h5, h6, h7, h8, h9, h10, h11, h12, h13, h14, h15, h16, h17, h18, h19, h20, h21, h22, h23, h24, h25, h26, h27, h28, h29, h30, h31, h32, h33, h34, h35, h36, h37, h38, h39⟩; go_simp; try exact IntWalk.i64_in _ (by omega)
  refine obe_val (by rfl) ?_ ?_
  · clear k5_b4_0 g5_b4_0 k5_b4_1 g5_b4_1 k5_b4_2 g5_b4_2 k5_b4_3 g5_b4_3 k5_b5_0 g5_b5_0 k5_b5_1 g5_b5_1 k5_b5_2 g5_b5_2 k5_b5_3 g5_b5_3 k5_b6_0 g5_b6_0 k5_b6_1 g5_b6_1 k5_b6_2 g5_b6_2 k5_g7_0 g5_g7_0 k5_g7_1 g5_g7_1 k5_g7_2 g5_g7_2 k5_g10_0 g5_g10_0 k5_g10_1 g5_g10_1 k5_g10_2 g5_g10_2 k5_g11_0 g5_g11_0 k5_g11_1 g5_g11_1 k5_g11_2 g5_g11_2 B5 z5; intro f hf; have u9 : f 9 = (.int .i64 d) := (by rw [← hf]; rfl); clear hf; rintro w' ⟨h0, h1, h2, h3, h4, h5, h6, h7, h8, h9, h10, h11, h12, h13, h14, h15, h16, h17, h18, h19, h20, h21, h22, h23, h24, h25, h26, h27, h28, h29, h30, h31, h32, h33, h34, h35, h36, h37, h38, h39⟩; go_simp; try exact IntWalk.i64_in _ (by omega)
  refine obe_call (by rfl) ?_ ?_ ?_
  · clear k5_b4_0 g5_b4_0 k5_b4_1 g5_b4_1 k5_b4_2 g5_b4_2 k5_b4_3 g5_b4_3 k5_b5_0 g5_b5_0 k5_b5_1 g5_b5_1 k5_b5_2 g5_b5_2 k5_b5_3 g5_b5_3 k5_b6_0 g5_b6_0 k5_b6_1 g5_b6_1 k5_b6_2 g5_b6_2 k5_g7_0 g5_g7_0 k5_g7_1 g5_g7_1 k5_g7_2 g5_g7_2 k5_g10_0 g5_g10_0 k5_g10_1 g5_g10_1 k5_g10_2 g5_g10_2 k5_g11_0 g5_g11_0 k5_g11_1 g5_g11_1 k5_g11_2 g5_g11_2 B5 z5; intro f hf; have u27 : f 27 = (.agg #[.int .i64 r, .int .i64 g, .int .i64 b]) := (by rw [← hf]; rfl); have u28 : f 28 = (.int .i64 d) := (by rw [← hf]; rfl); clear hf; intro w' _; simp only [execOp, resolve, invoke, rhoF_tmp, rhoF_func, rhoF_const, u27, u28, List.map_toArray, List.map_cons, List.map_nil]; go_simp
  · clear k5_b4_0 g5_b4_0 k5_b4_1 g5_b4_1 k5_b4_2 g5_b4_2 k5_b4_3 g5_b4_3 k5_b5_0 g5_b5_0 k5_b5_1 g5_b5_1 k5_b5_2 g5_b5_2 k5_b5_3 g5_b5_3 k5_b6_0 g5_b6_0 k5_b6_1 g5_b6_1 k5_b6_2 g5_b6_2 k5_g7_0 g5_g7_0 k5_g7_1 g5_g7_1 k5_g7_2 g5_g7_2 k5_g10_0 g5_g10_0 k5_g10_1 g5_g10_1 k5_g10_2 g5_g10_2 k5_g11_0 g5_g11_0 k5_g11_1 g5_g11_1 k5_g11_2 g5_g11_2 B5 z5; rintro w' ⟨h0, h1, h2, h3, h4, h5, h6, h7, h8, h9, h10, h11, h12, h13, h14, h15, h16, h17, h18, h19, h20, h21, h22, h23, h24, h25, h26, h27, h28, h29, h30, h31, h32, h33, h34, h35, h36, h37, h38, h39⟩; exact scaled_any r g b d d0 d1 r0 r1 g0 g1 b0 b1 _
  refine obe_val (by rfl) ?_ ?_
  · clear k5_b4_0 g5_b4_0 k5_b4_1 g5_b4_1 k5_b4_2 g5_b4_2 k5_b4_3 g5_b4_3 k5_b5_0 g5_b5_0 k5_b5_1 g5_b5_1 k5_b5_2 g5_b5_2 k5_b5_3 g5_b5_3 k5_b6_0 g5_b6_0 k5_b6_1 g5_b6_1 k5_b6_2 g5_b6_2 k5_g7_0 g5_g7_0 k5_g7_1 g5_g7_1 k5_g7_2 g5_g7_2 k5_g10_0 g5_g10_0 k5_g10_1 g5_g10_1 k5_g10_2 g5_g10_2 k5_g11_0 g5_g11_0 k5_g11_1 g5_g11_1 k5_g11_2 g5_g11_2 B5 z5; intro f hf; have u11 : f 11 = (.pointer (some ⟨g11, 0, none⟩)) := (by rw [← hf]; rfl); clear hf; rintro w' ⟨h0, h1, h2, h3, h4, h5, h6, h7, h8, h9, h10, h11, h12, h13, h14, h15, h16, h17, h18, h19, h20, h21, h22, h23, h24, h25, h26, h27, h28, h29, h30, h31, h32, h33, h34, h35, h36, h37, h38, h39⟩; go_simp; try exact IntWalk.i64_in _ (by omega)
  refine obe_val (by rfl) ?_ ?_
  · clear k5_b4_0 g5_b4_0 k5_b4_1 g5_b4_1 k5_b4_2 g5_b4_2 k5_b4_3 g5_b4_3 k5_b5_0 g5_b5_0 k5_b5_1 g5_b5_1 k5_b5_2 g5_b5_2 k5_b5_3 g5_b5_3 k5_b6_0 g5_b6_0 k5_b6_1 g5_b6_1 k5_b6_2 g5_b6_2 k5_g7_0 g5_g7_0 k5_g7_1 g5_g7_1 k5_g7_2 g5_g7_2 k5_g10_0 g5_g10_0 k5_g10_1 g5_g10_1 k5_g10_2 g5_g10_2 k5_g11_0 g5_g11_0 k5_g11_1 g5_g11_1 k5_g11_2 g5_g11_2 B5 z5; intro f hf; have u8 : f 8 = (.int .i64 a) := (by rw [← hf]; rfl); clear hf; rintro w' ⟨h0, h1, h2, h3, h4, h5, h6, h7, h8, h9, h10, h11, h12, h13, h14, h15, h16, h17, h18, h19, h20, h21, h22, h23, h24, h25, h26, h27, h28, h29, h30, h31, h32, h33, h34, h35, h36, h37, h38, h39⟩; go_simp; try exact IntWalk.i64_in _ (by omega)
  refine obe_call (by rfl) ?_ ?_ ?_
  · clear k5_b4_0 g5_b4_0 k5_b4_1 g5_b4_1 k5_b4_2 g5_b4_2 k5_b4_3 g5_b4_3 k5_b5_0 g5_b5_0 k5_b5_1 g5_b5_1 k5_b5_2 g5_b5_2 k5_b5_3 g5_b5_3 k5_b6_0 g5_b6_0 k5_b6_1 g5_b6_1 k5_b6_2 g5_b6_2 k5_g7_0 g5_g7_0 k5_g7_1 g5_g7_1 k5_g7_2 g5_g7_2 k5_g10_0 g5_g10_0 k5_g10_1 g5_g10_1 k5_g10_2 g5_g10_2 k5_g11_0 g5_g11_0 k5_g11_1 g5_g11_1 k5_g11_2 g5_g11_2 B5 z5; intro f hf; have u30 : f 30 = (.agg #[.int .i64 s, .int .i64 t, .int .i64 u]) := (by rw [← hf]; rfl); have u31 : f 31 = (.int .i64 a) := (by rw [← hf]; rfl); clear hf; intro w' _; simp only [execOp, resolve, invoke, rhoF_tmp, rhoF_func, rhoF_const, u30, u31, List.map_toArray, List.map_cons, List.map_nil]; go_simp
  · clear k5_b4_0 g5_b4_0 k5_b4_1 g5_b4_1 k5_b4_2 g5_b4_2 k5_b4_3 g5_b4_3 k5_b5_0 g5_b5_0 k5_b5_1 g5_b5_1 k5_b5_2 g5_b5_2 k5_b5_3 g5_b5_3 k5_b6_0 g5_b6_0 k5_b6_1 g5_b6_1 k5_b6_2 g5_b6_2 k5_g7_0 g5_g7_0 k5_g7_1 g5_g7_1 k5_g7_2 g5_g7_2 k5_g10_0 g5_g10_0 k5_g10_1 g5_g10_1 k5_g10_2 g5_g10_2 k5_g11_0 g5_g11_0 k5_g11_1 g5_g11_1 k5_g11_2 g5_g11_2 B5 z5; rintro w' ⟨h0, h1, h2, h3, h4, h5, h6, h7, h8, h9, h10, h11, h12, h13, h14, h15, h16, h17, h18, h19, h20, h21, h22, h23, h24, h25, h26, h27, h28, h29, h30, h31, h32, h33, h34, h35, h36, h37, h38, h39⟩; exact scaled_any s t u a a0 a1 s0 s1 t0 t1 u0 u1 _
  refine obe_val (by rfl) ?_ ?_
  · clear k5_b4_0 g5_b4_0 k5_b4_1 g5_b4_1 k5_b4_2 g5_b4_2 k5_b4_3 g5_b4_3 k5_b5_0 g5_b5_0 k5_b5_1 g5_b5_1 k5_b5_2 g5_b5_2 k5_b5_3 g5_b5_3 k5_b6_0 g5_b6_0 k5_b6_1 g5_b6_1 k5_b6_2 g5_b6_2 k5_g7_0 g5_g7_0 k5_g7_1 g5_g7_1 k5_g7_2 g5_g7_2 k5_g10_0 g5_g10_0 k5_g10_1 g5_g10_1 k5_g10_2 g5_g10_2 k5_g11_0 g5_g11_0 k5_g11_1 g5_g11_1 k5_g11_2 g5_g11_2 B5 z5; intro f hf; have u8 : f 8 = (.int .i64 a) := (by rw [← hf]; rfl); clear hf; rintro w' ⟨h0, h1, h2, h3, h4, h5, h6, h7, h8, h9, h10, h11, h12, h13, h14, h15, h16, h17, h18, h19, h20, h21, h22, h23, h24, h25, h26, h27, h28, h29, h30, h31, h32, h33, h34, h35, h36, h37, h38, h39⟩; go_simp; try exact IntWalk.i64_in _ (by omega)
  refine obe_val (by rfl) ?_ ?_
  · clear k5_b4_0 g5_b4_0 k5_b4_1 g5_b4_1 k5_b4_2 g5_b4_2 k5_b4_3 g5_b4_3 k5_b5_0 g5_b5_0 k5_b5_1 g5_b5_1 k5_b5_2 g5_b5_2 k5_b5_3 g5_b5_3 k5_b6_0 g5_b6_0 k5_b6_1 g5_b6_1 k5_b6_2 g5_b6_2 k5_g7_0 g5_g7_0 k5_g7_1 g5_g7_1 k5_g7_2 g5_g7_2 k5_g10_0 g5_g10_0 k5_g10_1 g5_g10_1 k5_g10_2 g5_g10_2 k5_g11_0 g5_g11_0 k5_g11_1 g5_g11_1 k5_g11_2 g5_g11_2 B5 z5; intro f hf; have u9 : f 9 = (.int .i64 d) := (by rw [← hf]; rfl); clear hf; rintro w' ⟨h0, h1, h2, h3, h4, h5, h6, h7, h8, h9, h10, h11, h12, h13, h14, h15, h16, h17, h18, h19, h20, h21, h22, h23, h24, h25, h26, h27, h28, h29, h30, h31, h32, h33, h34, h35, h36, h37, h38, h39⟩; go_simp; try exact IntWalk.i64_in _ (by omega)
  refine obe_val (by rfl) ?_ ?_
  · clear k5_b4_0 g5_b4_0 k5_b4_1 g5_b4_1 k5_b4_2 g5_b4_2 k5_b4_3 g5_b4_3 k5_b5_0 g5_b5_0 k5_b5_1 g5_b5_1 k5_b5_2 g5_b5_2 k5_b5_3 g5_b5_3 k5_b6_0 g5_b6_0 k5_b6_1 g5_b6_1 k5_b6_2 g5_b6_2 k5_g7_0 g5_g7_0 k5_g7_1 g5_g7_1 k5_g7_2 g5_g7_2 k5_g10_0 g5_g10_0 k5_g10_1 g5_g10_1 k5_g10_2 g5_g10_2 k5_g11_0 g5_g11_0 k5_g11_1 g5_g11_1 k5_g11_2 g5_g11_2 B5 z5; intro f hf; have u33 : f 33 = (.int .i64 a) := (by rw [← hf]; rfl); have u34 : f 34 = (.int .i64 d) := (by rw [← hf]; rfl); clear hf; rintro w' ⟨h0, h1, h2, h3, h4, h5, h6, h7, h8, h9, h10, h11, h12, h13, h14, h15, h16, h17, h18, h19, h20, h21, h22, h23, h24, h25, h26, h27, h28, h29, h30, h31, h32, h33, h34, h35, h36, h37, h38, h39⟩; go_simp; try exact IntWalk.i64_in _ (by omega)
  refine obe_call (by rfl) ?_ ?_ ?_
  · clear k5_b4_0 g5_b4_0 k5_b4_1 g5_b4_1 k5_b4_2 g5_b4_2 k5_b4_3 g5_b4_3 k5_b5_0 g5_b5_0 k5_b5_1 g5_b5_1 k5_b5_2 g5_b5_2 k5_b5_3 g5_b5_3 k5_b6_0 g5_b6_0 k5_b6_1 g5_b6_1 k5_b6_2 g5_b6_2 k5_g7_0 g5_g7_0 k5_g7_1 g5_g7_1 k5_g7_2 g5_g7_2 k5_g10_0 g5_g10_0 k5_g10_1 g5_g10_1 k5_g10_2 g5_g10_2 k5_g11_0 g5_g11_0 k5_g11_1 g5_g11_1 k5_g11_2 g5_g11_2 B5 z5; intro f hf; have u26 : f 26 = (.int .i64 m) := (by rw [← hf]; rfl); have u29 : f 29 = (.agg #[.int .i64 (d * r), .int .i64 (d * g), .int .i64 (d * b)]) := (by rw [← hf]; rfl); have u32 : f 32 = (.agg #[.int .i64 (a * s), .int .i64 (a * t), .int .i64 (a * u)]) := (by rw [← hf]; rfl); have u35 : f 35 = (.int .i64 aa) := (by rw [← hf]; rfl); clear hf; intro w' _; simp only [execOp, resolve, invoke, rhoF_tmp, rhoF_func, rhoF_const, u26, u29, u32, u35, List.map_toArray, List.map_cons, List.map_nil]; go_simp
  · clear k5_b4_0 g5_b4_0 k5_b4_1 g5_b4_1 k5_b4_2 g5_b4_2 k5_b4_3 g5_b4_3 k5_b5_0 g5_b5_0 k5_b5_1 g5_b5_1 k5_b5_2 g5_b5_2 k5_b5_3 g5_b5_3 k5_b6_0 g5_b6_0 k5_b6_1 g5_b6_1 k5_b6_2 g5_b6_2 k5_g7_0 g5_g7_0 k5_g7_1 g5_g7_1 k5_g7_2 g5_g7_2 k5_g10_0 g5_g10_0 k5_g10_1 g5_g10_1 k5_g10_2 g5_g10_2 k5_g11_0 g5_g11_0 k5_g11_1 g5_g11_1 k5_g11_2 g5_g11_2 B5 z5; rintro w' ⟨h0, h1, h2, h3, h4, h5, h6, h7, h8, h9, h10, h11, h12, h13, h14, h15, h16, h17, h18, h19, h20, h21, h22, h23, h24, h25, h26, h27, h28, h29, h30, h31, h32, h33, h34, h35, h36, h37, h38, h39⟩; exact ch _
  refine obe_fresh (by rfl) ?_ ?_
  · clear k5_b4_0 g5_b4_0 k5_b4_1 g5_b4_1 k5_b4_2 g5_b4_2 k5_b4_3 g5_b4_3 k5_b5_0 g5_b5_0 k5_b5_1 g5_b5_1 k5_b5_2 g5_b5_2 k5_b5_3 g5_b5_3 k5_b6_0 g5_b6_0 k5_b6_1 g5_b6_1 k5_b6_2 g5_b6_2 k5_g7_0 g5_g7_0 k5_g7_1 g5_g7_1 k5_g7_2 g5_g7_2 k5_g10_0 g5_g10_0 k5_g10_1 g5_g10_1 k5_g10_2 g5_g10_2 k5_g11_0 g5_g11_0 k5_g11_1 g5_g11_1 k5_g11_2 g5_g11_2 B5 z5; intro f hf; clear hf; rintro w' ⟨h0, h1, h2, h3, h4, h5, h6, h7, h8, h9, h10, h11, h12, h13, h14, h15, h16, h17, h18, h19, h20, h21, h22, h23, h24, h25, h26, h27, h28, h29, h30, h31, h32, h33, h34, h35, h36, h37, h38, h39⟩; go_simp
  refine obe_nil ?_
  rintro w6 ⟨h0, h1, h2, h3, h4, h5, h6, h7, h8, h9, h10, h11, h12, h13, h14, h15, h16, h17, h18, h19, h20, h21, h22, h23, h24, h25, h26, h27, h28, h29, h30, h31, h32, h33, h34, h35, h36, h37, h38, h39⟩ hb6 hF
  (try simp only [List.nil_append, List.append_nil, List.cons_append] at hF)
  simp only [puts, putD, Act.put, List.setIfInBounds_toArray, List.set_cons_zero, List.set_cons_succ]
  have lg12 : w5.heap.size ≤ gg 11 := hF.1.1
  have ug12 : gg 11 < w6.heap.size := hF.1.2.1
  have pg12 : w6.heap[gg 11]? = some (.cells #[.int .i64 0, .int .i64 0, .int .i64 0, .int .i64 0, .int .i64 0, .int .i64 0] 62) := hF.1.2.2
  clear hF
  obtain ⟨g12, eg12⟩ : ∃ x, gg 11 = x := ⟨_, rfl⟩
  rw [eg12] at lg12 ug12 pg12 ⊢
  clear eg12
  clear gg
  have k6_b4_0 := bcs hb6 k5_b4_0
  have g6_b4_0 := bfs hb6 k5_b4_0 g5_b4_0
  have k6_b4_1 := bcs hb6 k5_b4_1
  have g6_b4_1 := bfs hb6 k5_b4_1 g5_b4_1
  have k6_b4_2 := bcs hb6 k5_b4_2
  have g6_b4_2 := bfs hb6 k5_b4_2 g5_b4_2
  have k6_b4_3 := bcs hb6 k5_b4_3
  have g6_b4_3 := bfs hb6 k5_b4_3 g5_b4_3
  have k6_b5_0 := bcs hb6 k5_b5_0
  have g6_b5_0 := bfs hb6 k5_b5_0 g5_b5_0
  have k6_b5_1 := bcs hb6 k5_b5_1
  have g6_b5_1 := bfs hb6 k5_b5_1 g5_b5_1
  have k6_b5_2 := bcs hb6 k5_b5_2
  have g6_b5_2 := bfs hb6 k5_b5_2 g5_b5_2
  have k6_b5_3 := bcs hb6 k5_b5_3
  have g6_b5_3 := bfs hb6 k5_b5_3 g5_b5_3
  have k6_b6_0 := bcs hb6 k5_b6_0
  have g6_b6_0 := bfs hb6 k5_b6_0 g5_b6_0
  have k6_b6_1 := bcs hb6 k5_b6_1
  have g6_b6_1 := bfs hb6 k5_b6_1 g5_b6_1
  have k6_b6_2 := bcs hb6 k5_b6_2
  have g6_b6_2 := bfs hb6 k5_b6_2 g5_b6_2
  have k6_g7_0 := bcs hb6 k5_g7_0
  have g6_g7_0 := bfs hb6 k5_g7_0 g5_g7_0
  have k6_g7_1 := bcs hb6 k5_g7_1
  have g6_g7_1 := bfs hb6 k5_g7_1 g5_g7_1
  have k6_g7_2 := bcs hb6 k5_g7_2
  have g6_g7_2 := bfs hb6 k5_g7_2 g5_g7_2
  have k6_g10_0 := bcs hb6 k5_g10_0
  have g6_g10_0 := bfs hb6 k5_g10_0 g5_g10_0
  have k6_g10_1 := bcs hb6 k5_g10_1
  have g6_g10_1 := bfs hb6 k5_g10_1 g5_g10_1
  have k6_g10_2 := bcs hb6 k5_g10_2
  have g6_g10_2 := bfs hb6 k5_g10_2 g5_g10_2
  have k6_g11_0 := bcs hb6 k5_g11_0
  have g6_g11_0 := bfs hb6 k5_g11_0 g5_g11_0
  have k6_g11_1 := bcs hb6 k5_g11_1
  have g6_g11_1 := bfs hb6 k5_g11_1 g5_g11_1
  have k6_g11_2 := bcs hb6 k5_g11_2
  have g6_g11_2 := bfs hb6 k5_g11_2 g5_g11_2
  clear h0 h1 h2 h3 h4 h5 h6 h7 h8 h9 h10 h11 h12 h13 h14 h15 h16 h17 h18 h19 h20 h21 h22 h23 h24 h25 h26 h27 h28 h29 h30 h31 h32 h33 h34 h35 h36 h37 h38 h39
  have B6 := bel_step B5 hb6
  have z6 := Nat.le_trans z5 hb6.size
  have mg12 : w.heap.size ≤ g12 := by omega
  have ng12_b4 : ¬ g12 = w.heap.size := by omega
  have nb4_g12 : ¬ w.heap.size = g12 := by omega
  have ng12_b5 : ¬ g12 = w.heap.size + 1 := by omega
  have nb5_g12 : ¬ w.heap.size + 1 = g12 := by omega
  have ng12_b6 : ¬ g12 = w.heap.size + 1 + 1 := by omega
  have nb6_g12 : ¬ w.heap.size + 1 + 1 = g12 := by omega
  have ng12_g7 : ¬ g12 = w.heap.size + 1 + 1 + 1 := by omega
  have ng7_g12 : ¬ w.heap.size + 1 + 1 + 1 = g12 := by omega
  have tg10 : g10 < w5.heap.size := qlt k5_g10_0
  have ng12_g10 : ¬ g12 = g10 := by omega
  have ng10_g12 : ¬ g10 = g12 := by omega
  have tg11 : g11 < w5.heap.size := qlt k5_g11_0
  have ng12_g11 : ¬ g12 = g11 := by omega
  have ng11_g12 : ¬ g11 = g12 := by omega
  have k6_g12_0 : w6.cell? ⟨g12, 0, none⟩ = some (.int .i64 0) := cob pg12 0 rfl
  have g6_g12_0 : w6.frozen? ⟨g12, 0, none⟩ = false := fob pg12 0
  have k6_g12_1 : w6.cell? ⟨g12, 1, none⟩ = some (.int .i64 0) := cob pg12 1 rfl
  have g6_g12_1 : w6.frozen? ⟨g12, 1, none⟩ = false := fob pg12 1
  have k6_g12_2 : w6.cell? ⟨g12, 2, none⟩ = some (.int .i64 0) := cob pg12 2 rfl
  have g6_g12_2 : w6.frozen? ⟨g12, 2, none⟩ = false := fob pg12 2
  have k6_g12_3 : w6.cell? ⟨g12, 3, none⟩ = some (.int .i64 0) := cob pg12 3 rfl
  have g6_g12_3 : w6.frozen? ⟨g12, 3, none⟩ = false := fob pg12 3
  have k6_g12_4 : w6.cell? ⟨g12, 4, none⟩ = some (.int .i64 0) := cob pg12 4 rfl
  have g6_g12_4 : w6.frozen? ⟨g12, 4, none⟩ = false := fob pg12 4
  have k6_g12_5 : w6.cell? ⟨g12, 5, none⟩ = some (.int .i64 0) := cob pg12 5 rfl
  have g6_g12_5 : w6.frozen? ⟨g12, 5, none⟩ = false := fob pg12 5
  clear lg12 ug12 pg12
  clear hb6
  (try clear B5)
  (try clear z5)
  (try clear k5_b4_0)
  (try clear g5_b4_0)
  (try clear k5_b4_1)
  (try clear g5_b4_1)
  (try clear k5_b4_2)
  (try clear g5_b4_2)
  (try clear k5_b4_3)
  (try clear g5_b4_3)
  (try clear k5_b5_0)
  (try clear g5_b5_0)
  (try clear k5_b5_1)
  (try clear g5_b5_1)
  (try clear k5_b5_2)
  (try clear g5_b5_2)
  (try clear k5_b5_3)
  (try clear g5_b5_3)
  (try clear k5_b6_0)
  (try clear g5_b6_0)
  (try clear k5_b6_1)
  (try clear g5_b6_1)
  (try clear k5_b6_2)
  (try clear g5_b6_2)
  (try clear k5_g7_0)
  (try clear g5_g7_0)
  (try clear k5_g7_1)
  (try clear g5_g7_1)
  (try clear k5_g7_2)
  (try clear g5_g7_2)
  (try clear k5_g10_0)
  (try clear g5_g10_0)
  (try clear k5_g10_1)
  (try clear g5_g10_1)
  (try clear k5_g10_2)
  (try clear g5_g10_2)
  (try clear k5_g11_0)
  (try clear g5_g11_0)
  (try clear k5_g11_1)
  (try clear g5_g11_1)
  (try clear k5_g11_2)
  (try clear g5_g11_2)
  (try clear q5_b4)
  (try clear x5_b4)
  (try clear y5_b4)
  (try clear q5_b5)
  (try clear x5_b5)
  (try clear y5_b5)
  (try clear q5_b6)
  (try clear x5_b6)
  (try clear y5_b6)
  (try clear q5_g7)
  (try clear x5_g7)
  (try clear y5_g7)
  (try clear q5_g10)
  (try clear x5_g10)
  (try clear y5_g10)
  (try clear q5_g11)
  (try clear x5_g11)
  (try clear y5_g11)
  have q6_b4 : w.heap.size < w6.heap.size := qlt k6_b4_0
  have x6_b4 : ¬ w.heap.size = w6.heap.size := qne k6_b4_0
  have y6_b4 : ¬ w6.heap.size = w.heap.size := fun h => qne k6_b4_0 h.symm
  have q6_b5 : w.heap.size + 1 < w6.heap.size := qlt k6_b5_0
  have x6_b5 : ¬ w.heap.size + 1 = w6.heap.size := qne k6_b5_0
  have y6_b5 : ¬ w6.heap.size = w.heap.size + 1 := fun h => qne k6_b5_0 h.symm
  have q6_b6 : w.heap.size + 1 + 1 < w6.heap.size := qlt k6_b6_0
  have x6_b6 : ¬ w.heap.size + 1 + 1 = w6.heap.size := qne k6_b6_0
  have y6_b6 : ¬ w6.heap.size = w.heap.size + 1 + 1 := fun h => qne k6_b6_0 h.symm
  have q6_g7 : w.heap.size + 1 + 1 + 1 < w6.heap.size := qlt k6_g7_0
  have x6_g7 : ¬ w.heap.size + 1 + 1 + 1 = w6.heap.size := qne k6_g7_0
  have y6_g7 : ¬ w6.heap.size = w.heap.size + 1 + 1 + 1 := fun h => qne k6_g7_0 h.symm
  have q6_g10 : g10 < w6.heap.size := qlt k6_g10_0
  have x6_g10 : ¬ g10 = w6.heap.size := qne k6_g10_0
  have y6_g10 : ¬ w6.heap.size = g10 := fun h => qne k6_g10_0 h.symm
  have q6_g11 : g11 < w6.heap.size := qlt k6_g11_0
  have x6_g11 : ¬ g11 = w6.heap.size := qne k6_g11_0
  have y6_g11 : ¬ w6.heap.size = g11 := fun h => qne k6_g11_0 h.symm
  have q6_g12 : g12 < w6.heap.size := qlt k6_g12_0
  have x6_g12 : ¬ g12 = w6.heap.size := qne k6_g12_0
  have y6_g12 : ¬ w6.heap.size = g12 := fun h => qne k6_g12_0 h.symm
  go_wp2
  go_loopw [37] (fun k wr => ∃ c0 c1 c2 : Int, NcInv w wr (w.heap.size + 1 + 1) (w.heap.size + 1 + 1 + 1) g10 g11 g12 r g b s t u x0 x1 x2 tt ll aa c0 c1 c2 ∧ ((k = .int .i64 0 ∧ c0 = 0 ∧ c1 = 0 ∧ c2 = 0) ∨ (k = .int .i64 1 ∧ z0 = c0 ∧ c1 = 0 ∧ c2 = 0) ∨ (k = .int .i64 2 ∧ z0 = c0 ∧ z1 = c1 ∧ c2 = 0) ∨ (k = .int .i64 3 ∧ z0 = c0 ∧ z1 = c1 ∧ z2 = c2))) (fun k _ => (3 - intOf k).toNat)
  case atStart =>
    refine ⟨0, 0, 0, ⟨by first | with_reducible assumption | go_simp, by first | with_reducible assumption | go_simp, by first | with_reducible assumption | go_simp, by first | with_reducible assumption | go_simp, by first | with_reducible assumption | go_simp, by first | with_reducible assumption | go_simp, by first | with_reducible assumption | go_simp, by first | with_reducible assumption | go_simp, by first | with_reducible assumption | go_simp, by first | with_reducible assumption | go_simp, by first | with_reducible assumption | go_simp, by first | with_reducible assumption | go_simp, by first | with_reducible assumption | go_simp, by first | with_reducible assumption | go_simp, by first | with_reducible assumption | go_simp, by first | with_reducible assumption | go_simp, by first | with_reducible assumption | go_simp, by first | with_reducible assumption | go_simp, by first | with_reducible assumption | go_simp, by first | with_reducible assumption | go_simp, by first | with_reducible assumption | go_simp, by first | with_reducible assumption | go_simp, by first | with_reducible assumption | go_simp, by first | with_reducible assumption | go_simp, by first | with_reducible assumption | go_simp, by first | with_reducible assumption | go_simp, by first | with_reducible assumption | go_simp, by first | with_reducible assumption | go_simp, by first | with_reducible assumption | go_simp, by first | with_reducible assumption | go_simp, by first | with_reducible assumption | go_simp, by first | with_reducible assumption | go_simp, by first | with_reducible assumption | go_simp, by first | with_reducible assumption | go_simp, by first | with_reducible assumption | go_simp, by first | with_reducible assumption | go_simp, by repeat (first | with_reducible exact Below.refl _ _ | with_reducible exact B6 | with_reducible apply below_drewN | with_reducible apply Below.drew | (with_reducible refine Below.alloc ?_ (by first | (simp; done) | (simp; omega) | omega) _) | (with_reducible refine Below.setCell ?_ (by first | (simp; done) | (simp; omega) | omega) _))⟩, .inl ⟨rfl, rfl, rfl, rfl⟩⟩
  case round =>
    obtain ⟨c0, c1, c2, ⟨kx0, gx0, kx1, gx1, kx2, gx2, ky0, gy0, ky1, gy1, ky2, gy2, kp0, gp0, kp1, gp1, kp2, gp2, kq0, gq0, kq1, gq1, kq2, gq2, kh0, gh0, kh1, gh1, kh2, gh2, kh3, gh3, kh4, gh4, kh5, gh5, hB⟩, hk⟩ := hrel
    rcases hk with ⟨rfl, rfl, rfl, rfl⟩ | ⟨rfl, rfl, rfl, rfl⟩ | ⟨rfl, rfl, rfl, rfl⟩ | ⟨rfl, rfl, rfl, rfl⟩
    · skip
      have hsz := hB.size
      go_wp2
      refine wp_region_env (fun w' => w'.cell? ⟨w.heap.size + 1 + 1, 0, none⟩ = some (.int .u8 0) ∧ w'.frozen? ⟨w.heap.size + 1 + 1, 0, none⟩ = false ∧ w'.cell? ⟨w.heap.size + 1 + 1, 1, none⟩ = some (.int .u8 0) ∧ w'.frozen? ⟨w.heap.size + 1 + 1, 1, none⟩ = false ∧ w'.cell? ⟨w.heap.size + 1 + 1, 2, none⟩ = some (.int .u8 0) ∧ w'.frozen? ⟨w.heap.size + 1 + 1, 2, none⟩ = false ∧ w'.cell? ⟨(w.heap.size + 1 + 1 + 1), 0, none⟩ = some (.int .u8 0) ∧ w'.frozen? ⟨(w.heap.size + 1 + 1 + 1), 0, none⟩ = false ∧ w'.cell? ⟨(w.heap.size + 1 + 1 + 1), 1, none⟩ = some (.int .u8 0) ∧ w'.frozen? ⟨(w.heap.size + 1 + 1 + 1), 1, none⟩ = false ∧ w'.cell? ⟨(w.heap.size + 1 + 1 + 1), 2, none⟩ = some (.int .u8 0) ∧ w'.frozen? ⟨(w.heap.size + 1 + 1 + 1), 2, none⟩ = false ∧ w'.cell? ⟨g10, 0, none⟩ = some (.int .i64 r) ∧ w'.frozen? ⟨g10, 0, none⟩ = false ∧ w'.cell? ⟨g10, 1, none⟩ = some (.int .i64 g) ∧ w'.frozen? ⟨g10, 1, none⟩ = false ∧ w'.cell? ⟨g10, 2, none⟩ = some (.int .i64 b) ∧ w'.frozen? ⟨g10, 2, none⟩ = false ∧ w'.cell? ⟨g11, 0, none⟩ = some (.int .i64 s) ∧ w'.frozen? ⟨g11, 0, none⟩ = false ∧ w'.cell? ⟨g11, 1, none⟩ = some (.int .i64 t) ∧ w'.frozen? ⟨g11, 1, none⟩ = false ∧ w'.cell? ⟨g11, 2, none⟩ = some (.int .i64 u) ∧ w'.frozen? ⟨g11, 2, none⟩ = false ∧ w'.cell? ⟨g12, 0, none⟩ = some (.int .i64 x0) ∧ w'.frozen? ⟨g12, 0, none⟩ = false ∧ w'.cell? ⟨g12, 1, none⟩ = some (.int .i64 x1) ∧ w'.frozen? ⟨g12, 1, none⟩ = false ∧ w'.cell? ⟨g12, 2, none⟩ = some (.int .i64 x2) ∧ w'.frozen? ⟨g12, 2, none⟩ = false ∧ w'.cell? ⟨g12, 3, none⟩ = some (.int .i64 tt) ∧ w'.frozen? ⟨g12, 3, none⟩ = false ∧ w'.cell? ⟨g12, 4, none⟩ = some (.int .i64 ll) ∧ w'.frozen? ⟨g12, 4, none⟩ = false ∧ w'.cell? ⟨g12, 5, none⟩ = some (.int .i64 aa) ∧ w'.frozen? ⟨g12, 5, none⟩ = false) (fun W => W.cell? ⟨w.heap.size + 1 + 1, 0, none⟩ = some (.int .u8 0) ∧ W.frozen? ⟨w.heap.size + 1 + 1, 0, none⟩ = false ∧ W.cell? ⟨w.heap.size + 1 + 1, 1, none⟩ = some (.int .u8 0) ∧ W.frozen? ⟨w.heap.size + 1 + 1, 1, none⟩ = false ∧ W.cell? ⟨w.heap.size + 1 + 1, 2, none⟩ = some (.int .u8 0) ∧ W.frozen? ⟨w.heap.size + 1 + 1, 2, none⟩ = false ∧ W.cell? ⟨(w.heap.size + 1 + 1 + 1), 0, none⟩ = some (.int .u8 0) ∧ W.frozen? ⟨(w.heap.size + 1 + 1 + 1), 0, none⟩ = false ∧ W.cell? ⟨(w.heap.size + 1 + 1 + 1), 1, none⟩ = some (.int .u8 0) ∧ W.frozen? ⟨(w.heap.size + 1 + 1 + 1), 1, none⟩ = false ∧ W.cell? ⟨(w.heap.size + 1 + 1 + 1), 2, none⟩ = some (.int .u8 0) ∧ W.frozen? ⟨(w.heap.size + 1 + 1 + 1), 2, none⟩ = false ∧ W.cell? ⟨g10, 0, none⟩ = some (.int .i64 r) ∧ W.frozen? ⟨g10, 0, none⟩ = false ∧ W.cell? ⟨g10, 1, none⟩ = some (.int .i64 g) ∧ W.frozen? ⟨g10, 1, none⟩ = false ∧ W.cell? ⟨g10, 2, none⟩ = some (.int .i64 b) ∧ W.frozen? ⟨g10, 2, none⟩ = false ∧ W.cell? ⟨g11, 0, none⟩ = some (.int .i64 s) ∧ W.frozen? ⟨g11, 0, none⟩ = false ∧ W.cell? ⟨g11, 1, none⟩ = some (.int .i64 t) ∧ W.frozen? ⟨g11, 1, none⟩ = false ∧ W.cell? ⟨g11, 2, none⟩ = some (.int .i64 u) ∧ W.frozen? ⟨g11, 2, none⟩ = false ∧ W.cell? ⟨g12, 0, none⟩ = some (.int .i64 x0) ∧ W.frozen? ⟨g12, 0, none⟩ = false ∧ W.cell? ⟨g12, 1, none⟩ = some (.int .i64 x1) ∧ W.frozen? ⟨g12, 1, none⟩ = false ∧ W.cell? ⟨g12, 2, none⟩ = some (.int .i64 x2) ∧ W.frozen? ⟨g12, 2, none⟩ = false ∧ W.cell? ⟨g12, 3, none⟩ = some (.int .i64 tt) ∧ W.frozen? ⟨g12, 3, none⟩ = false ∧ W.cell? ⟨g12, 4, none⟩ = some (.int .i64 ll) ∧ W.frozen? ⟨g12, 4, none⟩ = false ∧ W.cell? ⟨g12, 5, none⟩ = some (.int .i64 aa) ∧ W.frozen? ⟨g12, 5, none⟩ = false ∧ Below wr.heap.size wr W ∧ wr.heap.size ≤ W.heap.size) 11 76 [.val (.agg #[.int .i64 x0, .int .i64 x1, .int .i64 x2, .int .i64 tt, .int .i64 ll, .int .i64 aa]), .val (.int .i64 0), .val (.pointer (some ⟨g12, 0, none⟩)), .val (.pointer (some ⟨g12, 0, none⟩)), .val (.int .i64 x0), .call 49 #[.agg #[.int .i64 x0, .int .i64 x1, .int .i64 x2, .int .i64 tt, .int .i64 ll, .int .i64 aa], .int .i64 x0] (.tuple #[.int .i64 n0, .int .i64 e0]), .val (.tuple #[.int .i64 n0, .int .i64 e0]), .val (.int .i64 n0), .val (.int .i64 e0), .val (.int .i64 n0), .val (.int .i64 e0)] (by kernel_rfl) (by kernel_rfl) rfl (by kernel_rfl) (by rintro w1 w2 ⟨h0, h1, h2, h3, h4, h5, h6, h7, h8, h9, h10, h11, h12, h13, h14, h15, h16, h17, h18, h19, h20, h21, h22, h23, h24, h25, h26, h27, h28, h29, h30, h31, h32, h33, h34, h35⟩ hb; exact ⟨bcs hb h0, bfs hb h0 h1, bcs hb h2, bfs hb h2 h3, bcs hb h4, bfs hb h4 h5, bcs hb h6, bfs hb h6 h7, bcs hb h8, bfs hb h8 h9, bcs hb h10, bfs hb h10 h11, bcs hb h12, bfs hb h12 h13, bcs hb h14, bfs hb h14 h15, bcs hb h16, bfs hb h16 h17, bcs hb h18, bfs hb h18 h19, bcs hb h20, bfs hb h20 h21, bcs hb h22, bfs hb h22 h23, bcs hb h24, bfs hb h24 h25, bcs hb h26, bfs hb h26 h27, bcs hb h28, bfs hb h28 h29, bcs hb h30, bfs hb h30 h31, bcs hb h32, bfs hb h32 h33, bcs hb h34, bfs hb h34 h35⟩) ⟨bcs (by repeat (first | with_reducible exact Below.refl _ _ | fail | with_reducible apply below_drewN | with_reducible apply Below.drew | (with_reducible refine Below.alloc ?_ (by first | (simp; done) | (simp; omega) | omega) _) | (with_reducible refine Below.setCell ?_ (by first | (simp; done) | (simp; omega) | omega) _))) kx0, bfs (by repeat (first | with_reducible exact Below.refl _ _ | fail | with_reducible apply below_drewN | with_reducible apply Below.drew | (with_reducible refine Below.alloc ?_ (by first | (simp; done) | (simp; omega) | omega) _) | (with_reducible refine Below.setCell ?_ (by first | (simp; done) | (simp; omega) | omega) _))) kx0 gx0, bcs (by repeat (first | with_reducible exact Below.refl _ _ | fail | with_reducible apply below_drewN | with_reducible apply Below.drew | (with_reducible refine Below.alloc ?_ (by first | (simp; done) | (simp; omega) | omega) _) | (with_reducible refine Below.setCell ?_ (by first | (simp; done) | (simp; omega) | omega) _))) kx1, bfs (by repeat (first | with_reducible exact Below.refl _ _ | fail | with_reducible apply below_drewN | with_reducible apply Below.drew | (with_reducible refine Below.alloc ?_ (by first | (simp; done) | (simp; omega) | omega) _) | (with_reducible refine Below.setCell ?_ (by first | (simp; done) | (simp; omega) | omega) _))) kx1 gx1, bcs (by repeat (first | with_reducible exact Below.refl _ _ | fail | with_reducible apply below_drewN | with_reducible apply Below.drew | (with_reducible refine Below.alloc ?_ (by first | (simp; done) | (simp; omega) | omega) _) | (with_reducible refine Below.setCell ?_ (by first | (simp; done) | (simp; omega) | omega) _))) kx2, bfs (by repeat (first | with_reducible exact Below.refl _ _ | fail | with_reducible apply below_drewN | with_reducible apply Below.drew | (with_reducible refine Below.alloc ?_ (by first | (simp; done) | (simp; omega) | omega) _) | (with_reducible refine Below.setCell ?_ (by first | (simp; done) | (simp; omega) | omega) _))) kx2 gx2, bcs (by repeat (first | with_reducible exact Below.refl _ _ | fail | with_reducible apply below_drewN | with_reducible apply Below.drew | (with_reducible refine Below.alloc ?_ (by first | (simp; done) | (simp; omega) | omega) _) | (with_reducible refine Below.setCell ?_ (by first | (simp; done) | (simp; omega) | omega) _))) ky0, bfs (by repeat (first | with_reducible exact Below.refl _ _ | fail | with_reducible apply below_drewN | with_reducible apply Below.drew | (with_reducible refine Below.alloc ?_ (by first | (simp; done) | (simp; omega) | omega) _) | (with_reducible refine Below.setCell ?_ (by first | (simp; done) | (simp; omega) | omega) _))) ky0 gy0, bcs (by repeat (first | with_reducible exact Below.refl _ _ | fail | with_reducible apply below_drewN | with_reducible apply Below.drew | (with_reducible refine Below.alloc ?_ (by first | (simp; done) | (simp; omega) | omega) _) | (with_reducible refine Below.setCell ?_ (by first | (simp; done) | (simp; omega) | omega) _))) ky1, bfs (by repeat (first | with_reducible exact Below.refl _ _ | fail | with_reducible apply below_drewN | with_reducible apply Below.drew | (with_reducible refine Below.alloc ?_ (by first | (simp; done) | (simp; omega) | omega) _) | (with_reducible refine Below.setCell ?_ (by first | (simp; done) | (simp; omega) | omega) _))) ky1 gy1, bcs (by repeat (first | with_reducible exact Below.refl _ _ | fail | with_reducible apply below_drewN | with_reducible apply Below.drew | (with_reducible refine Below.alloc ?_ (by first | (simp; done) | (simp; omega) | omega) _) | (with_reducible refine Below.setCell ?_ (by first | (simp; done) | (simp; omega) | omega) _))) ky2, bfs (by repeat (first | with_reducible exact Below.refl _ _ | fail | with_reducible apply below_drewN | with_reducible apply Below.drew | (with_reducible refine Below.alloc ?_ (by first | (simp; done) | (simp; omega) | omega) _) | (with_reducible refine Below.setCell ?_ (by first | (simp; done) | (simp; omega) | omega) _))) ky2 gy2, bcs (by repeat (first | with_reducible exact Below.refl _ _ | fail | with_reducible apply below_drewN | with_reducible apply Below.drew | (with_reducible refine Below.alloc ?_ (by first | (simp; done) | (simp; omega) | omega) _) | (with_reducible refine Below.setCell ?_ (by first | (simp; done) | (simp; omega) | omega) _))) kp0, bfs (by repeat (first | with_reducible exact Below.refl _ _ | fail | with_reducible apply below_drewN | with_reducible apply Below.drew | (with_reducible refine Below.alloc ?_ (by first | (simp; done) | (simp; omega) | omega) _) | (with_reducible refine Below.setCell ?_ (by first | (simp; done) | (simp; omega) | omega) _))) kp0 gp0, bcs (by repeat (first | with_reducible exact Below.refl _ _ | fail | with_reducible apply below_drewN | with_reducible apply Below.drew | (with_reducible refine Below.alloc ?_ (by first | (simp; done) | (simp; omega) | omega) _) | (with_reducible refine Below.setCell ?_ (by first | (simp; done) | (simp; omega) | omega) _))) kp1, bfs (by repeat (first | with_reducible exact Below.refl _ _ | fail | with_reducible apply below_drewN | with_reducible apply Below.drew | (with_reducible refine Below.alloc ?_ (by first | (simp; done) | (simp; omega) | omega) _) | (with_reducible refine Below.setCell ?_ (by first | (simp; done) | (simp; omega) | omega) _))) kp1 gp1, bcs (by repeat (first | with_reducible exact Below.refl _ _ | fail | with_reducible apply below_drewN | with_reducible apply Below.drew | (with_reducible refine Below.alloc ?_ (by first | (simp; done) | (simp; omega) | omega) _) | (with_reducible refine Below.setCell ?_ (by first | (simp; done) | (simp; omega) | omega) _))) kp2, bfs (by repeat (first | with_reducible exact Below.refl _ _ | fail | with_reducible apply below_drewN | with_reducible apply Below.drew | (with_reducible refine Below.alloc ?_ (by first | (simp; done) | (simp; omega) | omega) _) | (with_reducible refine Below.setCell ?_ (by first | (simp; done) | (simp; omega) | omega) _))) kp2 gp2, bcs (by repeat (first | with_reducible exact Below.refl _ _ | fail | with_reducible apply below_drewN | with_reducible apply Below.drew | (with_reducible refine Below.alloc ?_ (by first | (simp; done) | (simp; omega) | omega) _) | (with_reducible refine Below.setCell ?_ (by first | (simp; done) | (simp; omega) | omega) _))) kq0, bfs (by repeat (first | with_reducible exact Below.refl _ _ | fail | with_reducible apply below_drewN | with_reducible apply Below.drew | (with_reducible refine Below.alloc ?_ (by first | (simp; done) | (simp; omega) | omega) _) | (with_reducible refine Below.setCell ?_ (by first | (simp; done) | (simp; omega) | omega) _))) kq0 gq0, bcs (by repeat (first | with_reducible exact Below.refl _ _ | fail | with_reducible apply below_drewN | with_reducible apply Below.drew | (with_reducible refine Below.alloc ?_ (by first | (simp; done) | (simp; omega) | omega) _) | (with_reducible refine Below.setCell ?_ (by first | (simp; done) | (simp; omega) | omega) _))) kq1, bfs (by repeat (first | with_reducible exact Below.refl _ _ | fail | with_reducible apply below_drewN | with_reducible apply Below.drew | (with_reducible refine Below.alloc ?_ (by first | (simp; done) | (simp; omega) | omega) _) | (with_reducible refine Below.setCell ?_ (by first | (simp; done) | (simp; omega) | omega) _))) kq1 gq1, bcs (by repeat (first | with_reducible exact Below.refl _ _ | fail | with_reducible apply below_drewN | with_reducible apply Below.drew | (with_reducible refine Below.alloc ?_ (by first | (simp; done) | (simp; omega) | omega) _) | (with_reducible refine Below.setCell ?_ (by first | (simp; done) | (simp; omega) | omega) _))) kq2, bfs (by repeat (first | with_reducible exact Below.refl _ _ | fail | with_reducible apply below_drewN | with_reducible apply Below.drew | (with_reducible refine Below.alloc ?_ (by first | (simp; done) | (simp; omega) | omega) _) | (with_reducible refine Below.setCell ?_ (by first | (simp; done) | (simp; omega) | omega) _))) kq2 gq2, bcs (by repeat (first | with_reducible exact Below.refl _ _ | fail | with_reducible apply below_drewN | with_reducible apply Below.drew | (with_reducible refine Below.alloc ?_ (by first | (simp; done) | (simp; omega) | omega) _) | (with_reducible refine Below.setCell ?_ (by first | (simp; done) | (simp; omega) | omega) _))) kh0, bfs (by repeat (first | with_reducible exact Below.refl _ _ | fail | with_reducible apply below_drewN | with_reducible apply Below.drew | (with_reducible refine Below.alloc ?_ (by first | (simp; done) | (simp; omega) | omega) _) | (with_reducible refine Below.setCell ?_ (by first | (simp; done) | (simp; omega) | omega) _))) kh0 gh0, bcs (by repeat (first | with_reducible exact Below.refl _ _ | fail | with_reducible apply below_drewN | with_reducible apply Below.drew | (with_reducible refine Below.alloc ?_ (by first | (simp; done) | (simp; omega) | omega) _) | (with_reducible refine Below.setCell ?_ (by first | (simp; done) | (simp; omega) | omega) _))) kh1, bfs (by repeat (first | with_reducible exact Below.refl _ _ | fail | with_reducible apply below_drewN | with_reducible apply Below.drew | (with_reducible refine Below.alloc ?_ (by first | (simp; done) | (simp; omega) | omega) _) | (with_reducible refine Below.setCell ?_ (by first | (simp; done) | (simp; omega) | omega) _))) kh1 gh1, bcs (by repeat (first | with_reducible exact Below.refl _ _ | fail | with_reducible apply below_drewN | with_reducible apply Below.drew | (with_reducible refine Below.alloc ?_ (by first | (simp; done) | (simp; omega) | omega) _) | (with_reducible refine Below.setCell ?_ (by first | (simp; done) | (simp; omega) | omega) _))) kh2, bfs (by repeat (first | with_reducible exact Below.refl _ _ | fail | with_reducible apply below_drewN | with_reducible apply Below.drew | (with_reducible refine Below.alloc ?_ (by first | (simp; done) | (simp; omega) | omega) _) | (with_reducible refine Below.setCell ?_ (by first | (simp; done) | (simp; omega) | omega) _))) kh2 gh2, bcs (by repeat (first | with_reducible exact Below.refl _ _ | fail | with_reducible apply below_drewN | with_reducible apply Below.drew | (with_reducible refine Below.alloc ?_ (by first | (simp; done) | (simp; omega) | omega) _) | (with_reducible refine Below.setCell ?_ (by first | (simp; done) | (simp; omega) | omega) _))) kh3, bfs (by repeat (first | with_reducible exact Below.refl _ _ | fail | with_reducible apply below_drewN | with_reducible apply Below.drew | (with_reducible refine Below.alloc ?_ (by first | (simp; done) | (simp; omega) | omega) _) | (with_reducible refine Below.setCell ?_ (by first | (simp; done) | (simp; omega) | omega) _))) kh3 gh3, bcs (by repeat (first | with_reducible exact Below.refl _ _ | fail | with_reducible apply below_drewN | with_reducible apply Below.drew | (with_reducible refine Below.alloc ?_ (by first | (simp; done) | (simp; omega) | omega) _) | (with_reducible refine Below.setCell ?_ (by first | (simp; done) | (simp; omega) | omega) _))) kh4, bfs (by repeat (first | with_reducible exact Below.refl _ _ | fail | with_reducible apply below_drewN | with_reducible apply Below.drew | (with_reducible refine Below.alloc ?_ (by first | (simp; done) | (simp; omega) | omega) _) | (with_reducible refine Below.setCell ?_ (by first | (simp; done) | (simp; omega) | omega) _))) kh4 gh4, bcs (by repeat (first | with_reducible exact Below.refl _ _ | fail | with_reducible apply below_drewN | with_reducible apply Below.drew | (with_reducible refine Below.alloc ?_ (by first | (simp; done) | (simp; omega) | omega) _) | (with_reducible refine Below.setCell ?_ (by first | (simp; done) | (simp; omega) | omega) _))) kh5, bfs (by repeat (first | with_reducible exact Below.refl _ _ | fail | with_reducible apply below_drewN | with_reducible apply Below.drew | (with_reducible refine Below.alloc ?_ (by first | (simp; done) | (simp; omega) | omega) _) | (with_reducible refine Below.setCell ?_ (by first | (simp; done) | (simp; omega) | omega) _))) kh5 gh5, by repeat (first | with_reducible exact Below.refl _ _ | fail | with_reducible apply below_drewN | with_reducible apply Below.drew | (with_reducible refine Below.alloc ?_ (by first | (simp; done) | (simp; omega) | omega) _) | (with_reducible refine Below.setCell ?_ (by first | (simp; done) | (simp; omega) | omega) _)), by first | with_reducible assumption | (simp; done) | (simp; omega)⟩ ?_ ?_
      · rintro W ⟨k1_b6_0, g1_b6_0, k1_b6_1, g1_b6_1, k1_b6_2, g1_b6_2, k1_g7_0, g1_g7_0, k1_g7_1, g1_g7_1, k1_g7_2, g1_g7_2, k1_g10_0, g1_g10_0, k1_g10_1, g1_g10_1, k1_g10_2, g1_g10_2, k1_g11_0, g1_g11_0, k1_g11_1, g1_g11_1, k1_g11_2, g1_g11_2, k1_g12_0, g1_g12_0, k1_g12_1, g1_g12_1, k1_g12_2, g1_g12_2, k1_g12_3, g1_g12_3, k1_g12_4, g1_g12_4, k1_g12_5, g1_g12_5, B1, z1⟩; exact ⟨k1_b6_0, g1_b6_0, k1_b6_1, g1_b6_1, k1_b6_2, g1_b6_2, k1_g7_0, g1_g7_0, k1_g7_1, g1_g7_1, k1_g7_2, g1_g7_2, k1_g10_0, g1_g10_0, k1_g10_1, g1_g10_1, k1_g10_2, g1_g10_2, k1_g11_0, g1_g11_0, k1_g11_1, g1_g11_1, k1_g11_2, g1_g11_2, k1_g12_0, g1_g12_0, k1_g12_1, g1_g12_1, k1_g12_2, g1_g12_2, k1_g12_3, g1_g12_3, k1_g12_4, g1_g12_4, k1_g12_5, g1_g12_5⟩
      rintro w1 ⟨k1_b6_0, g1_b6_0, k1_b6_1, g1_b6_1, k1_b6_2, g1_b6_2, k1_g7_0, g1_g7_0, k1_g7_1, g1_g7_1, k1_g7_2, g1_g7_2, k1_g10_0, g1_g10_0, k1_g10_1, g1_g10_1, k1_g10_2, g1_g10_2, k1_g11_0, g1_g11_0, k1_g11_1, g1_g11_1, k1_g11_2, g1_g11_2, k1_g12_0, g1_g12_0, k1_g12_1, g1_g12_1, k1_g12_2, g1_g12_2, k1_g12_3, g1_g12_3, k1_g12_4, g1_g12_4, k1_g12_5, g1_g12_5, B1, z1⟩ gg
      simp only [List.take_succ_cons, List.take_zero, List.drop_succ_cons, List.drop_zero, List.cons_append, List.nil_append, List.append_nil]
      refine obe_val (by rfl) ?_ ?_
      · clear k1_b6_0 g1_b6_0 k1_b6_1 g1_b6_1 k1_b6_2 g1_b6_2 k1_g7_0 g1_g7_0 k1_g7_1 g1_g7_1 k1_g7_2 g1_g7_2 k1_g10_0 g1_g10_0 k1_g10_1 g1_g10_1 k1_g10_2 g1_g10_2 k1_g11_0 g1_g11_0 k1_g11_1 g1_g11_1 k1_g11_2 g1_g11_2 k1_g12_0 g1_g12_0 k1_g12_1 g1_g12_1 k1_g12_2 g1_g12_2 k1_g12_3 g1_g12_3 k1_g12_4 g1_g12_4 k1_g12_5 g1_g12_5 B1 z1; intro f hf; have u12 : f 12 = (.pointer (some ⟨g12, 0, none⟩)) := (by rw [← hf]; rfl); clear hf; rintro w' ⟨h0, h1, h2, h3, h4, h5, h6, h7, h8, h9, h10, h11, h12, h13, h14, h15, h16, h17, h18, h19, h20, h21, h22, h23, h24, h25, h26, h27, h28, h29, h30, h31, h32, h33, h34, h35⟩; go_simp; try exact IntWalk.i64_in _ (by omega)
      refine obe_val (by rfl) ?_ ?_
      · clear k1_b6_0 g1_b6_0 k1_b6_1 g1_b6_1 k1_b6_2 g1_b6_2 k1_g7_0 g1_g7_0 k1_g7_1 g1_g7_1 k1_g7_2 g1_g7_2 k1_g10_0 g1_g10_0 k1_g10_1 g1_g10_1 k1_g10_2 g1_g10_2 k1_g11_0 g1_g11_0 k1_g11_1 g1_g11_1 k1_g11_2 g1_g11_2 k1_g12_0 g1_g12_0 k1_g12_1 g1_g12_1 k1_g12_2 g1_g12_2 k1_g12_3 g1_g12_3 k1_g12_4 g1_g12_4 k1_g12_5 g1_g12_5 B1 z1; intro f hf; have u13 : f 13 = (.int .i64 0) := (by rw [← hf]; rfl); clear hf; rintro w' ⟨h0, h1, h2, h3, h4, h5, h6, h7, h8, h9, h10, h11, h12, h13, h14, h15, h16, h17, h18, h19, h20, h21, h22, h23, h24, h25, h26, h27, h28, h29, h30, h31, h32, h33, h34, h35⟩; go_simp; try exact IntWalk.i64_in _ (by omega)
      refine obe_val (by rfl) ?_ ?_
      · clear k1_b6_0 g1_b6_0 k1_b6_1 g1_b6_1 k1_b6_2 g1_b6_2 k1_g7_0 g1_g7_0 k1_g7_1 g1_g7_1 k1_g7_2 g1_g7_2 k1_g10_0 g1_g10_0 k1_g10_1 g1_g10_1 k1_g10_2 g1_g10_2 k1_g11_0 g1_g11_0 k1_g11_1 g1_g11_1 k1_g11_2 g1_g11_2 k1_g12_0 g1_g12_0 k1_g12_1 g1_g12_1 k1_g12_2 g1_g12_2 k1_g12_3 g1_g12_3 k1_g12_4 g1_g12_4 k1_g12_5 g1_g12_5 B1 z1; intro f hf; have u12 : f 12 = (.pointer (some ⟨g12, 0, none⟩)) := (by rw [← hf]; rfl); clear hf; rintro w' ⟨h0, h1, h2, h3, h4, h5, h6, h7, h8, h9, h10, h11, h12, h13, h14, h15, h16, h17, h18, h19, h20, h21, h22, h23, h24, h25, h26, h27, h28, h29, h30, h31, h32, h33, h34, h35⟩; go_simp; try exact IntWalk.i64_in _ (by omega)
      refine obe_val (by rfl) ?_ ?_
      · clear k1_b6_0 g1_b6_0 k1_b6_1 g1_b6_1 k1_b6_2 g1_b6_2 k1_g7_0 g1_g7_0 k1_g7_1 g1_g7_1 k1_g7_2 g1_g7_2 k1_g10_0 g1_g10_0 k1_g10_1 g1_g10_1 k1_g10_2 g1_g10_2 k1_g11_0 g1_g11_0 k1_g11_1 g1_g11_1 k1_g11_2 g1_g11_2 k1_g12_0 g1_g12_0 k1_g12_1 g1_g12_1 k1_g12_2 g1_g12_2 k1_g12_3 g1_g12_3 k1_g12_4 g1_g12_4 k1_g12_5 g1_g12_5 B1 z1; intro f hf; have u42 : f 42 = (.int .i64 0) := (by rw [← hf]; rfl); have u43 : f 43 = (.pointer (some ⟨g12, 0, none⟩)) := (by rw [← hf]; rfl); clear hf; rintro w' ⟨h0, h1, h2, h3, h4, h5, h6, h7, h8, h9, h10, h11, h12, h13, h14, h15, h16, h17, h18, h19, h20, h21, h22, h23, h24, h25, h26, h27, h28, h29, h30, h31, h32, h33, h34, h35⟩; go_simp; try exact IntWalk.i64_in _ (by omega)
      refine obe_val (by rfl) ?_ ?_
      · clear k1_b6_0 g1_b6_0 k1_b6_1 g1_b6_1 k1_b6_2 g1_b6_2 k1_g7_0 g1_g7_0 k1_g7_1 g1_g7_1 k1_g7_2 g1_g7_2 k1_g10_0 g1_g10_0 k1_g10_1 g1_g10_1 k1_g10_2 g1_g10_2 k1_g11_0 g1_g11_0 k1_g11_1 g1_g11_1 k1_g11_2 g1_g11_2 k1_g12_0 g1_g12_0 k1_g12_1 g1_g12_1 k1_g12_2 g1_g12_2 k1_g12_3 g1_g12_3 k1_g12_4 g1_g12_4 k1_g12_5 g1_g12_5 B1 z1; intro f hf; have u44 : f 44 = (.pointer (some ⟨g12, 0, none⟩)) := (by rw [← hf]; rfl); clear hf; rintro w' ⟨h0, h1, h2, h3, h4, h5, h6, h7, h8, h9, h10, h11, h12, h13, h14, h15, h16, h17, h18, h19, h20, h21, h22, h23, h24, h25, h26, h27, h28, h29, h30, h31, h32, h33, h34, h35⟩; go_simp; try exact IntWalk.i64_in _ (by omega)
      refine obe_call (by rfl) ?_ ?_ ?_
      · clear k1_b6_0 g1_b6_0 k1_b6_1 g1_b6_1 k1_b6_2 g1_b6_2 k1_g7_0 g1_g7_0 k1_g7_1 g1_g7_1 k1_g7_2 g1_g7_2 k1_g10_0 g1_g10_0 k1_g10_1 g1_g10_1 k1_g10_2 g1_g10_2 k1_g11_0 g1_g11_0 k1_g11_1 g1_g11_1 k1_g11_2 g1_g11_2 k1_g12_0 g1_g12_0 k1_g12_1 g1_g12_1 k1_g12_2 g1_g12_2 k1_g12_3 g1_g12_3 k1_g12_4 g1_g12_4 k1_g12_5 g1_g12_5 B1 z1; intro f hf; have u41 : f 41 = (.agg #[.int .i64 x0, .int .i64 x1, .int .i64 x2, .int .i64 tt, .int .i64 ll, .int .i64 aa]) := (by rw [← hf]; rfl); have u45 : f 45 = (.int .i64 x0) := (by rw [← hf]; rfl); clear hf; intro w' _; simp only [execOp, resolve, invoke, rhoF_tmp, rhoF_func, rhoF_const, u41, u45, List.map_toArray, List.map_cons, List.map_nil]; go_simp
      · clear k1_b6_0 g1_b6_0 k1_b6_1 g1_b6_1 k1_b6_2 g1_b6_2 k1_g7_0 g1_g7_0 k1_g7_1 g1_g7_1 k1_g7_2 g1_g7_2 k1_g10_0 g1_g10_0 k1_g10_1 g1_g10_1 k1_g10_2 g1_g10_2 k1_g11_0 g1_g11_0 k1_g11_1 g1_g11_1 k1_g11_2 g1_g11_2 k1_g12_0 g1_g12_0 k1_g12_1 g1_g12_1 k1_g12_2 g1_g12_2 k1_g12_3 g1_g12_3 k1_g12_4 g1_g12_4 k1_g12_5 g1_g12_5 B1 z1; rintro w' ⟨h0, h1, h2, h3, h4, h5, h6, h7, h8, h9, h10, h11, h12, h13, h14, h15, h16, h17, h18, h19, h20, h21, h22, h23, h24, h25, h26, h27, h28, h29, h30, h31, h32, h33, h34, h35⟩; exact ct0 _
      refine obe_val (by rfl) ?_ ?_
      · clear k1_b6_0 g1_b6_0 k1_b6_1 g1_b6_1 k1_b6_2 g1_b6_2 k1_g7_0 g1_g7_0 k1_g7_1 g1_g7_1 k1_g7_2 g1_g7_2 k1_g10_0 g1_g10_0 k1_g10_1 g1_g10_1 k1_g10_2 g1_g10_2 k1_g11_0 g1_g11_0 k1_g11_1 g1_g11_1 k1_g11_2 g1_g11_2 k1_g12_0 g1_g12_0 k1_g12_1 g1_g12_1 k1_g12_2 g1_g12_2 k1_g12_3 g1_g12_3 k1_g12_4 g1_g12_4 k1_g12_5 g1_g12_5 B1 z1; intro f hf; have u46 : f 46 = (.tuple #[.int .i64 n0, .int .i64 e0]) := (by rw [← hf]; rfl); clear hf; rintro w' ⟨h0, h1, h2, h3, h4, h5, h6, h7, h8, h9, h10, h11, h12, h13, h14, h15, h16, h17, h18, h19, h20, h21, h22, h23, h24, h25, h26, h27, h28, h29, h30, h31, h32, h33, h34, h35⟩; go_simp; try exact IntWalk.i64_in _ (by omega)
      refine obe_val (by rfl) ?_ ?_
      · clear k1_b6_0 g1_b6_0 k1_b6_1 g1_b6_1 k1_b6_2 g1_b6_2 k1_g7_0 g1_g7_0 k1_g7_1 g1_g7_1 k1_g7_2 g1_g7_2 k1_g10_0 g1_g10_0 k1_g10_1 g1_g10_1 k1_g10_2 g1_g10_2 k1_g11_0 g1_g11_0 k1_g11_1 g1_g11_1 k1_g11_2 g1_g11_2 k1_g12_0 g1_g12_0 k1_g12_1 g1_g12_1 k1_g12_2 g1_g12_2 k1_g12_3 g1_g12_3 k1_g12_4 g1_g12_4 k1_g12_5 g1_g12_5 B1 z1; intro f hf; have u40 : f 40 = (.tuple #[.int .i64 n0, .int .i64 e0]) := (by rw [← hf]; rfl); clear hf; rintro w' ⟨h0, h1, h2, h3, h4, h5, h6, h7, h8, h9, h10, h11, h12, h13, h14, h15, h16, h17, h18, h19, h20, h21, h22, h23, h24, h25, h26, h27, h28, h29, h30, h31, h32, h33, h34, h35⟩; go_simp; try exact IntWalk.i64_in _ (by omega)
      refine obe_val (by rfl) ?_ ?_
      · clear k1_b6_0 g1_b6_0 k1_b6_1 g1_b6_1 k1_b6_2 g1_b6_2 k1_g7_0 g1_g7_0 k1_g7_1 g1_g7_1 k1_g7_2 g1_g7_2 k1_g10_0 g1_g10_0 k1_g10_1 g1_g10_1 k1_g10_2 g1_g10_2 k1_g11_0 g1_g11_0 k1_g11_1 g1_g11_1 k1_g11_2 g1_g11_2 k1_g12_0 g1_g12_0 k1_g12_1 g1_g12_1 k1_g12_2 g1_g12_2 k1_g12_3 g1_g12_3 k1_g12_4 g1_g12_4 k1_g12_5 g1_g12_5 B1 z1; intro f hf; have u40 : f 40 = (.tuple #[.int .i64 n0, .int .i64 e0]) := (by rw [← hf]; rfl); clear hf; rintro w' ⟨h0, h1, h2, h3, h4, h5, h6, h7, h8, h9, h10, h11, h12, h13, h14, h15, h16, h17, h18, h19, h20, h21, h22, h23, h24, h25, h26, h27, h28, h29, h30, h31, h32, h33, h34, h35⟩; go_simp; try exact IntWalk.i64_in _ (by omega)
      refine obe_val (by rfl) ?_ ?_
      · clear k1_b6_0 g1_b6_0 k1_b6_1 g1_b6_1 k1_b6_2 g1_b6_2 k1_g7_0 g1_g7_0 k1_g7_1 g1_g7_1 k1_g7_2 g1_g7_2 k1_g10_0 g1_g10_0 k1_g10_1 g1_g10_1 k1_g10_2 g1_g10_2 k1_g11_0 g1_g11_0 k1_g11_1 g1_g11_1 k1_g11_2 g1_g11_2 k1_g12_0 g1_g12_0 k1_g12_1 g1_g12_1 k1_g12_2 g1_g12_2 k1_g12_3 g1_g12_3 k1_g12_4 g1_g12_4 k1_g12_5 g1_g12_5 B1 z1; intro f hf; have u47 : f 47 = (.int .i64 n0) := (by rw [← hf]; rfl); clear hf; rintro w' ⟨h0, h1, h2, h3, h4, h5, h6, h7, h8, h9, h10, h11, h12, h13, h14, h15, h16, h17, h18, h19, h20, h21, h22, h23, h24, h25, h26, h27, h28, h29, h30, h31, h32, h33, h34, h35⟩; go_simp; try exact IntWalk.i64_in _ (by omega)
      refine obe_val (by rfl) ?_ ?_
      · clear k1_b6_0 g1_b6_0 k1_b6_1 g1_b6_1 k1_b6_2 g1_b6_2 k1_g7_0 g1_g7_0 k1_g7_1 g1_g7_1 k1_g7_2 g1_g7_2 k1_g10_0 g1_g10_0 k1_g10_1 g1_g10_1 k1_g10_2 g1_g10_2 k1_g11_0 g1_g11_0 k1_g11_1 g1_g11_1 k1_g11_2 g1_g11_2 k1_g12_0 g1_g12_0 k1_g12_1 g1_g12_1 k1_g12_2 g1_g12_2 k1_g12_3 g1_g12_3 k1_g12_4 g1_g12_4 k1_g12_5 g1_g12_5 B1 z1; intro f hf; have u48 : f 48 = (.int .i64 e0) := (by rw [← hf]; rfl); clear hf; rintro w' ⟨h0, h1, h2, h3, h4, h5, h6, h7, h8, h9, h10, h11, h12, h13, h14, h15, h16, h17, h18, h19, h20, h21, h22, h23, h24, h25, h26, h27, h28, h29, h30, h31, h32, h33, h34, h35⟩; go_simp; try exact IntWalk.i64_in _ (by omega)
      refine obe_nil ?_
      rintro w2 ⟨h0, h1, h2, h3, h4, h5, h6, h7, h8, h9, h10, h11, h12, h13, h14, h15, h16, h17, h18, h19, h20, h21, h22, h23, h24, h25, h26, h27, h28, h29, h30, h31, h32, h33, h34, h35⟩ hb2 hF
      (try simp only [List.nil_append, List.append_nil, List.cons_append] at hF)
      simp only [puts, putD, Act.put, List.setIfInBounds_toArray, List.set_cons_zero, List.set_cons_succ]
      clear hF
      have k2_b6_0 := bcs hb2 k1_b6_0
      have g2_b6_0 := bfs hb2 k1_b6_0 g1_b6_0
      have k2_b6_1 := bcs hb2 k1_b6_1
      have g2_b6_1 := bfs hb2 k1_b6_1 g1_b6_1
      have k2_b6_2 := bcs hb2 k1_b6_2
      have g2_b6_2 := bfs hb2 k1_b6_2 g1_b6_2
      have k2_g7_0 := bcs hb2 k1_g7_0
      have g2_g7_0 := bfs hb2 k1_g7_0 g1_g7_0
      have k2_g7_1 := bcs hb2 k1_g7_1
      have g2_g7_1 := bfs hb2 k1_g7_1 g1_g7_1
      have k2_g7_2 := bcs hb2 k1_g7_2
      have g2_g7_2 := bfs hb2 k1_g7_2 g1_g7_2
      have k2_g10_0 := bcs hb2 k1_g10_0
      have g2_g10_0 := bfs hb2 k1_g10_0 g1_g10_0
      have k2_g10_1 := bcs hb2 k1_g10_1
      have g2_g10_1 := bfs hb2 k1_g10_1 g1_g10_1
      have k2_g10_2 := bcs hb2 k1_g10_2
      have g2_g10_2 := bfs hb2 k1_g10_2 g1_g10_2
      have k2_g11_0 := bcs hb2 k1_g11_0
      have g2_g11_0 := bfs hb2 k1_g11_0 g1_g11_0
      have k2_g11_1 := bcs hb2 k1_g11_1
      have g2_g11_1 := bfs hb2 k1_g11_1 g1_g11_1
      have k2_g11_2 := bcs hb2 k1_g11_2
      have g2_g11_2 := bfs hb2 k1_g11_2 g1_g11_2
      have k2_g12_0 := bcs hb2 k1_g12_0
      have g2_g12_0 := bfs hb2 k1_g12_0 g1_g12_0
      have k2_g12_1 := bcs hb2 k1_g12_1
      have g2_g12_1 := bfs hb2 k1_g12_1 g1_g12_1
      have k2_g12_2 := bcs hb2 k1_g12_2
      have g2_g12_2 := bfs hb2 k1_g12_2 g1_g12_2
      have k2_g12_3 := bcs hb2 k1_g12_3
      have g2_g12_3 := bfs hb2 k1_g12_3 g1_g12_3
      have k2_g12_4 := bcs hb2 k1_g12_4
      have g2_g12_4 := bfs hb2 k1_g12_4 g1_g12_4
      have k2_g12_5 := bcs hb2 k1_g12_5
      have g2_g12_5 := bfs hb2 k1_g12_5 g1_g12_5
      clear h0 h1 h2 h3 h4 h5 h6 h7 h8 h9 h10 h11 h12 h13 h14 h15 h16 h17 h18 h19 h20 h21 h22 h23 h24 h25 h26 h27 h28 h29 h30 h31 h32 h33 h34 h35
      have B2 := bel_step B1 hb2
      have z2 := Nat.le_trans z1 hb2.size
      clear hb2
      (try clear B1)
      (try clear z1)
      (try clear k1_b6_0)
      (try clear g1_b6_0)
      (try clear k1_b6_1)
      (try clear g1_b6_1)
      (try clear k1_b6_2)
      (try clear g1_b6_2)
      (try clear k1_g7_0)
      (try clear g1_g7_0)
      (try clear k1_g7_1)
      (try clear g1_g7_1)
      (try clear k1_g7_2)
      (try clear g1_g7_2)
      (try clear k1_g10_0)
      (try clear g1_g10_0)
      (try clear k1_g10_1)
      (try clear g1_g10_1)
      (try clear k1_g10_2)
      (try clear g1_g10_2)
      (try clear k1_g11_0)
      (try clear g1_g11_0)
      (try clear k1_g11_1)
      (try clear g1_g11_1)
      (try clear k1_g11_2)
      (try clear g1_g11_2)
      (try clear k1_g12_0)
      (try clear g1_g12_0)
      (try clear k1_g12_1)
      (try clear g1_g12_1)
      (try clear k1_g12_2)
      (try clear g1_g12_2)
      (try clear k1_g12_3)
      (try clear g1_g12_3)
      (try clear k1_g12_4)
      (try clear g1_g12_4)
      (try clear k1_g12_5)
      (try clear g1_g12_5)
      (try clear q1_b6)
      (try clear x1_b6)
      (try clear y1_b6)
      (try clear q1_g7)
      (try clear x1_g7)
      (try clear y1_g7)
      (try clear q1_g10)
      (try clear x1_g10)
      (try clear y1_g10)
      (try clear q1_g11)
      (try clear x1_g11)
      (try clear y1_g11)
      (try clear q1_g12)
      (try clear x1_g12)
      (try clear y1_g12)
      have q2_b6 : w.heap.size + 1 + 1 < w2.heap.size := qlt k2_b6_0
      have x2_b6 : ¬ w.heap.size + 1 + 1 = w2.heap.size := qne k2_b6_0
      have y2_b6 : ¬ w2.heap.size = w.heap.size + 1 + 1 := fun h => qne k2_b6_0 h.symm
      have q2_g7 : (w.heap.size + 1 + 1 + 1) < w2.heap.size := qlt k2_g7_0
      have x2_g7 : ¬ (w.heap.size + 1 + 1 + 1) = w2.heap.size := qne k2_g7_0
      have y2_g7 : ¬ w2.heap.size = (w.heap.size + 1 + 1 + 1) := fun h => qne k2_g7_0 h.symm
      have q2_g10 : g10 < w2.heap.size := qlt k2_g10_0
      have x2_g10 : ¬ g10 = w2.heap.size := qne k2_g10_0
      have y2_g10 : ¬ w2.heap.size = g10 := fun h => qne k2_g10_0 h.symm
      have q2_g11 : g11 < w2.heap.size := qlt k2_g11_0
      have x2_g11 : ¬ g11 = w2.heap.size := qne k2_g11_0
      have y2_g11 : ¬ w2.heap.size = g11 := fun h => qne k2_g11_0 h.symm
      have q2_g12 : g12 < w2.heap.size := qlt k2_g12_0
      have x2_g12 : ¬ g12 = w2.heap.size := qne k2_g12_0
      have y2_g12 : ¬ w2.heap.size = g12 := fun h => qne k2_g12_0 h.symm
      unfold wpList
      go_wp2
      refine wp_region_env (fun w' => w'.cell? ⟨w.heap.size + 1 + 1, 0, none⟩ = some (.int .u8 0) ∧ w'.frozen? ⟨w.heap.size + 1 + 1, 0, none⟩ = false ∧ w'.cell? ⟨w.heap.size + 1 + 1, 1, none⟩ = some (.int .u8 0) ∧ w'.frozen? ⟨w.heap.size + 1 + 1, 1, none⟩ = false ∧ w'.cell? ⟨w.heap.size + 1 + 1, 2, none⟩ = some (.int .u8 0) ∧ w'.frozen? ⟨w.heap.size + 1 + 1, 2, none⟩ = false ∧ w'.cell? ⟨(w.heap.size + 1 + 1 + 1), 0, none⟩ = some (.int .u8 0) ∧ w'.frozen? ⟨(w.heap.size + 1 + 1 + 1), 0, none⟩ = false ∧ w'.cell? ⟨(w.heap.size + 1 + 1 + 1), 1, none⟩ = some (.int .u8 0) ∧ w'.frozen? ⟨(w.heap.size + 1 + 1 + 1), 1, none⟩ = false ∧ w'.cell? ⟨(w.heap.size + 1 + 1 + 1), 2, none⟩ = some (.int .u8 0) ∧ w'.frozen? ⟨(w.heap.size + 1 + 1 + 1), 2, none⟩ = false ∧ w'.cell? ⟨g10, 0, none⟩ = some (.int .i64 r) ∧ w'.frozen? ⟨g10, 0, none⟩ = false ∧ w'.cell? ⟨g10, 1, none⟩ = some (.int .i64 g) ∧ w'.frozen? ⟨g10, 1, none⟩ = false ∧ w'.cell? ⟨g10, 2, none⟩ = some (.int .i64 b) ∧ w'.frozen? ⟨g10, 2, none⟩ = false ∧ w'.cell? ⟨g11, 0, none⟩ = some (.int .i64 s) ∧ w'.frozen? ⟨g11, 0, none⟩ = false ∧ w'.cell? ⟨g11, 1, none⟩ = some (.int .i64 t) ∧ w'.frozen? ⟨g11, 1, none⟩ = false ∧ w'.cell? ⟨g11, 2, none⟩ = some (.int .i64 u) ∧ w'.frozen? ⟨g11, 2, none⟩ = false ∧ w'.cell? ⟨g12, 0, none⟩ = some (.int .i64 x0) ∧ w'.frozen? ⟨g12, 0, none⟩ = false ∧ w'.cell? ⟨g12, 1, none⟩ = some (.int .i64 x1) ∧ w'.frozen? ⟨g12, 1, none⟩ = false ∧ w'.cell? ⟨g12, 2, none⟩ = some (.int .i64 x2) ∧ w'.frozen? ⟨g12, 2, none⟩ = false ∧ w'.cell? ⟨g12, 3, none⟩ = some (.int .i64 tt) ∧ w'.frozen? ⟨g12, 3, none⟩ = false ∧ w'.cell? ⟨g12, 4, none⟩ = some (.int .i64 ll) ∧ w'.frozen? ⟨g12, 4, none⟩ = false ∧ w'.cell? ⟨g12, 5, none⟩ = some (.int .i64 aa) ∧ w'.frozen? ⟨g12, 5, none⟩ = false) (fun W => W.cell? ⟨w.heap.size + 1 + 1, 0, none⟩ = some (.int .u8 0) ∧ W.frozen? ⟨w.heap.size + 1 + 1, 0, none⟩ = false ∧ W.cell? ⟨w.heap.size + 1 + 1, 1, none⟩ = some (.int .u8 0) ∧ W.frozen? ⟨w.heap.size + 1 + 1, 1, none⟩ = false ∧ W.cell? ⟨w.heap.size + 1 + 1, 2, none⟩ = some (.int .u8 0) ∧ W.frozen? ⟨w.heap.size + 1 + 1, 2, none⟩ = false ∧ W.cell? ⟨(w.heap.size + 1 + 1 + 1), 0, none⟩ = some (.int .u8 0) ∧ W.frozen? ⟨(w.heap.size + 1 + 1 + 1), 0, none⟩ = false ∧ W.cell? ⟨(w.heap.size + 1 + 1 + 1), 1, none⟩ = some (.int .u8 0) ∧ W.frozen? ⟨(w.heap.size + 1 + 1 + 1), 1, none⟩ = false ∧ W.cell? ⟨(w.heap.size + 1 + 1 + 1), 2, none⟩ = some (.int .u8 0) ∧ W.frozen? ⟨(w.heap.size + 1 + 1 + 1), 2, none⟩ = false ∧ W.cell? ⟨g10, 0, none⟩ = some (.int .i64 r) ∧ W.frozen? ⟨g10, 0, none⟩ = false ∧ W.cell? ⟨g10, 1, none⟩ = some (.int .i64 g) ∧ W.frozen? ⟨g10, 1, none⟩ = false ∧ W.cell? ⟨g10, 2, none⟩ = some (.int .i64 b) ∧ W.frozen? ⟨g10, 2, none⟩ = false ∧ W.cell? ⟨g11, 0, none⟩ = some (.int .i64 s) ∧ W.frozen? ⟨g11, 0, none⟩ = false ∧ W.cell? ⟨g11, 1, none⟩ = some (.int .i64 t) ∧ W.frozen? ⟨g11, 1, none⟩ = false ∧ W.cell? ⟨g11, 2, none⟩ = some (.int .i64 u) ∧ W.frozen? ⟨g11, 2, none⟩ = false ∧ W.cell? ⟨g12, 0, none⟩ = some (.int .i64 x0) ∧ W.frozen? ⟨g12, 0, none⟩ = false ∧ W.cell? ⟨g12, 1, none⟩ = some (.int .i64 x1) ∧ W.frozen? ⟨g12, 1, none⟩ = false ∧ W.cell? ⟨g12, 2, none⟩ = some (.int .i64 x2) ∧ W.frozen? ⟨g12, 2, none⟩ = false ∧ W.cell? ⟨g12, 3, none⟩ = some (.int .i64 tt) ∧ W.frozen? ⟨g12, 3, none⟩ = false ∧ W.cell? ⟨g12, 4, none⟩ = some (.int .i64 ll) ∧ W.frozen? ⟨g12, 4, none⟩ = false ∧ W.cell? ⟨g12, 5, none⟩ = some (.int .i64 aa) ∧ W.frozen? ⟨g12, 5, none⟩ = false ∧ Below wr.heap.size wr W ∧ wr.heap.size ≤ W.heap.size) 13 76 [.val (.int .i64 n0), .val (.int .i64 0), .val (.pointer (some ⟨g10, 0, none⟩)), .val (.int .i64 r), .val (.int .i64 a), .val (.int .i64 0), .val (.pointer (some ⟨g11, 0, none⟩)), .val (.int .i64 s), .val (.int .i64 d), .call 38 #[.int .i64 r, .int .i64 a, .int .i64 s, .int .i64 d] (.int .i64 v0), .val (.int .i64 e0), .val (.int .i64 p0), .val (.int .i64 sm0)] (by kernel_rfl) (by kernel_rfl) rfl (by kernel_rfl) (by rintro w1 w2 ⟨h0, h1, h2, h3, h4, h5, h6, h7, h8, h9, h10, h11, h12, h13, h14, h15, h16, h17, h18, h19, h20, h21, h22, h23, h24, h25, h26, h27, h28, h29, h30, h31, h32, h33, h34, h35⟩ hb; exact ⟨bcs hb h0, bfs hb h0 h1, bcs hb h2, bfs hb h2 h3, bcs hb h4, bfs hb h4 h5, bcs hb h6, bfs hb h6 h7, bcs hb h8, bfs hb h8 h9, bcs hb h10, bfs hb h10 h11, bcs hb h12, bfs hb h12 h13, bcs hb h14, bfs hb h14 h15, bcs hb h16, bfs hb h16 h17, bcs hb h18, bfs hb h18 h19, bcs hb h20, bfs hb h20 h21, bcs hb h22, bfs hb h22 h23, bcs hb h24, bfs hb h24 h25, bcs hb h26, bfs hb h26 h27, bcs hb h28, bfs hb h28 h29, bcs hb h30, bfs hb h30 h31, bcs hb h32, bfs hb h32 h33, bcs hb h34, bfs hb h34 h35⟩) ⟨by first | with_reducible assumption | go_simp, by first | with_reducible assumption | go_simp, by first | with_reducible assumption | go_simp, by first | with_reducible assumption | go_simp, by first | with_reducible assumption | go_simp, by first | with_reducible assumption | go_simp, by first | with_reducible assumption | go_simp, by first | with_reducible assumption | go_simp, by first | with_reducible assumption | go_simp, by first | with_reducible assumption | go_simp, by first | with_reducible assumption | go_simp, by first | with_reducible assumption | go_simp, by first | with_reducible assumption | go_simp, by first | with_reducible assumption | go_simp, by first | with_reducible assumption | go_simp, by first | with_reducible assumption | go_simp, by first | with_reducible assumption | go_simp, by first | with_reducible assumption | go_simp, by first | with_reducible assumption | go_simp, by first | with_reducible assumption | go_simp, by first | with_reducible assumption | go_simp, by first | with_reducible assumption | go_simp, by first | with_reducible assumption | go_simp, by first | with_reducible assumption | go_simp, by first | with_reducible assumption | go_simp, by first | with_reducible assumption | go_simp, by first | with_reducible assumption | go_simp, by first | with_reducible assumption | go_simp, by first | with_reducible assumption | go_simp, by first | with_reducible assumption | go_simp, by first | with_reducible assumption | go_simp, by first | with_reducible assumption | go_simp, by first | with_reducible assumption | go_simp, by first | with_reducible assumption | go_simp, by first | with_reducible assumption | go_simp, by first | with_reducible assumption | go_simp, by repeat (first | with_reducible exact Below.refl _ _ | with_reducible exact B2 | with_reducible apply below_drewN | with_reducible apply Below.drew | (with_reducible refine Below.alloc ?_ (by first | (simp; done) | (simp; omega) | omega) _) | (with_reducible refine Below.setCell ?_ (by first | (simp; done) | (simp; omega) | omega) _)), by first | with_reducible assumption | (simp; done) | (simp; omega)⟩ ?_ ?_
      · rintro W ⟨k3_b6_0, g3_b6_0, k3_b6_1, g3_b6_1, k3_b6_2, g3_b6_2, k3_g7_0, g3_g7_0, k3_g7_1, g3_g7_1, k3_g7_2, g3_g7_2, k3_g10_0, g3_g10_0, k3_g10_1, g3_g10_1, k3_g10_2, g3_g10_2, k3_g11_0, g3_g11_0, k3_g11_1, g3_g11_1, k3_g11_2, g3_g11_2, k3_g12_0, g3_g12_0, k3_g12_1, g3_g12_1, k3_g12_2, g3_g12_2, k3_g12_3, g3_g12_3, k3_g12_4, g3_g12_4, k3_g12_5, g3_g12_5, B3, z3⟩; exact ⟨k3_b6_0, g3_b6_0, k3_b6_1, g3_b6_1, k3_b6_2, g3_b6_2, k3_g7_0, g3_g7_0, k3_g7_1, g3_g7_1, k3_g7_2, g3_g7_2, k3_g10_0, g3_g10_0, k3_g10_1, g3_g10_1, k3_g10_2, g3_g10_2, k3_g11_0, g3_g11_0, k3_g11_1, g3_g11_1, k3_g11_2, g3_g11_2, k3_g12_0, g3_g12_0, k3_g12_1, g3_g12_1, k3_g12_2, g3_g12_2, k3_g12_3, g3_g12_3, k3_g12_4, g3_g12_4, k3_g12_5, g3_g12_5⟩
      (try clear B2)
      (try clear z2)
      (try clear k2_b6_0)
      (try clear g2_b6_0)
      (try clear k2_b6_1)
      (try clear g2_b6_1)
      (try clear k2_b6_2)
      (try clear g2_b6_2)
      (try clear k2_g7_0)
      (try clear g2_g7_0)
      (try clear k2_g7_1)
      (try clear g2_g7_1)
      (try clear k2_g7_2)
      (try clear g2_g7_2)
      (try clear k2_g10_0)
      (try clear g2_g10_0)
      (try clear k2_g10_1)
      (try clear g2_g10_1)
      (try clear k2_g10_2)
      (try clear g2_g10_2)
      (try clear k2_g11_0)
      (try clear g2_g11_0)
      (try clear k2_g11_1)
      (try clear g2_g11_1)
      (try clear k2_g11_2)
      (try clear g2_g11_2)
      (try clear k2_g12_0)
      (try clear g2_g12_0)
      (try clear k2_g12_1)
      (try clear g2_g12_1)
      (try clear k2_g12_2)
      (try clear g2_g12_2)
      (try clear k2_g12_3)
      (try clear g2_g12_3)
      (try clear k2_g12_4)
      (try clear g2_g12_4)
      (try clear k2_g12_5)
      (try clear g2_g12_5)
      (try clear q2_b6)
      (try clear x2_b6)
      (try clear y2_b6)
      (try clear q2_g7)
      (try clear x2_g7)
      (try clear y2_g7)
      (try clear q2_g10)
      (try clear x2_g10)
      (try clear y2_g10)
      (try clear q2_g11)
      (try clear x2_g11)
      (try clear y2_g11)
      (try clear q2_g12)
      (try clear x2_g12)
      (try clear y2_g12)
      rintro w3 ⟨k3_b6_0, g3_b6_0, k3_b6_1, g3_b6_1, k3_b6_2, g3_b6_2, k3_g7_0, g3_g7_0, k3_g7_1, g3_g7_1, k3_g7_2, g3_g7_2, k3_g10_0, g3_g10_0, k3_g10_1, g3_g10_1, k3_g10_2, g3_g10_2, k3_g11_0, g3_g11_0, k3_g11_1, g3_g11_1, k3_g11_2, g3_g11_2, k3_g12_0, g3_g12_0, k3_g12_1, g3_g12_1, k3_g12_2, g3_g12_2, k3_g12_3, g3_g12_3, k3_g12_4, g3_g12_4, k3_g12_5, g3_g12_5, B3, z3⟩ gg
      simp only [List.take_succ_cons, List.take_zero, List.drop_succ_cons, List.drop_zero, List.cons_append, List.nil_append, List.append_nil]
      refine obe_val (by rfl) ?_ ?_
      · clear k3_b6_0 g3_b6_0 k3_b6_1 g3_b6_1 k3_b6_2 g3_b6_2 k3_g7_0 g3_g7_0 k3_g7_1 g3_g7_1 k3_g7_2 g3_g7_2 k3_g10_0 g3_g10_0 k3_g10_1 g3_g10_1 k3_g10_2 g3_g10_2 k3_g11_0 g3_g11_0 k3_g11_1 g3_g11_1 k3_g11_2 g3_g11_2 k3_g12_0 g3_g12_0 k3_g12_1 g3_g12_1 k3_g12_2 g3_g12_2 k3_g12_3 g3_g12_3 k3_g12_4 g3_g12_4 k3_g12_5 g3_g12_5 B3 z3; intro f hf; have u14 : f 14 = (.int .i64 n0) := (by rw [← hf]; rfl); clear hf; rintro w' ⟨h0, h1, h2, h3, h4, h5, h6, h7, h8, h9, h10, h11, h12, h13, h14, h15, h16, h17, h18, h19, h20, h21, h22, h23, h24, h25, h26, h27, h28, h29, h30, h31, h32, h33, h34, h35⟩; go_simp; try exact IntWalk.i64_in _ (by omega)
      refine obe_val (by rfl) ?_ ?_
      · clear k3_b6_0 g3_b6_0 k3_b6_1 g3_b6_1 k3_b6_2 g3_b6_2 k3_g7_0 g3_g7_0 k3_g7_1 g3_g7_1 k3_g7_2 g3_g7_2 k3_g10_0 g3_g10_0 k3_g10_1 g3_g10_1 k3_g10_2 g3_g10_2 k3_g11_0 g3_g11_0 k3_g11_1 g3_g11_1 k3_g11_2 g3_g11_2 k3_g12_0 g3_g12_0 k3_g12_1 g3_g12_1 k3_g12_2 g3_g12_2 k3_g12_3 g3_g12_3 k3_g12_4 g3_g12_4 k3_g12_5 g3_g12_5 B3 z3; intro f hf; have u13 : f 13 = (.int .i64 0) := (by rw [← hf]; rfl); clear hf; rintro w' ⟨h0, h1, h2, h3, h4, h5, h6, h7, h8, h9, h10, h11, h12, h13, h14, h15, h16, h17, h18, h19, h20, h21, h22, h23, h24, h25, h26, h27, h28, h29, h30, h31, h32, h33, h34, h35⟩; go_simp; try exact IntWalk.i64_in _ (by omega)
      refine obe_val (by rfl) ?_ ?_
      · clear k3_b6_0 g3_b6_0 k3_b6_1 g3_b6_1 k3_b6_2 g3_b6_2 k3_g7_0 g3_g7_0 k3_g7_1 g3_g7_1 k3_g7_2 g3_g7_2 k3_g10_0 g3_g10_0 k3_g10_1 g3_g10_1 k3_g10_2 g3_g10_2 k3_g11_0 g3_g11_0 k3_g11_1 g3_g11_1 k3_g11_2 g3_g11_2 k3_g12_0 g3_g12_0 k3_g12_1 g3_g12_1 k3_g12_2 g3_g12_2 k3_g12_3 g3_g12_3 k3_g12_4 g3_g12_4 k3_g12_5 g3_g12_5 B3 z3; intro f hf; have u10 : f 10 = (.pointer (some ⟨g10, 0, none⟩)) := (by rw [← hf]; rfl); have u50 : f 50 = (.int .i64 0) := (by rw [← hf]; rfl); clear hf; rintro w' ⟨h0, h1, h2, h3, h4, h5, h6, h7, h8, h9, h10, h11, h12, h13, h14, h15, h16, h17, h18, h19, h20, h21, h22, h23, h24, h25, h26, h27, h28, h29, h30, h31, h32, h33, h34, h35⟩; go_simp; try exact IntWalk.i64_in _ (by omega)
      refine obe_val (by rfl) ?_ ?_
      · clear k3_b6_0 g3_b6_0 k3_b6_1 g3_b6_1 k3_b6_2 g3_b6_2 k3_g7_0 g3_g7_0 k3_g7_1 g3_g7_1 k3_g7_2 g3_g7_2 k3_g10_0 g3_g10_0 k3_g10_1 g3_g10_1 k3_g10_2 g3_g10_2 k3_g11_0 g3_g11_0 k3_g11_1 g3_g11_1 k3_g11_2 g3_g11_2 k3_g12_0 g3_g12_0 k3_g12_1 g3_g12_1 k3_g12_2 g3_g12_2 k3_g12_3 g3_g12_3 k3_g12_4 g3_g12_4 k3_g12_5 g3_g12_5 B3 z3; intro f hf; have u51 : f 51 = (.pointer (some ⟨g10, 0, none⟩)) := (by rw [← hf]; rfl); clear hf; rintro w' ⟨h0, h1, h2, h3, h4, h5, h6, h7, h8, h9, h10, h11, h12, h13, h14, h15, h16, h17, h18, h19, h20, h21, h22, h23, h24, h25, h26, h27, h28, h29, h30, h31, h32, h33, h34, h35⟩; go_simp; try exact IntWalk.i64_in _ (by omega)
      refine obe_val (by rfl) ?_ ?_
      · clear k3_b6_0 g3_b6_0 k3_b6_1 g3_b6_1 k3_b6_2 g3_b6_2 k3_g7_0 g3_g7_0 k3_g7_1 g3_g7_1 k3_g7_2 g3_g7_2 k3_g10_0 g3_g10_0 k3_g10_1 g3_g10_1 k3_g10_2 g3_g10_2 k3_g11_0 g3_g11_0 k3_g11_1 g3_g11_1 k3_g11_2 g3_g11_2 k3_g12_0 g3_g12_0 k3_g12_1 g3_g12_1 k3_g12_2 g3_g12_2 k3_g12_3 g3_g12_3 k3_g12_4 g3_g12_4 k3_g12_5 g3_g12_5 B3 z3; intro f hf; have u8 : f 8 = (.int .i64 a) := (by rw [← hf]; rfl); clear hf; rintro w' ⟨h0, h1, h2, h3, h4, h5, h6, h7, h8, h9, h10, h11, h12, h13, h14, h15, h16, h17, h18, h19, h20, h21, h22, h23, h24, h25, h26, h27, h28, h29, h30, h31, h32, h33, h34, h35⟩; go_simp; try exact IntWalk.i64_in _ (by omega)
      refine obe_val (by rfl) ?_ ?_
      · clear k3_b6_0 g3_b6_0 k3_b6_1 g3_b6_1 k3_b6_2 g3_b6_2 k3_g7_0 g3_g7_0 k3_g7_1 g3_g7_1 k3_g7_2 g3_g7_2 k3_g10_0 g3_g10_0 k3_g10_1 g3_g10_1 k3_g10_2 g3_g10_2 k3_g11_0 g3_g11_0 k3_g11_1 g3_g11_1 k3_g11_2 g3_g11_2 k3_g12_0 g3_g12_0 k3_g12_1 g3_g12_1 k3_g12_2 g3_g12_2 k3_g12_3 g3_g12_3 k3_g12_4 g3_g12_4 k3_g12_5 g3_g12_5 B3 z3; intro f hf; have u13 : f 13 = (.int .i64 0) := (by rw [← hf]; rfl); clear hf; rintro w' ⟨h0, h1, h2, h3, h4, h5, h6, h7, h8, h9, h10, h11, h12, h13, h14, h15, h16, h17, h18, h19, h20, h21, h22, h23, h24, h25, h26, h27, h28, h29, h30, h31, h32, h33, h34, h35⟩; go_simp; try exact IntWalk.i64_in _ (by omega)
      refine obe_val (by rfl) ?_ ?_
      · clear k3_b6_0 g3_b6_0 k3_b6_1 g3_b6_1 k3_b6_2 g3_b6_2 k3_g7_0 g3_g7_0 k3_g7_1 g3_g7_1 k3_g7_2 g3_g7_2 k3_g10_0 g3_g10_0 k3_g10_1 g3_g10_1 k3_g10_2 g3_g10_2 k3_g11_0 g3_g11_0 k3_g11_1 g3_g11_1 k3_g11_2 g3_g11_2 k3_g12_0 g3_g12_0 k3_g12_1 g3_g12_1 k3_g12_2 g3_g12_2 k3_g12_3 g3_g12_3 k3_g12_4 g3_g12_4 k3_g12_5 g3_g12_5 B3 z3; intro f hf; have u11 : f 11 = (.pointer (some ⟨g11, 0, none⟩)) := (by rw [← hf]; rfl); have u54 : f 54 = (.int .i64 0) := (by rw [← hf]; rfl); clear hf; rintro w' ⟨h0, h1, h2, h3, h4, h5, h6, h7, h8, h9, h10, h11, h12, h13, h14, h15, h16, h17, h18, h19, h20, h21, h22, h23, h24, h25, h26, h27, h28, h29, h30, h31, h32, h33, h34, h35⟩; go_simp; try exact IntWalk.i64_in _ (by omega)
      refine obe_val (by rfl) ?_ ?_
      · clear k3_b6_0 g3_b6_0 k3_b6_1 g3_b6_1 k3_b6_2 g3_b6_2 k3_g7_0 g3_g7_0 k3_g7_1 g3_g7_1 k3_g7_2 g3_g7_2 k3_g10_0 g3_g10_0 k3_g10_1 g3_g10_1 k3_g10_2 g3_g10_2 k3_g11_0 g3_g11_0 k3_g11_1 g3_g11_1 k3_g11_2 g3_g11_2 k3_g12_0 g3_g12_0 k3_g12_1 g3_g12_1 k3_g12_2 g3_g12_2 k3_g12_3 g3_g12_3 k3_g12_4 g3_g12_4 k3_g12_5 g3_g12_5 B3 z3; intro f hf; have u55 : f 55 = (.pointer (some ⟨g11, 0, none⟩)) := (by rw [← hf]; rfl); clear hf; rintro w' ⟨h0, h1, h2, h3, h4, h5, h6, h7, h8, h9, h10, h11, h12, h13, h14, h15, h16, h17, h18, h19, h20, h21, h22, h23, h24, h25, h26, h27, h28, h29, h30, h31, h32, h33, h34, h35⟩; go_simp; try exact IntWalk.i64_in _ (by omega)
      refine obe_val (by rfl) ?_ ?_
      · clear k3_b6_0 g3_b6_0 k3_b6_1 g3_b6_1 k3_b6_2 g3_b6_2 k3_g7_0 g3_g7_0 k3_g7_1 g3_g7_1 k3_g7_2 g3_g7_2 k3_g10_0 g3_g10_0 k3_g10_1 g3_g10_1 k3_g10_2 g3_g10_2 k3_g11_0 g3_g11_0 k3_g11_1 g3_g11_1 k3_g11_2 g3_g11_2 k3_g12_0 g3_g12_0 k3_g12_1 g3_g12_1 k3_g12_2 g3_g12_2 k3_g12_3 g3_g12_3 k3_g12_4 g3_g12_4 k3_g12_5 g3_g12_5 B3 z3; intro f hf; have u9 : f 9 = (.int .i64 d) := (by rw [← hf]; rfl); clear hf; rintro w' ⟨h0, h1, h2, h3, h4, h5, h6, h7, h8, h9, h10, h11, h12, h13, h14, h15, h16, h17, h18, h19, h20, h21, h22, h23, h24, h25, h26, h27, h28, h29, h30, h31, h32, h33, h34, h35⟩; go_simp; try exact IntWalk.i64_in _ (by omega)
      refine obe_call (by rfl) ?_ ?_ ?_
      · clear k3_b6_0 g3_b6_0 k3_b6_1 g3_b6_1 k3_b6_2 g3_b6_2 k3_g7_0 g3_g7_0 k3_g7_1 g3_g7_1 k3_g7_2 g3_g7_2 k3_g10_0 g3_g10_0 k3_g10_1 g3_g10_1 k3_g10_2 g3_g10_2 k3_g11_0 g3_g11_0 k3_g11_1 g3_g11_1 k3_g11_2 g3_g11_2 k3_g12_0 g3_g12_0 k3_g12_1 g3_g12_1 k3_g12_2 g3_g12_2 k3_g12_3 g3_g12_3 k3_g12_4 g3_g12_4 k3_g12_5 g3_g12_5 B3 z3; intro f hf; have u52 : f 52 = (.int .i64 r) := (by rw [← hf]; rfl); have u53 : f 53 = (.int .i64 a) := (by rw [← hf]; rfl); have u56 : f 56 = (.int .i64 s) := (by rw [← hf]; rfl); have u57 : f 57 = (.int .i64 d) := (by rw [← hf]; rfl); clear hf; intro w' _; simp only [execOp, resolve, invoke, rhoF_tmp, rhoF_func, rhoF_const, u52, u53, u56, u57, List.map_toArray, List.map_cons, List.map_nil]; go_simp
      · clear k3_b6_0 g3_b6_0 k3_b6_1 g3_b6_1 k3_b6_2 g3_b6_2 k3_g7_0 g3_g7_0 k3_g7_1 g3_g7_1 k3_g7_2 g3_g7_2 k3_g10_0 g3_g10_0 k3_g10_1 g3_g10_1 k3_g10_2 g3_g10_2 k3_g11_0 g3_g11_0 k3_g11_1 g3_g11_1 k3_g11_2 g3_g11_2 k3_g12_0 g3_g12_0 k3_g12_1 g3_g12_1 k3_g12_2 g3_g12_2 k3_g12_3 g3_g12_3 k3_g12_4 g3_g12_4 k3_g12_5 g3_g12_5 B3 z3; rintro w' ⟨h0, h1, h2, h3, h4, h5, h6, h7, h8, h9, h10, h11, h12, h13, h14, h15, h16, h17, h18, h19, h20, h21, h22, h23, h24, h25, h26, h27, h28, h29, h30, h31, h32, h33, h34, h35⟩; exact (cu0 _).mono (by rintro e w2 ⟨rfl, rfl⟩; exact ⟨rfl, Below.refl _ _⟩)
      refine obe_val (by rfl) ?_ ?_
      · clear k3_b6_0 g3_b6_0 k3_b6_1 g3_b6_1 k3_b6_2 g3_b6_2 k3_g7_0 g3_g7_0 k3_g7_1 g3_g7_1 k3_g7_2 g3_g7_2 k3_g10_0 g3_g10_0 k3_g10_1 g3_g10_1 k3_g10_2 g3_g10_2 k3_g11_0 g3_g11_0 k3_g11_1 g3_g11_1 k3_g11_2 g3_g11_2 k3_g12_0 g3_g12_0 k3_g12_1 g3_g12_1 k3_g12_2 g3_g12_2 k3_g12_3 g3_g12_3 k3_g12_4 g3_g12_4 k3_g12_5 g3_g12_5 B3 z3; intro f hf; have u15 : f 15 = (.int .i64 e0) := (by rw [← hf]; rfl); clear hf; rintro w' ⟨h0, h1, h2, h3, h4, h5, h6, h7, h8, h9, h10, h11, h12, h13, h14, h15, h16, h17, h18, h19, h20, h21, h22, h23, h24, h25, h26, h27, h28, h29, h30, h31, h32, h33, h34, h35⟩; go_simp; try exact IntWalk.i64_in _ (by omega)
      refine obe_val (by rfl) ?_ ?_
      · clear k3_b6_0 g3_b6_0 k3_b6_1 g3_b6_1 k3_b6_2 g3_b6_2 k3_g7_0 g3_g7_0 k3_g7_1 g3_g7_1 k3_g7_2 g3_g7_2 k3_g10_0 g3_g10_0 k3_g10_1 g3_g10_1 k3_g10_2 g3_g10_2 k3_g11_0 g3_g11_0 k3_g11_1 g3_g11_1 k3_g11_2 g3_g11_2 k3_g12_0 g3_g12_0 k3_g12_1 g3_g12_1 k3_g12_2 g3_g12_2 k3_g12_3 g3_g12_3 k3_g12_4 g3_g12_4 k3_g12_5 g3_g12_5 B3 z3; intro f hf; have u58 : f 58 = (.int .i64 v0) := (by rw [← hf]; rfl); have u59 : f 59 = (.int .i64 e0) := (by rw [← hf]; rfl); clear hf; rintro w' ⟨h0, h1, h2, h3, h4, h5, h6, h7, h8, h9, h10, h11, h12, h13, h14, h15, h16, h17, h18, h19, h20, h21, h22, h23, h24, h25, h26, h27, h28, h29, h30, h31, h32, h33, h34, h35⟩; go_simp; try exact IntWalk.i64_in _ (by omega)
      refine obe_val (by rfl) ?_ ?_
      · clear k3_b6_0 g3_b6_0 k3_b6_1 g3_b6_1 k3_b6_2 g3_b6_2 k3_g7_0 g3_g7_0 k3_g7_1 g3_g7_1 k3_g7_2 g3_g7_2 k3_g10_0 g3_g10_0 k3_g10_1 g3_g10_1 k3_g10_2 g3_g10_2 k3_g11_0 g3_g11_0 k3_g11_1 g3_g11_1 k3_g11_2 g3_g11_2 k3_g12_0 g3_g12_0 k3_g12_1 g3_g12_1 k3_g12_2 g3_g12_2 k3_g12_3 g3_g12_3 k3_g12_4 g3_g12_4 k3_g12_5 g3_g12_5 B3 z3; intro f hf; have u49 : f 49 = (.int .i64 n0) := (by rw [← hf]; rfl); have u60 : f 60 = (.int .i64 p0) := (by rw [← hf]; rfl); clear hf; rintro w' ⟨h0, h1, h2, h3, h4, h5, h6, h7, h8, h9, h10, h11, h12, h13, h14, h15, h16, h17, h18, h19, h20, h21, h22, h23, h24, h25, h26, h27, h28, h29, h30, h31, h32, h33, h34, h35⟩; go_simp; try exact IntWalk.i64_in _ (by omega)
      refine obe_nil ?_
      rintro w4 ⟨h0, h1, h2, h3, h4, h5, h6, h7, h8, h9, h10, h11, h12, h13, h14, h15, h16, h17, h18, h19, h20, h21, h22, h23, h24, h25, h26, h27, h28, h29, h30, h31, h32, h33, h34, h35⟩ hb4 hF
      (try simp only [List.nil_append, List.append_nil, List.cons_append] at hF)
      simp only [puts, putD, Act.put, List.setIfInBounds_toArray, List.set_cons_zero, List.set_cons_succ]
      clear hF
      have k4_b6_0 := bcs hb4 k3_b6_0
      have g4_b6_0 := bfs hb4 k3_b6_0 g3_b6_0
      have k4_b6_1 := bcs hb4 k3_b6_1
      have g4_b6_1 := bfs hb4 k3_b6_1 g3_b6_1
      have k4_b6_2 := bcs hb4 k3_b6_2
      have g4_b6_2 := bfs hb4 k3_b6_2 g3_b6_2
      have k4_g7_0 := bcs hb4 k3_g7_0
      have g4_g7_0 := bfs hb4 k3_g7_0 g3_g7_0
      have k4_g7_1 := bcs hb4 k3_g7_1
      have g4_g7_1 := bfs hb4 k3_g7_1 g3_g7_1
      have k4_g7_2 := bcs hb4 k3_g7_2
      have g4_g7_2 := bfs hb4 k3_g7_2 g3_g7_2
      have k4_g10_0 := bcs hb4 k3_g10_0
      have g4_g10_0 := bfs hb4 k3_g10_0 g3_g10_0
      have k4_g10_1 := bcs hb4 k3_g10_1
      have g4_g10_1 := bfs hb4 k3_g10_1 g3_g10_1
      have k4_g10_2 := bcs hb4 k3_g10_2
      have g4_g10_2 := bfs hb4 k3_g10_2 g3_g10_2
      have k4_g11_0 := bcs hb4 k3_g11_0
      have g4_g11_0 := bfs hb4 k3_g11_0 g3_g11_0
      have k4_g11_1 := bcs hb4 k3_g11_1
      have g4_g11_1 := bfs hb4 k3_g11_1 g3_g11_1
      have k4_g11_2 := bcs hb4 k3_g11_2
      have g4_g11_2 := bfs hb4 k3_g11_2 g3_g11_2
      have k4_g12_0 := bcs hb4 k3_g12_0
      have g4_g12_0 := bfs hb4 k3_g12_0 g3_g12_0
      have k4_g12_1 := bcs hb4 k3_g12_1
      have g4_g12_1 := bfs hb4 k3_g12_1 g3_g12_1
      have k4_g12_2 := bcs hb4 k3_g12_2
      have g4_g12_2 := bfs hb4 k3_g12_2 g3_g12_2
      have k4_g12_3 := bcs hb4 k3_g12_3
      have g4_g12_3 := bfs hb4 k3_g12_3 g3_g12_3
      have k4_g12_4 := bcs hb4 k3_g12_4
      have g4_g12_4 := bfs hb4 k3_g12_4 g3_g12_4
      have k4_g12_5 := bcs hb4 k3_g12_5
      have g4_g12_5 := bfs hb4 k3_g12_5 g3_g12_5
      clear h0 h1 h2 h3 h4 h5 h6 h7 h8 h9 h10 h11 h12 h13 h14 h15 h16 h17 h18 h19 h20 h21 h22 h23 h24 h25 h26 h27 h28 h29 h30 h31 h32 h33 h34 h35
      have B4 := bel_step B3 hb4
      have z4 := Nat.le_trans z3 hb4.size
      clear hb4
      (try clear B3)
      (try clear z3)
      (try clear k3_b6_0)
      (try clear g3_b6_0)
      (try clear k3_b6_1)
      (try clear g3_b6_1)
      (try clear k3_b6_2)
      (try clear g3_b6_2)
      (try clear k3_g7_0)
      (try clear g3_g7_0)
      (try clear k3_g7_1)
      (try clear g3_g7_1)
      (try clear k3_g7_2)
      (try clear g3_g7_2)
      (try clear k3_g10_0)
      (try clear g3_g10_0)
      (try clear k3_g10_1)
      (try clear g3_g10_1)
      (try clear k3_g10_2)
      (try clear g3_g10_2)
      (try clear k3_g11_0)
      (try clear g3_g11_0)
      (try clear k3_g11_1)
      (try clear g3_g11_1)
      (try clear k3_g11_2)
      (try clear g3_g11_2)
      (try clear k3_g12_0)
      (try clear g3_g12_0)
      (try clear k3_g12_1)
      (try clear g3_g12_1)
      (try clear k3_g12_2)
      (try clear g3_g12_2)
      (try clear k3_g12_3)
      (try clear g3_g12_3)
      (try clear k3_g12_4)
      (try clear g3_g12_4)
      (try clear k3_g12_5)
      (try clear g3_g12_5)
      (try clear q3_b6)
      (try clear x3_b6)
      (try clear y3_b6)
      (try clear q3_g7)
      (try clear x3_g7)
      (try clear y3_g7)
      (try clear q3_g10)
      (try clear x3_g10)
      (try clear y3_g10)
      (try clear q3_g11)
      (try clear x3_g11)
      (try clear y3_g11)
      (try clear q3_g12)
      (try clear x3_g12)
      (try clear y3_g12)
      have q4_b6 : w.heap.size + 1 + 1 < w4.heap.size := qlt k4_b6_0
      have x4_b6 : ¬ w.heap.size + 1 + 1 = w4.heap.size := qne k4_b6_0
      have y4_b6 : ¬ w4.heap.size = w.heap.size + 1 + 1 := fun h => qne k4_b6_0 h.symm
      have q4_g7 : (w.heap.size + 1 + 1 + 1) < w4.heap.size := qlt k4_g7_0
      have x4_g7 : ¬ (w.heap.size + 1 + 1 + 1) = w4.heap.size := qne k4_g7_0
      have y4_g7 : ¬ w4.heap.size = (w.heap.size + 1 + 1 + 1) := fun h => qne k4_g7_0 h.symm
      have q4_g10 : g10 < w4.heap.size := qlt k4_g10_0
      have x4_g10 : ¬ g10 = w4.heap.size := qne k4_g10_0
      have y4_g10 : ¬ w4.heap.size = g10 := fun h => qne k4_g10_0 h.symm
      have q4_g11 : g11 < w4.heap.size := qlt k4_g11_0
      have x4_g11 : ¬ g11 = w4.heap.size := qne k4_g11_0
      have y4_g11 : ¬ w4.heap.size = g11 := fun h => qne k4_g11_0 h.symm
      have q4_g12 : g12 < w4.heap.size := qlt k4_g12_0
      have x4_g12 : ¬ g12 = w4.heap.size := qne k4_g12_0
      have y4_g12 : ¬ w4.heap.size = g12 := fun h => qne k4_g12_0 h.symm
      go_wp2
      go_roundw
      case rel => exact ⟨z0, 0, 0, ⟨by first | with_reducible assumption | go_simp, by first | with_reducible assumption | go_simp, by first | with_reducible assumption | go_simp, by first | with_reducible assumption | go_simp, by first | with_reducible assumption | go_simp, by first | with_reducible assumption | go_simp, by first | with_reducible assumption | go_simp, by first | with_reducible assumption | go_simp, by first | with_reducible assumption | go_simp, by first | with_reducible assumption | go_simp, by first | with_reducible assumption | go_simp, by first | with_reducible assumption | go_simp, by first | with_reducible assumption | go_simp, by first | with_reducible assumption | go_simp, by first | with_reducible assumption | go_simp, by first | with_reducible assumption | go_simp, by first | with_reducible assumption | go_simp, by first | with_reducible assumption | go_simp, by first | with_reducible assumption | go_simp, by first | with_reducible assumption | go_simp, by first | with_reducible assumption | go_simp, by first | with_reducible assumption | go_simp, by first | with_reducible assumption | go_simp, by first | with_reducible assumption | go_simp, by first | with_reducible assumption | go_simp, by first | with_reducible assumption | go_simp, by first | with_reducible assumption | go_simp, by first | with_reducible assumption | go_simp, by first | with_reducible assumption | go_simp, by first | with_reducible assumption | go_simp, by first | with_reducible assumption | go_simp, by first | with_reducible assumption | go_simp, by first | with_reducible assumption | go_simp, by first | with_reducible assumption | go_simp, by first | with_reducible assumption | go_simp, by first | with_reducible assumption | go_simp, by repeat (first | with_reducible exact Below.refl _ _ | with_reducible exact bel_step hB B4 | with_reducible apply below_drewN | with_reducible apply Below.drew | (with_reducible refine Below.alloc ?_ (by first | (simp; done) | (simp; omega) | omega) _) | (with_reducible refine Below.setCell ?_ (by first | (simp; done) | (simp; omega) | omega) _))⟩, .inr (.inl ⟨rfl, rfl, rfl, rfl⟩)⟩
      case measure => simp [intOf]
    · skip
      have hsz := hB.size
      go_wp2
      refine wp_region_env (fun w' => w'.cell? ⟨w.heap.size + 1 + 1, 0, none⟩ = some (.int .u8 0) ∧ w'.frozen? ⟨w.heap.size + 1 + 1, 0, none⟩ = false ∧ w'.cell? ⟨w.heap.size + 1 + 1, 1, none⟩ = some (.int .u8 0) ∧ w'.frozen? ⟨w.heap.size + 1 + 1, 1, none⟩ = false ∧ w'.cell? ⟨w.heap.size + 1 + 1, 2, none⟩ = some (.int .u8 0) ∧ w'.frozen? ⟨w.heap.size + 1 + 1, 2, none⟩ = false ∧ w'.cell? ⟨(w.heap.size + 1 + 1 + 1), 0, none⟩ = some (.int .u8 z0) ∧ w'.frozen? ⟨(w.heap.size + 1 + 1 + 1), 0, none⟩ = false ∧ w'.cell? ⟨(w.heap.size + 1 + 1 + 1), 1, none⟩ = some (.int .u8 0) ∧ w'.frozen? ⟨(w.heap.size + 1 + 1 + 1), 1, none⟩ = false ∧ w'.cell? ⟨(w.heap.size + 1 + 1 + 1), 2, none⟩ = some (.int .u8 0) ∧ w'.frozen? ⟨(w.heap.size + 1 + 1 + 1), 2, none⟩ = false ∧ w'.cell? ⟨g10, 0, none⟩ = some (.int .i64 r) ∧ w'.frozen? ⟨g10, 0, none⟩ = false ∧ w'.cell? ⟨g10, 1, none⟩ = some (.int .i64 g) ∧ w'.frozen? ⟨g10, 1, none⟩ = false ∧ w'.cell? ⟨g10, 2, none⟩ = some (.int .i64 b) ∧ w'.frozen? ⟨g10, 2, none⟩ = false ∧ w'.cell? ⟨g11, 0, none⟩ = some (.int .i64 s) ∧ w'.frozen? ⟨g11, 0, none⟩ = false ∧ w'.cell? ⟨g11, 1, none⟩ = some (.int .i64 t) ∧ w'.frozen? ⟨g11, 1, none⟩ = false ∧ w'.cell? ⟨g11, 2, none⟩ = some (.int .i64 u) ∧ w'.frozen? ⟨g11, 2, none⟩ = false ∧ w'.cell? ⟨g12, 0, none⟩ = some (.int .i64 x0) ∧ w'.frozen? ⟨g12, 0, none⟩ = false ∧ w'.cell? ⟨g12, 1, none⟩ = some (.int .i64 x1) ∧ w'.frozen? ⟨g12, 1, none⟩ = false ∧ w'.cell? ⟨g12, 2, none⟩ = some (.int .i64 x2) ∧ w'.frozen? ⟨g12, 2, none⟩ = false ∧ w'.cell? ⟨g12, 3, none⟩ = some (.int .i64 tt) ∧ w'.frozen? ⟨g12, 3, none⟩ = false ∧ w'.cell? ⟨g12, 4, none⟩ = some (.int .i64 ll) ∧ w'.frozen? ⟨g12, 4, none⟩ = false ∧ w'.cell? ⟨g12, 5, none⟩ = some (.int .i64 aa) ∧ w'.frozen? ⟨g12, 5, none⟩ = false) (fun W => W.cell? ⟨w.heap.size + 1 + 1, 0, none⟩ = some (.int .u8 0) ∧ W.frozen? ⟨w.heap.size + 1 + 1, 0, none⟩ = false ∧ W.cell? ⟨w.heap.size + 1 + 1, 1, none⟩ = some (.int .u8 0) ∧ W.frozen? ⟨w.heap.size + 1 + 1, 1, none⟩ = false ∧ W.cell? ⟨w.heap.size + 1 + 1, 2, none⟩ = some (.int .u8 0) ∧ W.frozen? ⟨w.heap.size + 1 + 1, 2, none⟩ = false ∧ W.cell? ⟨(w.heap.size + 1 + 1 + 1), 0, none⟩ = some (.int .u8 z0) ∧ W.frozen? ⟨(w.heap.size + 1 + 1 + 1), 0, none⟩ = false ∧ W.cell? ⟨(w.heap.size + 1 + 1 + 1), 1, none⟩ = some (.int .u8 0) ∧ W.frozen? ⟨(w.heap.size + 1 + 1 + 1), 1, none⟩ = false ∧ W.cell? ⟨(w.heap.size + 1 + 1 + 1), 2, none⟩ = some (.int .u8 0) ∧ W.frozen? ⟨(w.heap.size + 1 + 1 + 1), 2, none⟩ = false ∧ W.cell? ⟨g10, 0, none⟩ = some (.int .i64 r) ∧ W.frozen? ⟨g10, 0, none⟩ = false ∧ W.cell? ⟨g10, 1, none⟩ = some (.int .i64 g) ∧ W.frozen? ⟨g10, 1, none⟩ = false ∧ W.cell? ⟨g10, 2, none⟩ = some (.int .i64 b) ∧ W.frozen? ⟨g10, 2, none⟩ = false ∧ W.cell? ⟨g11, 0, none⟩ = some (.int .i64 s) ∧ W.frozen? ⟨g11, 0, none⟩ = false ∧ W.cell? ⟨g11, 1, none⟩ = some (.int .i64 t) ∧ W.frozen? ⟨g11, 1, none⟩ = false ∧ W.cell? ⟨g11, 2, none⟩ = some (.int .i64 u) ∧ W.frozen? ⟨g11, 2, none⟩ = false ∧ W.cell? ⟨g12, 0, none⟩ = some (.int .i64 x0) ∧ W.frozen? ⟨g12, 0, none⟩ = false ∧ W.cell? ⟨g12, 1, none⟩ = some (.int .i64 x1) ∧ W.frozen? ⟨g12, 1, none⟩ = false ∧ W.cell? ⟨g12, 2, none⟩ = some (.int .i64 x2) ∧ W.frozen? ⟨g12, 2, none⟩ = false ∧ W.cell? ⟨g12, 3, none⟩ = some (.int .i64 tt) ∧ W.frozen? ⟨g12, 3, none⟩ = false ∧ W.cell? ⟨g12, 4, none⟩ = some (.int .i64 ll) ∧ W.frozen? ⟨g12, 4, none⟩ = false ∧ W.cell? ⟨g12, 5, none⟩ = some (.int .i64 aa) ∧ W.frozen? ⟨g12, 5, none⟩ = false ∧ Below wr.heap.size wr W ∧ wr.heap.size ≤ W.heap.size) 11 76 [.val (.agg #[.int .i64 x0, .int .i64 x1, .int .i64 x2, .int .i64 tt, .int .i64 ll, .int .i64 aa]), .val (.int .i64 1), .val (.pointer (some ⟨g12, 0, none⟩)), .val (.pointer (some ⟨g12, 1, none⟩)), .val (.int .i64 x1), .call 49 #[.agg #[.int .i64 x0, .int .i64 x1, .int .i64 x2, .int .i64 tt, .int .i64 ll, .int .i64 aa], .int .i64 x1] (.tuple #[.int .i64 n1, .int .i64 e1]), .val (.tuple #[.int .i64 n1, .int .i64 e1]), .val (.int .i64 n1), .val (.int .i64 e1), .val (.int .i64 n1), .val (.int .i64 e1)] (by kernel_rfl) (by kernel_rfl) rfl (by kernel_rfl) (by rintro w1 w2 ⟨h0, h1, h2, h3, h4, h5, h6, h7, h8, h9, h10, h11, h12, h13, h14, h15, h16, h17, h18, h19, h20, h21, h22, h23, h24, h25, h26, h27, h28, h29, h30, h31, h32, h33, h34, h35⟩ hb; exact ⟨bcs hb h0, bfs hb h0 h1, bcs hb h2, bfs hb h2 h3, bcs hb h4, bfs hb h4 h5, bcs hb h6, bfs hb h6 h7, bcs hb h8, bfs hb h8 h9, bcs hb h10, bfs hb h10 h11, bcs hb h12, bfs hb h12 h13, bcs hb h14, bfs hb h14 h15, bcs hb h16, bfs hb h16 h17, bcs hb h18, bfs hb h18 h19, bcs hb h20, bfs hb h20 h21, bcs hb h22, bfs hb h22 h23, bcs hb h24, bfs hb h24 h25, bcs hb h26, bfs hb h26 h27, bcs hb h28, bfs hb h28 h29, bcs hb h30, bfs hb h30 h31, bcs hb h32, bfs hb h32 h33, bcs hb h34, bfs hb h34 h35⟩) ⟨bcs (by repeat (first | with_reducible exact Below.refl _ _ | fail | with_reducible apply below_drewN | with_reducible apply Below.drew | (with_reducible refine Below.alloc ?_ (by first | (simp; done) | (simp; omega) | omega) _) | (with_reducible refine Below.setCell ?_ (by first | (simp; done) | (simp; omega) | omega) _))) kx0, bfs (by repeat (first | with_reducible exact Below.refl _ _ | fail | with_reducible apply below_drewN | with_reducible apply Below.drew | (with_reducible refine Below.alloc ?_ (by first | (simp; done) | (simp; omega) | omega) _) | (with_reducible refine Below.setCell ?_ (by first | (simp; done) | (simp; omega) | omega) _))) kx0 gx0, bcs (by repeat (first | with_reducible exact Below.refl _ _ | fail | with_reducible apply below_drewN | with_reducible apply Below.drew | (with_reducible refine Below.alloc ?_ (by first | (simp; done) | (simp; omega) | omega) _) | (with_reducible refine Below.setCell ?_ (by first | (simp; done) | (simp; omega) | omega) _))) kx1, bfs (by repeat (first | with_reducible exact Below.refl _ _ | fail | with_reducible apply below_drewN | with_reducible apply Below.drew | (with_reducible refine Below.alloc ?_ (by first | (simp; done) | (simp; omega) | omega) _) | (with_reducible refine Below.setCell ?_ (by first | (simp; done) | (simp; omega) | omega) _))) kx1 gx1, bcs (by repeat (first | with_reducible exact Below.refl _ _ | fail | with_reducible apply below_drewN | with_reducible apply Below.drew | (with_reducible refine Below.alloc ?_ (by first | (simp; done) | (simp; omega) | omega) _) | (with_reducible refine Below.setCell ?_ (by first | (simp; done) | (simp; omega) | omega) _))) kx2, bfs (by repeat (first | with_reducible exact Below.refl _ _ | fail | with_reducible apply below_drewN | with_reducible apply Below.drew | (with_reducible refine Below.alloc ?_ (by first | (simp; done) | (simp; omega) | omega) _) | (with_reducible refine Below.setCell ?_ (by first | (simp; done) | (simp; omega) | omega) _))) kx2 gx2, bcs (by repeat (first | with_reducible exact Below.refl _ _ | fail | with_reducible apply below_drewN | with_reducible apply Below.drew | (with_reducible refine Below.alloc ?_ (by first | (simp; done) | (simp; omega) | omega) _) | (with_reducible refine Below.setCell ?_ (by first | (simp; done) | (simp; omega) | omega) _))) ky0, bfs (by repeat (first | with_reducible exact Below.refl _ _ | fail | with_reducible apply below_drewN | with_reducible apply Below.drew | (with_reducible refine Below.alloc ?_ (by first | (simp; done) | (simp; omega) | omega) _) | (with_reducible refine Below.setCell ?_ (by first | (simp; done) | (simp; omega) | omega) _))) ky0 gy0, bcs (by repeat (first | with_reducible exact Below.refl _ _ | fail | with_reducible apply below_drewN | with_reducible apply Below.drew | (with_reducible refine Below.alloc ?_ (by first | (simp; done) | (simp; omega) | omega) _) | (with_reducible refine Below.setCell ?_ (by first | (simp; done) | (simp; omega) | omega) _))) ky1, bfs (by repeat (first | with_reducible exact Below.refl _ _ | fail | with_reducible apply below_drewN | with_reducible apply Below.drew | (with_reducible refine Below.alloc ?_ (by first | (simp; done) | (simp; omega) | omega) _) | (with_reducible refine Below.setCell ?_ (by first | (simp; done) | (simp; omega) | omega) _))) ky1 gy1, bcs (by repeat (first | with_reducible exact Below.refl _ _ | fail | with_reducible apply below_drewN | with_reducible apply Below.drew | (with_reducible refine Below.alloc ?_ (by first | (simp; done) | (simp; omega) | omega) _) | (with_reducible refine Below.setCell ?_ (by first | (simp; done) | (simp; omega) | omega) _))) ky2, bfs (by repeat (first | with_reducible exact Below.refl _ _ | fail | with_reducible apply below_drewN | with_reducible apply Below.drew | (with_reducible refine Below.alloc ?_ (by first | (simp; done) | (simp; omega) | omega) _) | (with_reducible refine Below.setCell ?_ (by first | (simp; done) | (simp; omega) | omega) _))) ky2 gy2, bcs (by repeat (first | with_reducible exact Below.refl _ _ | fail | with_reducible apply below_drewN | with_reducible apply Below.drew | (with_reducible refine Below.alloc ?_ (by first | (simp; done) | (simp; omega) | omega) _) | (with_reducible refine Below.setCell ?_ (by first | (simp; done) | (simp; omega) | omega) _))) kp0, bfs (by repeat (first | with_reducible exact Below.refl _ _ | fail | with_reducible apply below_drewN | with_reducible apply Below.drew | (with_reducible refine Below.alloc ?_ (by first | (simp; done) | (simp; omega) | omega) _) | (with_reducible refine Below.setCell ?_ (by first | (simp; done) | (simp; omega) | omega) _))) kp0 gp0, bcs (by repeat (first | with_reducible exact Below.refl _ _ | fail | with_reducible apply below_drewN | with_reducible apply Below.drew | (with_reducible refine Below.alloc ?_ (by first | (simp; done) | (simp; omega) | omega) _) | (with_reducible refine Below.setCell ?_ (by first | (simp; done) | (simp; omega) | omega) _))) kp1, bfs (by repeat (first | with_reducible exact Below.refl _ _ | fail | with_reducible apply below_drewN | with_reducible apply Below.drew | (with_reducible refine Below.alloc ?_ (by first | (simp; done) | (simp; omega) | omega) _) | (with_reducible refine Below.setCell ?_ (by first | (simp; done) | (simp; omega) | omega) _))) kp1 gp1, bcs (by repeat (first | with_reducible exact Below.refl _ _ | fail | with_reducible apply below_drewN | with_reducible apply Below.drew | (with_reducible refine Below.alloc ?_ (by first | (simp; done) | (simp; omega) | omega) _) | (with_reducible refine Below.setCell ?_ (by first | (simp; done) | (simp; omega) | omega) _))) kp2, bfs (by repeat (first | with_reducible exact Below.refl _ _ | fail | with_reducible apply below_drewN | with_reducible apply Below.drew | (with_reducible refine Below.alloc ?_ (by first | (simp; done) | (simp; omega) | omega) _) | (with_reducible refine Below.setCell ?_ (by first | (simp; done) | (simp; omega) | omega) _))) kp2 gp2, bcs (by repeat (first | with_reducible exact Below.refl _ _ | fail | with_reducible apply below_drewN | with_reducible apply Below.drew | (with_reducible refine Below.alloc ?_ (by first | (simp; done) | (simp; omega) | omega) _) | (with_reducible refine Below.setCell ?_ (by first | (simp; done) | (simp; omega) | omega) _))) kq0, bfs (by repeat (first | with_reducible exact Below.refl _ _ | fail | with_reducible apply below_drewN | with_reducible apply Below.drew | (with_reducible refine Below.alloc ?_ (by first | (simp; done) | (simp; omega) | omega) _) | (with_reducible refine Below.setCell ?_ (by first | (simp; done) | (simp; omega) | omega) _))) kq0 gq0, bcs (by repeat (first | with_reducible exact Below.refl _ _ | fail | with_reducible apply below_drewN | with_reducible apply Below.drew | (with_reducible refine Below.alloc ?_ (by first | (simp; done) | (simp; omega) | omega) _) | (with_reducible refine Below.setCell ?_ (by first | (simp; done) | (simp; omega) | omega) _))) kq1, bfs (by repeat (first | with_reducible exact Below.refl _ _ | fail | with_reducible apply below_drewN | with_reducible apply Below.drew | (with_reducible refine Below.alloc ?_ (by first | (simp; done) | (simp; omega) | omega) _) | (with_reducible refine Below.setCell ?_ (by first | (simp; done) | (simp; omega) | omega) _))) kq1 gq1, bcs (by repeat (first | with_reducible exact Below.refl _ _ | fail | with_reducible apply below_drewN | with_reducible apply Below.drew | (with_reducible refine Below.alloc ?_ (by first | (simp; done) | (simp; omega) | omega) _) | (with_reducible refine Below.setCell ?_ (by first | (simp; done) | (simp; omega) | omega) _))) kq2, bfs (by repeat (first | with_reducible exact Below.refl _ _ | fail | with_reducible apply below_drewN | with_reducible apply Below.drew | (with_reducible refine Below.alloc ?_ (by first | (simp; done) | (simp; omega) | omega) _) | (with_reducible refine Below.setCell ?_ (by first | (simp; done) | (simp; omega) | omega) _))) kq2 gq2, bcs (by repeat (first | with_reducible exact Below.refl _ _ | fail | with_reducible apply below_drewN | with_reducible apply Below.drew | (with_reducible refine Below.alloc ?_ (by first | (simp; done) | (simp; omega) | omega) _) | (with_reducible refine Below.setCell ?_ (by first | (simp; done) | (simp; omega) | omega) _))) kh0, bfs (by repeat (first | with_reducible exact Below.refl _ _ | fail | with_reducible apply below_drewN | with_reducible apply Below.drew | (with_reducible refine Below.alloc ?_ (by first | (simp; done) | (simp; omega) | omega) _) | (with_reducible refine Below.setCell ?_ (by first | (simp; done) | (simp; omega) | omega) _))) kh0 gh0, bcs (by repeat (first | with_reducible exact Below.refl _ _ | fail | with_reducible apply below_drewN | with_reducible apply Below.drew | (with_reducible refine Below.alloc ?_ (by first | (simp; done) | (simp; omega) | omega) _) | (with_reducible refine Below.setCell ?_ (by first | (simp; done) | (simp; omega) | omega) _))) kh1, bfs (by repeat (first | with_reducible exact Below.refl _ _ | fail | with_reducible apply below_drewN | with_reducible apply Below.drew | (with_reducible refine Below.alloc ?_ (by first | (simp; done) | (simp; omega) | omega) _) | (with_reducible refine Below.setCell ?_ (by first | (simp; done) | (simp; omega) | omega) _))) kh1 gh1, bcs (by repeat (first | with_reducible exact Below.refl _ _ | fail | with_reducible apply below_drewN | with_reducible apply Below.drew | (with_reducible refine Below.alloc ?_ (by first | (simp; done) | (simp; omega) | omega) _) | (with_reducible refine Below.setCell ?_ (by first | (simp; done) | (simp; omega) | omega) _))) kh2, bfs (by repeat (first | with_reducible exact Below.refl _ _ | fail | with_reducible apply below_drewN | with_reducible apply Below.drew | (with_reducible refine Below.alloc ?_ (by first | (simp; done) | (simp; omega) | omega) _) | (with_reducible refine Below.setCell ?_ (by first | (simp; done) | (simp; omega) | omega) _))) kh2 gh2, bcs (by repeat (first | with_reducible exact Below.refl _ _ | fail | with_reducible apply below_drewN | with_reducible apply Below.drew | (with_reducible refine Below.alloc ?_ (by first | (simp; done) | (simp; omega) | omega) _) | (with_reducible refine Below.setCell ?_ (by first | (simp; done) | (simp; omega) | omega) _))) kh3, bfs (by repeat (first | with_reducible exact Below.refl _ _ | fail | with_reducible apply below_drewN | with_reducible apply Below.drew | (with_reducible refine Below.alloc ?_ (by first | (simp; done) | (simp; omega) | omega) _) | (with_reducible refine Below.setCell ?_ (by first | (simp; done) | (simp; omega) | omega) _))) kh3 gh3, bcs (by repeat (first | with_reducible exact Below.refl _ _ | fail | with_reducible apply below_drewN | with_reducible apply Below.drew | (with_reducible refine Below.alloc ?_ (by first | (simp; done) | (simp; omega) | omega) _) | (with_reducible refine Below.setCell ?_ (by first | (simp; done) | (simp; omega) | omega) _))) kh4, bfs (by repeat (first | with_reducible exact Below.refl _ _ | fail | with_reducible apply below_drewN | with_reducible apply Below.drew | (with_reducible refine Below.alloc ?_ (by first | (simp; done) | (simp; omega) | omega) _) | (with_reducible refine Below.setCell ?_ (by first | (simp; done) | (simp; omega) | omega) _))) kh4 gh4, bcs (by repeat (first | with_reducible exact Below.refl _ _ | fail | with_reducible apply below_drewN | with_reducible apply Below.drew | (with_reducible refine Below.alloc ?_ (by first | (simp; done) | (simp; omega) | omega) _) | (with_reducible refine Below.setCell ?_ (by first | (simp; done) | (simp; omega) | omega) _))) kh5, bfs (by repeat (first | with_reducible exact Below.refl _ _ | fail | with_reducible apply below_drewN | with_reducible apply Below.drew | (with_reducible refine Below.alloc ?_ (by first | (simp; done) | (simp; omega) | omega) _) | (with_reducible refine Below.setCell ?_ (by first | (simp; done) | (simp; omega) | omega) _))) kh5 gh5, by repeat (first | with_reducible exact Below.refl _ _ | fail | with_reducible apply below_drewN | with_reducible apply Below.drew | (with_reducible refine Below.alloc ?_ (by first | (simp; done) | (simp; omega) | omega) _) | (with_reducible refine Below.setCell ?_ (by first | (simp; done) | (simp; omega) | omega) _)), by first | with_reducible assumption | (simp; done) | (simp; omega)⟩ ?_ ?_
      · rintro W ⟨k1_b6_0, g1_b6_0, k1_b6_1, g1_b6_1, k1_b6_2, g1_b6_2, k1_g7_0, g1_g7_0, k1_g7_1, g1_g7_1, k1_g7_2, g1_g7_2, k1_g10_0, g1_g10_0, k1_g10_1, g1_g10_1, k1_g10_2, g1_g10_2, k1_g11_0, g1_g11_0, k1_g11_1, g1_g11_1, k1_g11_2, g1_g11_2, k1_g12_0, g1_g12_0, k1_g12_1, g1_g12_1, k1_g12_2, g1_g12_2, k1_g12_3, g1_g12_3, k1_g12_4, g1_g12_4, k1_g12_5, g1_g12_5, B1, z1⟩; exact ⟨k1_b6_0, g1_b6_0, k1_b6_1, g1_b6_1, k1_b6_2, g1_b6_2, k1_g7_0, g1_g7_0, k1_g7_1, g1_g7_1, k1_g7_2, g1_g7_2, k1_g10_0, g1_g10_0, k1_g10_1, g1_g10_1, k1_g10_2, g1_g10_2, k1_g11_0, g1_g11_0, k1_g11_1, g1_g11_1, k1_g11_2, g1_g11_2, k1_g12_0, g1_g12_0, k1_g12_1, g1_g12_1, k1_g12_2, g1_g12_2, k1_g12_3, g1_g12_3, k1_g12_4, g1_g12_4, k1_g12_5, g1_g12_5⟩
      rintro w1 ⟨k1_b6_0, g1_b6_0, k1_b6_1, g1_b6_1, k1_b6_2, g1_b6_2, k1_g7_0, g1_g7_0, k1_g7_1, g1_g7_1, k1_g7_2, g1_g7_2, k1_g10_0, g1_g10_0, k1_g10_1, g1_g10_1, k1_g10_2, g1_g10_2, k1_g11_0, g1_g11_0, k1_g11_1, g1_g11_1, k1_g11_2, g1_g11_2, k1_g12_0, g1_g12_0, k1_g12_1, g1_g12_1, k1_g12_2, g1_g12_2, k1_g12_3, g1_g12_3, k1_g12_4, g1_g12_4, k1_g12_5, g1_g12_5, B1, z1⟩ gg
      simp only [List.take_succ_cons, List.take_zero, List.drop_succ_cons, List.drop_zero, List.cons_append, List.nil_append, List.append_nil]
      refine obe_val (by rfl) ?_ ?_
      · clear k1_b6_0 g1_b6_0 k1_b6_1 g1_b6_1 k1_b6_2 g1_b6_2 k1_g7_0 g1_g7_0 k1_g7_1 g1_g7_1 k1_g7_2 g1_g7_2 k1_g10_0 g1_g10_0 k1_g10_1 g1_g10_1 k1_g10_2 g1_g10_2 k1_g11_0 g1_g11_0 k1_g11_1 g1_g11_1 k1_g11_2 g1_g11_2 k1_g12_0 g1_g12_0 k1_g12_1 g1_g12_1 k1_g12_2 g1_g12_2 k1_g12_3 g1_g12_3 k1_g12_4 g1_g12_4 k1_g12_5 g1_g12_5 B1 z1; intro f hf; have u12 : f 12 = (.pointer (some ⟨g12, 0, none⟩)) := (by rw [← hf]; rfl); clear hf; rintro w' ⟨h0, h1, h2, h3, h4, h5, h6, h7, h8, h9, h10, h11, h12, h13, h14, h15, h16, h17, h18, h19, h20, h21, h22, h23, h24, h25, h26, h27, h28, h29, h30, h31, h32, h33, h34, h35⟩; go_simp; try exact IntWalk.i64_in _ (by omega)
      refine obe_val (by rfl) ?_ ?_
      · clear k1_b6_0 g1_b6_0 k1_b6_1 g1_b6_1 k1_b6_2 g1_b6_2 k1_g7_0 g1_g7_0 k1_g7_1 g1_g7_1 k1_g7_2 g1_g7_2 k1_g10_0 g1_g10_0 k1_g10_1 g1_g10_1 k1_g10_2 g1_g10_2 k1_g11_0 g1_g11_0 k1_g11_1 g1_g11_1 k1_g11_2 g1_g11_2 k1_g12_0 g1_g12_0 k1_g12_1 g1_g12_1 k1_g12_2 g1_g12_2 k1_g12_3 g1_g12_3 k1_g12_4 g1_g12_4 k1_g12_5 g1_g12_5 B1 z1; intro f hf; have u13 : f 13 = (.int .i64 1) := (by rw [← hf]; rfl); clear hf; rintro w' ⟨h0, h1, h2, h3, h4, h5, h6, h7, h8, h9, h10, h11, h12, h13, h14, h15, h16, h17, h18, h19, h20, h21, h22, h23, h24, h25, h26, h27, h28, h29, h30, h31, h32, h33, h34, h35⟩; go_simp; try exact IntWalk.i64_in _ (by omega)
      refine obe_val (by rfl) ?_ ?_
      · clear k1_b6_0 g1_b6_0 k1_b6_1 g1_b6_1 k1_b6_2 g1_b6_2 k1_g7_0 g1_g7_0 k1_g7_1 g1_g7_1 k1_g7_2 g1_g7_2 k1_g10_0 g1_g10_0 k1_g10_1 g1_g10_1 k1_g10_2 g1_g10_2 k1_g11_0 g1_g11_0 k1_g11_1 g1_g11_1 k1_g11_2 g1_g11_2 k1_g12_0 g1_g12_0 k1_g12_1 g1_g12_1 k1_g12_2 g1_g12_2 k1_g12_3 g1_g12_3 k1_g12_4 g1_g12_4 k1_g12_5 g1_g12_5 B1 z1; intro f hf; have u12 : f 12 = (.pointer (some ⟨g12, 0, none⟩)) := (by rw [← hf]; rfl); clear hf; rintro w' ⟨h0, h1, h2, h3, h4, h5, h6, h7, h8, h9, h10, h11, h12, h13, h14, h15, h16, h17, h18, h19, h20, h21, h22, h23, h24, h25, h26, h27, h28, h29, h30, h31, h32, h33, h34, h35⟩; go_simp; try exact IntWalk.i64_in _ (by omega)
      refine obe_val (by rfl) ?_ ?_
      · clear k1_b6_0 g1_b6_0 k1_b6_1 g1_b6_1 k1_b6_2 g1_b6_2 k1_g7_0 g1_g7_0 k1_g7_1 g1_g7_1 k1_g7_2 g1_g7_2 k1_g10_0 g1_g10_0 k1_g10_1 g1_g10_1 k1_g10_2 g1_g10_2 k1_g11_0 g1_g11_0 k1_g11_1 g1_g11_1 k1_g11_2 g1_g11_2 k1_g12_0 g1_g12_0 k1_g12_1 g1_g12_1 k1_g12_2 g1_g12_2 k1_g12_3 g1_g12_3 k1_g12_4 g1_g12_4 k1_g12_5 g1_g12_5 B1 z1; intro f hf; have u42 : f 42 = (.int .i64 1) := (by rw [← hf]; rfl); have u43 : f 43 = (.pointer (some ⟨g12, 0, none⟩)) := (by rw [← hf]; rfl); clear hf; rintro w' ⟨h0, h1, h2, h3, h4, h5, h6, h7, h8, h9, h10, h11, h12, h13, h14, h15, h16, h17, h18, h19, h20, h21, h22, h23, h24, h25, h26, h27, h28, h29, h30, h31, h32, h33, h34, h35⟩; go_simp; try exact IntWalk.i64_in _ (by omega)
      refine obe_val (by rfl) ?_ ?_
      · clear k1_b6_0 g1_b6_0 k1_b6_1 g1_b6_1 k1_b6_2 g1_b6_2 k1_g7_0 g1_g7_0 k1_g7_1 g1_g7_1 k1_g7_2 g1_g7_2 k1_g10_0 g1_g10_0 k1_g10_1 g1_g10_1 k1_g10_2 g1_g10_2 k1_g11_0 g1_g11_0 k1_g11_1 g1_g11_1 k1_g11_2 g1_g11_2 k1_g12_0 g1_g12_0 k1_g12_1 g1_g12_1 k1_g12_2 g1_g12_2 k1_g12_3 g1_g12_3 k1_g12_4 g1_g12_4 k1_g12_5 g1_g12_5 B1 z1; intro f hf; have u44 : f 44 = (.pointer (some ⟨g12, 1, none⟩)) := (by rw [← hf]; rfl); clear hf; rintro w' ⟨h0, h1, h2, h3, h4, h5, h6, h7, h8, h9, h10, h11, h12, h13, h14, h15, h16, h17, h18, h19, h20, h21, h22, h23, h24, h25, h26, h27, h28, h29, h30, h31, h32, h33, h34, h35⟩; go_simp; try exact IntWalk.i64_in _ (by omega)
      refine obe_call (by rfl) ?_ ?_ ?_
      · clear k1_b6_0 g1_b6_0 k1_b6_1 g1_b6_1 k1_b6_2 g1_b6_2 k1_g7_0 g1_g7_0 k1_g7_1 g1_g7_1 k1_g7_2 g1_g7_2 k1_g10_0 g1_g10_0 k1_g10_1 g1_g10_1 k1_g10_2 g1_g10_2 k1_g11_0 g1_g11_0 k1_g11_1 g1_g11_1 k1_g11_2 g1_g11_2 k1_g12_0 g1_g12_0 k1_g12_1 g1_g12_1 k1_g12_2 g1_g12_2 k1_g12_3 g1_g12_3 k1_g12_4 g1_g12_4 k1_g12_5 g1_g12_5 B1 z1; intro f hf; have u41 : f 41 = (.agg #[.int .i64 x0, .int .i64 x1, .int .i64 x2, .int .i64 tt, .int .i64 ll, .int .i64 aa]) := (by rw [← hf]; rfl); have u45 : f 45 = (.int .i64 x1) := (by rw [← hf]; rfl); clear hf; intro w' _; simp only [execOp, resolve, invoke, rhoF_tmp, rhoF_func, rhoF_const, u41, u45, List.map_toArray, List.map_cons, List.map_nil]; go_simp
      · clear k1_b6_0 g1_b6_0 k1_b6_1 g1_b6_1 k1_b6_2 g1_b6_2 k1_g7_0 g1_g7_0 k1_g7_1 g1_g7_1 k1_g7_2 g1_g7_2 k1_g10_0 g1_g10_0 k1_g10_1 g1_g10_1 k1_g10_2 g1_g10_2 k1_g11_0 g1_g11_0 k1_g11_1 g1_g11_1 k1_g11_2 g1_g11_2 k1_g12_0 g1_g12_0 k1_g12_1 g1_g12_1 k1_g12_2 g1_g12_2 k1_g12_3 g1_g12_3 k1_g12_4 g1_g12_4 k1_g12_5 g1_g12_5 B1 z1; rintro w' ⟨h0, h1, h2, h3, h4, h5, h6, h7, h8, h9, h10, h11, h12, h13, h14, h15, h16, h17, h18, h19, h20, h21, h22, h23, h24, h25, h26, h27, h28, h29, h30, h31, h32, h33, h34, h35⟩; exact ct1 _
      refine obe_val (by rfl) ?_ ?_
      · clear k1_b6_0 g1_b6_0 k1_b6_1 g1_b6_1 k1_b6_2 g1_b6_2 k1_g7_0 g1_g7_0 k1_g7_1 g1_g7_1 k1_g7_2 g1_g7_2 k1_g10_0 g1_g10_0 k1_g10_1 g1_g10_1 k1_g10_2 g1_g10_2 k1_g11_0 g1_g11_0 k1_g11_1 g1_g11_1 k1_g11_2 g1_g11_2 k1_g12_0 g1_g12_0 k1_g12_1 g1_g12_1 k1_g12_2 g1_g12_2 k1_g12_3 g1_g12_3 k1_g12_4 g1_g12_4 k1_g12_5 g1_g12_5 B1 z1; intro f hf; have u46 : f 46 = (.tuple #[.int .i64 n1, .int .i64 e1]) := (by rw [← hf]; rfl); clear hf; rintro w' ⟨h0, h1, h2, h3, h4, h5, h6, h7, h8, h9, h10, h11, h12, h13, h14, h15, h16, h17, h18, h19, h20, h21, h22, h23, h24, h25, h26, h27, h28, h29, h30, h31, h32, h33, h34, h35⟩; go_simp; try exact IntWalk.i64_in _ (by omega)
      refine obe_val (by rfl) ?_ ?_
      · clear k1_b6_0 g1_b6_0 k1_b6_1 g1_b6_1 k1_b6_2 g1_b6_2 k1_g7_0 g1_g7_0 k1_g7_1 g1_g7_1 k1_g7_2 g1_g7_2 k1_g10_0 g1_g10_0 k1_g10_1 g1_g10_1 k1_g10_2 g1_g10_2 k1_g11_0 g1_g11_0 k1_g11_1 g1_g11_1 k1_g11_2 g1_g11_2 k1_g12_0 g1_g12_0 k1_g12_1 g1_g12_1 k1_g12_2 g1_g12_2 k1_g12_3 g1_g12_3 k1_g12_4 g1_g12_4 k1_g12_5 g1_g12_5 B1 z1; intro f hf; have u40 : f 40 = (.tuple #[.int .i64 n1, .int .i64 e1]) := (by rw [← hf]; rfl); clear hf; rintro w' ⟨h0, h1, h2, h3, h4, h5, h6, h7, h8, h9, h10, h11, h12, h13, h14, h15, h16, h17, h18, h19, h20, h21, h22, h23, h24, h25, h26, h27, h28, h29, h30, h31, h32, h33, h34, h35⟩; go_simp; try exact IntWalk.i64_in _ (by omega)
      refine obe_val (by rfl) ?_ ?_
      · clear k1_b6_0 g1_b6_0 k1_b6_1 g1_b6_1 k1_b6_2 g1_b6_2 k1_g7_0 g1_g7_0 k1_g7_1 g1_g7_1 k1_g7_2 g1_g7_2 k1_g10_0 g1_g10_0 k1_g10_1 g1_g10_1 k1_g10_2 g1_g10_2 k1_g11_0 g1_g11_0 k1_g11_1 g1_g11_1 k1_g11_2 g1_g11_2 k1_g12_0 g1_g12_0 k1_g12_1 g1_g12_1 k1_g12_2 g1_g12_2 k1_g12_3 g1_g12_3 k1_g12_4 g1_g12_4 k1_g12_5 g1_g12_5 B1 z1; intro f hf; have u40 : f 40 = (.tuple #[.int .i64 n1, .int .i64 e1]) := (by rw [← hf]; rfl); clear hf; rintro w' ⟨h0, h1, h2, h3, h4, h5, h6, h7, h8, h9, h10, h11, h12, h13, h14, h15, h16, h17, h18, h19, h20, h21, h22, h23, h24, h25, h26, h27, h28, h29, h30, h31, h32, h33, h34, h35⟩; go_simp; try exact IntWalk.i64_in _ (by omega)
      refine obe_val (by rfl) ?_ ?_
      · clear k1_b6_0 g1_b6_0 k1_b6_1 g1_b6_1 k1_b6_2 g1_b6_2 k1_g7_0 g1_g7_0 k1_g7_1 g1_g7_1 k1_g7_2 g1_g7_2 k1_g10_0 g1_g10_0 k1_g10_1 g1_g10_1 k1_g10_2 g1_g10_2 k1_g11_0 g1_g11_0 k1_g11_1 g1_g11_1 k1_g11_2 g1_g11_2 k1_g12_0 g1_g12_0 k1_g12_1 g1_g12_1 k1_g12_2 g1_g12_2 k1_g12_3 g1_g12_3 k1_g12_4 g1_g12_4 k1_g12_5 g1_g12_5 B1 z1; intro f hf; have u47 : f 47 = (.int .i64 n1) := (by rw [← hf]; rfl); clear hf; rintro w' ⟨h0, h1, h2, h3, h4, h5, h6, h7, h8, h9, h10, h11, h12, h13, h14, h15, h16, h17, h18, h19, h20, h21, h22, h23, h24, h25, h26, h27, h28, h29, h30, h31, h32, h33, h34, h35⟩; go_simp; try exact IntWalk.i64_in _ (by omega)
      refine obe_val (by rfl) ?_ ?_
      · clear k1_b6_0 g1_b6_0 k1_b6_1 g1_b6_1 k1_b6_2 g1_b6_2 k1_g7_0 g1_g7_0 k1_g7_1 g1_g7_1 k1_g7_2 g1_g7_2 k1_g10_0 g1_g10_0 k1_g10_1 g1_g10_1 k1_g10_2 g1_g10_2 k1_g11_0 g1_g11_0 k1_g11_1 g1_g11_1 k1_g11_2 g1_g11_2 k1_g12_0 g1_g12_0 k1_g12_1 g1_g12_1 k1_g12_2 g1_g12_2 k1_g12_3 g1_g12_3 k1_g12_4 g1_g12_4 k1_g12_5 g1_g12_5 B1 z1; intro f hf; have u48 : f 48 = (.int .i64 e1) := (by rw [← hf]; rfl); clear hf; rintro w' ⟨h0, h1, h2, h3, h4, h5, h6, h7, h8, h9, h10, h11, h12, h13, h14, h15, h16, h17, h18, h19, h20, h21, h22, h23, h24, h25, h26, h27, h28, h29, h30, h31, h32, h33, h34, h35⟩; go_simp; try exact IntWalk.i64_in _ (by omega)
      refine obe_nil ?_
      rintro w2 ⟨h0, h1, h2, h3, h4, h5, h6, h7, h8, h9, h10, h11, h12, h13, h14, h15, h16, h17, h18, h19, h20, h21, h22, h23, h24, h25, h26, h27, h28, h29, h30, h31, h32, h33, h34, h35⟩ hb2 hF
      (try simp only [List.nil_append, List.append_nil, List.cons_append] at hF)
      simp only [puts, putD, Act.put, List.setIfInBounds_toArray, List.set_cons_zero, List.set_cons_succ]
      clear hF
      have k2_b6_0 := bcs hb2 k1_b6_0
      have g2_b6_0 := bfs hb2 k1_b6_0 g1_b6_0
      have k2_b6_1 := bcs hb2 k1_b6_1
      have g2_b6_1 := bfs hb2 k1_b6_1 g1_b6_1
      have k2_b6_2 := bcs hb2 k1_b6_2
      have g2_b6_2 := bfs hb2 k1_b6_2 g1_b6_2
      have k2_g7_0 := bcs hb2 k1_g7_0
      have g2_g7_0 := bfs hb2 k1_g7_0 g1_g7_0
      have k2_g7_1 := bcs hb2 k1_g7_1
      have g2_g7_1 := bfs hb2 k1_g7_1 g1_g7_1
      have k2_g7_2 := bcs hb2 k1_g7_2
      have g2_g7_2 := bfs hb2 k1_g7_2 g1_g7_2
      have k2_g10_0 := bcs hb2 k1_g10_0
      have g2_g10_0 := bfs hb2 k1_g10_0 g1_g10_0
      have k2_g10_1 := bcs hb2 k1_g10_1
      have g2_g10_1 := bfs hb2 k1_g10_1 g1_g10_1
      have k2_g10_2 := bcs hb2 k1_g10_2
      have g2_g10_2 := bfs hb2 k1_g10_2 g1_g10_2
      have k2_g11_0 := bcs hb2 k1_g11_0
      have g2_g11_0 := bfs hb2 k1_g11_0 g1_g11_0
      have k2_g11_1 := bcs hb2 k1_g11_1
      have g2_g11_1 := bfs hb2 k1_g11_1 g1_g11_1
      have k2_g11_2 := bcs hb2 k1_g11_2
      have g2_g11_2 := bfs hb2 k1_g11_2 g1_g11_2
      have k2_g12_0 := bcs hb2 k1_g12_0
      have g2_g12_0 := bfs hb2 k1_g12_0 g1_g12_0
      have k2_g12_1 := bcs hb2 k1_g12_1
      have g2_g12_1 := bfs hb2 k1_g12_1 g1_g12_1
      have k2_g12_2 := bcs hb2 k1_g12_2
      have g2_g12_2 := bfs hb2 k1_g12_2 g1_g12_2
      have k2_g12_3 := bcs hb2 k1_g12_3
      have g2_g12_3 := bfs hb2 k1_g12_3 g1_g12_3
      have k2_g12_4 := bcs hb2 k1_g12_4
      have g2_g12_4 := bfs hb2 k1_g12_4 g1_g12_4
      have k2_g12_5 := bcs hb2 k1_g12_5
      have g2_g12_5 := bfs hb2 k1_g12_5 g1_g12_5
      clear h0 h1 h2 h3 h4 h5 h6 h7 h8 h9 h10 h11 h12 h13 h14 h15 h16 h17 h18 h19 h20 h21 h22 h23 h24 h25 h26 h27 h28 h29 h30 h31 h32 h33 h34 h35
      have B2 := bel_step B1 hb2
      have z2 := Nat.le_trans z1 hb2.size
      clear hb2
      (try clear B1)
      (try clear z1)
      (try clear k1_b6_0)
      (try clear g1_b6_0)
      (try clear k1_b6_1)
      (try clear g1_b6_1)
      (try clear k1_b6_2)
      (try clear g1_b6_2)
      (try clear k1_g7_0)
      (try clear g1_g7_0)
      (try clear k1_g7_1)
      (try clear g1_g7_1)
      (try clear k1_g7_2)
      (try clear g1_g7_2)
      (try clear k1_g10_0)
      (try clear g1_g10_0)
      (try clear k1_g10_1)
      (try clear g1_g10_1)
      (try clear k1_g10_2)
      (try clear g1_g10_2)
      (try clear k1_g11_0)
      (try clear g1_g11_0)
      (try clear k1_g11_1)
      (try clear g1_g11_1)
      (try clear k1_g11_2)
      (try clear g1_g11_2)
      (try clear k1_g12_0)
      (try clear g1_g12_0)
      (try clear k1_g12_1)
      (try clear g1_g12_1)
      (try clear k1_g12_2)
      (try clear g1_g12_2)
      (try clear k1_g12_3)
      (try clear g1_g12_3)
      (try clear k1_g12_4)
      (try clear g1_g12_4)
      (try clear k1_g12_5)
      (try clear g1_g12_5)
      (try clear q1_b6)
      (try clear x1_b6)
      (try clear y1_b6)
      (try clear q1_g7)
      (try clear x1_g7)
      (try clear y1_g7)
      (try clear q1_g10)
      (try clear x1_g10)
      (try clear y1_g10)
      (try clear q1_g11)
      (try clear x1_g11)
      (try clear y1_g11)
      (try clear q1_g12)
      (try clear x1_g12)
      (try clear y1_g12)
      have q2_b6 : w.heap.size + 1 + 1 < w2.heap.size := qlt k2_b6_0
      have x2_b6 : ¬ w.heap.size + 1 + 1 = w2.heap.size := qne k2_b6_0
      have y2_b6 : ¬ w2.heap.size = w.heap.size + 1 + 1 := fun h => qne k2_b6_0 h.symm
      have q2_g7 : (w.heap.size + 1 + 1 + 1) < w2.heap.size := qlt k2_g7_0
      have x2_g7 : ¬ (w.heap.size + 1 + 1 + 1) = w2.heap.size := qne k2_g7_0
      have y2_g7 : ¬ w2.heap.size = (w.heap.size + 1 + 1 + 1) := fun h => qne k2_g7_0 h.symm
      have q2_g10 : g10 < w2.heap.size := qlt k2_g10_0
      have x2_g10 : ¬ g10 = w2.heap.size := qne k2_g10_0
      have y2_g10 : ¬ w2.heap.size = g10 := fun h => qne k2_g10_0 h.symm
      have q2_g11 : g11 < w2.heap.size := qlt k2_g11_0
      have x2_g11 : ¬ g11 = w2.heap.size := qne k2_g11_0
      have y2_g11 : ¬ w2.heap.size = g11 := fun h => qne k2_g11_0 h.symm
      have q2_g12 : g12 < w2.heap.size := qlt k2_g12_0
      have x2_g12 : ¬ g12 = w2.heap.size := qne k2_g12_0
      have y2_g12 : ¬ w2.heap.size = g12 := fun h => qne k2_g12_0 h.symm
      unfold wpList
      go_wp2
      refine wp_region_env (fun w' => w'.cell? ⟨w.heap.size + 1 + 1, 0, none⟩ = some (.int .u8 0) ∧ w'.frozen? ⟨w.heap.size + 1 + 1, 0, none⟩ = false ∧ w'.cell? ⟨w.heap.size + 1 + 1, 1, none⟩ = some (.int .u8 0) ∧ w'.frozen? ⟨w.heap.size + 1 + 1, 1, none⟩ = false ∧ w'.cell? ⟨w.heap.size + 1 + 1, 2, none⟩ = some (.int .u8 0) ∧ w'.frozen? ⟨w.heap.size + 1 + 1, 2, none⟩ = false ∧ w'.cell? ⟨(w.heap.size + 1 + 1 + 1), 0, none⟩ = some (.int .u8 z0) ∧ w'.frozen? ⟨(w.heap.size + 1 + 1 + 1), 0, none⟩ = false ∧ w'.cell? ⟨(w.heap.size + 1 + 1 + 1), 1, none⟩ = some (.int .u8 0) ∧ w'.frozen? ⟨(w.heap.size + 1 + 1 + 1), 1, none⟩ = false ∧ w'.cell? ⟨(w.heap.size + 1 + 1 + 1), 2, none⟩ = some (.int .u8 0) ∧ w'.frozen? ⟨(w.heap.size + 1 + 1 + 1), 2, none⟩ = false ∧ w'.cell? ⟨g10, 0, none⟩ = some (.int .i64 r) ∧ w'.frozen? ⟨g10, 0, none⟩ = false ∧ w'.cell? ⟨g10, 1, none⟩ = some (.int .i64 g) ∧ w'.frozen? ⟨g10, 1, none⟩ = false ∧ w'.cell? ⟨g10, 2, none⟩ = some (.int .i64 b) ∧ w'.frozen? ⟨g10, 2, none⟩ = false ∧ w'.cell? ⟨g11, 0, none⟩ = some (.int .i64 s) ∧ w'.frozen? ⟨g11, 0, none⟩ = false ∧ w'.cell? ⟨g11, 1, none⟩ = some (.int .i64 t) ∧ w'.frozen? ⟨g11, 1, none⟩ = false ∧ w'.cell? ⟨g11, 2, none⟩ = some (.int .i64 u) ∧ w'.frozen? ⟨g11, 2, none⟩ = false ∧ w'.cell? ⟨g12, 0, none⟩ = some (.int .i64 x0) ∧ w'.frozen? ⟨g12, 0, none⟩ = false ∧ w'.cell? ⟨g12, 1, none⟩ = some (.int .i64 x1) ∧ w'.frozen? ⟨g12, 1, none⟩ = false ∧ w'.cell? ⟨g12, 2, none⟩ = some (.int .i64 x2) ∧ w'.frozen? ⟨g12, 2, none⟩ = false ∧ w'.cell? ⟨g12, 3, none⟩ = some (.int .i64 tt) ∧ w'.frozen? ⟨g12, 3, none⟩ = false ∧ w'.cell? ⟨g12, 4, none⟩ = some (.int .i64 ll) ∧ w'.frozen? ⟨g12, 4, none⟩ = false ∧ w'.cell? ⟨g12, 5, none⟩ = some (.int .i64 aa) ∧ w'.frozen? ⟨g12, 5, none⟩ = false) (fun W => W.cell? ⟨w.heap.size + 1 + 1, 0, none⟩ = some (.int .u8 0) ∧ W.frozen? ⟨w.heap.size + 1 + 1, 0, none⟩ = false ∧ W.cell? ⟨w.heap.size + 1 + 1, 1, none⟩ = some (.int .u8 0) ∧ W.frozen? ⟨w.heap.size + 1 + 1, 1, none⟩ = false ∧ W.cell? ⟨w.heap.size + 1 + 1, 2, none⟩ = some (.int .u8 0) ∧ W.frozen? ⟨w.heap.size + 1 + 1, 2, none⟩ = false ∧ W.cell? ⟨(w.heap.size + 1 + 1 + 1), 0, none⟩ = some (.int .u8 z0) ∧ W.frozen? ⟨(w.heap.size + 1 + 1 + 1), 0, none⟩ = false ∧ W.cell? ⟨(w.heap.size + 1 + 1 + 1), 1, none⟩ = some (.int .u8 0) ∧ W.frozen? ⟨(w.heap.size + 1 + 1 + 1), 1, none⟩ = false ∧ W.cell? ⟨(w.heap.size + 1 + 1 + 1), 2, none⟩ = some (.int .u8 0) ∧ W.frozen? ⟨(w.heap.size + 1 + 1 + 1), 2, none⟩ = false ∧ W.cell? ⟨g10, 0, none⟩ = some (.int .i64 r) ∧ W.frozen? ⟨g10, 0, none⟩ = false ∧ W.cell? ⟨g10, 1, none⟩ = some (.int .i64 g) ∧ W.frozen? ⟨g10, 1, none⟩ = false ∧ W.cell? ⟨g10, 2, none⟩ = some (.int .i64 b) ∧ W.frozen? ⟨g10, 2, none⟩ = false ∧ W.cell? ⟨g11, 0, none⟩ = some (.int .i64 s) ∧ W.frozen? ⟨g11, 0, none⟩ = false ∧ W.cell? ⟨g11, 1, none⟩ = some (.int .i64 t) ∧ W.frozen? ⟨g11, 1, none⟩ = false ∧ W.cell? ⟨g11, 2, none⟩ = some (.int .i64 u) ∧ W.frozen? ⟨g11, 2, none⟩ = false ∧ W.cell? ⟨g12, 0, none⟩ = some (.int .i64 x0) ∧ W.frozen? ⟨g12, 0, none⟩ = false ∧ W.cell? ⟨g12, 1, none⟩ = some (.int .i64 x1) ∧ W.frozen? ⟨g12, 1, none⟩ = false ∧ W.cell? ⟨g12, 2, none⟩ = some (.int .i64 x2) ∧ W.frozen? ⟨g12, 2, none⟩ = false ∧ W.cell? ⟨g12, 3, none⟩ = some (.int .i64 tt) ∧ W.frozen? ⟨g12, 3, none⟩ = false ∧ W.cell? ⟨g12, 4, none⟩ = some (.int .i64 ll) ∧ W.frozen? ⟨g12, 4, none⟩ = false ∧ W.cell? ⟨g12, 5, none⟩ = some (.int .i64 aa) ∧ W.frozen? ⟨g12, 5, none⟩ = false ∧ Below wr.heap.size wr W ∧ wr.heap.size ≤ W.heap.size) 13 76 [.val (.int .i64 n1), .val (.int .i64 1), .val (.pointer (some ⟨g10, 1, none⟩)), .val (.int .i64 g), .val (.int .i64 a), .val (.int .i64 1), .val (.pointer (some ⟨g11, 1, none⟩)), .val (.int .i64 t), .val (.int .i64 d), .call 38 #[.int .i64 g, .int .i64 a, .int .i64 t, .int .i64 d] (.int .i64 v1), .val (.int .i64 e1), .val (.int .i64 p1), .val (.int .i64 sm1)] (by kernel_rfl) (by kernel_rfl) rfl (by kernel_rfl) (by rintro w1 w2 ⟨h0, h1, h2, h3, h4, h5, h6, h7, h8, h9, h10, h11, h12, h13, h14, h15, h16, h17, h18, h19, h20, h21, h22, h23, h24, h25, h26, h27, h28, h29, h30, h31, h32, h33, h34, h35⟩ hb; exact ⟨bcs hb h0, bfs hb h0 h1, bcs hb h2, bfs hb h2 h3, bcs hb h4, bfs hb h4 h5, bcs hb h6, bfs hb h6 h7, bcs hb h8, bfs hb h8 h9, bcs hb h10, bfs hb h10 h11, bcs hb h12, bfs hb h12 h13, bcs hb h14, bfs hb h14 h15, bcs hb h16, bfs hb h16 h17, bcs hb h18, bfs hb h18 h19, bcs hb h20, bfs hb h20 h21, bcs hb h22, bfs hb h22 h23, bcs hb h24, bfs hb h24 h25, bcs hb h26, bfs hb h26 h27, bcs hb h28, bfs hb h28 h29, bcs hb h30, bfs hb h30 h31, bcs hb h32, bfs hb h32 h33, bcs hb h34, bfs hb h34 h35⟩) ⟨by first | with_reducible assumption | go_simp, by first | with_reducible assumption | go_simp, by first | with_reducible assumption | go_simp, by first | with_reducible assumption | go_simp, by first | with_reducible assumption | go_simp, by first | with_reducible assumption | go_simp, by first | with_reducible assumption | go_simp, by first | with_reducible assumption | go_simp, by first | with_reducible assumption | go_simp, by first | with_reducible assumption | go_simp, by first | with_reducible assumption | go_simp, by first | with_reducible assumption | go_simp, by first | with_reducible assumption | go_simp, by first | with_reducible assumption | go_simp, by first | with_reducible assumption | go_simp, by first | with_reducible assumption | go_simp, by first | with_reducible assumption | go_simp, by first | with_reducible assumption | go_simp, by first | with_reducible assumption | go_simp, by first | with_reducible assumption | go_simp, by first | with_reducible assumption | go_simp, by first | with_reducible assumption | go_simp, by first | with_reducible assumption | go_simp, by first | with_reducible assumption | go_simp, by first | with_reducible assumption | go_simp, by first | with_reducible assumption | go_simp, by first | with_reducible assumption | go_simp, by first | with_reducible assumption | go_simp, by first | with_reducible assumption | go_simp, by first | with_reducible assumption | go_simp, by first | with_reducible assumption | go_simp, by first | with_reducible assumption | go_simp, by first | with_reducible assumption | go_simp, by first | with_reducible assumption | go_simp, by first | with_reducible assumption | go_simp, by first | with_reducible assumption | go_simp, by repeat (first | with_reducible exact Below.refl _ _ | with_reducible exact B2 | with_reducible apply below_drewN | with_reducible apply Below.drew | (with_reducible refine Below.alloc ?_ (by first | (simp; done) | (simp; omega) | omega) _) | (with_reducible refine Below.setCell ?_ (by first | (simp; done) | (simp; omega) | omega) _)), by first | with_reducible assumption | (simp; done) | (simp; omega)⟩ ?_ ?_
      · rintro W ⟨k3_b6_0, g3_b6_0, k3_b6_1, g3_b6_1, k3_b6_2, g3_b6_2, k3_g7_0, g3_g7_0, k3_g7_1, g3_g7_1, k3_g7_2, g3_g7_2, k3_g10_0, g3_g10_0, k3_g10_1, g3_g10_1, k3_g10_2, g3_g10_2, k3_g11_0, g3_g11_0, k3_g11_1, g3_g11_1, k3_g11_2, g3_g11_2, k3_g12_0, g3_g12_0, k3_g12_1, g3_g12_1, k3_g12_2, g3_g12_2, k3_g12_3, g3_g12_3, k3_g12_4, g3_g12_4, k3_g12_5, g3_g12_5, B3, z3⟩; exact ⟨k3_b6_0, g3_b6_0, k3_b6_1, g3_b6_1, k3_b6_2, g3_b6_2, k3_g7_0, g3_g7_0, k3_g7_1, g3_g7_1, k3_g7_2, g3_g7_2, k3_g10_0, g3_g10_0, k3_g10_1, g3_g10_1, k3_g10_2, g3_g10_2, k3_g11_0, g3_g11_0, k3_g11_1, g3_g11_1, k3_g11_2, g3_g11_2, k3_g12_0, g3_g12_0, k3_g12_1, g3_g12_1, k3_g12_2, g3_g12_2, k3_g12_3, g3_g12_3, k3_g12_4, g3_g12_4, k3_g12_5, g3_g12_5⟩
      (try clear B2)
      (try clear z2)
      (try clear k2_b6_0)
      (try clear g2_b6_0)
      (try clear k2_b6_1)
      (try clear g2_b6_1)
      (try clear k2_b6_2)
      (try clear g2_b6_2)
      (try clear k2_g7_0)
      (try clear g2_g7_0)
      (try clear k2_g7_1)
      (try clear g2_g7_1)
      (try clear k2_g7_2)
      (try clear g2_g7_2)
      (try clear k2_g10_0)
      (try clear g2_g10_0)
      (try clear k2_g10_1)
      (try clear g2_g10_1)
      (try clear k2_g10_2)
      (try clear g2_g10_2)
      (try clear k2_g11_0)
      (try clear g2_g11_0)
      (try clear k2_g11_1)
      (try clear g2_g11_1)
      (try clear k2_g11_2)
      (try clear g2_g11_2)
      (try clear k2_g12_0)
      (try clear g2_g12_0)
      (try clear k2_g12_1)
      (try clear g2_g12_1)
      (try clear k2_g12_2)
      (try clear g2_g12_2)
      (try clear k2_g12_3)
      (try clear g2_g12_3)
      (try clear k2_g12_4)
      (try clear g2_g12_4)
      (try clear k2_g12_5)
      (try clear g2_g12_5)
      (try clear q2_b6)
      (try clear x2_b6)
      (try clear y2_b6)
      (try clear q2_g7)
      (try clear x2_g7)
      (try clear y2_g7)
      (try clear q2_g10)
      (try clear x2_g10)
      (try clear y2_g10)
      (try clear q2_g11)
      (try clear x2_g11)
      (try clear y2_g11)
      (try clear q2_g12)
      (try clear x2_g12)
      (try clear y2_g12)
      rintro w3 ⟨k3_b6_0, g3_b6_0, k3_b6_1, g3_b6_1, k3_b6_2, g3_b6_2, k3_g7_0, g3_g7_0, k3_g7_1, g3_g7_1, k3_g7_2, g3_g7_2, k3_g10_0, g3_g10_0, k3_g10_1, g3_g10_1, k3_g10_2, g3_g10_2, k3_g11_0, g3_g11_0, k3_g11_1, g3_g11_1, k3_g11_2, g3_g11_2, k3_g12_0, g3_g12_0, k3_g12_1, g3_g12_1, k3_g12_2, g3_g12_2, k3_g12_3, g3_g12_3, k3_g12_4, g3_g12_4, k3_g12_5, g3_g12_5, B3, z3⟩ gg
      simp only [List.take_succ_cons, List.take_zero, List.drop_succ_cons, List.drop_zero, List.cons_append, List.nil_append, List.append_nil]
      refine obe_val (by rfl) ?_ ?_
      · clear k3_b6_0 g3_b6_0 k3_b6_1 g3_b6_1 k3_b6_2 g3_b6_2 k3_g7_0 g3_g7_0 k3_g7_1 g3_g7_1 k3_g7_2 g3_g7_2 k3_g10_0 g3_g10_0 k3_g10_1 g3_g10_1 k3_g10_2 g3_g10_2 k3_g11_0 g3_g11_0 k3_g11_1 g3_g11_1 k3_g11_2 g3_g11_2 k3_g12_0 g3_g12_0 k3_g12_1 g3_g12_1 k3_g12_2 g3_g12_2 k3_g12_3 g3_g12_3 k3_g12_4 g3_g12_4 k3_g12_5 g3_g12_5 B3 z3; intro f hf; have u14 : f 14 = (.int .i64 n1) := (by rw [← hf]; rfl); clear hf; rintro w' ⟨h0, h1, h2, h3, h4, h5, h6, h7, h8, h9, h10, h11, h12, h13, h14, h15, h16, h17, h18, h19, h20, h21, h22, h23, h24, h25, h26, h27, h28, h29, h30, h31, h32, h33, h34, h35⟩; go_simp; try exact IntWalk.i64_in _ (by omega)
      refine obe_val (by rfl) ?_ ?_
      · clear k3_b6_0 g3_b6_0 k3_b6_1 g3_b6_1 k3_b6_2 g3_b6_2 k3_g7_0 g3_g7_0 k3_g7_1 g3_g7_1 k3_g7_2 g3_g7_2 k3_g10_0 g3_g10_0 k3_g10_1 g3_g10_1 k3_g10_2 g3_g10_2 k3_g11_0 g3_g11_0 k3_g11_1 g3_g11_1 k3_g11_2 g3_g11_2 k3_g12_0 g3_g12_0 k3_g12_1 g3_g12_1 k3_g12_2 g3_g12_2 k3_g12_3 g3_g12_3 k3_g12_4 g3_g12_4 k3_g12_5 g3_g12_5 B3 z3; intro f hf; have u13 : f 13 = (.int .i64 1) := (by rw [← hf]; rfl); clear hf; rintro w' ⟨h0, h1, h2, h3, h4, h5, h6, h7, h8, h9, h10, h11, h12, h13, h14, h15, h16, h17, h18, h19, h20, h21, h22, h23, h24, h25, h26, h27, h28, h29, h30, h31, h32, h33, h34, h35⟩; go_simp; try exact IntWalk.i64_in _ (by omega)
      refine obe_val (by rfl) ?_ ?_
      · clear k3_b6_0 g3_b6_0 k3_b6_1 g3_b6_1 k3_b6_2 g3_b6_2 k3_g7_0 g3_g7_0 k3_g7_1 g3_g7_1 k3_g7_2 g3_g7_2 k3_g10_0 g3_g10_0 k3_g10_1 g3_g10_1 k3_g10_2 g3_g10_2 k3_g11_0 g3_g11_0 k3_g11_1 g3_g11_1 k3_g11_2 g3_g11_2 k3_g12_0 g3_g12_0 k3_g12_1 g3_g12_1 k3_g12_2 g3_g12_2 k3_g12_3 g3_g12_3 k3_g12_4 g3_g12_4 k3_g12_5 g3_g12_5 B3 z3; intro f hf; have u10 : f 10 = (.pointer (some ⟨g10, 0, none⟩)) := (by rw [← hf]; rfl); have u50 : f 50 = (.int .i64 1) := (by rw [← hf]; rfl); clear hf; rintro w' ⟨h0, h1, h2, h3, h4, h5, h6, h7, h8, h9, h10, h11, h12, h13, h14, h15, h16, h17, h18, h19, h20, h21, h22, h23, h24, h25, h26, h27, h28, h29, h30, h31, h32, h33, h34, h35⟩; go_simp; try exact IntWalk.i64_in _ (by omega)
      refine obe_val (by rfl) ?_ ?_
      · clear k3_b6_0 g3_b6_0 k3_b6_1 g3_b6_1 k3_b6_2 g3_b6_2 k3_g7_0 g3_g7_0 k3_g7_1 g3_g7_1 k3_g7_2 g3_g7_2 k3_g10_0 g3_g10_0 k3_g10_1 g3_g10_1 k3_g10_2 g3_g10_2 k3_g11_0 g3_g11_0 k3_g11_1 g3_g11_1 k3_g11_2 g3_g11_2 k3_g12_0 g3_g12_0 k3_g12_1 g3_g12_1 k3_g12_2 g3_g12_2 k3_g12_3 g3_g12_3 k3_g12_4 g3_g12_4 k3_g12_5 g3_g12_5 B3 z3; intro f hf; have u51 : f 51 = (.pointer (some ⟨g10, 1, none⟩)) := (by rw [← hf]; rfl); clear hf; rintro w' ⟨h0, h1, h2, h3, h4, h5, h6, h7, h8, h9, h10, h11, h12, h13, h14, h15, h16, h17, h18, h19, h20, h21, h22, h23, h24, h25, h26, h27, h28, h29, h30, h31, h32, h33, h34, h35⟩; go_simp; try exact IntWalk.i64_in _ (by omega)
      refine obe_val (by rfl) ?_ ?_
      · clear k3_b6_0 g3_b6_0 k3_b6_1 g3_b6_1 k3_b6_2 g3_b6_2 k3_g7_0 g3_g7_0 k3_g7_1 g3_g7_1 k3_g7_2 g3_g7_2 k3_g10_0 g3_g10_0 k3_g10_1 g3_g10_1 k3_g10_2 g3_g10_2 k3_g11_0 g3_g11_0 k3_g11_1 g3_g11_1 k3_g11_2 g3_g11_2 k3_g12_0 g3_g12_0 k3_g12_1 g3_g12_1 k3_g12_2 g3_g12_2 k3_g12_3 g3_g12_3 k3_g12_4 g3_g12_4 k3_g12_5 g3_g12_5 B3 z3; intro f hf; have u8 : f 8 = (.int .i64 a) := (by rw [← hf]; rfl); clear hf; rintro w' ⟨h0, h1, h2, h3, h4, h5, h6, h7, h8, h9, h10, h11, h12, h13, h14, h15, h16, h17, h18, h19, h20, h21, h22, h23, h24, h25, h26, h27, h28, h29, h30, h31, h32, h33, h34, h35⟩; go_simp; try exact IntWalk.i64_in _ (by omega)
      refine obe_val (by rfl) ?_ ?_
      · clear k3_b6_0 g3_b6_0 k3_b6_1 g3_b6_1 k3_b6_2 g3_b6_2 k3_g7_0 g3_g7_0 k3_g7_1 g3_g7_1 k3_g7_2 g3_g7_2 k3_g10_0 g3_g10_0 k3_g10_1 g3_g10_1 k3_g10_2 g3_g10_2 k3_g11_0 g3_g11_0 k3_g11_1 g3_g11_1 k3_g11_2 g3_g11_2 k3_g12_0 g3_g12_0 k3_g12_1 g3_g12_1 k3_g12_2 g3_g12_2 k3_g12_3 g3_g12_3 k3_g12_4 g3_g12_4 k3_g12_5 g3_g12_5 B3 z3; intro f hf; have u13 : f 13 = (.int .i64 1) := (by rw [← hf]; rfl); clear hf; rintro w' ⟨h0, h1, h2, h3, h4, h5, h6, h7, h8, h9, h10, h11, h12, h13, h14, h15, h16, h17, h18, h19, h20, h21, h22, h23, h24, h25, h26, h27, h28, h29, h30, h31, h32, h33, h34, h35⟩; go_simp; try exact IntWalk.i64_in _ (by omega)
      refine obe_val (by rfl) ?_ ?_
      · clear k3_b6_0 g3_b6_0 k3_b6_1 g3_b6_1 k3_b6_2 g3_b6_2 k3_g7_0 g3_g7_0 k3_g7_1 g3_g7_1 k3_g7_2 g3_g7_2 k3_g10_0 g3_g10_0 k3_g10_1 g3_g10_1 k3_g10_2 g3_g10_2 k3_g11_0 g3_g11_0 k3_g11_1 g3_g11_1 k3_g11_2 g3_g11_2 k3_g12_0 g3_g12_0 k3_g12_1 g3_g12_1 k3_g12_2 g3_g12_2 k3_g12_3 g3_g12_3 k3_g12_4 g3_g12_4 k3_g12_5 g3_g12_5 B3 z3; intro f hf; have u11 : f 11 = (.pointer (some ⟨g11, 0, none⟩)) := (by rw [← hf]; rfl); have u54 : f 54 = (.int .i64 1) := (by rw [← hf]; rfl); clear hf; rintro w' ⟨h0, h1, h2, h3, h4, h5, h6, h7, h8, h9, h10, h11, h12, h13, h14, h15, h16, h17, h18, h19, h20, h21, h22, h23, h24, h25, h26, h27, h28, h29, h30, h31, h32, h33, h34, h35⟩; go_simp; try exact IntWalk.i64_in _ (by omega)
      refine obe_val (by rfl) ?_ ?_
      · clear k3_b6_0 g3_b6_0 k3_b6_1 g3_b6_1 k3_b6_2 g3_b6_2 k3_g7_0 g3_g7_0 k3_g7_1 g3_g7_1 k3_g7_2 g3_g7_2 k3_g10_0 g3_g10_0 k3_g10_1 g3_g10_1 k3_g10_2 g3_g10_2 k3_g11_0 g3_g11_0 k3_g11_1 g3_g11_1 k3_g11_2 g3_g11_2 k3_g12_0 g3_g12_0 k3_g12_1 g3_g12_1 k3_g12_2 g3_g12_2 k3_g12_3 g3_g12_3 k3_g12_4 g3_g12_4 k3_g12_5 g3_g12_5 B3 z3; intro f hf; have u55 : f 55 = (.pointer (some ⟨g11, 1, none⟩)) := (by rw [← hf]; rfl); clear hf; rintro w' ⟨h0, h1, h2, h3, h4, h5, h6, h7, h8, h9, h10, h11, h12, h13, h14, h15, h16, h17, h18, h19, h20, h21, h22, h23, h24, h25, h26, h27, h28, h29, h30, h31, h32, h33, h34, h35⟩; go_simp; try exact IntWalk.i64_in _ (by omega)
      refine obe_val (by rfl) ?_ ?_
      · clear k3_b6_0 g3_b6_0 k3_b6_1 g3_b6_1 k3_b6_2 g3_b6_2 k3_g7_0 g3_g7_0 k3_g7_1 g3_g7_1 k3_g7_2 g3_g7_2 k3_g10_0 g3_g10_0 k3_g10_1 g3_g10_1 k3_g10_2 g3_g10_2 k3_g11_0 g3_g11_0 k3_g11_1 g3_g11_1 k3_g11_2 g3_g11_2 k3_g12_0 g3_g12_0 k3_g12_1 g3_g12_1 k3_g12_2 g3_g12_2 k3_g12_3 g3_g12_3 k3_g12_4 g3_g12_4 k3_g12_5 g3_g12_5 B3 z3; intro f hf; have u9 : f 9 = (.int .i64 d) := (by rw [← hf]; rfl); clear hf; rintro w' ⟨h0, h1, h2, h3, h4, h5, h6, h7, h8, h9, h10, h11, h12, h13, h14, h15, h16, h17, h18, h19, h20, h21, h22, h23, h24, h25, h26, h27, h28, h29, h30, h31, h32, h33, h34, h35⟩; go_simp; try exact IntWalk.i64_in _ (by omega)
      refine obe_call (by rfl) ?_ ?_ ?_
      · clear k3_b6_0 g3_b6_0 k3_b6_1 g3_b6_1 k3_b6_2 g3_b6_2 k3_g7_0 g3_g7_0 k3_g7_1 g3_g7_1 k3_g7_2 g3_g7_2 k3_g10_0 g3_g10_0 k3_g10_1 g3_g10_1 k3_g10_2 g3_g10_2 k3_g11_0 g3_g11_0 k3_g11_1 g3_g11_1 k3_g11_2 g3_g11_2 k3_g12_0 g3_g12_0 k3_g12_1 g3_g12_1 k3_g12_2 g3_g12_2 k3_g12_3 g3_g12_3 k3_g12_4 g3_g12_4 k3_g12_5 g3_g12_5 B3 z3; intro f hf; have u52 : f 52 = (.int .i64 g) := (by rw [← hf]; rfl); have u53 : f 53 = (.int .i64 a) := (by rw [← hf]; rfl); have u56 : f 56 = (.int .i64 t) := (by rw [← hf]; rfl); have u57 : f 57 = (.int .i64 d) := (by rw [← hf]; rfl); clear hf; intro w' _; simp only [execOp, resolve, invoke, rhoF_tmp, rhoF_func, rhoF_const, u52, u53, u56, u57, List.map_toArray, List.map_cons, List.map_nil]; go_simp
      · clear k3_b6_0 g3_b6_0 k3_b6_1 g3_b6_1 k3_b6_2 g3_b6_2 k3_g7_0 g3_g7_0 k3_g7_1 g3_g7_1 k3_g7_2 g3_g7_2 k3_g10_0 g3_g10_0 k3_g10_1 g3_g10_1 k3_g10_2 g3_g10_2 k3_g11_0 g3_g11_0 k3_g11_1 g3_g11_1 k3_g11_2 g3_g11_2 k3_g12_0 g3_g12_0 k3_g12_1 g3_g12_1 k3_g12_2 g3_g12_2 k3_g12_3 g3_g12_3 k3_g12_4 g3_g12_4 k3_g12_5 g3_g12_5 B3 z3; rintro w' ⟨h0, h1, h2, h3, h4, h5, h6, h7, h8, h9, h10, h11, h12, h13, h14, h15, h16, h17, h18, h19, h20, h21, h22, h23, h24, h25, h26, h27, h28, h29, h30, h31, h32, h33, h34, h35⟩; exact (cu1 _).mono (by rintro e w2 ⟨rfl, rfl⟩; exact ⟨rfl, Below.refl _ _⟩)
      refine obe_val (by rfl) ?_ ?_
      · clear k3_b6_0 g3_b6_0 k3_b6_1 g3_b6_1 k3_b6_2 g3_b6_2 k3_g7_0 g3_g7_0 k3_g7_1 g3_g7_1 k3_g7_2 g3_g7_2 k3_g10_0 g3_g10_0 k3_g10_1 g3_g10_1 k3_g10_2 g3_g10_2 k3_g11_0 g3_g11_0 k3_g11_1 g3_g11_1 k3_g11_2 g3_g11_2 k3_g12_0 g3_g12_0 k3_g12_1 g3_g12_1 k3_g12_2 g3_g12_2 k3_g12_3 g3_g12_3 k3_g12_4 g3_g12_4 k3_g12_5 g3_g12_5 B3 z3; intro f hf; have u15 : f 15 = (.int .i64 e1) := (by rw [← hf]; rfl); clear hf; rintro w' ⟨h0, h1, h2, h3, h4, h5, h6, h7, h8, h9, h10, h11, h12, h13, h14, h15, h16, h17, h18, h19, h20, h21, h22, h23, h24, h25, h26, h27, h28, h29, h30, h31, h32, h33, h34, h35⟩; go_simp; try exact IntWalk.i64_in _ (by omega)
      refine obe_val (by rfl) ?_ ?_
      · clear k3_b6_0 g3_b6_0 k3_b6_1 g3_b6_1 k3_b6_2 g3_b6_2 k3_g7_0 g3_g7_0 k3_g7_1 g3_g7_1 k3_g7_2 g3_g7_2 k3_g10_0 g3_g10_0 k3_g10_1 g3_g10_1 k3_g10_2 g3_g10_2 k3_g11_0 g3_g11_0 k3_g11_1 g3_g11_1 k3_g11_2 g3_g11_2 k3_g12_0 g3_g12_0 k3_g12_1 g3_g12_1 k3_g12_2 g3_g12_2 k3_g12_3 g3_g12_3 k3_g12_4 g3_g12_4 k3_g12_5 g3_g12_5 B3 z3; intro f hf; have u58 : f 58 = (.int .i64 v1) := (by rw [← hf]; rfl); have u59 : f 59 = (.int .i64 e1) := (by rw [← hf]; rfl); clear hf; rintro w' ⟨h0, h1, h2, h3, h4, h5, h6, h7, h8, h9, h10, h11, h12, h13, h14, h15, h16, h17, h18, h19, h20, h21, h22, h23, h24, h25, h26, h27, h28, h29, h30, h31, h32, h33, h34, h35⟩; go_simp; try exact IntWalk.i64_in _ (by omega)
      refine obe_val (by rfl) ?_ ?_
      · clear k3_b6_0 g3_b6_0 k3_b6_1 g3_b6_1 k3_b6_2 g3_b6_2 k3_g7_0 g3_g7_0 k3_g7_1 g3_g7_1 k3_g7_2 g3_g7_2 k3_g10_0 g3_g10_0 k3_g10_1 g3_g10_1 k3_g10_2 g3_g10_2 k3_g11_0 g3_g11_0 k3_g11_1 g3_g11_1 k3_g11_2 g3_g11_2 k3_g12_0 g3_g12_0 k3_g12_1 g3_g12_1 k3_g12_2 g3_g12_2 k3_g12_3 g3_g12_3 k3_g12_4 g3_g12_4 k3_g12_5 g3_g12_5 B3 z3; intro f hf; have u49 : f 49 = (.int .i64 n1) := (by rw [← hf]; rfl); have u60 : f 60 = (.int .i64 p1) := (by rw [← hf]; rfl); clear hf; rintro w' ⟨h0, h1, h2, h3, h4, h5, h6, h7, h8, h9, h10, h11, h12, h13, h14, h15, h16, h17, h18, h19, h20, h21, h22, h23, h24, h25, h26, h27, h28, h29, h30, h31, h32, h33, h34, h35⟩; go_simp; try exact IntWalk.i64_in _ (by omega)
      refine obe_nil ?_
      rintro w4 ⟨h0, h1, h2, h3, h4, h5, h6, h7, h8, h9, h10, h11, h12, h13, h14, h15, h16, h17, h18, h19, h20, h21, h22, h23, h24, h25, h26, h27, h28, h29, h30, h31, h32, h33, h34, h35⟩ hb4 hF
      (try simp only [List.nil_append, List.append_nil, List.cons_append] at hF)
      simp only [puts, putD, Act.put, List.setIfInBounds_toArray, List.set_cons_zero, List.set_cons_succ]
      clear hF
      have k4_b6_0 := bcs hb4 k3_b6_0
      have g4_b6_0 := bfs hb4 k3_b6_0 g3_b6_0
      have k4_b6_1 := bcs hb4 k3_b6_1
      have g4_b6_1 := bfs hb4 k3_b6_1 g3_b6_1
      have k4_b6_2 := bcs hb4 k3_b6_2
      have g4_b6_2 := bfs hb4 k3_b6_2 g3_b6_2
      have k4_g7_0 := bcs hb4 k3_g7_0
      have g4_g7_0 := bfs hb4 k3_g7_0 g3_g7_0
      have k4_g7_1 := bcs hb4 k3_g7_1
      have g4_g7_1 := bfs hb4 k3_g7_1 g3_g7_1
      have k4_g7_2 := bcs hb4 k3_g7_2
      have g4_g7_2 := bfs hb4 k3_g7_2 g3_g7_2
      have k4_g10_0 := bcs hb4 k3_g10_0
      have g4_g10_0 := bfs hb4 k3_g10_0 g3_g10_0
      have k4_g10_1 := bcs hb4 k3_g10_1
      have g4_g10_1 := bfs hb4 k3_g10_1 g3_g10_1
      have k4_g10_2 := bcs hb4 k3_g10_2
      have g4_g10_2 := bfs hb4 k3_g10_2 g3_g10_2
      have k4_g11_0 := bcs hb4 k3_g11_0
      have g4_g11_0 := bfs hb4 k3_g11_0 g3_g11_0
      have k4_g11_1 := bcs hb4 k3_g11_1
      have g4_g11_1 := bfs hb4 k3_g11_1 g3_g11_1
      have k4_g11_2 := bcs hb4 k3_g11_2
      have g4_g11_2 := bfs hb4 k3_g11_2 g3_g11_2
      have k4_g12_0 := bcs hb4 k3_g12_0
      have g4_g12_0 := bfs hb4 k3_g12_0 g3_g12_0
      have k4_g12_1 := bcs hb4 k3_g12_1
      have g4_g12_1 := bfs hb4 k3_g12_1 g3_g12_1
      have k4_g12_2 := bcs hb4 k3_g12_2
      have g4_g12_2 := bfs hb4 k3_g12_2 g3_g12_2
      have k4_g12_3 := bcs hb4 k3_g12_3
      have g4_g12_3 := bfs hb4 k3_g12_3 g3_g12_3
      have k4_g12_4 := bcs hb4 k3_g12_4
      have g4_g12_4 := bfs hb4 k3_g12_4 g3_g12_4
      have k4_g12_5 := bcs hb4 k3_g12_5
      have g4_g12_5 := bfs hb4 k3_g12_5 g3_g12_5
      clear h0 h1 h2 h3 h4 h5 h6 h7 h8 h9 h10 h11 h12 h13 h14 h15 h16 h17 h18 h19 h20 h21 h22 h23 h24 h25 h26 h27 h28 h29 h30 h31 h32 h33 h34 h35
      have B4 := bel_step B3 hb4
      have z4 := Nat.le_trans z3 hb4.size
      clear hb4
      (try clear B3)
      (try clear z3)
      (try clear k3_b6_0)
      (try clear g3_b6_0)
      (try clear k3_b6_1)
      (try clear g3_b6_1)
      (try clear k3_b6_2)
      (try clear g3_b6_2)
      (try clear k3_g7_0)
      (try clear g3_g7_0)
      (try clear k3_g7_1)
      (try clear g3_g7_1)
      (try clear k3_g7_2)
      (try clear g3_g7_2)
      (try clear k3_g10_0)
      (try clear g3_g10_0)
      (try clear k3_g10_1)
      (try clear g3_g10_1)
      (try clear k3_g10_2)
      (try clear g3_g10_2)
      (try clear k3_g11_0)
      (try clear g3_g11_0)
      (try clear k3_g11_1)
      (try clear g3_g11_1)
      (try clear k3_g11_2)
      (try clear g3_g11_2)
      (try clear k3_g12_0)
      (try clear g3_g12_0)
      (try clear k3_g12_1)
      (try clear g3_g12_1)
      (try clear k3_g12_2)
      (try clear g3_g12_2)
      (try clear k3_g12_3)
      (try clear g3_g12_3)
      (try clear k3_g12_4)
      (try clear g3_g12_4)
      (try clear k3_g12_5)
      (try clear g3_g12_5)
      (try clear q3_b6)
      (try clear x3_b6)
      (try clear y3_b6)
      (try clear q3_g7)
      (try clear x3_g7)
      (try clear y3_g7)
      (try clear q3_g10)
      (try clear x3_g10)
      (try clear y3_g10)
      (try clear q3_g11)
      (try clear x3_g11)
      (try clear y3_g11)
      (try clear q3_g12)
      (try clear x3_g12)
      (try clear y3_g12)
      have q4_b6 : w.heap.size + 1 + 1 < w4.heap.size := qlt k4_b6_0
      have x4_b6 : ¬ w.heap.size + 1 + 1 = w4.heap.size := qne k4_b6_0
      have y4_b6 : ¬ w4.heap.size = w.heap.size + 1 + 1 := fun h => qne k4_b6_0 h.symm
      have q4_g7 : (w.heap.size + 1 + 1 + 1) < w4.heap.size := qlt k4_g7_0
      have x4_g7 : ¬ (w.heap.size + 1 + 1 + 1) = w4.heap.size := qne k4_g7_0
      have y4_g7 : ¬ w4.heap.size = (w.heap.size + 1 + 1 + 1) := fun h => qne k4_g7_0 h.symm
      have q4_g10 : g10 < w4.heap.size := qlt k4_g10_0
      have x4_g10 : ¬ g10 = w4.heap.size := qne k4_g10_0
      have y4_g10 : ¬ w4.heap.size = g10 := fun h => qne k4_g10_0 h.symm
      have q4_g11 : g11 < w4.heap.size := qlt k4_g11_0
      have x4_g11 : ¬ g11 = w4.heap.size := qne k4_g11_0
      have y4_g11 : ¬ w4.heap.size = g11 := fun h => qne k4_g11_0 h.symm
      have q4_g12 : g12 < w4.heap.size := qlt k4_g12_0
      have x4_g12 : ¬ g12 = w4.heap.size := qne k4_g12_0
      have y4_g12 : ¬ w4.heap.size = g12 := fun h => qne k4_g12_0 h.symm
      go_wp2
      go_roundw
      case rel => exact ⟨z0, z1, 0, ⟨by first | with_reducible assumption | go_simp, by first | with_reducible assumption | go_simp, by first | with_reducible assumption | go_simp, by first | with_reducible assumption | go_simp, by first | with_reducible assumption | go_simp, by first | with_reducible assumption | go_simp, by first | with_reducible assumption | go_simp, by first | with_reducible assumption | go_simp, by first | with_reducible assumption | go_simp, by first | with_reducible assumption | go_simp, by first | with_reducible assumption | go_simp, by first | with_reducible assumption | go_simp, by first | with_reducible assumption | go_simp, by first | with_reducible assumption | go_simp, by first | with_reducible assumption | go_simp, by first | with_reducible assumption | go_simp, by first | with_reducible assumption | go_simp, by first | with_reducible assumption | go_simp, by first | with_reducible assumption | go_simp, by first | with_reducible assumption | go_simp, by first | with_reducible assumption | go_simp, by first | with_reducible assumption | go_simp, by first | with_reducible assumption | go_simp, by first | with_reducible assumption | go_simp, by first | with_reducible assumption | go_simp, by first | with_reducible assumption | go_simp, by first | with_reducible assumption | go_simp, by first | with_reducible assumption | go_simp, by first | with_reducible assumption | go_simp, by first | with_reducible assumption | go_simp, by first | with_reducible assumption | go_simp, by first | with_reducible assumption | go_simp, by first | with_reducible assumption | go_simp, by first | with_reducible assumption | go_simp, by first | with_reducible assumption | go_simp, by first | with_reducible assumption | go_simp, by repeat (first | with_reducible exact Below.refl _ _ | with_reducible exact bel_step hB B4 | with_reducible apply below_drewN | with_reducible apply Below.drew | (with_reducible refine Below.alloc ?_ (by first | (simp; done) | (simp; omega) | omega) _) | (with_reducible refine Below.setCell ?_ (by first | (simp; done) | (simp; omega) | omega) _))⟩, .inr (.inr (.inl ⟨rfl, rfl, rfl, rfl⟩))⟩
      case measure => simp [intOf]
    · skip
      have hsz := hB.size
      go_wp2
      refine wp_region_env (fun w' => w'.cell? ⟨w.heap.size + 1 + 1, 0, none⟩ = some (.int .u8 0) ∧ w'.frozen? ⟨w.heap.size + 1 + 1, 0, none⟩ = false ∧ w'.cell? ⟨w.heap.size + 1 + 1, 1, none⟩ = some (.int .u8 0) ∧ w'.frozen? ⟨w.heap.size + 1 + 1, 1, none⟩ = false ∧ w'.cell? ⟨w.heap.size + 1 + 1, 2, none⟩ = some (.int .u8 0) ∧ w'.frozen? ⟨w.heap.size + 1 + 1, 2, none⟩ = false ∧ w'.cell? ⟨(w.heap.size + 1 + 1 + 1), 0, none⟩ = some (.int .u8 z0) ∧ w'.frozen? ⟨(w.heap.size + 1 + 1 + 1), 0, none⟩ = false ∧ w'.cell? ⟨(w.heap.size + 1 + 1 + 1), 1, none⟩ = some (.int .u8 z1) ∧ w'.frozen? ⟨(w.heap.size + 1 + 1 + 1), 1, none⟩ = false ∧ w'.cell? ⟨(w.heap.size + 1 + 1 + 1), 2, none⟩ = some (.int .u8 0) ∧ w'.frozen? ⟨(w.heap.size + 1 + 1 + 1), 2, none⟩ = false ∧ w'.cell? ⟨g10, 0, none⟩ = some (.int .i64 r) ∧ w'.frozen? ⟨g10, 0, none⟩ = false ∧ w'.cell? ⟨g10, 1, none⟩ = some (.int .i64 g) ∧ w'.frozen? ⟨g10, 1, none⟩ = false ∧ w'.cell? ⟨g10, 2, none⟩ = some (.int .i64 b) ∧ w'.frozen? ⟨g10, 2, none⟩ = false ∧ w'.cell? ⟨g11, 0, none⟩ = some (.int .i64 s) ∧ w'.frozen? ⟨g11, 0, none⟩ = false ∧ w'.cell? ⟨g11, 1, none⟩ = some (.int .i64 t) ∧ w'.frozen? ⟨g11, 1, none⟩ = false ∧ w'.cell? ⟨g11, 2, none⟩ = some (.int .i64 u) ∧ w'.frozen? ⟨g11, 2, none⟩ = false ∧ w'.cell? ⟨g12, 0, none⟩ = some (.int .i64 x0) ∧ w'.frozen? ⟨g12, 0, none⟩ = false ∧ w'.cell? ⟨g12, 1, none⟩ = some (.int .i64 x1) ∧ w'.frozen? ⟨g12, 1, none⟩ = false ∧ w'.cell? ⟨g12, 2, none⟩ = some (.int .i64 x2) ∧ w'.frozen? ⟨g12, 2, none⟩ = false ∧ w'.cell? ⟨g12, 3, none⟩ = some (.int .i64 tt) ∧ w'.frozen? ⟨g12, 3, none⟩ = false ∧ w'.cell? ⟨g12, 4, none⟩ = some (.int .i64 ll) ∧ w'.frozen? ⟨g12, 4, none⟩ = false ∧ w'.cell? ⟨g12, 5, none⟩ = some (.int .i64 aa) ∧ w'.frozen? ⟨g12, 5, none⟩ = false) (fun W => W.cell? ⟨w.heap.size + 1 + 1, 0, none⟩ = some (.int .u8 0) ∧ W.frozen? ⟨w.heap.size + 1 + 1, 0, none⟩ = false ∧ W.cell? ⟨w.heap.size + 1 + 1, 1, none⟩ = some (.int .u8 0) ∧ W.frozen? ⟨w.heap.size + 1 + 1, 1, none⟩ = false ∧ W.cell? ⟨w.heap.size + 1 + 1, 2, none⟩ = some (.int .u8 0) ∧ W.frozen? ⟨w.heap.size + 1 + 1, 2, none⟩ = false ∧ W.cell? ⟨(w.heap.size + 1 + 1 + 1), 0, none⟩ = some (.int .u8 z0) ∧ W.frozen? ⟨(w.heap.size + 1 + 1 + 1), 0, none⟩ = false ∧ W.cell? ⟨(w.heap.size + 1 + 1 + 1), 1, none⟩ = some (.int .u8 z1) ∧ W.frozen? ⟨(w.heap.size + 1 + 1 + 1), 1, none⟩ = false ∧ W.cell? ⟨(w.heap.size + 1 + 1 + 1), 2, none⟩ = some (.int .u8 0) ∧ W.frozen? ⟨(w.heap.size + 1 + 1 + 1), 2, none⟩ = false ∧ W.cell? ⟨g10, 0, none⟩ = some (.int .i64 r) ∧ W.frozen? ⟨g10, 0, none⟩ = false ∧ W.cell? ⟨g10, 1, none⟩ = some (.int .i64 g) ∧ W.frozen? ⟨g10, 1, none⟩ = false ∧ W.cell? ⟨g10, 2, none⟩ = some (.int .i64 b) ∧ W.frozen? ⟨g10, 2, none⟩ = false ∧ W.cell? ⟨g11, 0, none⟩ = some (.int .i64 s) ∧ W.frozen? ⟨g11, 0, none⟩ = false ∧ W.cell? ⟨g11, 1, none⟩ = some (.int .i64 t) ∧ W.frozen? ⟨g11, 1, none⟩ = false ∧ W.cell? ⟨g11, 2, none⟩ = some (.int .i64 u) ∧ W.frozen? ⟨g11, 2, none⟩ = false ∧ W.cell? ⟨g12, 0, none⟩ = some (.int .i64 x0) ∧ W.frozen? ⟨g12, 0, none⟩ = false ∧ W.cell? ⟨g12, 1, none⟩ = some (.int .i64 x1) ∧ W.frozen? ⟨g12, 1, none⟩ = false ∧ W.cell? ⟨g12, 2, none⟩ = some (.int .i64 x2) ∧ W.frozen? ⟨g12, 2, none⟩ = false ∧ W.cell? ⟨g12, 3, none⟩ = some (.int .i64 tt) ∧ W.frozen? ⟨g12, 3, none⟩ = false ∧ W.cell? ⟨g12, 4, none⟩ = some (.int .i64 ll) ∧ W.frozen? ⟨g12, 4, none⟩ = false ∧ W.cell? ⟨g12, 5, none⟩ = some (.int .i64 aa) ∧ W.frozen? ⟨g12, 5, none⟩ = false ∧ Below wr.heap.size wr W ∧ wr.heap.size ≤ W.heap.size) 11 76 [.val (.agg #[.int .i64 x0, .int .i64 x1, .int .i64 x2, .int .i64 tt, .int .i64 ll, .int .i64 aa]), .val (.int .i64 2), .val (.pointer (some ⟨g12, 0, none⟩)), .val (.pointer (some ⟨g12, 2, none⟩)), .val (.int .i64 x2), .call 49 #[.agg #[.int .i64 x0, .int .i64 x1, .int .i64 x2, .int .i64 tt, .int .i64 ll, .int .i64 aa], .int .i64 x2] (.tuple #[.int .i64 n2, .int .i64 e2]), .val (.tuple #[.int .i64 n2, .int .i64 e2]), .val (.int .i64 n2), .val (.int .i64 e2), .val (.int .i64 n2), .val (.int .i64 e2)] (by kernel_rfl) (by kernel_rfl) rfl (by kernel_rfl) (by rintro w1 w2 ⟨h0, h1, h2, h3, h4, h5, h6, h7, h8, h9, h10, h11, h12, h13, h14, h15, h16, h17, h18, h19, h20, h21, h22, h23, h24, h25, h26, h27, h28, h29, h30, h31, h32, h33, h34, h35⟩ hb; exact ⟨bcs hb h0, bfs hb h0 h1, bcs hb h2, bfs hb h2 h3, bcs hb h4, bfs hb h4 h5, bcs hb h6, bfs hb h6 h7, bcs hb h8, bfs hb h8 h9, bcs hb h10, bfs hb h10 h11, bcs hb h12, bfs hb h12 h13, bcs hb h14, bfs hb h14 h15, bcs hb h16, bfs hb h16 h17, bcs hb h18, bfs hb h18 h19, bcs hb h20, bfs hb h20 h21, bcs hb h22, bfs hb h22 h23, bcs hb h24, bfs hb h24 h25, bcs hb h26, bfs hb h26 h27, bcs hb h28, bfs hb h28 h29, bcs hb h30, bfs hb h30 h31, bcs hb h32, bfs hb h32 h33, bcs hb h34, bfs hb h34 h35⟩) ⟨bcs (by repeat (first | with_reducible exact Below.refl _ _ | fail | with_reducible apply below_drewN | with_reducible apply Below.drew | (with_reducible refine Below.alloc ?_ (by first | (simp; done) | (simp; omega) | omega) _) | (with_reducible refine Below.setCell ?_ (by first | (simp; done) | (simp; omega) | omega) _))) kx0, bfs (by repeat (first | with_reducible exact Below.refl _ _ | fail | with_reducible apply below_drewN | with_reducible apply Below.drew | (with_reducible refine Below.alloc ?_ (by first | (simp; done) | (simp; omega) | omega) _) | (with_reducible refine Below.setCell ?_ (by first | (simp; done) | (simp; omega) | omega) _))) kx0 gx0, bcs (by repeat (first | with_reducible exact Below.refl _ _ | fail | with_reducible apply below_drewN | with_reducible apply Below.drew | (with_reducible refine Below.alloc ?_ (by first | (simp; done) | (simp; omega) | omega) _) | (with_reducible refine Below.setCell ?_ (by first | (simp; done) | (simp; omega) | omega) _))) kx1, bfs (by repeat (first | with_reducible exact Below.refl _ _ | fail | with_reducible apply below_drewN | with_reducible apply Below.drew | (with_reducible refine Below.alloc ?_ (by first | (simp; done) | (simp; omega) | omega) _) | (with_reducible refine Below.setCell ?_ (by first | (simp; done) | (simp; omega) | omega) _))) kx1 gx1, bcs (by repeat (first | with_reducible exact Below.refl _ _ | fail | with_reducible apply below_drewN | with_reducible apply Below.drew | (with_reducible refine Below.alloc ?_ (by first | (simp; done) | (simp; omega) | omega) _) | (with_reducible refine Below.setCell ?_ (by first | (simp; done) | (simp; omega) | omega) _))) kx2, bfs (by repeat (first | with_reducible exact Below.refl _ _ | fail | with_reducible apply below_drewN | with_reducible apply Below.drew | (with_reducible refine Below.alloc ?_ (by first | (simp; done) | (simp; omega) | omega) _) | (with_reducible refine Below.setCell ?_ (by first | (simp; done) | (simp; omega) | omega) _))) kx2 gx2, bcs (by repeat (first | with_reducible exact Below.refl _ _ | fail | with_reducible apply below_drewN | with_reducible apply Below.drew | (with_reducible refine Below.alloc ?_ (by first | (simp; done) | (simp; omega) | omega) _) | (with_reducible refine Below.setCell ?_ (by first | (simp; done) | (simp; omega) | omega) _))) ky0, bfs (by repeat (first | with_reducible exact Below.refl _ _ | fail | with_reducible apply below_drewN | with_reducible apply Below.drew | (with_reducible refine Below.alloc ?_ (by first | (simp; done) | (simp; omega) | omega) _) | (with_reducible refine Below.setCell ?_ (by first | (simp; done) | (simp; omega) | omega) _))) ky0 gy0, bcs (by repeat (first | with_reducible exact Below.refl _ _ | fail | with_reducible apply below_drewN | with_reducible apply Below.drew | (with_reducible refine Below.alloc ?_ (by first | (simp; done) | (simp; omega) | omega) _) | (with_reducible refine Below.setCell ?_ (by first | (simp; done) | (simp; omega) | omega) _))) ky1, bfs (by repeat (first | with_reducible exact Below.refl _ _ | fail | with_reducible apply below_drewN | with_reducible apply Below.drew | (with_reducible refine Below.alloc ?_ (by first | (simp; done) | (simp; omega) | omega) _) | (with_reducible refine Below.setCell ?_ (by first | (simp; done) | (simp; omega) | omega) _))) ky1 gy1, bcs (by repeat (first | with_reducible exact Below.refl _ _ | fail | with_reducible apply below_drewN | with_reducible apply Below.drew | (with_reducible refine Below.alloc ?_ (by first | (simp; done) | (simp; omega) | omega) _) | (with_reducible refine Below.setCell ?_ (by first | (simp; done) | (simp; omega) | omega) _))) ky2, bfs (by repeat (first | with_reducible exact Below.refl _ _ | fail | with_reducible apply below_drewN | with_reducible apply Below.drew | (with_reducible refine Below.alloc ?_ (by first | (simp; done) | (simp; omega) | omega) _) | (with_reducible refine Below.setCell ?_ (by first | (simp; done) | (simp; omega) | omega) _))) ky2 gy2, bcs (by repeat (first | with_reducible exact Below.refl _ _ | fail | with_reducible apply below_drewN | with_reducible apply Below.drew | (with_reducible refine Below.alloc ?_ (by first | (simp; done) | (simp; omega) | omega) _) | (with_reducible refine Below.setCell ?_ (by first | (simp; done) | (simp; omega) | omega) _))) kp0, bfs (by repeat (first | with_reducible exact Below.refl _ _ | fail | with_reducible apply below_drewN | with_reducible apply Below.drew | (with_reducible refine Below.alloc ?_ (by first | (simp; done) | (simp; omega) | omega) _) | (with_reducible refine Below.setCell ?_ (by first | (simp; done) | (simp; omega) | omega) _))) kp0 gp0, bcs (by repeat (first | with_reducible exact Below.refl _ _ | fail | with_reducible apply below_drewN | with_reducible apply Below.drew | (with_reducible refine Below.alloc ?_ (by first | (simp; done) | (simp; omega) | omega) _) | (with_reducible refine Below.setCell ?_ (by first | (simp; done) | (simp; omega) | omega) _))) kp1, bfs (by repeat (first | with_reducible exact Below.refl _ _ | fail | with_reducible apply below_drewN | with_reducible apply Below.drew | (with_reducible refine Below.alloc ?_ (by first | (simp; done) | (simp; omega) | omega) _) | (with_reducible refine Below.setCell ?_ (by first | (simp; done) | (simp; omega) | omega) _))) kp1 gp1, bcs (by repeat (first | with_reducible exact Below.refl _ _ | fail | with_reducible apply below_drewN | with_reducible apply Below.drew | (with_reducible refine Below.alloc ?_ (by first | (simp; done) | (simp; omega) | omega) _) | (with_reducible refine Below.setCell ?_ (by first | (simp; done) | (simp; omega) | omega) _))) kp2, bfs (by repeat (first | with_reducible exact Below.refl _ _ | fail | with_reducible apply below_drewN | with_reducible apply Below.drew | (with_reducible refine Below.alloc ?_ (by first | (simp; done) | (simp; omega) | omega) _) | (with_reducible refine Below.setCell ?_ (by first | (simp; done) | (simp; omega) | omega) _))) kp2 gp2, bcs (by repeat (first | with_reducible exact Below.refl _ _ | fail | with_reducible apply below_drewN | with_reducible apply Below.drew | (with_reducible refine Below.alloc ?_ (by first | (simp; done) | (simp; omega) | omega) _) | (with_reducible refine Below.setCell ?_ (by first | (simp; done) | (simp; omega) | omega) _))) kq0, bfs (by repeat (first | with_reducible exact Below.refl _ _ | fail | with_reducible apply below_drewN | with_reducible apply Below.drew | (with_reducible refine Below.alloc ?_ (by first | (simp; done) | (simp; omega) | omega) _) | (with_reducible refine Below.setCell ?_ (by first | (simp; done) | (simp; omega) | omega) _))) kq0 gq0, bcs (by repeat (first | with_reducible exact Below.refl _ _ | fail | with_reducible apply below_drewN | with_reducible apply Below.drew | (with_reducible refine Below.alloc ?_ (by first | (simp; done) | (simp; omega) | omega) _) | (with_reducible refine Below.setCell ?_ (by first | (simp; done) | (simp; omega) | omega) _))) kq1, bfs (by repeat (first | with_reducible exact Below.refl _ _ | fail | with_reducible apply below_drewN | with_reducible apply Below.drew | (with_reducible refine Below.alloc ?_ (by first | (simp; done) | (simp; omega) | omega) _) | (with_reducible refine Below.setCell ?_ (by first | (simp; done) | (simp; omega) | omega) _))) kq1 gq1, bcs (by repeat (first | with_reducible exact Below.refl _ _ | fail | with_reducible apply below_drewN | with_reducible apply Below.drew | (with_reducible refine Below.alloc ?_ (by first | (simp; done) | (simp; omega) | omega) _) | (with_reducible refine Below.setCell ?_ (by first | (simp; done) | (simp; omega) | omega) _))) kq2, bfs (by repeat (first | with_reducible exact Below.refl _ _ | fail | with_reducible apply below_drewN | with_reducible apply Below.drew | (with_reducible refine Below.alloc ?_ (by first | (simp; done) | (simp; omega) | omega) _) | (with_reducible refine Below.setCell ?_ (by first | (simp; done) | (simp; omega) | omega) _))) kq2 gq2, bcs (by repeat (first | with_reducible exact Below.refl _ _ | fail | with_reducible apply below_drewN | with_reducible apply Below.drew | (with_reducible refine Below.alloc ?_ (by first | (simp; done) | (simp; omega) | omega) _) | (with_reducible refine Below.setCell ?_ (by first | (simp; done) | (simp; omega) | omega) _))) kh0, bfs (by repeat (first | with_reducible exact Below.refl _ _ | fail | with_reducible apply below_drewN | with_reducible apply Below.drew | (with_reducible refine Below.alloc ?_ (by first | (simp; done) | (simp; omega) | omega) _) | (with_reducible refine Below.setCell ?_ (by first | (simp; done) | (simp; omega) | omega) _))) kh0 gh0, bcs (by repeat (first | with_reducible exact Below.refl _ _ | fail | with_reducible apply below_drewN | with_reducible apply Below.drew | (with_reducible refine Below.alloc ?_ (by first | (simp; done) | (simp; omega) | omega) _) | (with_reducible refine Below.setCell ?_ (by first | (simp; done) | (simp; omega) | omega) _))) kh1, bfs (by repeat (first | with_reducible exact Below.refl _ _ | fail | with_reducible apply below_drewN | with_reducible apply Below.drew | (with_reducible refine Below.alloc ?_ (by first | (simp; done) | (simp; omega) | omega) _) | (with_reducible refine Below.setCell ?_ (by first | (simp; done) | (simp; omega) | omega) _))) kh1 gh1, bcs (by repeat (first | with_reducible exact Below.refl _ _ | fail | with_reducible apply below_drewN | with_reducible apply Below.drew | (with_reducible refine Below.alloc ?_ (by first | (simp; done) | (simp; omega) | omega) _) | (with_reducible refine Below.setCell ?_ (by first | (simp; done) | (simp; omega) | omega) _))) kh2, bfs (by repeat (first | with_reducible exact Below.refl _ _ | fail | with_reducible apply below_drewN | with_reducible apply Below.drew | (with_reducible refine Below.alloc ?_ (by first | (simp; done) | (simp; omega) | omega) _) | (with_reducible refine Below.setCell ?_ (by first | (simp; done) | (simp; omega) | omega) _))) kh2 gh2, bcs (by repeat (first | with_reducible exact Below.refl _ _ | fail | with_reducible apply below_drewN | with_reducible apply Below.drew | (with_reducible refine Below.alloc ?_ (by first | (simp; done) | (simp; omega) | omega) _) | (with_reducible refine Below.setCell ?_ (by first | (simp; done) | (simp; omega) | omega) _))) kh3, bfs (by repeat (first | with_reducible exact Below.refl _ _ | fail | with_reducible apply below_drewN | with_reducible apply Below.drew | (with_reducible refine Below.alloc ?_ (by first | (simp; done) | (simp; omega) | omega) _) | (with_reducible refine Below.setCell ?_ (by first | (simp; done) | (simp; omega) | omega) _))) kh3 gh3, bcs (by repeat (first | with_reducible exact Below.refl _ _ | fail | with_reducible apply below_drewN | with_reducible apply Below.drew | (with_reducible refine Below.alloc ?_ (by first | (simp; done) | (simp; omega) | omega) _) | (with_reducible refine Below.setCell ?_ (by first | (simp; done) | (simp; omega) | omega) _))) kh4, bfs (by repeat (first | with_reducible exact Below.refl _ _ | fail | with_reducible apply below_drewN | with_reducible apply Below.drew | (with_reducible refine Below.alloc ?_ (by first | (simp; done) | (simp; omega) | omega) _) | (with_reducible refine Below.setCell ?_ (by first | (simp; done) | (simp; omega) | omega) _))) kh4 gh4, bcs (by repeat (first | with_reducible exact Below.refl _ _ | fail | with_reducible apply below_drewN | with_reducible apply Below.drew | (with_reducible refine Below.alloc ?_ (by first | (simp; done) | (simp; omega) | omega) _) | (with_reducible refine Below.setCell ?_ (by first | (simp; done) | (simp; omega) | omega) _))) kh5, bfs (by repeat (first | with_reducible exact Below.refl _ _ | fail | with_reducible apply below_drewN | with_reducible apply Below.drew | (with_reducible refine Below.alloc ?_ (by first | (simp; done) | (simp; omega) | omega) _) | (with_reducible refine Below.setCell ?_ (by first | (simp; done) | (simp; omega) | omega) _))) kh5 gh5, by repeat (first | with_reducible exact Below.refl _ _ | fail | with_reducible apply below_drewN | with_reducible apply Below.drew | (with_reducible refine Below.alloc ?_ (by first | (simp; done) | (simp; omega) | omega) _) | (with_reducible refine Below.setCell ?_ (by first | (simp; done) | (simp; omega) | omega) _)), by first | with_reducible assumption | (simp; done) | (simp; omega)⟩ ?_ ?_
      · rintro W ⟨k1_b6_0, g1_b6_0, k1_b6_1, g1_b6_1, k1_b6_2, g1_b6_2, k1_g7_0, g1_g7_0, k1_g7_1, g1_g7_1, k1_g7_2, g1_g7_2, k1_g10_0, g1_g10_0, k1_g10_1, g1_g10_1, k1_g10_2, g1_g10_2, k1_g11_0, g1_g11_0, k1_g11_1, g1_g11_1, k1_g11_2, g1_g11_2, k1_g12_0, g1_g12_0, k1_g12_1, g1_g12_1, k1_g12_2, g1_g12_2, k1_g12_3, g1_g12_3, k1_g12_4, g1_g12_4, k1_g12_5, g1_g12_5, B1, z1⟩; exact ⟨k1_b6_0, g1_b6_0, k1_b6_1, g1_b6_1, k1_b6_2, g1_b6_2, k1_g7_0, g1_g7_0, k1_g7_1, g1_g7_1, k1_g7_2, g1_g7_2, k1_g10_0, g1_g10_0, k1_g10_1, g1_g10_1, k1_g10_2, g1_g10_2, k1_g11_0, g1_g11_0, k1_g11_1, g1_g11_1, k1_g11_2, g1_g11_2, k1_g12_0, g1_g12_0, k1_g12_1, g1_g12_1, k1_g12_2, g1_g12_2, k1_g12_3, g1_g12_3, k1_g12_4, g1_g12_4, k1_g12_5, g1_g12_5⟩
      rintro w1 ⟨k1_b6_0, g1_b6_0, k1_b6_1, g1_b6_1, k1_b6_2, g1_b6_2, k1_g7_0, g1_g7_0, k1_g7_1, g1_g7_1, k1_g7_2, g1_g7_2, k1_g10_0, g1_g10_0, k1_g10_1, g1_g10_1, k1_g10_2, g1_g10_2, k1_g11_0, g1_g11_0, k1_g11_1, g1_g11_1, k1_g11_2, g1_g11_2, k1_g12_0, g1_g12_0, k1_g12_1, g1_g12_1, k1_g12_2, g1_g12_2, k1_g12_3, g1_g12_3, k1_g12_4, g1_g12_4, k1_g12_5, g1_g12_5, B1, z1⟩ gg
      simp only [List.take_succ_cons, List.take_zero, List.drop_succ_cons, List.drop_zero, List.cons_append, List.nil_append, List.append_nil]
      refine obe_val (by rfl) ?_ ?_
      · clear k1_b6_0 g1_b6_0 k1_b6_1 g1_b6_1 k1_b6_2 g1_b6_2 k1_g7_0 g1_g7_0 k1_g7_1 g1_g7_1 k1_g7_2 g1_g7_2 k1_g10_0 g1_g10_0 k1_g10_1 g1_g10_1 k1_g10_2 g1_g10_2 k1_g11_0 g1_g11_0 k1_g11_1 g1_g11_1 k1_g11_2 g1_g11_2 k1_g12_0 g1_g12_0 k1_g12_1 g1_g12_1 k1_g12_2 g1_g12_2 k1_g12_3 g1_g12_3 k1_g12_4 g1_g12_4 k1_g12_5 g1_g12_5 B1 z1; intro f hf; have u12 : f 12 = (.pointer (some ⟨g12, 0, none⟩)) := (by rw [← hf]; rfl); clear hf; rintro w' ⟨h0, h1, h2, h3, h4, h5, h6, h7, h8, h9, h10, h11, h12, h13, h14, h15, h16, h17, h18, h19, h20, h21, h22, h23, h24, h25, h26, h27, h28, h29, h30, h31, h32, h33, h34, h35⟩; go_simp; try exact IntWalk.i64_in _ (by omega)
      refine obe_val (by rfl) ?_ ?_
      · clear k1_b6_0 g1_b6_0 k1_b6_1 g1_b6_1 k1_b6_2 g1_b6_2 k1_g7_0 g1_g7_0 k1_g7_1 g1_g7_1 k1_g7_2 g1_g7_2 k1_g10_0 g1_g10_0 k1_g10_1 g1_g10_1 k1_g10_2 g1_g10_2 k1_g11_0 g1_g11_0 k1_g11_1 g1_g11_1 k1_g11_2 g1_g11_2 k1_g12_0 g1_g12_0 k1_g12_1 g1_g12_1 k1_g12_2 g1_g12_2 k1_g12_3 g1_g12_3 k1_g12_4 g1_g12_4 k1_g12_5 g1_g12_5 B1 z1; intro f hf; have u13 : f 13 = (.int .i64 2) := (by rw [← hf]; rfl); clear hf; rintro w' ⟨h0, h1, h2, h3, h4, h5, h6, h7, h8, h9, h10, h11, h12, h13, h14, h15, h16, h17, h18, h19, h20, h21, h22, h23, h24, h25, h26, h27, h28, h29, h30, h31, h32, h33, h34, h35⟩; go_simp; try exact IntWalk.i64_in _ (by omega)
      refine obe_val (by rfl) ?_ ?_
      · clear k1_b6_0 g1_b6_0 k1_b6_1 g1_b6_1 k1_b6_2 g1_b6_2 k1_g7_0 g1_g7_0 k1_g7_1 g1_g7_1 k1_g7_2 g1_g7_2 k1_g10_0 g1_g10_0 k1_g10_1 g1_g10_1 k1_g10_2 g1_g10_2 k1_g11_0 g1_g11_0 k1_g11_1 g1_g11_1 k1_g11_2 g1_g11_2 k1_g12_0 g1_g12_0 k1_g12_1 g1_g12_1 k1_g12_2 g1_g12_2 k1_g12_3 g1_g12_3 k1_g12_4 g1_g12_4 k1_g12_5 g1_g12_5 B1 z1; intro f hf; have u12 : f 12 = (.pointer (some ⟨g12, 0, none⟩)) := (by rw [← hf]; rfl); clear hf; rintro w' ⟨h0, h1, h2, h3, h4, h5, h6, h7, h8, h9, h10, h11, h12, h13, h14, h15, h16, h17, h18, h19, h20, h21, h22, h23, h24, h25, h26, h27, h28, h29, h30, h31, h32, h33, h34, h35⟩; go_simp; try exact IntWalk.i64_in _ (by omega)
      refine obe_val (by rfl) ?_ ?_
      · clear k1_b6_0 g1_b6_0 k1_b6_1 g1_b6_1 k1_b6_2 g1_b6_2 k1_g7_0 g1_g7_0 k1_g7_1 g1_g7_1 k1_g7_2 g1_g7_2 k1_g10_0 g1_g10_0 k1_g10_1 g1_g10_1 k1_g10_2 g1_g10_2 k1_g11_0 g1_g11_0 k1_g11_1 g1_g11_1 k1_g11_2 g1_g11_2 k1_g12_0 g1_g12_0 k1_g12_1 g1_g12_1 k1_g12_2 g1_g12_2 k1_g12_3 g1_g12_3 k1_g12_4 g1_g12_4 k1_g12_5 g1_g12_5 B1 z1; intro f hf; have u42 : f 42 = (.int .i64 2) := (by rw [← hf]; rfl); have u43 : f 43 = (.pointer (some ⟨g12, 0, none⟩)) := (by rw [← hf]; rfl); clear hf; rintro w' ⟨h0, h1, h2, h3, h4, h5, h6, h7, h8, h9, h10, h11, h12, h13, h14, h15, h16, h17, h18, h19, h20, h21, h22, h23, h24, h25, h26, h27, h28, h29, h30, h31, h32, h33, h34, h35⟩; go_simp; try exact IntWalk.i64_in _ (by omega)
      refine obe_val (by rfl) ?_ ?_
      · clear k1_b6_0 g1_b6_0 k1_b6_1 g1_b6_1 k1_b6_2 g1_b6_2 k1_g7_0 g1_g7_0 k1_g7_1 g1_g7_1 k1_g7_2 g1_g7_2 k1_g10_0 g1_g10_0 k1_g10_1 g1_g10_1 k1_g10_2 g1_g10_2 k1_g11_0 g1_g11_0 k1_g11_1 g1_g11_1 k1_g11_2 g1_g11_2 k1_g12_0 g1_g12_0 k1_g12_1 g1_g12_1 k1_g12_2 g1_g12_2 k1_g12_3 g1_g12_3 k1_g12_4 g1_g12_4 k1_g12_5 g1_g12_5 B1 z1; intro f hf; have u44 : f 44 = (.pointer (some ⟨g12, 2, none⟩)) := (by rw [← hf]; rfl); clear hf; rintro w' ⟨h0, h1, h2, h3, h4, h5, h6, h7, h8, h9, h10, h11, h12, h13, h14, h15, h16, h17, h18, h19, h20, h21, h22, h23, h24, h25, h26, h27, h28, h29, h30, h31, h32, h33, h34, h35⟩; go_simp; try exact IntWalk.i64_in _ (by omega)
      refine obe_call (by rfl) ?_ ?_ ?_
      · clear k1_b6_0 g1_b6_0 k1_b6_1 g1_b6_1 k1_b6_2 g1_b6_2 k1_g7_0 g1_g7_0 k1_g7_1 g1_g7_1 k1_g7_2 g1_g7_2 k1_g10_0 g1_g10_0 k1_g10_1 g1_g10_1 k1_g10_2 g1_g10_2 k1_g11_0 g1_g11_0 k1_g11_1 g1_g11_1 k1_g11_2 g1_g11_2 k1_g12_0 g1_g12_0 k1_g12_1 g1_g12_1 k1_g12_2 g1_g12_2 k1_g12_3 g1_g12_3 k1_g12_4 g1_g12_4 k1_g12_5 g1_g12_5 B1 z1; intro f hf; have u41 : f 41 = (.agg #[.int .i64 x0, .int .i64 x1, .int .i64 x2, .int .i64 tt, .int .i64 ll, .int .i64 aa]) := (by rw [← hf]; rfl); have u45 : f 45 = (.int .i64 x2) := (by rw [← hf]; rfl); clear hf; intro w' _; simp only [execOp, resolve, invoke, rhoF_tmp, rhoF_func, rhoF_const, u41, u45, List.map_toArray, List.map_cons, List.map_nil]; go_simp
      · clear k1_b6_0 g1_b6_0 k1_b6_1 g1_b6_1 k1_b6_2 g1_b6_2 k1_g7_0 g1_g7_0 k1_g7_1 g1_g7_1 k1_g7_2 g1_g7_2 k1_g10_0 g1_g10_0 k1_g10_1 g1_g10_1 k1_g10_2 g1_g10_2 k1_g11_0 g1_g11_0 k1_g11_1 g1_g11_1 k1_g11_2 g1_g11_2 k1_g12_0 g1_g12_0 k1_g12_1 g1_g12_1 k1_g12_2 g1_g12_2 k1_g12_3 g1_g12_3 k1_g12_4 g1_g12_4 k1_g12_5 g1_g12_5 B1 z1; rintro w' ⟨h0, h1, h2, h3, h4, h5, h6, h7, h8, h9, h10, h11, h12, h13, h14, h15, h16, h17, h18, h19, h20, h21, h22, h23, h24, h25, h26, h27, h28, h29, h30, h31, h32, h33, h34, h35⟩; exact ct2 _
      refine obe_val (by rfl) ?_ ?_
      · clear k1_b6_0 g1_b6_0 k1_b6_1 g1_b6_1 k1_b6_2 g1_b6_2 k1_g7_0 g1_g7_0 k1_g7_1 g1_g7_1 k1_g7_2 g1_g7_2 k1_g10_0 g1_g10_0 k1_g10_1 g1_g10_1 k1_g10_2 g1_g10_2 k1_g11_0 g1_g11_0 k1_g11_1 g1_g11_1 k1_g11_2 g1_g11_2 k1_g12_0 g1_g12_0 k1_g12_1 g1_g12_1 k1_g12_2 g1_g12_2 k1_g12_3 g1_g12_3 k1_g12_4 g1_g12_4 k1_g12_5 g1_g12_5 B1 z1; intro f hf; have u46 : f 46 = (.tuple #[.int .i64 n2, .int .i64 e2]) := (by rw [← hf]; rfl); clear hf; rintro w' ⟨h0, h1, h2, h3, h4, h5, h6, h7, h8, h9, h10, h11, h12, h13, h14, h15, h16, h17, h18, h19, h20, h21, h22, h23, h24, h25, h26, h27, h28, h29, h30, h31, h32, h33, h34, h35⟩; go_simp; try exact IntWalk.i64_in _ (by omega)
      refine obe_val (by rfl) ?_ ?_
      · clear k1_b6_0 g1_b6_0 k1_b6_1 g1_b6_1 k1_b6_2 g1_b6_2 k1_g7_0 g1_g7_0 k1_g7_1 g1_g7_1 k1_g7_2 g1_g7_2 k1_g10_0 g1_g10_0 k1_g10_1 g1_g10_1 k1_g10_2 g1_g10_2 k1_g11_0 g1_g11_0 k1_g11_1 g1_g11_1 k1_g11_2 g1_g11_2 k1_g12_0 g1_g12_0 k1_g12_1 g1_g12_1 k1_g12_2 g1_g12_2 k1_g12_3 g1_g12_3 k1_g12_4 g1_g12_4 k1_g12_5 g1_g12_5 B1 z1; intro f hf; have u40 : f 40 = (.tuple #[.int .i64 n2, .int .i64 e2]) := (by rw [← hf]; rfl); clear hf; rintro w' ⟨h0, h1, h2, h3, h4, h5, h6, h7, h8, h9, h10, h11, h12, h13, h14, h15, h16, h17, h18, h19, h20, h21, h22, h23, h24, h25, h26, h27, h28, h29, h30, h31, h32, h33, h34, h35⟩; go_simp; try exact IntWalk.i64_in _ (by omega)
      refine obe_val (by rfl) ?_ ?_
      · clear k1_b6_0 g1_b6_0 k1_b6_1 g1_b6_1 k1_b6_2 g1_b6_2 k1_g7_0 g1_g7_0 k1_g7_1 g1_g7_1 k1_g7_2 g1_g7_2 k1_g10_0 g1_g10_0 k1_g10_1 g1_g10_1 k1_g10_2 g1_g10_2 k1_g11_0 g1_g11_0 k1_g11_1 g1_g11_1 k1_g11_2 g1_g11_2 k1_g12_0 g1_g12_0 k1_g12_1 g1_g12_1 k1_g12_2 g1_g12_2 k1_g12_3 g1_g12_3 k1_g12_4 g1_g12_4 k1_g12_5 g1_g12_5 B1 z1; intro f hf; have u40 : f 40 = (.tuple #[.int .i64 n2, .int .i64 e2]) := (by rw [← hf]; rfl); clear hf; rintro w' ⟨h0, h1, h2, h3, h4, h5, h6, h7, h8, h9, h10, h11, h12, h13, h14, h15, h16, h17, h18, h19, h20, h21, h22, h23, h24, h25, h26, h27, h28, h29, h30, h31, h32, h33, h34, h35⟩; go_simp; try exact IntWalk.i64_in _ (by omega)
      refine obe_val (by rfl) ?_ ?_
      · clear k1_b6_0 g1_b6_0 k1_b6_1 g1_b6_1 k1_b6_2 g1_b6_2 k1_g7_0 g1_g7_0 k1_g7_1 g1_g7_1 k1_g7_2 g1_g7_2 k1_g10_0 g1_g10_0 k1_g10_1 g1_g10_1 k1_g10_2 g1_g10_2 k1_g11_0 g1_g11_0 k1_g11_1 g1_g11_1 k1_g11_2 g1_g11_2 k1_g12_0 g1_g12_0 k1_g12_1 g1_g12_1 k1_g12_2 g1_g12_2 k1_g12_3 g1_g12_3 k1_g12_4 g1_g12_4 k1_g12_5 g1_g12_5 B1 z1; intro f hf; have u47 : f 47 = (.int .i64 n2) := (by rw [← hf]; rfl); clear hf; rintro w' ⟨h0, h1, h2, h3, h4, h5, h6, h7, h8, h9, h10, h11, h12, h13, h14, h15, h16, h17, h18, h19, h20, h21, h22, h23, h24, h25, h26, h27, h28, h29, h30, h31, h32, h33, h34, h35⟩; go_simp; try exact IntWalk.i64_in _ (by omega)
      refine obe_val (by rfl) ?_ ?_
      · clear k1_b6_0 g1_b6_0 k1_b6_1 g1_b6_1 k1_b6_2 g1_b6_2 k1_g7_0 g1_g7_0 k1_g7_1 g1_g7_1 k1_g7_2 g1_g7_2 k1_g10_0 g1_g10_0 k1_g10_1 g1_g10_1 k1_g10_2 g1_g10_2 k1_g11_0 g1_g11_0 k1_g11_1 g1_g11_1 k1_g11_2 g1_g11_2 k1_g12_0 g1_g12_0 k1_g12_1 g1_g12_1 k1_g12_2 g1_g12_2 k1_g12_3 g1_g12_3 k1_g12_4 g1_g12_4 k1_g12_5 g1_g12_5 B1 z1; intro f hf; have u48 : f 48 = (.int .i64 e2) := (by rw [← hf]; rfl); clear hf; rintro w' ⟨h0, h1, h2, h3, h4, h5, h6, h7, h8, h9, h10, h11, h12, h13, h14, h15, h16, h17, h18, h19, h20, h21, h22, h23, h24, h25, h26, h27, h28, h29, h30, h31, h32, h33, h34, h35⟩; go_simp; try exact IntWalk.i64_in _ (by omega)
      refine obe_nil ?_
      rintro w2 ⟨h0, h1, h2, h3, h4, h5, h6, h7, h8, h9, h10, h11, h12, h13, h14, h15, h16, h17, h18, h19, h20, h21, h22, h23, h24, h25, h26, h27, h28, h29, h30, h31, h32, h33, h34, h35⟩ hb2 hF
      (try simp only [List.nil_append, List.append_nil, List.cons_append] at hF)
      simp only [puts, putD, Act.put, List.setIfInBounds_toArray, List.set_cons_zero, List.set_cons_succ]
      clear hF
      have k2_b6_0 := bcs hb2 k1_b6_0
      have g2_b6_0 := bfs hb2 k1_b6_0 g1_b6_0
      have k2_b6_1 := bcs hb2 k1_b6_1
      have g2_b6_1 := bfs hb2 k1_b6_1 g1_b6_1
      have k2_b6_2 := bcs hb2 k1_b6_2
      have g2_b6_2 := bfs hb2 k1_b6_2 g1_b6_2
      have k2_g7_0 := bcs hb2 k1_g7_0
      have g2_g7_0 := bfs hb2 k1_g7_0 g1_g7_0
      have k2_g7_1 := bcs hb2 k1_g7_1
      have g2_g7_1 := bfs hb2 k1_g7_1 g1_g7_1
      have k2_g7_2 := bcs hb2 k1_g7_2
      have g2_g7_2 := bfs hb2 k1_g7_2 g1_g7_2
      have k2_g10_0 := bcs hb2 k1_g10_0
      have g2_g10_0 := bfs hb2 k1_g10_0 g1_g10_0
      have k2_g10_1 := bcs hb2 k1_g10_1
      have g2_g10_1 := bfs hb2 k1_g10_1 g1_g10_1
      have k2_g10_2 := bcs hb2 k1_g10_2
      have g2_g10_2 := bfs hb2 k1_g10_2 g1_g10_2
      have k2_g11_0 := bcs hb2 k1_g11_0
      have g2_g11_0 := bfs hb2 k1_g11_0 g1_g11_0
      have k2_g11_1 := bcs hb2 k1_g11_1
      have g2_g11_1 := bfs hb2 k1_g11_1 g1_g11_1
      have k2_g11_2 := bcs hb2 k1_g11_2
      have g2_g11_2 := bfs hb2 k1_g11_2 g1_g11_2
      have k2_g12_0 := bcs hb2 k1_g12_0
      have g2_g12_0 := bfs hb2 k1_g12_0 g1_g12_0
      have k2_g12_1 := bcs hb2 k1_g12_1
      have g2_g12_1 := bfs hb2 k1_g12_1 g1_g12_1
      have k2_g12_2 := bcs hb2 k1_g12_2
      have g2_g12_2 := bfs hb2 k1_g12_2 g1_g12_2
      have k2_g12_3 := bcs hb2 k1_g12_3
      have g2_g12_3 := bfs hb2 k1_g12_3 g1_g12_3
      have k2_g12_4 := bcs hb2 k1_g12_4
      have g2_g12_4 := bfs hb2 k1_g12_4 g1_g12_4
      have k2_g12_5 := bcs hb2 k1_g12_5
      have g2_g12_5 := bfs hb2 k1_g12_5 g1_g12_5
      clear h0 h1 h2 h3 h4 h5 h6 h7 h8 h9 h10 h11 h12 h13 h14 h15 h16 h17 h18 h19 h20 h21 h22 h23 h24 h25 h26 h27 h28 h29 h30 h31 h32 h33 h34 h35
      have B2 := bel_step B1 hb2
      have z2 := Nat.le_trans z1 hb2.size
      clear hb2
      (try clear B1)
      (try clear z1)
      (try clear k1_b6_0)
      (try clear g1_b6_0)
      (try clear k1_b6_1)
      (try clear g1_b6_1)
      (try clear k1_b6_2)
      (try clear g1_b6_2)
      (try clear k1_g7_0)
      (try clear g1_g7_0)
      (try clear k1_g7_1)
      (try clear g1_g7_1)
      (try clear k1_g7_2)
      (try clear g1_g7_2)
      (try clear k1_g10_0)
      (try clear g1_g10_0)
      (try clear k1_g10_1)
      (try clear g1_g10_1)
      (try clear k1_g10_2)
      (try clear g1_g10_2)
      (try clear k1_g11_0)
      (try clear g1_g11_0)
      (try clear k1_g11_1)
      (try clear g1_g11_1)
      (try clear k1_g11_2)
      (try clear g1_g11_2)
      (try clear k1_g12_0)
      (try clear g1_g12_0)
      (try clear k1_g12_1)
      (try clear g1_g12_1)
      (try clear k1_g12_2)
      (try clear g1_g12_2)
      (try clear k1_g12_3)
      (try clear g1_g12_3)
      (try clear k1_g12_4)
      (try clear g1_g12_4)
      (try clear k1_g12_5)
      (try clear g1_g12_5)
      (try clear q1_b6)
      (try clear x1_b6)
      (try clear y1_b6)
      (try clear q1_g7)
      (try clear x1_g7)
      (try clear y1_g7)
      (try clear q1_g10)
      (try clear x1_g10)
      (try clear y1_g10)
      (try clear q1_g11)
      (try clear x1_g11)
      (try clear y1_g11)
      (try clear q1_g12)
      (try clear x1_g12)
      (try clear y1_g12)
      have q2_b6 : w.heap.size + 1 + 1 < w2.heap.size := qlt k2_b6_0
      have x2_b6 : ¬ w.heap.size + 1 + 1 = w2.heap.size := qne k2_b6_0
      have y2_b6 : ¬ w2.heap.size = w.heap.size + 1 + 1 := fun h => qne k2_b6_0 h.symm
      have q2_g7 : (w.heap.size + 1 + 1 + 1) < w2.heap.size := qlt k2_g7_0
      have x2_g7 : ¬ (w.heap.size + 1 + 1 + 1) = w2.heap.size := qne k2_g7_0
      have y2_g7 : ¬ w2.heap.size = (w.heap.size + 1 + 1 + 1) := fun h => qne k2_g7_0 h.symm
      have q2_g10 : g10 < w2.heap.size := qlt k2_g10_0
      have x2_g10 : ¬ g10 = w2.heap.size := qne k2_g10_0
      have y2_g10 : ¬ w2.heap.size = g10 := fun h => qne k2_g10_0 h.symm
      have q2_g11 : g11 < w2.heap.size := qlt k2_g11_0
      have x2_g11 : ¬ g11 = w2.heap.size := qne k2_g11_0
      have y2_g11 : ¬ w2.heap.size = g11 := fun h => qne k2_g11_0 h.symm
      have q2_g12 : g12 < w2.heap.size := qlt k2_g12_0
      have x2_g12 : ¬ g12 = w2.heap.size := qne k2_g12_0
      have y2_g12 : ¬ w2.heap.size = g12 := fun h => qne k2_g12_0 h.symm
      unfold wpList
      go_wp2
      refine wp_region_env (fun w' => w'.cell? ⟨w.heap.size + 1 + 1, 0, none⟩ = some (.int .u8 0) ∧ w'.frozen? ⟨w.heap.size + 1 + 1, 0, none⟩ = false ∧ w'.cell? ⟨w.heap.size + 1 + 1, 1, none⟩ = some (.int .u8 0) ∧ w'.frozen? ⟨w.heap.size + 1 + 1, 1, none⟩ = false ∧ w'.cell? ⟨w.heap.size + 1 + 1, 2, none⟩ = some (.int .u8 0) ∧ w'.frozen? ⟨w.heap.size + 1 + 1, 2, none⟩ = false ∧ w'.cell? ⟨(w.heap.size + 1 + 1 + 1), 0, none⟩ = some (.int .u8 z0) ∧ w'.frozen? ⟨(w.heap.size + 1 + 1 + 1), 0, none⟩ = false ∧ w'.cell? ⟨(w.heap.size + 1 + 1 + 1), 1, none⟩ = some (.int .u8 z1) ∧ w'.frozen? ⟨(w.heap.size + 1 + 1 + 1), 1, none⟩ = false ∧ w'.cell? ⟨(w.heap.size + 1 + 1 + 1), 2, none⟩ = some (.int .u8 0) ∧ w'.frozen? ⟨(w.heap.size + 1 + 1 + 1), 2, none⟩ = false ∧ w'.cell? ⟨g10, 0, none⟩ = some (.int .i64 r) ∧ w'.frozen? ⟨g10, 0, none⟩ = false ∧ w'.cell? ⟨g10, 1, none⟩ = some (.int .i64 g) ∧ w'.frozen? ⟨g10, 1, none⟩ = false ∧ w'.cell? ⟨g10, 2, none⟩ = some (.int .i64 b) ∧ w'.frozen? ⟨g10, 2, none⟩ = false ∧ w'.cell? ⟨g11, 0, none⟩ = some (.int .i64 s) ∧ w'.frozen? ⟨g11, 0, none⟩ = false ∧ w'.cell? ⟨g11, 1, none⟩ = some (.int .i64 t) ∧ w'.frozen? ⟨g11, 1, none⟩ = false ∧ w'.cell? ⟨g11, 2, none⟩ = some (.int .i64 u) ∧ w'.frozen? ⟨g11, 2, none⟩ = false ∧ w'.cell? ⟨g12, 0, none⟩ = some (.int .i64 x0) ∧ w'.frozen? ⟨g12, 0, none⟩ = false ∧ w'.cell? ⟨g12, 1, none⟩ = some (.int .i64 x1) ∧ w'.frozen? ⟨g12, 1, none⟩ = false ∧ w'.cell? ⟨g12, 2, none⟩ = some (.int .i64 x2) ∧ w'.frozen? ⟨g12, 2, none⟩ = false ∧ w'.cell? ⟨g12, 3, none⟩ = some (.int .i64 tt) ∧ w'.frozen? ⟨g12, 3, none⟩ = false ∧ w'.cell? ⟨g12, 4, none⟩ = some (.int .i64 ll) ∧ w'.frozen? ⟨g12, 4, none⟩ = false ∧ w'.cell? ⟨g12, 5, none⟩ = some (.int .i64 aa) ∧ w'.frozen? ⟨g12, 5, none⟩ = false) (fun W => W.cell? ⟨w.heap.size + 1 + 1, 0, none⟩ = some (.int .u8 0) ∧ W.frozen? ⟨w.heap.size + 1 + 1, 0, none⟩ = false ∧ W.cell? ⟨w.heap.size + 1 + 1, 1, none⟩ = some (.int .u8 0) ∧ W.frozen? ⟨w.heap.size + 1 + 1, 1, none⟩ = false ∧ W.cell? ⟨w.heap.size + 1 + 1, 2, none⟩ = some (.int .u8 0) ∧ W.frozen? ⟨w.heap.size + 1 + 1, 2, none⟩ = false ∧ W.cell? ⟨(w.heap.size + 1 + 1 + 1), 0, none⟩ = some (.int .u8 z0) ∧ W.frozen? ⟨(w.heap.size + 1 + 1 + 1), 0, none⟩ = false ∧ W.cell? ⟨(w.heap.size + 1 + 1 + 1), 1, none⟩ = some (.int .u8 z1) ∧ W.frozen? ⟨(w.heap.size + 1 + 1 + 1), 1, none⟩ = false ∧ W.cell? ⟨(w.heap.size + 1 + 1 + 1), 2, none⟩ = some (.int .u8 0) ∧ W.frozen? ⟨(w.heap.size + 1 + 1 + 1), 2, none⟩ = false ∧ W.cell? ⟨g10, 0, none⟩ = some (.int .i64 r) ∧ W.frozen? ⟨g10, 0, none⟩ = false ∧ W.cell? ⟨g10, 1, none⟩ = some (.int .i64 g) ∧ W.frozen? ⟨g10, 1, none⟩ = false ∧ W.cell? ⟨g10, 2, none⟩ = some (.int .i64 b) ∧ W.frozen? ⟨g10, 2, none⟩ = false ∧ W.cell? ⟨g11, 0, none⟩ = some (.int .i64 s) ∧ W.frozen? ⟨g11, 0, none⟩ = false ∧ W.cell? ⟨g11, 1, none⟩ = some (.int .i64 t) ∧ W.frozen? ⟨g11, 1, none⟩ = false ∧ W.cell? ⟨g11, 2, none⟩ = some (.int .i64 u) ∧ W.frozen? ⟨g11, 2, none⟩ = false ∧ W.cell? ⟨g12, 0, none⟩ = some (.int .i64 x0) ∧ W.frozen? ⟨g12, 0, none⟩ = false ∧ W.cell? ⟨g12, 1, none⟩ = some (.int .i64 x1) ∧ W.frozen? ⟨g12, 1, none⟩ = false ∧ W.cell? ⟨g12, 2, none⟩ = some (.int .i64 x2) ∧ W.frozen? ⟨g12, 2, none⟩ = false ∧ W.cell? ⟨g12, 3, none⟩ = some (.int .i64 tt) ∧ W.frozen? ⟨g12, 3, none⟩ = false ∧ W.cell? ⟨g12, 4, none⟩ = some (.int .i64 ll) ∧ W.frozen? ⟨g12, 4, none⟩ = false ∧ W.cell? ⟨g12, 5, none⟩ = some (.int .i64 aa) ∧ W.frozen? ⟨g12, 5, none⟩ = false ∧ Below wr.heap.size wr W ∧ wr.heap.size ≤ W.heap.size) 13 76 [.val (.int .i64 n2), .val (.int .i64 2), .val (.pointer (some ⟨g10, 2, none⟩)), .val (.int .i64 b), .val (.int .i64 a), .val (.int .i64 2), .val (.pointer (some ⟨g11, 2, none⟩)), .val (.int .i64 u), .val (.int .i64 d), .call 38 #[.int .i64 b, .int .i64 a, .int .i64 u, .int .i64 d] (.int .i64 v2), .val (.int .i64 e2), .val (.int .i64 p2), .val (.int .i64 sm2)] (by kernel_rfl) (by kernel_rfl) rfl (by kernel_rfl) (by rintro w1 w2 ⟨h0, h1, h2, h3, h4, h5, h6, h7, h8, h9, h10, h11, h12, h13, h14, h15, h16, h17, h18, h19, h20, h21, h22, h23, h24, h25, h26, h27, h28, h29, h30, h31, h32, h33, h34, h35⟩ hb; exact ⟨bcs hb h0, bfs hb h0 h1, bcs hb h2, bfs hb h2 h3, bcs hb h4, bfs hb h4 h5, bcs hb h6, bfs hb h6 h7, bcs hb h8, bfs hb h8 h9, bcs hb h10, bfs hb h10 h11, bcs hb h12, bfs hb h12 h13, bcs hb h14, bfs hb h14 h15, bcs hb h16, bfs hb h16 h17, bcs hb h18, bfs hb h18 h19, bcs hb h20, bfs hb h20 h21, bcs hb h22, bfs hb h22 h23, bcs hb h24, bfs hb h24 h25, bcs hb h26, bfs hb h26 h27, bcs hb h28, bfs hb h28 h29, bcs hb h30, bfs hb h30 h31, bcs hb h32, bfs hb h32 h33, bcs hb h34, bfs hb h34 h35⟩) ⟨by first | with_reducible assumption | go_simp, by first | with_reducible assumption | go_simp, by first | with_reducible assumption | go_simp, by first | with_reducible assumption | go_simp, by first | with_reducible assumption | go_simp, by first | with_reducible assumption | go_simp, by first | with_reducible assumption | go_simp, by first | with_reducible assumption | go_simp, by first | with_reducible assumption | go_simp, by first | with_reducible assumption | go_simp, by first | with_reducible assumption | go_simp, by first | with_reducible assumption | go_simp, by first | with_reducible assumption | go_simp, by first | with_reducible assumption | go_simp, by first | with_reducible assumption | go_simp, by first | with_reducible assumption | go_simp, by first | with_reducible assumption | go_simp, by first | with_reducible assumption | go_simp, by first | with_reducible assumption | go_simp, by first | with_reducible assumption | go_simp, by first | with_reducible assumption | go_simp, by first | with_reducible assumption | go_simp, by first | with_reducible assumption | go_simp, by first | with_reducible assumption | go_simp, by first | with_reducible assumption | go_simp, by first | with_reducible assumption | go_simp, by first | with_reducible assumption | go_simp, by first | with_reducible assumption | go_simp, by first | with_reducible assumption | go_simp, by first | with_reducible assumption | go_simp, by first | with_reducible assumption | go_simp, by first | with_reducible assumption | go_simp, by first | with_reducible assumption | go_simp, by first | with_reducible assumption | go_simp, by first | with_reducible assumption | go_simp, by first | with_reducible assumption | go_simp, by repeat (first | with_reducible exact Below.refl _ _ | with_reducible exact B2 | with_reducible apply below_drewN | with_reducible apply Below.drew | (with_reducible refine Below.alloc ?_ (by first | (simp; done) | (simp; omega) | omega) _) | (with_reducible refine Below.setCell ?_ (by first | (simp; done) | (simp; omega) | omega) _)), by first | with_reducible assumption | (simp; done) | (simp; omega)⟩ ?_ ?_
      · rintro W ⟨k3_b6_0, g3_b6_0, k3_b6_1, g3_b6_1, k3_b6_2, g3_b6_2, k3_g7_0, g3_g7_0, k3_g7_1, g3_g7_1, k3_g7_2, g3_g7_2, k3_g10_0, g3_g10_0, k3_g10_1, g3_g10_1, k3_g10_2, g3_g10_2, k3_g11_0, g3_g11_0, k3_g11_1, g3_g11_1, k3_g11_2, g3_g11_2, k3_g12_0, g3_g12_0, k3_g12_1, g3_g12_1, k3_g12_2, g3_g12_2, k3_g12_3, g3_g12_3, k3_g12_4, g3_g12_4, k3_g12_5, g3_g12_5, B3, z3⟩; exact ⟨k3_b6_0, g3_b6_0, k3_b6_1, g3_b6_1, k3_b6_2, g3_b6_2, k3_g7_0, g3_g7_0, k3_g7_1, g3_g7_1, k3_g7_2, g3_g7_2, k3_g10_0, g3_g10_0, k3_g10_1, g3_g10_1, k3_g10_2, g3_g10_2, k3_g11_0, g3_g11_0, k3_g11_1, g3_g11_1, k3_g11_2, g3_g11_2, k3_g12_0, g3_g12_0, k3_g12_1, g3_g12_1, k3_g12_2, g3_g12_2, k3_g12_3, g3_g12_3, k3_g12_4, g3_g12_4, k3_g12_5, g3_g12_5⟩
      (try clear B2)
      (try clear z2)
      (try clear k2_b6_0)
      (try clear g2_b6_0)
      (try clear k2_b6_1)
      (try clear g2_b6_1)
      (try clear k2_b6_2)
      (try clear g2_b6_2)
      (try clear k2_g7_0)
      (try clear g2_g7_0)
      (try clear k2_g7_1)
      (try clear g2_g7_1)
      (try clear k2_g7_2)
      (try clear g2_g7_2)
      (try clear k2_g10_0)
      (try clear g2_g10_0)
      (try clear k2_g10_1)
      (try clear g2_g10_1)
      (try clear k2_g10_2)
      (try clear g2_g10_2)
      (try clear k2_g11_0)
      (try clear g2_g11_0)
      (try clear k2_g11_1)
      (try clear g2_g11_1)
      (try clear k2_g11_2)
      (try clear g2_g11_2)
      (try clear k2_g12_0)
      (try clear g2_g12_0)
      (try clear k2_g12_1)
      (try clear g2_g12_1)
      (try clear k2_g12_2)
      (try clear g2_g12_2)
      (try clear k2_g12_3)
      (try clear g2_g12_3)
      (try clear k2_g12_4)
      (try clear g2_g12_4)
      (try clear k2_g12_5)
      (try clear g2_g12_5)
      (try clear q2_b6)
      (try clear x2_b6)
      (try clear y2_b6)
      (try clear q2_g7)
      (try clear x2_g7)
      (try clear y2_g7)
      (try clear q2_g10)
      (try clear x2_g10)
      (try clear y2_g10)
      (try clear q2_g11)
      (try clear x2_g11)
      (try clear y2_g11)
      (try clear q2_g12)
      (try clear x2_g12)
      (try clear y2_g12)
      rintro w3 ⟨k3_b6_0, g3_b6_0, k3_b6_1, g3_b6_1, k3_b6_2, g3_b6_2, k3_g7_0, g3_g7_0, k3_g7_1, g3_g7_1, k3_g7_2, g3_g7_2, k3_g10_0, g3_g10_0, k3_g10_1, g3_g10_1, k3_g10_2, g3_g10_2, k3_g11_0, g3_g11_0, k3_g11_1, g3_g11_1, k3_g11_2, g3_g11_2, k3_g12_0, g3_g12_0, k3_g12_1, g3_g12_1, k3_g12_2, g3_g12_2, k3_g12_3, g3_g12_3, k3_g12_4, g3_g12_4, k3_g12_5, g3_g12_5, B3, z3⟩ gg
      simp only [List.take_succ_cons, List.take_zero, List.drop_succ_cons, List.drop_zero, List.cons_append, List.nil_append, List.append_nil]
      refine obe_val (by rfl) ?_ ?_
      · clear k3_b6_0 g3_b6_0 k3_b6_1 g3_b6_1 k3_b6_2 g3_b6_2 k3_g7_0 g3_g7_0 k3_g7_1 g3_g7_1 k3_g7_2 g3_g7_2 k3_g10_0 g3_g10_0 k3_g10_1 g3_g10_1 k3_g10_2 g3_g10_2 k3_g11_0 g3_g11_0 k3_g11_1 g3_g11_1 k3_g11_2 g3_g11_2 k3_g12_0 g3_g12_0 k3_g12_1 g3_g12_1 k3_g12_2 g3_g12_2 k3_g12_3 g3_g12_3 k3_g12_4 g3_g12_4 k3_g12_5 g3_g12_5 B3 z3; intro f hf; have u14 : f 14 = (.int .i64 n2) := (by rw [← hf]; rfl); clear hf; rintro w' ⟨h0, h1, h2, h3, h4, h5, h6, h7, h8, h9, h10, h11, h12, h13, h14, h15, h16, h17, h18, h19, h20, h21, h22, h23, h24, h25, h26, h27, h28, h29, h30, h31, h32, h33, h34, h35⟩; go_simp; try exact IntWalk.i64_in _ (by omega)
      refine obe_val (by rfl) ?_ ?_
      · clear k3_b6_0 g3_b6_0 k3_b6_1 g3_b6_1 k3_b6_2 g3_b6_2 k3_g7_0 g3_g7_0 k3_g7_1 g3_g7_1 k3_g7_2 g3_g7_2 k3_g10_0 g3_g10_0 k3_g10_1 g3_g10_1 k3_g10_2 g3_g10_2 k3_g11_0 g3_g11_0 k3_g11_1 g3_g11_1 k3_g11_2 g3_g11_2 k3_g12_0 g3_g12_0 k3_g12_1 g3_g12_1 k3_g12_2 g3_g12_2 k3_g12_3 g3_g12_3 k3_g12_4 g3_g12_4 k3_g12_5 g3_g12_5 B3 z3; intro f hf; have u13 : f 13 = (.int .i64 2) := (by rw [← hf]; rfl); clear hf; rintro w' ⟨h0, h1, h2, h3, h4, h5, h6, h7, h8, h9, h10, h11, h12, h13, h14, h15, h16, h17, h18, h19, h20, h21, h22, h23, h24, h25, h26, h27, h28, h29, h30, h31, h32, h33, h34, h35⟩; go_simp; try exact IntWalk.i64_in _ (by omega)
      refine obe_val (by rfl) ?_ ?_
      · clear k3_b6_0 g3_b6_0 k3_b6_1 g3_b6_1 k3_b6_2 g3_b6_2 k3_g7_0 g3_g7_0 k3_g7_1 g3_g7_1 k3_g7_2 g3_g7_2 k3_g10_0 g3_g10_0 k3_g10_1 g3_g10_1 k3_g10_2 g3_g10_2 k3_g11_0 g3_g11_0 k3_g11_1 g3_g11_1 k3_g11_2 g3_g11_2 k3_g12_0 g3_g12_0 k3_g12_1 g3_g12_1 k3_g12_2 g3_g12_2 k3_g12_3 g3_g12_3 k3_g12_4 g3_g12_4 k3_g12_5 g3_g12_5 B3 z3; intro f hf; have u10 : f 10 = (.pointer (some ⟨g10, 0, none⟩)) := (by rw [← hf]; rfl); have u50 : f 50 = (.int .i64 2) := (by rw [← hf]; rfl); clear hf; rintro w' ⟨h0, h1, h2, h3, h4, h5, h6, h7, h8, h9, h10, h11, h12, h13, h14, h15, h16, h17, h18, h19, h20, h21, h22, h23, h24, h25, h26, h27, h28, h29, h30, h31, h32, h33, h34, h35⟩; go_simp; try exact IntWalk.i64_in _ (by omega)
      refine obe_val (by rfl) ?_ ?_
      · clear k3_b6_0 g3_b6_0 k3_b6_1 g3_b6_1 k3_b6_2 g3_b6_2 k3_g7_0 g3_g7_0 k3_g7_1 g3_g7_1 k3_g7_2 g3_g7_2 k3_g10_0 g3_g10_0 k3_g10_1 g3_g10_1 k3_g10_2 g3_g10_2 k3_g11_0 g3_g11_0 k3_g11_1 g3_g11_1 k3_g11_2 g3_g11_2 k3_g12_0 g3_g12_0 k3_g12_1 g3_g12_1 k3_g12_2 g3_g12_2 k3_g12_3 g3_g12_3 k3_g12_4 g3_g12_4 k3_g12_5 g3_g12_5 B3 z3; intro f hf; have u51 : f 51 = (.pointer (some ⟨g10, 2, none⟩)) := (by rw [← hf]; rfl); clear hf; rintro w' ⟨h0, h1, h2, h3, h4, h5, h6, h7, h8, h9, h10, h11, h12, h13, h14, h15, h16, h17, h18, h19, h20, h21, h22, h23, h24, h25, h26, h27, h28, h29, h30, h31, h32, h33, h34, h35⟩; go_simp; try exact IntWalk.i64_in _ (by omega)
      refine obe_val (by rfl) ?_ ?_
      · clear k3_b6_0 g3_b6_0 k3_b6_1 g3_b6_1 k3_b6_2 g3_b6_2 k3_g7_0 g3_g7_0 k3_g7_1 g3_g7_1 k3_g7_2 g3_g7_2 k3_g10_0 g3_g10_0 k3_g10_1 g3_g10_1 k3_g10_2 g3_g10_2 k3_g11_0 g3_g11_0 k3_g11_1 g3_g11_1 k3_g11_2 g3_g11_2 k3_g12_0 g3_g12_0 k3_g12_1 g3_g12_1 k3_g12_2 g3_g12_2 k3_g12_3 g3_g12_3 k3_g12_4 g3_g12_4 k3_g12_5 g3_g12_5 B3 z3; intro f hf; have u8 : f 8 = (.int .i64 a) := (by rw [← hf]; rfl); clear hf; rintro w' ⟨h0, h1, h2, h3, h4, h5, h6, h7, h8, h9, h10, h11, h12, h13, h14, h15, h16, h17, h18, h19, h20, h21, h22, h23, h24, h25, h26, h27, h28, h29, h30, h31, h32, h33, h34, h35⟩; go_simp; try exact IntWalk.i64_in _ (by omega)
      refine obe_val (by rfl) ?_ ?_
      · clear k3_b6_0 g3_b6_0 k3_b6_1 g3_b6_1 k3_b6_2 g3_b6_2 k3_g7_0 g3_g7_0 k3_g7_1 g3_g7_1 k3_g7_2 g3_g7_2 k3_g10_0 g3_g10_0 k3_g10_1 g3_g10_1 k3_g10_2 g3_g10_2 k3_g11_0 g3_g11_0 k3_g11_1 g3_g11_1 k3_g11_2 g3_g11_2 k3_g12_0 g3_g12_0 k3_g12_1 g3_g12_1 k3_g12_2 g3_g12_2 k3_g12_3 g3_g12_3 k3_g12_4 g3_g12_4 k3_g12_5 g3_g12_5 B3 z3; intro f hf; have u13 : f 13 = (.int .i64 2) := (by rw [← hf]; rfl); clear hf; rintro w' ⟨h0, h1, h2, h3, h4, h5, h6, h7, h8, h9, h10, h11, h12, h13, h14, h15, h16, h17, h18, h19, h20, h21, h22, h23, h24, h25, h26, h27, h28, h29, h30, h31, h32, h33, h34, h35⟩; go_simp; try exact IntWalk.i64_in _ (by omega)
      refine obe_val (by rfl) ?_ ?_
      · clear k3_b6_0 g3_b6_0 k3_b6_1 g3_b6_1 k3_b6_2 g3_b6_2 k3_g7_0 g3_g7_0 k3_g7_1 g3_g7_1 k3_g7_2 g3_g7_2 k3_g10_0 g3_g10_0 k3_g10_1 g3_g10_1 k3_g10_2 g3_g10_2 k3_g11_0 g3_g11_0 k3_g11_1 g3_g11_1 k3_g11_2 g3_g11_2 k3_g12_0 g3_g12_0 k3_g12_1 g3_g12_1 k3_g12_2 g3_g12_2 k3_g12_3 g3_g12_3 k3_g12_4 g3_g12_4 k3_g12_5 g3_g12_5 B3 z3; intro f hf; have u11 : f 11 = (.pointer (some ⟨g11, 0, none⟩)) := (by rw [← hf]; rfl); have u54 : f 54 = (.int .i64 2) := (by rw [← hf]; rfl); clear hf; rintro w' ⟨h0, h1, h2, h3, h4, h5, h6, h7, h8, h9, h10, h11, h12, h13, h14, h15, h16, h17, h18, h19, h20, h21, h22, h23, h24, h25, h26, h27, h28, h29, h30, h31, h32, h33, h34, h35⟩; go_simp; try exact IntWalk.i64_in _ (by omega)
      refine obe_val (by rfl) ?_ ?_
      · clear k3_b6_0 g3_b6_0 k3_b6_1 g3_b6_1 k3_b6_2 g3_b6_2 k3_g7_0 g3_g7_0 k3_g7_1 g3_g7_1 k3_g7_2 g3_g7_2 k3_g10_0 g3_g10_0 k3_g10_1 g3_g10_1 k3_g10_2 g3_g10_2 k3_g11_0 g3_g11_0 k3_g11_1 g3_g11_1 k3_g11_2 g3_g11_2 k3_g12_0 g3_g12_0 k3_g12_1 g3_g12_1 k3_g12_2 g3_g12_2 k3_g12_3 g3_g12_3 k3_g12_4 g3_g12_4 k3_g12_5 g3_g12_5 B3 z3; intro f hf; have u55 : f 55 = (.pointer (some ⟨g11, 2, none⟩)) := (by rw [← hf]; rfl); clear hf; rintro w' ⟨h0, h1, h2, h3, h4, h5, h6, h7, h8, h9, h10, h11, h12, h13, h14, h15, h16, h17, h18, h19, h20, h21, h22, h23, h24, h25, h26, h27, h28, h29, h30, h31, h32, h33, h34, h35⟩; go_simp; try exact IntWalk.i64_in _ (by omega)
      refine obe_val (by rfl) ?_ ?_
      · clear k3_b6_0 g3_b6_0 k3_b6_1 g3_b6_1 k3_b6_2 g3_b6_2 k3_g7_0 g3_g7_0 k3_g7_1 g3_g7_1 k3_g7_2 g3_g7_2 k3_g10_0 g3_g10_0 k3_g10_1 g3_g10_1 k3_g10_2 g3_g10_2 k3_g11_0 g3_g11_0 k3_g11_1 g3_g11_1 k3_g11_2 g3_g11_2 k3_g12_0 g3_g12_0 k3_g12_1 g3_g12_1 k3_g12_2 g3_g12_2 k3_g12_3 g3_g12_3 k3_g12_4 g3_g12_4 k3_g12_5 g3_g12_5 B3 z3; intro f hf; have u9 : f 9 = (.int .i64 d) := (by rw [← hf]; rfl); clear hf; rintro w' ⟨h0, h1, h2, h3, h4, h5, h6, h7, h8, h9, h10, h11, h12, h13, h14, h15, h16, h17, h18, h19, h20, h21, h22, h23, h24, h25, h26, h27, h28, h29, h30, h31, h32, h33, h34, h35⟩; go_simp; try exact IntWalk.i64_in _ (by omega)
      refine obe_call (by rfl) ?_ ?_ ?_
      · clear k3_b6_0 g3_b6_0 k3_b6_1 g3_b6_1 k3_b6_2 g3_b6_2 k3_g7_0 g3_g7_0 k3_g7_1 g3_g7_1 k3_g7_2 g3_g7_2 k3_g10_0 g3_g10_0 k3_g10_1 g3_g10_1 k3_g10_2 g3_g10_2 k3_g11_0 g3_g11_0 k3_g11_1 g3_g11_1 k3_g11_2 g3_g11_2 k3_g12_0 g3_g12_0 k3_g12_1 g3_g12_1 k3_g12_2 g3_g12_2 k3_g12_3 g3_g12_3 k3_g12_4 g3_g12_4 k3_g12_5 g3_g12_5 B3 z3; intro f hf; have u52 : f 52 = (.int .i64 b) := (by rw [← hf]; rfl); have u53 : f 53 = (.int .i64 a) := (by rw [← hf]; rfl); have u56 : f 56 = (.int .i64 u) := (by rw [← hf]; rfl); have u57 : f 57 = (.int .i64 d) := (by rw [← hf]; rfl); clear hf; intro w' _; simp only [execOp, resolve, invoke, rhoF_tmp, rhoF_func, rhoF_const, u52, u53, u56, u57, List.map_toArray, List.map_cons, List.map_nil]; go_simp
      · clear k3_b6_0 g3_b6_0 k3_b6_1 g3_b6_1 k3_b6_2 g3_b6_2 k3_g7_0 g3_g7_0 k3_g7_1 g3_g7_1 k3_g7_2 g3_g7_2 k3_g10_0 g3_g10_0 k3_g10_1 g3_g10_1 k3_g10_2 g3_g10_2 k3_g11_0 g3_g11_0 k3_g11_1 g3_g11_1 k3_g11_2 g3_g11_2 k3_g12_0 g3_g12_0 k3_g12_1 g3_g12_1 k3_g12_2 g3_g12_2 k3_g12_3 g3_g12_3 k3_g12_4 g3_g12_4 k3_g12_5 g3_g12_5 B3 z3; rintro w' ⟨h0, h1, h2, h3, h4, h5, h6, h7, h8, h9, h10, h11, h12, h13, h14, h15, h16, h17, h18, h19, h20, h21, h22, h23, h24, h25, h26, h27, h28, h29, h30, h31, h32, h33, h34, h35⟩; exact (cu2 _).mono (by rintro e w2 ⟨rfl, rfl⟩; exact ⟨rfl, Below.refl _ _⟩)
      refine obe_val (by rfl) ?_ ?_
      · clear k3_b6_0 g3_b6_0 k3_b6_1 g3_b6_1 k3_b6_2 g3_b6_2 k3_g7_0 g3_g7_0 k3_g7_1 g3_g7_1 k3_g7_2 g3_g7_2 k3_g10_0 g3_g10_0 k3_g10_1 g3_g10_1 k3_g10_2 g3_g10_2 k3_g11_0 g3_g11_0 k3_g11_1 g3_g11_1 k3_g11_2 g3_g11_2 k3_g12_0 g3_g12_0 k3_g12_1 g3_g12_1 k3_g12_2 g3_g12_2 k3_g12_3 g3_g12_3 k3_g12_4 g3_g12_4 k3_g12_5 g3_g12_5 B3 z3; intro f hf; have u15 : f 15 = (.int .i64 e2) := (by rw [← hf]; rfl); clear hf; rintro w' ⟨h0, h1, h2, h3, h4, h5, h6, h7, h8, h9, h10, h11, h12, h13, h14, h15, h16, h17, h18, h19, h20, h21, h22, h23, h24, h25, h26, h27, h28, h29, h30, h31, h32, h33, h34, h35⟩; go_simp; try exact IntWalk.i64_in _ (by omega)
      refine obe_val (by rfl) ?_ ?_
      · clear k3_b6_0 g3_b6_0 k3_b6_1 g3_b6_1 k3_b6_2 g3_b6_2 k3_g7_0 g3_g7_0 k3_g7_1 g3_g7_1 k3_g7_2 g3_g7_2 k3_g10_0 g3_g10_0 k3_g10_1 g3_g10_1 k3_g10_2 g3_g10_2 k3_g11_0 g3_g11_0 k3_g11_1 g3_g11_1 k3_g11_2 g3_g11_2 k3_g12_0 g3_g12_0 k3_g12_1 g3_g12_1 k3_g12_2 g3_g12_2 k3_g12_3 g3_g12_3 k3_g12_4 g3_g12_4 k3_g12_5 g3_g12_5 B3 z3; intro f hf; have u58 : f 58 = (.int .i64 v2) := (by rw [← hf]; rfl); have u59 : f 59 = (.int .i64 e2) := (by rw [← hf]; rfl); clear hf; rintro w' ⟨h0, h1, h2, h3, h4, h5, h6, h7, h8, h9, h10, h11, h12, h13, h14, h15, h16, h17, h18, h19, h20, h21, h22, h23, h24, h25, h26, h27, h28, h29, h30, h31, h32, h33, h34, h35⟩; go_simp; try exact IntWalk.i64_in _ (by omega)
      refine obe_val (by rfl) ?_ ?_
      · clear k3_b6_0 g3_b6_0 k3_b6_1 g3_b6_1 k3_b6_2 g3_b6_2 k3_g7_0 g3_g7_0 k3_g7_1 g3_g7_1 k3_g7_2 g3_g7_2 k3_g10_0 g3_g10_0 k3_g10_1 g3_g10_1 k3_g10_2 g3_g10_2 k3_g11_0 g3_g11_0 k3_g11_1 g3_g11_1 k3_g11_2 g3_g11_2 k3_g12_0 g3_g12_0 k3_g12_1 g3_g12_1 k3_g12_2 g3_g12_2 k3_g12_3 g3_g12_3 k3_g12_4 g3_g12_4 k3_g12_5 g3_g12_5 B3 z3; intro f hf; have u49 : f 49 = (.int .i64 n2) := (by rw [← hf]; rfl); have u60 : f 60 = (.int .i64 p2) := (by rw [← hf]; rfl); clear hf; rintro w' ⟨h0, h1, h2, h3, h4, h5, h6, h7, h8, h9, h10, h11, h12, h13, h14, h15, h16, h17, h18, h19, h20, h21, h22, h23, h24, h25, h26, h27, h28, h29, h30, h31, h32, h33, h34, h35⟩; go_simp; try exact IntWalk.i64_in _ (by omega)
      refine obe_nil ?_
      rintro w4 ⟨h0, h1, h2, h3, h4, h5, h6, h7, h8, h9, h10, h11, h12, h13, h14, h15, h16, h17, h18, h19, h20, h21, h22, h23, h24, h25, h26, h27, h28, h29, h30, h31, h32, h33, h34, h35⟩ hb4 hF
      (try simp only [List.nil_append, List.append_nil, List.cons_append] at hF)
      simp only [puts, putD, Act.put, List.setIfInBounds_toArray, List.set_cons_zero, List.set_cons_succ]
      clear hF
      have k4_b6_0 := bcs hb4 k3_b6_0
      have g4_b6_0 := bfs hb4 k3_b6_0 g3_b6_0
      have k4_b6_1 := bcs hb4 k3_b6_1
      have g4_b6_1 := bfs hb4 k3_b6_1 g3_b6_1
      have k4_b6_2 := bcs hb4 k3_b6_2
      have g4_b6_2 := bfs hb4 k3_b6_2 g3_b6_2
      have k4_g7_0 := bcs hb4 k3_g7_0
      have g4_g7_0 := bfs hb4 k3_g7_0 g3_g7_0
      have k4_g7_1 := bcs hb4 k3_g7_1
      have g4_g7_1 := bfs hb4 k3_g7_1 g3_g7_1
      have k4_g7_2 := bcs hb4 k3_g7_2
      have g4_g7_2 := bfs hb4 k3_g7_2 g3_g7_2
      have k4_g10_0 := bcs hb4 k3_g10_0
      have g4_g10_0 := bfs hb4 k3_g10_0 g3_g10_0
      have k4_g10_1 := bcs hb4 k3_g10_1
      have g4_g10_1 := bfs hb4 k3_g10_1 g3_g10_1
      have k4_g10_2 := bcs hb4 k3_g10_2
      have g4_g10_2 := bfs hb4 k3_g10_2 g3_g10_2
      have k4_g11_0 := bcs hb4 k3_g11_0
      have g4_g11_0 := bfs hb4 k3_g11_0 g3_g11_0
      have k4_g11_1 := bcs hb4 k3_g11_1
      have g4_g11_1 := bfs hb4 k3_g11_1 g3_g11_1
      have k4_g11_2 := bcs hb4 k3_g11_2
      have g4_g11_2 := bfs hb4 k3_g11_2 g3_g11_2
      have k4_g12_0 := bcs hb4 k3_g12_0
      have g4_g12_0 := bfs hb4 k3_g12_0 g3_g12_0
      have k4_g12_1 := bcs hb4 k3_g12_1
      have g4_g12_1 := bfs hb4 k3_g12_1 g3_g12_1
      have k4_g12_2 := bcs hb4 k3_g12_2
      have g4_g12_2 := bfs hb4 k3_g12_2 g3_g12_2
      have k4_g12_3 := bcs hb4 k3_g12_3
      have g4_g12_3 := bfs hb4 k3_g12_3 g3_g12_3
      have k4_g12_4 := bcs hb4 k3_g12_4
      have g4_g12_4 := bfs hb4 k3_g12_4 g3_g12_4
      have k4_g12_5 := bcs hb4 k3_g12_5
      have g4_g12_5 := bfs hb4 k3_g12_5 g3_g12_5
      clear h0 h1 h2 h3 h4 h5 h6 h7 h8 h9 h10 h11 h12 h13 h14 h15 h16 h17 h18 h19 h20 h21 h22 h23 h24 h25 h26 h27 h28 h29 h30 h31 h32 h33 h34 h35
      have B4 := bel_step B3 hb4
      have z4 := Nat.le_trans z3 hb4.size
      clear hb4
      (try clear B3)
      (try clear z3)
      (try clear k3_b6_0)
      (try clear g3_b6_0)
      (try clear k3_b6_1)
      (try clear g3_b6_1)
      (try clear k3_b6_2)
      (try clear g3_b6_2)
      (try clear k3_g7_0)
      (try clear g3_g7_0)
      (try clear k3_g7_1)
      (try clear g3_g7_1)
      (try clear k3_g7_2)
      (try clear g3_g7_2)
      (try clear k3_g10_0)
      (try clear g3_g10_0)
      (try clear k3_g10_1)
      (try clear g3_g10_1)
      (try clear k3_g10_2)
      (try clear g3_g10_2)
      (try clear k3_g11_0)
      (try clear g3_g11_0)
      (try clear k3_g11_1)
      (try clear g3_g11_1)
      (try clear k3_g11_2)
      (try clear g3_g11_2)
      (try clear k3_g12_0)
      (try clear g3_g12_0)
      (try clear k3_g12_1)
      (try clear g3_g12_1)
      (try clear k3_g12_2)
      (try clear g3_g12_2)
      (try clear k3_g12_3)
      (try clear g3_g12_3)
      (try clear k3_g12_4)
      (try clear g3_g12_4)
      (try clear k3_g12_5)
      (try clear g3_g12_5)
      (try clear q3_b6)
      (try clear x3_b6)
      (try clear y3_b6)
      (try clear q3_g7)
      (try clear x3_g7)
      (try clear y3_g7)
      (try clear q3_g10)
      (try clear x3_g10)
      (try clear y3_g10)
      (try clear q3_g11)
      (try clear x3_g11)
      (try clear y3_g11)
      (try clear q3_g12)
      (try clear x3_g12)
      (try clear y3_g12)
      have q4_b6 : w.heap.size + 1 + 1 < w4.heap.size := qlt k4_b6_0
      have x4_b6 : ¬ w.heap.size + 1 + 1 = w4.heap.size := qne k4_b6_0
      have y4_b6 : ¬ w4.heap.size = w.heap.size + 1 + 1 := fun h => qne k4_b6_0 h.symm
      have q4_g7 : (w.heap.size + 1 + 1 + 1) < w4.heap.size := qlt k4_g7_0
      have x4_g7 : ¬ (w.heap.size + 1 + 1 + 1) = w4.heap.size := qne k4_g7_0
      have y4_g7 : ¬ w4.heap.size = (w.heap.size + 1 + 1 + 1) := fun h => qne k4_g7_0 h.symm
      have q4_g10 : g10 < w4.heap.size := qlt k4_g10_0
      have x4_g10 : ¬ g10 = w4.heap.size := qne k4_g10_0
      have y4_g10 : ¬ w4.heap.size = g10 := fun h => qne k4_g10_0 h.symm
      have q4_g11 : g11 < w4.heap.size := qlt k4_g11_0
      have x4_g11 : ¬ g11 = w4.heap.size := qne k4_g11_0
      have y4_g11 : ¬ w4.heap.size = g11 := fun h => qne k4_g11_0 h.symm
      have q4_g12 : g12 < w4.heap.size := qlt k4_g12_0
      have x4_g12 : ¬ g12 = w4.heap.size := qne k4_g12_0
      have y4_g12 : ¬ w4.heap.size = g12 := fun h => qne k4_g12_0 h.symm
      go_wp2
      go_roundw
      case rel => exact ⟨z0, z1, z2, ⟨by first | with_reducible assumption | go_simp, by first | with_reducible assumption | go_simp, by first | with_reducible assumption | go_simp, by first | with_reducible assumption | go_simp, by first | with_reducible assumption | go_simp, by first | with_reducible assumption | go_simp, by first | with_reducible assumption | go_simp, by first | with_reducible assumption | go_simp, by first | with_reducible assumption | go_simp, by first | with_reducible assumption | go_simp, by first | with_reducible assumption | go_simp, by first | with_reducible assumption | go_simp, by first | with_reducible assumption | go_simp, by first | with_reducible assumption | go_simp, by first | with_reducible assumption | go_simp, by first | with_reducible assumption | go_simp, by first | with_reducible assumption | go_simp, by first | with_reducible assumption | go_simp, by first | with_reducible assumption | go_simp, by first | with_reducible assumption | go_simp, by first | with_reducible assumption | go_simp, by first | with_reducible assumption | go_simp, by first | with_reducible assumption | go_simp, by first | with_reducible assumption | go_simp, by first | with_reducible assumption | go_simp, by first | with_reducible assumption | go_simp, by first | with_reducible assumption | go_simp, by first | with_reducible assumption | go_simp, by first | with_reducible assumption | go_simp, by first | with_reducible assumption | go_simp, by first | with_reducible assumption | go_simp, by first | with_reducible assumption | go_simp, by first | with_reducible assumption | go_simp, by first | with_reducible assumption | go_simp, by first | with_reducible assumption | go_simp, by first | with_reducible assumption | go_simp, by repeat (first | with_reducible exact Below.refl _ _ | with_reducible exact bel_step hB B4 | with_reducible apply below_drewN | with_reducible apply Below.drew | (with_reducible refine Below.alloc ?_ (by first | (simp; done) | (simp; omega) | omega) _) | (with_reducible refine Below.setCell ?_ (by first | (simp; done) | (simp; omega) | omega) _))⟩, .inr (.inr (.inr (⟨rfl, rfl, rfl, rfl⟩)))⟩
      case measure => simp [intOf]
    · have hsz := hB.size
      go_wp2
      refine bodyPost_ret (v := .agg #[.int .u8 z0, .int .u8 z1, .int .u8 z2]) (by simp [results, Try.results37, go_sem, *]) rfl ⟨rfl, ?_⟩
      repeat (first | with_reducible exact hB | with_reducible apply below_drewN | with_reducible apply Below.drew | (with_reducible refine Below.alloc ?_ (by first | (simp; done) | (simp; omega) | omega) _) | (with_reducible refine Below.setCell ?_ (by first | (simp; done) | (simp; omega) | omega) _))
end Go.Proofs.Ytgaabdidddglhaa
