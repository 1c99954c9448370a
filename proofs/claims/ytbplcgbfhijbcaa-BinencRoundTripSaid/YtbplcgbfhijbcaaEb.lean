import Derived.Test.YtbplcgbfhijbcaaEa
namespace Go.Proofs.Ytbplcgbfhijbcaa
open Go.RowKit
set_option linter.unusedVariables false
set_option linter.unusedSimpArgs false
/-- Wrapping to 64 bits. -/
def wrp (x : Int) : Int := (x + 9223372036854775808) % 18446744073709551616 - 9223372036854775808
theorem wr_in (x : Int) : -9223372036854775808 ≤ wrp x ∧ wrp x ≤ 9223372036854775807 := by unfold wrp; omega
theorem wr_id {x : Int} (h0 : -9223372036854775808 ≤ x) (h1 : x ≤ 9223372036854775807) : wrp x = x := by unfold wrp; omega
theorem wr_back {x y : Int} (h0 : -9223372036854775808 ≤ x) (h1 : x ≤ 9223372036854775807) : wrp (y + wrp (x - y)) = x := by unfold wrp; omega
theorem wr_forth {d y : Int} (h0 : -9223372036854775808 ≤ d) (h1 : d ≤ 9223372036854775807) : wrp (wrp (y + d) - y) = d := by unfold wrp; omega
/-- Every number is an int's. -/
def In64 (l : List Int) : Prop := ∀ x ∈ l, -9223372036854775808 ≤ x ∧ x ≤ 9223372036854775807
/-- The delta coding without its count. -/
def denc : Int → List Int → List (BitVec 8)
  | _, [] => []
  | last, x :: t => putU (zz (wrp (x - last))) ++ denc x t
def putI (l : List Int) : List (BitVec 8) := putU l.length ++ denc 0 l
/-- The decoding of n deltas from p on. -/
def idec (b : List (BitVec 8)) : Nat → Nat → Int → List Int → List Int × Nat × Nat
  | 0, p, _, acc => (acc, p, 0)
  | n + 1, p, last, acc => if uvE (b.drop p) ≠ 0 then ([], 0, uvE (b.drop p)) else idec b n (p + uvN (b.drop p)) (wrp (last + unzz (uvV (b.drop p)))) (acc ++ [wrp (last + unzz (uvV (b.drop p)))])
theorem idec_zero (b : List (BitVec 8)) (p : Nat) (last : Int) (acc : List Int) : idec b 0 p last acc = (acc, p, 0) := rfl
theorem idec_bad {b : List (BitVec 8)} {n p : Nat} {last : Int} {acc : List Int} (h : uvE (b.drop p) ≠ 0) : idec b (n + 1) p last acc = ([], 0, uvE (b.drop p)) := by rw [idec, if_pos h]
theorem idec_ok {b : List (BitVec 8)} {n p : Nat} {last : Int} {acc : List Int} (h : uvE (b.drop p) = 0) : idec b (n + 1) p last acc = idec b n (p + uvN (b.drop p)) (wrp (last + unzz (uvV (b.drop p)))) (acc ++ [wrp (last + unzz (uvV (b.drop p)))]) := by rw [idec, if_neg (by omega)]
theorem drop_app {b m r : List (BitVec 8)} {p : Nat} (h : b.drop p = m ++ r) : b.drop (p + m.length) = r := by
  rw [← List.drop_drop, h, List.drop_left]
theorem idec_denc (b r : List (BitVec 8)) (l : List Int) : ∀ (p : Nat) (last : Int) (acc : List Int), In64 l → b.drop p = denc last l ++ r → idec b l.length p last acc = (acc ++ l, p + (denc last l).length, 0) := by
  induction l with
  | nil => intro p last acc _ h; simp [idec, denc]
  | cons x t ih =>
    intro p last acc hi h
    obtain ⟨h0, h1⟩ := hi x (by simp)
    have hz := wr_in (x - last)
    rw [denc, List.append_assoc] at h
    obtain ⟨e1, e2, e3⟩ := uv_putU (zz (wrp (x - last))) (zz_lt hz.1 hz.2) (denc x t ++ r)
    rw [← h] at e1 e2 e3
    rw [List.length_cons, idec_ok e1, e2, e3, unzz_zz, wr_back h0 h1, ih _ x _ (fun y hy => hi y (by simp [hy])) (drop_app h)]
    simp [denc, Nat.add_assoc]
theorem idec_len {b : List (BitVec 8)} {v : List Int} {q : Nat} : ∀ (n p : Nat) (last : Int) (acc : List Int), idec b n p last acc = (v, q, 0) → v.length = acc.length + n ∧ (p ≤ b.length → q ≤ b.length) := by
  intro n
  induction n with
  | zero => intro p last acc h; rw [idec_zero] at h; injection h with h1 h2; injection h2 with h2 h3; subst h1 h2; exact ⟨rfl, id⟩
  | succ n ih =>
    intro p last acc h
    by_cases he : uvE (b.drop p) = 0
    · rw [idec_ok he] at h
      obtain ⟨h1, h2⟩ := ih _ _ _ h
      rw [List.length_append, List.length_singleton] at h1
      refine ⟨by omega, fun hp => h2 ?_⟩
      have := uvE_len _ he
      rw [List.length_drop] at this
      omega
    · rw [idec_bad he] at h
      injection h with h1 h2
      injection h2 with h2 h3
      exact absurd h3 he
theorem idec_canon {b : List (BitVec 8)} {v : List Int} {q : Nat} : ∀ (n p : Nat) (last : Int) (acc : List Int), -9223372036854775808 ≤ last → last ≤ 9223372036854775807 → idec b n p last acc = (v, q, 0) → ∃ l, v = acc ++ l ∧ l.length = n ∧ In64 l ∧ b.drop p = denc last l ++ b.drop q ∧ q = p + (denc last l).length := by
  intro n
  induction n with
  | zero => intro p last acc _ _ h; rw [idec_zero] at h; injection h with h1 h2; injection h2 with h2 h3; subst h1 h2; exact ⟨[], by simp, rfl, fun x hx => (by simp at hx), by simp [denc], by simp [denc]⟩
  | succ n ih =>
    intro p last acc hl0 hl1 h
    by_cases he : uvE (b.drop p) = 0
    · rw [idec_ok he] at h
      have hr := wr_in (last + unzz (uvV (b.drop p)))
      obtain ⟨l, e1, e2, e3, e4, e5⟩ := ih _ _ _ hr.1 hr.2 h
      have hu := unzz_in (uvV_lt _ he)
      have hp := putU_uv _ he
      have hlen := uvE_len _ he
      have hN : (putU (uvV (b.drop p))).length = uvN (b.drop p) := by rw [hp, List.length_take, Nat.min_eq_left hlen]
      refine ⟨wrp (last + unzz (uvV (b.drop p))) :: l, by rw [e1]; simp, by simp [e2], fun x hx => ?_, ?_, ?_⟩
      · rcases List.mem_cons.1 hx with h | h
        · rw [h]; exact hr
        · exact e3 x h
      · rw [denc, wr_forth hu.1 hu.2, zz_unzz, hp, List.append_assoc, ← e4, ← List.drop_drop, List.take_append_drop]
      · rw [denc, wr_forth hu.1 hu.2, zz_unzz, List.length_append, hN, e5]; omega
    · rw [idec_bad he] at h
      injection h with h1 h2
      injection h2 with h2 h3
      exact absurd h3 he
/-- The length of the run at the head. -/
def runA (c : BitVec 8) : List (BitVec 8) → Nat
  | [] => 0
  | d :: t => if d = c then runA c t + 1 else 0
theorem runA_len (c : BitVec 8) (l : List (BitVec 8)) : runA c l ≤ l.length := by
  induction l with
  | nil => simp [runA]
  | cons d t ih => simp only [runA]; split <;> simp; omega
theorem runA_take (c : BitVec 8) (l : List (BitVec 8)) : l.take (runA c l) = List.replicate (runA c l) c := by
  induction l with
  | nil => simp [runA]
  | cons d t ih =>
    simp only [runA]; split
    · rename_i h; subst h; simp [List.replicate_succ, ih]
    · simp
theorem runA_stop (c : BitVec 8) (l : List (BitVec 8)) (h : runA c l < l.length) : l[runA c l] ≠ c := by
  induction l with
  | nil => simp at h
  | cons d t ih =>
    by_cases hd : d = c
    · have e : runA c (d :: t) = runA c t + 1 := by simp [runA, hd]
      have h2 : runA c t < t.length := by rw [e] at h; simpa using h
      have := ih h2
      simpa [e] using this
    · have e : runA c (d :: t) = 0 := by simp [runA, hd]
      simpa [e] using hd
theorem runA_is (c : BitVec 8) (l : List (BitVec 8)) (k : Nat) (hk : k ≤ l.length) (h1 : ∀ j (h : j < l.length), j < k → l[j] = c) (h2 : k = l.length ∨ ∃ h : k < l.length, l[k] ≠ c) : runA c l = k := by
  induction l generalizing k with
  | nil => simp at hk; simp [runA, hk]
  | cons d t ih =>
    cases k with
    | zero =>
      rcases h2 with h2 | ⟨_, h2⟩
      · simp at h2
      · simp only [List.getElem_cons_zero] at h2; simp [runA, h2]
    | succ k =>
      have hd : d = c := by have := h1 0 (by simp) (by omega); simpa using this
      have := ih k (by simpa using hk) (fun j h hj => by have := h1 (j + 1) (by simpa using h) (by omega); simpa using this) (by
        rcases h2 with h2 | ⟨h, h2⟩
        · left; simpa using h2
        · right; exact ⟨by simpa using h, by simpa using h2⟩)
      simp [runA, hd, this]
/-- Run-length coding without its count, and the number of runs. -/
def renc : List (BitVec 8) → List (BitVec 8)
  | [] => []
  | c :: t => putU (runA c t + 1) ++ [c] ++ renc (t.drop (runA c t))
termination_by l => l.length
decreasing_by simp; omega
def rcnt : List (BitVec 8) → Nat
  | [] => 0
  | c :: t => rcnt (t.drop (runA c t)) + 1
termination_by l => l.length
decreasing_by simp; omega
theorem renc_nil : renc [] = [] := by rw [renc]
theorem renc_cons (c : BitVec 8) (t : List (BitVec 8)) : renc (c :: t) = putU (runA c t + 1) ++ [c] ++ renc (t.drop (runA c t)) := by rw [renc]
theorem rcnt_nil : rcnt [] = 0 := by rw [rcnt]
theorem rcnt_cons (c : BitVec 8) (t : List (BitVec 8)) : rcnt (c :: t) = rcnt (t.drop (runA c t)) + 1 := by rw [rcnt]
theorem rcnt_le (n : Nat) : ∀ l : List (BitVec 8), l.length ≤ n → rcnt l ≤ l.length := by
  induction n with
  | zero => intro l h; have : l = [] := List.length_eq_zero_iff.1 (by omega); subst this; rw [rcnt_nil]; omega
  | succ n ih =>
    intro l h
    cases l with
    | nil => rw [rcnt_nil]; omega
    | cons c t =>
      rw [rcnt_cons]
      have := ih (t.drop (runA c t)) (by simp at h ⊢; omega)
      simp at this ⊢; omega
def putR (l : List (BitVec 8)) : List (BitVec 8) := putU (rcnt l) ++ renc l
/-- The decoding of n runs from p on. -/
def rdec (b : List (BitVec 8)) (most : Nat) : Nat → Nat → List (BitVec 8) → List (BitVec 8) × Nat × Nat
  | 0, p, acc => (acc, p, 0)
  | n + 1, p, acc =>
    if uvE (b.drop p) ≠ 0 then ([], 0, uvE (b.drop p))
    else if b.length ≤ p + uvN (b.drop p) then ([], 0, 4)
    else if uvV (b.drop p) = 0 ∨ (acc ≠ [] ∧ byA acc (acc.length - 1) = byA b (p + uvN (b.drop p))) then ([], 0, 3)
    else if most - acc.length < uvV (b.drop p) then ([], 0, 5)
    else rdec b most n (p + uvN (b.drop p) + 1) (acc ++ List.replicate (uvV (b.drop p)) (b.getD (p + uvN (b.drop p)) 0#8))
theorem rdec_zero (b : List (BitVec 8)) (most p : Nat) (acc : List (BitVec 8)) : rdec b most 0 p acc = (acc, p, 0) := rfl
theorem rdec_bad {b : List (BitVec 8)} {most n p : Nat} {acc : List (BitVec 8)} (h : uvE (b.drop p) ≠ 0) : rdec b most (n + 1) p acc = ([], 0, uvE (b.drop p)) := by rw [rdec, if_pos h]
theorem rdec_cut {b : List (BitVec 8)} {most n p : Nat} {acc : List (BitVec 8)} (h : uvE (b.drop p) = 0) (h2 : b.length ≤ p + uvN (b.drop p)) : rdec b most (n + 1) p acc = ([], 0, 4) := by rw [rdec, if_neg (by omega), if_pos h2]
theorem rdec_syn {b : List (BitVec 8)} {most n p : Nat} {acc : List (BitVec 8)} (h : uvE (b.drop p) = 0) (h2 : p + uvN (b.drop p) < b.length) (h3 : uvV (b.drop p) = 0 ∨ (acc ≠ [] ∧ byA acc (acc.length - 1) = byA b (p + uvN (b.drop p)))) : rdec b most (n + 1) p acc = ([], 0, 3) := by rw [rdec, if_neg (by omega), if_neg (by omega), if_pos h3]
theorem rdec_lim {b : List (BitVec 8)} {most n p : Nat} {acc : List (BitVec 8)} (h : uvE (b.drop p) = 0) (h2 : p + uvN (b.drop p) < b.length) (h3 : ¬ (uvV (b.drop p) = 0 ∨ (acc ≠ [] ∧ byA acc (acc.length - 1) = byA b (p + uvN (b.drop p))))) (h4 : most - acc.length < uvV (b.drop p)) : rdec b most (n + 1) p acc = ([], 0, 5) := by rw [rdec, if_neg (by omega), if_neg (by omega), if_neg h3, if_pos h4]
theorem rdec_ok {b : List (BitVec 8)} {most n p : Nat} {acc : List (BitVec 8)} (h : uvE (b.drop p) = 0) (h2 : p + uvN (b.drop p) < b.length) (h3 : ¬ (uvV (b.drop p) = 0 ∨ (acc ≠ [] ∧ byA acc (acc.length - 1) = byA b (p + uvN (b.drop p))))) (h4 : uvV (b.drop p) ≤ most - acc.length) : rdec b most (n + 1) p acc = rdec b most n (p + uvN (b.drop p) + 1) (acc ++ List.replicate (uvV (b.drop p)) (b.getD (p + uvN (b.drop p)) 0#8)) := by rw [rdec, if_neg (by omega), if_neg (by omega), if_neg h3, if_neg (by omega)]
theorem byA_last (acc : List (BitVec 8)) (k : Nat) (c : BitVec 8) (h : 0 < k) : byA (acc ++ List.replicate k c) ((acc ++ List.replicate k c).length - 1) = c.toNat := by
  rw [byA_in _ _ (by simp; omega)]
  rw [List.getElem_append_right (by simp; omega)]
  simp
theorem byA_drop (b : List (BitVec 8)) (p k : Nat) : byA (b.drop p) k = byA b (p + k) := by simp [byA, List.getD]
/-- Whether a run may follow. -/
def Joins (acc s : List (BitVec 8)) : Prop := acc = [] ∨ s = [] ∨ byA acc (acc.length - 1) ≠ byA s 0
theorem runA_joins {c : BitVec 8} {k : Nat} {s : List (BitVec 8)} (h : s = [] ∨ c.toNat ≠ byA s 0) : runA c (List.replicate k c ++ s) = k := by
  refine runA_is c _ k (by simp) (fun j hj hk => ?_) ?_
  · rw [List.getElem_append_left (by simpa using hk)]; simp
  · rcases s with _ | ⟨d, t⟩
    · left; simp
    · right
      refine ⟨by simp, ?_⟩
      rw [List.getElem_append_right (by simp)]
      rcases h with h | h
      · cases h
      · simp [byA] at h ⊢
        intro e; subst e; exact h rfl
theorem runA_split (c : BitVec 8) (t : List (BitVec 8)) : c :: t = List.replicate (runA c t + 1) c ++ t.drop (runA c t) := by
  rw [List.replicate_succ, List.cons_append, ← runA_take c t, List.take_append_drop]
theorem runA_joined (c : BitVec 8) (t acc : List (BitVec 8)) : Joins (acc ++ List.replicate (runA c t + 1) c) (t.drop (runA c t)) := by
  rcases Nat.lt_or_ge (runA c t) t.length with h | h
  · right; right
    rw [byA_last _ _ _ (by omega), byA_drop, Nat.add_zero, byA_in _ _ h]
    intro e
    exact runA_stop c t h (BitVec.eq_of_toNat_eq e.symm)
  · right; left; rw [List.drop_eq_nil_iff]; omega
theorem rdec_renc (b r : List (BitVec 8)) (most : Nat) (N : Nat) : ∀ (s : List (BitVec 8)), s.length ≤ N → ∀ (p : Nat) (acc : List (BitVec 8)), s.length < 18446744073709551616 → Joins acc s → acc.length + s.length ≤ most → b.drop p = renc s ++ r → rdec b most (rcnt s) p acc = (acc ++ s, p + (renc s).length, 0) := by
  induction N with
  | zero =>
    intro s hN p acc _ _ _ h
    obtain rfl : s = [] := List.length_eq_zero_iff.1 (by omega)
    rw [rcnt_nil, renc_nil, rdec_zero]; simp
  | succ N ih =>
    intro s hN p acc hl hj hm h
    rcases s with _ | ⟨c, t⟩
    · rw [rcnt_nil, renc_nil, rdec_zero]; simp
    · have hrl := runA_len c t
      simp only [List.length_cons] at hN hl hm
      rw [renc_cons, List.append_assoc, List.append_assoc] at h
      obtain ⟨e1, e2, e3⟩ := uv_putU (runA c t + 1) (by omega) ([c] ++ (renc (t.drop (runA c t)) ++ r))
      rw [← h] at e1 e2 e3
      have hd := drop_app h
      have hlen : (b.drop p).length = (putU (runA c t + 1)).length + (1 + ((renc (t.drop (runA c t))).length + r.length)) := by rw [h]; simp; omega
      rw [List.length_drop] at hlen
      have hpp : p + (putU (runA c t + 1)).length < b.length := by omega
      have hc : b[p + (putU (runA c t + 1)).length] = c := by
        have := List.drop_eq_getElem_cons hpp
        rw [this] at hd
        injection hd
      have hcb : byA b (p + uvN (b.drop p)) = c.toNat := by rw [e3, byA_in _ _ hpp, hc]
      have hcg : b.getD (p + uvN (b.drop p)) 0#8 = c := by rw [e3]; simp [List.getD, hpp, hc]
      rw [rcnt_cons, rdec_ok e1 (by rw [e3]; exact hpp) (by
        rw [e2, hcb]
        rintro (h | ⟨h1, h2⟩)
        · omega
        · rcases hj with h3 | h3 | h3
          · exact h1 h3
          · cases h3
          · exact h3 (by rw [h2]; simp [byA])) (by rw [e2]; omega)]
      rw [e2, hcg, e3, ih (t.drop (runA c t)) (by simp; omega) _ _ (by simp; omega) (runA_joined c t acc) (by simp; omega) (by
        rw [show p + (putU (runA c t + 1)).length + 1 = p + (putU (runA c t + 1) ++ [c]).length by simp [Nat.add_assoc]]
        refine drop_app ?_
        rw [h]; simp)]
      rw [renc_cons, List.append_assoc, ← runA_split]
      simp [Nat.add_assoc]; omega
theorem rdec_canon {b : List (BitVec 8)} {v : List (BitVec 8)} {most q : Nat} : ∀ (n p : Nat) (acc : List (BitVec 8)), rdec b most n p acc = (v, q, 0) → acc.length ≤ most → ∃ s, v = acc ++ s ∧ rcnt s = n ∧ Joins acc s ∧ b.drop p = renc s ++ b.drop q ∧ q = p + (renc s).length ∧ v.length ≤ most := by
  intro n
  induction n with
  | zero => intro p acc h hm; rw [rdec_zero] at h; injection h with h1 h2; injection h2 with h2 h3; subst h1 h2; exact ⟨[], by simp, rcnt_nil, .inr (.inl rfl), by simp [renc_nil], by simp [renc_nil], hm⟩
  | succ n ih =>
    intro p acc h hm
    by_cases he : uvE (b.drop p) = 0
    · by_cases h2 : p + uvN (b.drop p) < b.length
      · by_cases h3 : uvV (b.drop p) = 0 ∨ (acc ≠ [] ∧ byA acc (acc.length - 1) = byA b (p + uvN (b.drop p)))
        · rw [rdec_syn he h2 h3] at h
          injection h with h1 h2
          injection h2 with h2 h3
          exact absurd h3 (by decide)
        · by_cases h4 : uvV (b.drop p) ≤ most - acc.length
          · rw [rdec_ok he h2 h3 h4] at h
            have hg : b.getD (p + uvN (b.drop p)) 0#8 = b[p + uvN (b.drop p)] := by simp [List.getD, h2]
            rw [hg] at h
            obtain ⟨L, hL⟩ : ∃ L, uvV (b.drop p) = L + 1 := ⟨uvV (b.drop p) - 1, by omega⟩
            have hpu := putU_uv _ he
            have hun := uvE_len _ he
            rw [byA_in _ _ h2] at h3
            rw [hL] at h h3 hpu h4
            obtain ⟨s, e1, e2, e3, e4, e5, e6⟩ := ih _ _ h (by simp; omega)
            have hj : s = [] ∨ (b[p + uvN (b.drop p)]).toNat ≠ byA s 0 := by
              rcases e3 with e3 | e3 | e3
              · simp at e3
              · exact .inl e3
              · rw [byA_last _ _ _ (by omega)] at e3; exact .inr e3
            have hru := runA_joins (k := L) hj
            have hlp : (putU (L + 1)).length = uvN (b.drop p) := by rw [hpu, List.length_take]; omega
            refine ⟨b[p + uvN (b.drop p)] :: (List.replicate L b[p + uvN (b.drop p)] ++ s), by rw [e1, List.replicate_succ]; simp, ?_, ?_, ?_, ?_, e6⟩
            · rw [rcnt_cons, hru, List.drop_left' (by simp), e2]
            · rcases Classical.em (acc = []) with h | h
              · exact .inl h
              · refine .inr (.inr fun e => h3 (.inr ⟨h, ?_⟩))
                rw [e]; simp [byA]
            · rw [renc_cons, hru, List.drop_left' (by simp), hpu, List.append_assoc, ← e4, List.append_assoc]
              have : [b[p + uvN (b.drop p)]] ++ b.drop (p + uvN (b.drop p) + 1) = b.drop (p + uvN (b.drop p)) := (List.drop_eq_getElem_cons h2).symm
              rw [this, ← List.drop_drop, List.take_append_drop]
            · rw [renc_cons, hru, List.drop_left' (by simp), e5, List.length_append, List.length_append, hlp]; simp; omega
          · rw [rdec_lim he h2 h3 (by omega)] at h
            injection h with h1 h2
            injection h2 with h2 h3
            exact absurd h3 (by decide)
      · rw [rdec_cut he (by omega)] at h
        injection h with h1 h2
        injection h2 with h2 h3
        exact absurd h3 (by decide)
    · rw [rdec_bad he] at h
      injection h with h1 h2
      injection h2 with h2 h3
      exact absurd h3 he
end Go.Proofs.Ytbplcgbfhijbcaa
