
import Derived.Test.YtmelfdajhnbnlaaHe
import Derived.WalkKit
import Derived.WalkSpells
import Derived.WalkLawsBesides
import Derived.Lib.Hide
import Derived.Below
import Derived.Deep.QuietTactic
import Derived.BigQuiet
import Derived.IntWalk
import Derived.Laws.BitsAllLaws
namespace Go.Proofs.Ytmelfdajhnbnlaa
open Go.RowKit
set_option linter.unusedVariables false
set_option linter.unusedSimpArgs false
def hvN (c : UInt8) : Nat := (hexv c).getD 0
theorem hvN_some {c : UInt8} {a : Nat} (h : hexv c = some a) : hvN c = a := by unfold hvN; rw [h]; rfl
theorem hvN_lt (c : UInt8) : hvN c < 16 := by
  unfold hvN
  cases h : hexv c with
  | none => simp
  | some a => exact hexv_lt c a h
set_option maxRecDepth 50000 in
set_option maxHeartbeats 2000000 in
theorem hexDigit_any (c : UInt8) (w : World) : Calls Try.prog 24 #[.int .u8 c.toNat] w fun e w' => e = .returned (.tuple #[.int .u8 (hvN c : Nat), .bool (hexv c).isSome]) ∧ w = w' := by
  obtain ⟨x, hx⟩ : ∃ x, c.toNat = x := ⟨_, rfl⟩
  have hx256 : x < 256 := by rw [← hx]; exact c.toNat_lt
  have hl : hexv c = if 48 ≤ x ∧ x ≤ 57 then some (x - 48) else if 97 ≤ x ∧ x ≤ 102 then some (x - 87) else none := by
    unfold hexv
    rw [hx]
  rw [hx]
  obtain ⟨v, hv⟩ : ∃ v, hvN c = v := ⟨_, rfl⟩
  obtain ⟨b, hb⟩ : ∃ b, (hexv c).isSome = b := ⟨_, rfl⟩
  rw [hv, hb]
  have key : (48 ≤ x ∧ x ≤ 57 ∧ v + 48 = x ∧ b = true) ∨ (97 ≤ x ∧ x ≤ 102 ∧ v + 87 = x ∧ b = true) ∨ ((x < 48 ∨ (57 < x ∧ x < 97) ∨ 102 < x) ∧ v = 0 ∧ b = false) := by
    unfold hvN at hv
    by_cases h1 : 48 ≤ x ∧ x ≤ 57
    · rw [if_pos h1] at hl
      rw [hl] at hv hb
      simp only [Option.getD_some] at hv
      exact .inl ⟨h1.1, h1.2, by omega, by rw [← hb]; rfl⟩
    · by_cases h2 : 97 ≤ x ∧ x ≤ 102
      · rw [if_neg h1, if_pos h2] at hl
        rw [hl] at hv hb
        simp only [Option.getD_some] at hv
        exact .inr (.inl ⟨h2.1, h2.2, by omega, by rw [← hb]; rfl⟩)
      · rw [if_neg h1, if_neg h2] at hl
        rw [hl] at hv hb
        exact .inr (.inr ⟨by omega, hv.symm, by rw [← hb]; rfl⟩)
  clear hx hl hv hb
  rcases key with ⟨g1, g2, g3, rfl⟩ | ⟨g1, g2, g3, rfl⟩ | ⟨g1 | ⟨g1, g2⟩ | g1, rfl, rfl⟩
  · have e1 : IntKind.u8.wrap ((x : Int) - 48) = (v : Int) := by rw [IntKind.wrap_u8]; omega
    have e2 : (x : Int) - 48 = (v : Int) := by omega
    go_enter Try.func24, Try.ntmps24
    go_wp2
    go_ret2
    exact ⟨rfl, rfl⟩
  · obtain ⟨y, hy⟩ : ∃ y, x = y + 39 := ⟨x - 39, by omega⟩
    have e1 : IntKind.u8.wrap ((x : Int) - 39) = (y : Int) := by rw [IntKind.wrap_u8]; omega
    have e3 : (x : Int) - 39 = (y : Int) := by omega
    have e2 : IntKind.u8.wrap ((y : Int) - 48) = (v : Int) := by rw [IntKind.wrap_u8]; omega
    have e4 : (y : Int) - 48 = (v : Int) := by omega
    go_enter Try.func24, Try.ntmps24
    go_wp2
    go_ret2
    exact ⟨rfl, rfl⟩
  all_goals
    go_enter Try.func24, Try.ntmps24
    go_wp2
    go_ret2
    exact ⟨rfl, rfl⟩
/- The digits of a text, one by one. -/
def hvA (l : List UInt8) (k : Nat) : Nat := match l[k]? with | some c => hvN c | none => 0
theorem hvA_at {l : List UInt8} {k : Nat} {c : UInt8} (h : l[k]? = some c) : hvA l k = hvN c := by unfold hvA; rw [h]
def pcN (l : List UInt8) (i j : Nat) : Nat := if 2 * j + 1 < i then 16 * hvA l (2 * j) + hvA l (2 * j + 1) else if 2 * j < i then hvA l (2 * j) else 0
def pcL (l : List UInt8) (m i : Nat) : List Value := (List.range m).map fun j => .int .u8 (pcN l i j : Nat)
theorem pcL_len (l : List UInt8) (m i : Nat) : (pcL l m i).length = m := by simp [pcL]
theorem pcL_get (l : List UInt8) (m i j : Nat) (h : j < m) : (pcL l m i)[j]? = some (.int .u8 (pcN l i j : Nat)) := by
  unfold pcL
  rw [List.getElem?_map, List.getElem?_range h]
  rfl
theorem pcL_zero (l : List UInt8) (m : Nat) : pcL l m 0 = List.replicate m (.int .u8 0) := by
  apply List.ext_getElem?
  intro j
  by_cases h : j < m
  · rw [pcL_get _ _ _ _ h, List.getElem?_replicate, if_pos h]
    simp [pcN]
  · rw [List.getElem?_eq_none (by rw [pcL_len]; omega), List.getElem?_replicate, if_neg h]
theorem pcL_step (l : List UInt8) (m i : Nat) (h : i / 2 < m) : (pcL l m i).set (i / 2) (.int .u8 (pcN l (i + 1) (i / 2) : Nat)) = pcL l m (i + 1) := by
  apply List.ext_getElem?
  intro j
  by_cases hj : j < m
  · rw [pcL_get _ _ _ _ hj]
    by_cases e : i / 2 = j
    · subst e
      rw [List.getElem?_set_self (by rw [pcL_len]; exact h)]
    · rw [List.getElem?_set_ne e, pcL_get _ _ _ _ hj]
      have : pcN l i j = pcN l (i + 1) j := by
        unfold pcN
        have h1 : (2 * j + 1 < i) = (2 * j + 1 < i + 1) := propext ⟨fun _ => by omega, fun _ => by omega⟩
        have h2 : (2 * j < i) = (2 * j < i + 1) := propext ⟨fun _ => by omega, fun _ => by omega⟩
        simp only [h1, h2]
      rw [this]
  · rw [List.getElem?_eq_none (by rw [List.length_set, pcL_len]; omega), List.getElem?_eq_none (by rw [pcL_len]; omega)]
theorem pcN_even (l : List UInt8) (j : Nat) : pcN l (2 * j) j = 0 ∧ pcN l (2 * j + 1) j = hvA l (2 * j) := by
  unfold pcN
  constructor
  · rw [if_neg (by omega), if_neg (by omega)]
  · rw [if_neg (by omega), if_pos (by omega)]
theorem pcN_odd (l : List UInt8) (j : Nat) : pcN l (2 * j + 1) j = hvA l (2 * j) ∧ pcN l (2 * j + 1 + 1) j = 16 * hvA l (2 * j) + hvA l (2 * j + 1) := by
  unfold pcN
  constructor
  · rw [if_neg (by omega), if_pos (by omega)]
  · rw [if_pos (by omega)]
theorem hvA_lt (l : List UInt8) (k : Nat) : hvA l k < 16 := by
  unfold hvA
  split
  · exact hvN_lt _
  · omega
theorem dec_digits : ∀ (n : Nat) (s l : List UInt8), s.length ≤ n → decL s = some l → ∀ c ∈ s, hexv c ≠ none := by
  intro n
  induction n with
  | zero =>
    intro s l hn h c hc
    rw [List.length_eq_zero_iff.1 (Nat.le_zero.1 hn)] at hc
    cases hc
  | succ n ih =>
    intro s l hn h c hc
    rcases s with _ | ⟨x, _ | ⟨y, r⟩⟩
    · cases hc
    · rw [dec_one] at h; cases h
    · rw [dec_two] at h
      cases h1 : hexv x with
      | none => rw [h1] at h; cases h
      | some a =>
        cases h2 : hexv y with
        | none => rw [h1, h2] at h; cases h
        | some b =>
          rw [h1, h2] at h
          simp only at h
          cases h3 : decL r with
          | none => rw [h3] at h; cases h
          | some q =>
            rw [List.length_cons, List.length_cons] at hn
            rcases List.mem_cons.1 hc with rfl | hc
            · rw [h1]; simp
            · rcases List.mem_cons.1 hc with rfl | hc
              · rw [h2]; simp
              · exact ih r q (by omega) h3 c hc
theorem dec_bad {s : List UInt8} {i : Nat} {c : UInt8} (h : s[i]? = some c) (hc : hexv c = none) : decL s = none := by
  cases hd : decL s with
  | none => rfl
  | some l => exact absurd hc (dec_digits _ s l (Nat.le_refl _) hd c (List.mem_of_getElem? h))
theorem dec_odd {s : List UInt8} (h : s.length % 2 ≠ 0) : decL s = none := by
  cases hd : decL s with
  | none => rfl
  | some l =>
    have := dec_len _ s l (Nat.le_refl _) hd
    omega
theorem dec_all : ∀ (m : Nat) (s : List UInt8), s.length = 2 * m → (∀ c ∈ s, hexv c ≠ none) → decL s = some ((List.range m).map fun j => UInt8.ofNat (16 * hvA s (2 * j) + hvA s (2 * j + 1))) := by
  intro m
  induction m with
  | zero =>
    intro s h _
    rw [List.length_eq_zero_iff.1 h]
    rfl
  | succ m ih =>
    intro s h hd
    rcases s with _ | ⟨x, _ | ⟨y, r⟩⟩
    · simp at h
    · simp at h; omega
    · rw [dec_two]
      rw [List.length_cons, List.length_cons] at h
      cases h1 : hexv x with
      | none => exact absurd h1 (hd x (by simp))
      | some a =>
        cases h2 : hexv y with
        | none => exact absurd h2 (hd y (by simp))
        | some b =>
          simp only
          rw [ih r (by omega) fun c hc => hd c (List.mem_cons_of_mem _ (List.mem_cons_of_mem _ hc)), List.range_succ_eq_map]
          simp only [Option.map_some, List.map_cons, List.map_map, Option.some.injEq, List.cons.injEq]
          refine ⟨?_, ?_⟩
          · rw [show hvA (x :: y :: r) (2 * 0) = a from hvN_some h1, show hvA (x :: y :: r) (2 * 0 + 1) = b from hvN_some h2]
          · apply List.map_congr_left
            intro j _
            rfl
theorem pc_end (l : List UInt8) (m : Nat) : pcL l m (2 * m) = Lib.byteCells ((List.range m).map fun j => UInt8.ofNat (16 * hvA l (2 * j) + hvA l (2 * j + 1))) := by
  apply List.ext_getElem?
  intro j
  by_cases hj : j < m
  · rw [pcL_get _ _ _ _ hj]
    have h1 := hvA_lt l (2 * j)
    have h2 := hvA_lt l (2 * j + 1)
    have e : (UInt8.ofNat (16 * hvA l (2 * j) + hvA l (2 * j + 1))).toNat = 16 * hvA l (2 * j) + hvA l (2 * j + 1) := by
      show (BitVec.ofNat 8 _).toNat = _
      rw [BitVec.toNat_ofNat]
      omega
    have e2 : pcN l (2 * m) j = 16 * hvA l (2 * j) + hvA l (2 * j + 1) := by
      unfold pcN
      rw [if_pos (by omega)]
    rw [bc_get (c := UInt8.ofNat (16 * hvA l (2 * j) + hvA l (2 * j + 1))) (by rw [List.getElem?_map, List.getElem?_range hj]; rfl), e, e2]
  · rw [List.getElem?_eq_none (by rw [pcL_len]; omega), List.getElem?_eq_none (by simp [Lib.byteCells]; omega)]
/-- What DecodeHex answers. -/
def HdE (B : Nat) (l : List UInt8) (e : Ending) (w' : World) : Prop :=
  (decL l = none ∧ e = .returned (.tuple #[.slice none 0 0, .int .i64 3])) ∨
  (∃ (xs : List UInt8) (a : Option Addr) (c : Nat), decL l = some xs ∧ e = .returned (.tuple #[.slice a xs.length c, .int .i64 0]) ∧ w'.ownsRow B 5 1 (.slice a xs.length c) xs.length (Lib.byteCells xs))
theorem shl_or (a b : Nat) (ha : a < 16) (hb : b < 16) : bits .or .u8 ((a : Int) * 16) (b : Int) = ((16 * a + b : Nat) : Int) := by
  have key : ∀ x y : Fin 16, bits .or .u8 ((x.val : Int) * 16) (y.val : Int) = ((16 * x.val + y.val : Nat) : Int) := by decide +kernel
  exact key ⟨a, ha⟩ ⟨b, hb⟩
def HdR (w : World) (l : List UInt8) (n m : Nat) (k : Value) (wr : World) : Prop := ∃ i : Nat, i ≤ n ∧ k = .int .i64 i ∧ Hid (∀ c ∈ l.take i, hexv c ≠ none) ∧ wr.ownsRow w.heap.size 5 1 (.slice (some ⟨w.heap.size, 0, none⟩) m m) m (pcL l m i) ∧ Below w.heap.size w wr
set_option maxRecDepth 50000 in
set_option maxHeartbeats 4000000 in
theorem hexdec_any (S : ByteArray) (l : List UInt8) (w : World) (hS : S.data.toList = l) (hl : l.length ≤ 140737488355328) :
    Calls Try.prog 13 #[.string S] w fun e w' => HdE w.heap.size l e w' ∧ Below w.heap.size w w' := by
  have hsz0 := str_size hS
  obtain ⟨n, hn⟩ : ∃ n, l.length = n := ⟨_, rfl⟩
  have hsz : S.size = n := by rw [hsz0, hn]
  have hnb : n ≤ 140737488355328 := by omega
  have HS := Lib.hid hS
  have HN := Lib.hid hn
  clear hS hsz0 hl
  by_cases hodd : n % 2 = 0
  case neg =>
    have hno : Hid (decL l = none) := dec_odd (by rw [hn]; exact hodd)
    have t1 : (n : Int).tmod 2 = 1 := by rw [Int.tmod_eq_emod_of_nonneg (by omega)]; omega
    clear hn
    go_enter Try.func13, Try.ntmps13
    go_wp2
    go_ret2
    exact ⟨.inl ⟨hno.out, rfl⟩, Below.refl _ _⟩
  obtain ⟨m, hm⟩ : ∃ m, n = 2 * m := ⟨n / 2, by omega⟩
  have t1 : (n : Int).tmod 2 = 0 := by rw [Int.tmod_eq_emod_of_nonneg (by omega)]; omega
  have t2 : (n : Int).tdiv 2 = (m : Int) := by rw [Int.tdiv_eq_ediv_of_nonneg (by omega)]; omega
  have t3 : (n : Int) / 2 = (m : Int) := by omega
  have hmk := run_make_row' (P := Try.prog) 43 5 (.int .u8 0) 1 Try.underlying43 infoB rfl .i64 .i64 m (by omega) (by omega)
  have ho1 := own_made w (madeCells #[Value.int .u8 0] m) 5 m (size_madeCells _ _) (by unfold maxLen; omega)
  rw [show (madeCells #[Value.int .u8 0] m).toList = pcL l m 0 from by
    rw [pcL_zero]
    apply List.ext_getElem
    · simp [madeCells]
    · intro i h1 h2
      simp [madeCells, Nat.mod_one]] at ho1
  have hb1 := Below.alloc (Below.refl w.heap.size w) (Nat.le_refl _) (.cells (madeCells #[Value.int .u8 0] m) 5)
  have HM := Lib.hid hm
  clear hn hm
  go_enter Try.func13, Try.ntmps13
  go_wp2
  clear hmk
  go_loopw [5, 6, 7, 18, 21] (fun _ _ _ k _ wr => HdR w l n m k wr) (fun _ _ _ k _ _ => n - (intOf k).toNat)
  case atStart => exact ⟨0, Nat.zero_le _, rfl, (by show ∀ c ∈ _, _; intro c hc; simp at hc), ho1, hb1⟩
  case round =>
    clear ho1 hb1
    obtain ⟨i, hi, rfl, hall, ho, hb⟩ := hrel
    have hz := hb.size
    by_cases hlt : i < n
    · have hil : i < l.length := by have := HN.out; omega
      have his : i < S.size := by omega
      have gp := str_get HS.out i his hil
      obtain ⟨c, hc⟩ : ∃ c, l[i] = c := ⟨_, rfl⟩
      have hci : l[i]? = some c := by rw [List.getElem?_eq_getElem hil, hc]
      obtain ⟨x, hx⟩ : ∃ x, c.toNat = x := ⟨_, rfl⟩
      have hgp : (S[i]'his).toNat = x := by rw [gp, hc, hx]
      have HG := Lib.hid (fun W => by
        have := hexDigit_any c W
        rw [hx] at this
        exact this)
      have HCI := Lib.hid hci
      have hctl : Hid (l.take (i + 1) = l.take i ++ [c]) := by
        show _ = _
        rw [List.take_add_one, hci]
        rfl
      clear gp hc hci hx hil
      cases hv : hexv c with
      | none =>
        have hno : Hid (decL l = none) := dec_bad HCI.out hv
        have HV := Lib.hid hv
        go_wp2_with (go_at_call 24; (with_reducible refine (HG.out _).mono ?_); rintro e w2 ⟨rfl, rfl⟩; rw [hv]; simp only [Option.isSome_none])
        go_ret2
        exact ⟨.inl ⟨hno.out, rfl⟩, hb⟩
      | some a =>
        have ha16 := hexv_lt c a hv
        have hva : hvN c = a := hvN_some hv
        have HVA : Hid (hvA l i = a) := (hvA_at HCI.out).trans hva
        have hall2 : Hid (∀ c ∈ l.take (i + 1), hexv c ≠ none) := by
          show ∀ _ ∈ _, _
          intro b hb
          rw [hctl.out] at hb
          rcases List.mem_append.1 hb with h | h
          · exact hall.out b h
          · simp at h
            rw [h, hv]
            simp
        obtain ⟨j, hj⟩ : ∃ j, i / 2 = j := ⟨_, rfl⟩
        have hm2 := HM.out
        have hjm : j < m := by omega
        have q1 : (i : Int).tdiv 2 = (j : Int) := by rw [Int.tdiv_eq_ediv_of_nonneg (by omega)]; omega
        have q2 : (i : Int) / 2 = (j : Int) := by omega
        obtain ⟨o1, ho1⟩ : ∃ o1, pcN l i j = o1 := ⟨_, rfl⟩
        obtain ⟨v, hvv⟩ : ∃ v, pcN l (i + 1) j = v := ⟨_, rfl⟩
        have hc1 := own_cell ho j _ (pcL_get l m i j hjm)
        have hov : o1 < 16 ∧ 16 * o1 + a = v := by
          have e1 := HVA.out
          rcases Nat.mod_two_eq_zero_or_one i with h2 | h2
          · have hi2 : i = 2 * j := by omega
            have h3 := (pcN_even l j).1
            have h4 := (pcN_even l j).2
            rw [← hi2] at h3 h4
            omega
          · have hi2 : i = 2 * j + 1 := by omega
            have h3 := (pcN_odd l j).1
            have h4 := (pcN_odd l j).2
            have h5 := hvA_lt l (2 * j)
            rw [← hi2] at h3 h4
            omega
        have hset := pcL_step l m i (by omega)
        rw [hj, hvv] at hset
        rw [ho1] at hc1
        have s1 : (o1 : Int) * 16 % 256 = (o1 : Int) * 16 := by omega
        have s2 : IntKind.u8.wrap ((o1 : Int) * 16) = (o1 : Int) * 16 := by rw [IntKind.wrap_u8]; omega
        have s3 : bits .or .u8 ((o1 : Int) * 16) (a : Int) = (v : Int) := by rw [shl_or o1 a hov.1 ha16]; omega
        have hf3 := ho.frozenAt j
        have HSET := Lib.hid hset
        clear hj ho1 hvv hset hm2 hov
        go_wp2_with (go_at_call 24; (with_reducible refine (HG.out _).mono ?_); rintro e w2 ⟨rfl, rfl⟩; rw [hva, hv]; simp only [Option.isSome_some])
        go_roundw
        case rel =>
          have hgs := Lib.grownBy_setCell wr w.heap.size j (.int .u8 (v : Int))
          refine ⟨i + 1, by omega, by go_num, hall2, ?_, hb.grown hgs hz (fun k hk => by cases hk; exact Nat.le_refl _)⟩
          have h2 := own_set ho j (.int .u8 (v : Int))
          rw [HSET.out] at h2
          exact h2
        case measure => simp [intOf] <;> omega
    · obtain rfl : i = n := by omega
      have hres := dec_all m l (by rw [HN.out, ← HM.out]) (fun c hc => hall.out c (by rw [← HN.out, List.take_length]; exact hc))
      rw [HM.out, pc_end] at ho
      have HRES := Lib.hid hres
      have hlen : ((List.range m).map fun j => UInt8.ofNat (16 * hvA l (2 * j) + hvA l (2 * j + 1))).length = m := by simp
      generalize ((List.range m).map fun j => UInt8.ofNat (16 * hvA l (2 * j) + hvA l (2 * j + 1))) = xs at ho HRES hlen
      clear hres
      go_wp2
      go_ret2
      exact ⟨.inr ⟨xs, _, _, HRES.out, by rw [hlen]; rfl, by rw [hlen]; exact ho⟩, hb⟩
end Go.Proofs.Ytmelfdajhnbnlaa
