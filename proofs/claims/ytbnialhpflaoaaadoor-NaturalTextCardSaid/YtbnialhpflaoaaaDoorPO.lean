import Derived.Test.YtbnialhpflaoaaaDoorPN
namespace Go.Proofs.YtbnialhpflaoaaaDoor
open Go.RowKit
set_option linter.unusedVariables false
set_option linter.unusedSimpArgs false
theorem str_nil {S : ByteArray} (h : S.data.toList = []) : S = ⟨#[]⟩ := by
  apply ByteArray.ext
  rw [← Array.toArray_toList (xs := S.data), h]
theorem str_get {S : ByteArray} {l : List UInt8} (h : S.data.toList = l) (i : Nat) (hi : i < S.size) (hi2 : i < l.length) : S[i] = l[i] := by
  subst h
  rfl
theorem str_size {S : ByteArray} {l : List UInt8} (h : S.data.toList = l) : S.size = l.length := by
  subst h
  rfl
theorem digs_take {l : List UInt8} {p : Nat} (h : p < l.length) (h1 : digs (l.take p) = true) (h2 : 48 ≤ l[p].toNat) (h3 : l[p].toNat ≤ 57) : digs (l.take (p + 1)) = true := by
  rw [List.take_succ_eq_append_getElem h, digs_append, h1]
  simp [digs, h2, h3]
theorem digs_bad {l : List UInt8} {p : Nat} (h : p < l.length) (h2 : l[p].toNat < 48 ∨ 57 < l[p].toNat) : isDec l = false := by
  rw [Bool.eq_false_iff]
  intro e
  unfold isDec at e
  rw [Bool.and_eq_true] at e
  have := digs_mem e.2 l[p] (List.getElem_mem h)
  omega
theorem isDec_lead {l : List UInt8} (h1 : 1 < l.length) (h : l[0].toNat = 48) : isDec l = false := by
  rw [Bool.eq_false_iff]
  intro e
  rcases l with _ | ⟨c, l⟩
  · simp at h1
  · have hc : c = 48 := UInt8.toNat_inj.1 h
    subst hc
    have h2 : l ≠ [] := by intro h3; subst h3; simp at h1
    simp [isDec, h2] at e
theorem isDec_ok {l : List UInt8} (h0 : 0 < l.length) (h : l.length ≤ 1 ∨ l[0].toNat ≠ 48) (hd : digs l = true) : isDec l = true := by
  rcases l with _ | ⟨c, l⟩
  · simp at h0
  · have hne : ¬ (1 < (c :: l).length ∧ (c :: l).head? = some 48) := by
      rintro ⟨h1, h2⟩
      rcases h with h | h
      · omega
      · apply h
        simp at h2
        rw [h2]
        rfl
    unfold isDec
    rw [hd, Bool.and_true]
    have e1 : (decide (1 < (c :: l).length) && decide ((c :: l).head? = some 48)) = false := by
      rw [Bool.and_eq_false_iff, decide_eq_false_iff_not, decide_eq_false_iff_not]
      rcases Nat.lt_or_ge 1 (c :: l).length with h1 | h1
      · exact .inr fun h2 => hne ⟨h1, h2⟩
      · exact .inl (by omega)
    rw [e1]
    simp
set_option maxRecDepth 50000 in
set_option maxHeartbeats 1000000 in
theorem isdec_any (S : ByteArray) (l : List UInt8) (w : World) (hS : S.data.toList = l) (hl : l.length ≤ 1000000) :
    Calls Tryd.prog 55 #[.string S] w fun e w' => e = .returned (.bool (isDec l)) ∧ w = w' := by
  have hsz := str_size hS
  rcases Nat.eq_zero_or_pos l.length with h0 | h0
  · have hl0 := List.length_eq_zero_iff.1 h0
    subst hl0
    have := str_nil hS
    subst this
    clear hS hsz h0
    go_enter Tryd.func55, Tryd.ntmps55
    go_wp2
    go_ret
    exact ⟨rfl, rfl⟩
  have hne2 : ¬ S.toList = [] := by
    rw [ByteArray.toList_eq, hS]
    intro e
    rw [e] at h0
    simp at h0
  have hne : S.toList.isEmpty = false := by
    cases hq : S.toList with
    | nil => exact absurd hq hne2
    | cons _ _ => rfl
  have g0 := str_get hS 0 (by omega) h0
  obtain ⟨x0, hx0⟩ : ∃ x, l[0].toNat = x := ⟨_, rfl⟩
  have hg0 : (S[0]'(by omega)).toNat = x0 := by rw [g0, hx0]
  have HX0 := Lib.hid hx0
  have HS := Lib.hid hS
  obtain ⟨n, hn⟩ : ∃ n, l.length = n := ⟨_, rfl⟩
  rw [hn] at hsz hl h0
  have HN := Lib.hid hn
  by_cases hb : 1 < n ∧ x0 = 48
  · obtain ⟨b1, b2⟩ := hb
    have hres : Hid (isDec l = false) := isDec_lead (by rw [hn]; exact b1) (by rw [hx0]; exact b2)
    have b3 : decide ((1 : Int) < (n : Int)) = true := by rw [decide_eq_true_iff]; omega
    have b4 : ((x0 : Int) == 48) = true := by rw [b2]; rfl
    rw [hres.out]
    clear hn hx0 g0
    go_enter Tryd.func55, Tryd.ntmps55
    go_wp2
    go_ret
    exact ⟨rfl, rfl⟩
  have hlead : Hid (l.length ≤ 1 ∨ x0 ≠ 48) := by show _ ∨ _; rw [hn]; omega
  have rest : ∀ (K : Prop), K → K := fun _ h => h
  have main : (n ≤ 1 ∨ 1 < n ∧ x0 ≠ 48) := by omega
  clear hn hx0 g0 rest
  have LOOP : True := trivial
  rcases main with hm | ⟨hm, hx48⟩
  · have b3 : decide ((1 : Int) < (n : Int)) = false := by rw [decide_eq_false_iff_not]; omega
    go_enter Tryd.func55, Tryd.ntmps55
    go_wp2
    go_loopw [3, 18] (fun _ i wr => w = wr ∧ ∃ p : Nat, p ≤ n ∧ i = .int .i64 p ∧ Hid (digs (l.take p) = true)) (fun _ i _ => n - (intOf i).toNat)
    case atStart => exact ⟨rfl, 0, Nat.zero_le _, rfl, rfl⟩
    case round =>
      obtain ⟨rfl, p, hp, rfl, hd⟩ := hrel
      by_cases hlt : p < n
      · have hpl : p < l.length := by have := HN.out; omega
        have gp := str_get HS.out p (by omega) hpl
        obtain ⟨x, hx⟩ : ∃ x, l[p].toNat = x := ⟨_, rfl⟩
        have hps : p < S.size := by omega
        have hgp : (S[p]'hps).toNat = x := by rw [gp, hx]
        have hxb : x < 256 := by rw [← hx]; exact l[p].toNat_lt
        have HX := Lib.hid hx
        clear gp hx
        by_cases h1 : x < 48
        · have h1d : decide ((x : Int) < 48) = true := by rw [decide_eq_true_iff]; omega
          have hres : Hid (isDec l = false) := digs_bad hpl (by rw [HX.out]; exact .inl h1)
          go_wp2
          go_ret
          exact ⟨by rw [hres.out]; rfl, rfl⟩
        have h1d : decide ((x : Int) < 48) = false := by rw [decide_eq_false_iff_not]; omega
        by_cases h2 : 57 < x
        · have h2d : decide ((57 : Int) < (x : Int)) = true := by rw [decide_eq_true_iff]; omega
          have hres : Hid (isDec l = false) := digs_bad hpl (by rw [HX.out]; exact .inr h2)
          go_wp2
          go_ret
          exact ⟨by rw [hres.out]; rfl, rfl⟩
        have h2d : decide ((57 : Int) < (x : Int)) = false := by rw [decide_eq_false_iff_not]; omega
        go_wp2
        go_roundw
        case rel => exact ⟨trivial, p + 1, by omega, by go_num, digs_take hpl hd.out (by rw [HX.out]; omega) (by rw [HX.out]; omega)⟩
        case measure => simp [intOf] <;> omega
      · obtain rfl : p = n := by omega
        have hres : Hid (isDec l = true) := isDec_ok (by rw [HN.out]; exact h0) (by rw [HX0.out]; exact hlead.out) (by have := hd.out; rwa [← HN.out, List.take_length] at this)
        go_wp2
        go_ret
        exact ⟨by rw [hres.out]; rfl, rfl⟩
  · have b3 : decide ((1 : Int) < (n : Int)) = true := by rw [decide_eq_true_iff]; omega
    have b4 : ((x0 : Int) == 48) = false := by rw [beq_eq_false_iff_ne]; omega
    go_enter Tryd.func55, Tryd.ntmps55
    go_wp2
    go_loopw [3, 18] (fun _ i wr => w = wr ∧ ∃ p : Nat, p ≤ n ∧ i = .int .i64 p ∧ Hid (digs (l.take p) = true)) (fun _ i _ => n - (intOf i).toNat)
    case atStart => exact ⟨rfl, 0, Nat.zero_le _, rfl, rfl⟩
    case round =>
      obtain ⟨rfl, p, hp, rfl, hd⟩ := hrel
      by_cases hlt : p < n
      · have hpl : p < l.length := by have := HN.out; omega
        have gp := str_get HS.out p (by omega) hpl
        obtain ⟨x, hx⟩ : ∃ x, l[p].toNat = x := ⟨_, rfl⟩
        have hps : p < S.size := by omega
        have hgp : (S[p]'hps).toNat = x := by rw [gp, hx]
        have hxb : x < 256 := by rw [← hx]; exact l[p].toNat_lt
        have HX := Lib.hid hx
        clear gp hx
        by_cases h1 : x < 48
        · have h1d : decide ((x : Int) < 48) = true := by rw [decide_eq_true_iff]; omega
          have hres : Hid (isDec l = false) := digs_bad hpl (by rw [HX.out]; exact .inl h1)
          go_wp2
          go_ret
          exact ⟨by rw [hres.out]; rfl, rfl⟩
        have h1d : decide ((x : Int) < 48) = false := by rw [decide_eq_false_iff_not]; omega
        by_cases h2 : 57 < x
        · have h2d : decide ((57 : Int) < (x : Int)) = true := by rw [decide_eq_true_iff]; omega
          have hres : Hid (isDec l = false) := digs_bad hpl (by rw [HX.out]; exact .inr h2)
          go_wp2
          go_ret
          exact ⟨by rw [hres.out]; rfl, rfl⟩
        have h2d : decide ((57 : Int) < (x : Int)) = false := by rw [decide_eq_false_iff_not]; omega
        go_wp2
        go_roundw
        case rel => exact ⟨trivial, p + 1, by omega, by go_num, digs_take hpl hd.out (by rw [HX.out]; omega) (by rw [HX.out]; omega)⟩
        case measure => simp [intOf] <;> omega
      · obtain rfl : p = n := by omega
        have hres : Hid (isDec l = true) := isDec_ok (by rw [HN.out]; exact h0) (by rw [HX0.out]; exact hlead.out) (by have := hd.out; rwa [← HN.out, List.take_length] at this)
        go_wp2
        go_ret
        exact ⟨by rw [hres.out]; rfl, rfl⟩
end Go.Proofs.YtbnialhpflaoaaaDoor
