
import Derived.Test.YtfbgfnebodabpaaHeld
import Derived.Below
namespace Go.Proofs.Ytfbgfnebodabpaa
open Go.RowKit
set_option linter.unusedVariables false
set_option linter.unusedSimpArgs false
/- A region that draws its order, walked once in the order of the text: loads and other readings, calls that leave what is old as it was, new variables; behind them the stores. -/
inductive Sp where
  | val (v : Value)
  | call (f : FuncId) (args : Array Value) (v : Value)
  | fresh (o : Obj)
  | skip
def Sp.get : Sp → Nat → Value
  | .val v, _ => v
  | .call _ _ v, _ => v
  | .fresh _, g => .pointer (some ⟨g, 0, none⟩)
  | .skip, _ => undef
section
variable {P : Program} {ops : Array Oper} {Q : Exit → Act → World → Prop} {md : Region.Mode} {S : World → Prop}

def ob (P : Program) (ops : Array Oper) (S : World → Prop) (o : Oper) (a : Act) : Sp → Prop
  | .val v => Region.wanted o (yielded ops a.tmps) = true ∧ ∀ w, S w → (execOp a.eval o).run P w = .ok (.value v) w
  | .call f args v => Region.wanted o (yielded ops a.tmps) = true ∧ (∀ w, S w → (execOp a.eval o).run P w = .ok (.enter f args) w) ∧ ∀ w, S w → Calls P f args w fun e w' => e = .returned v ∧ Below w.heap.size w w'
  | .fresh obj => Region.wanted o (yielded ops a.tmps) = true ∧ ∀ w, S w → (execOp a.eval o).run P w = .ok (.value (.pointer (some ⟨w.heap.size, 0, none⟩))) (w.alloc obj)
  | .skip => Region.wanted o (yielded ops a.tmps) = false

theorem ob_congr {o : Oper} {a b : Act} {s : Sp} (he : execOp a.eval o = execOp b.eval o) (hw : Region.wanted o (yielded ops a.tmps) = Region.wanted o (yielded ops b.tmps)) (h : ob P ops S o b s) : ob P ops S o a s := by
  cases s <;> simp only [ob] at h ⊢ <;> rw [hw] <;> first | (rw [he]; exact h) | exact h

def dstAt (ops : Array Oper) (k : Nat) : Option Tmp := (ops[k]?).bind (·.dst)
/-- the frame in which the operations of L have come up -/
def fr (ops : Array Oper) (sp : List Sp) (g : Nat → Nat) (L : Nat → Bool) (a : Act) : Nat → Act
  | 0 => a
  | k + 1 => if L k = true then (fr ops sp g L a k).put (dstAt ops k) ((sp.getD k .skip).get (g k)) else fr ops sp g L a k

theorem put_size (a : Act) (d : Option Tmp) (v : Value) : (a.put d v).tmps.size = a.tmps.size := by cases d <;> simp [Act.put]
theorem put_look (a : Act) (d : Tmp) (v : Value) (t : Nat) : (a.put (some d) v).tmps[t]? = if d = t then (if t < a.tmps.size then some v else none) else a.tmps[t]? := by
  simp only [Act.put]
  rw [Array.getElem?_setIfInBounds]
  split
  · rename_i h
    subst h
    rfl
  · rfl

def Agree (T : List Tmp) (a b : Act) : Prop := a.tmps.size = b.tmps.size ∧ ∀ t ∈ T, a.tmps[t]? = b.tmps[t]?
theorem Agree.put {T : List Tmp} {a b : Act} (h : Agree T a b) (d : Option Tmp) (v : Value) : Agree T (a.put d v) (b.put d v) := by
  cases d with
  | none => exact h
  | some d =>
    refine ⟨by rw [put_size, put_size]; exact h.1, fun t ht => ?_⟩
    rw [put_look, put_look, h.1, h.2 t ht]
theorem Agree.put_left {T : List Tmp} {a b : Act} (h : Agree T a b) (d : Option Tmp) (v : Value) (hd : ∀ t, d = some t → t ∉ T) : Agree T (a.put d v) b := by
  cases d with
  | none => exact h
  | some d =>
    refine ⟨by rw [put_size]; exact h.1, fun t ht => ?_⟩
    rw [put_look, if_neg (fun (e : d = t) => hd d rfl (by rw [e]; exact ht)), h.2 t ht]
theorem Agree.put_right {T : List Tmp} {a b : Act} (h : Agree T a b) (d : Option Tmp) (v : Value) (hd : ∀ t, d = some t → t ∉ T) : Agree T a (b.put d v) := by
  cases d with
  | none => exact h
  | some d =>
    refine ⟨by rw [put_size]; exact h.1, fun t ht => ?_⟩
    rw [put_look, if_neg (fun (e : d = t) => hd d rfl (by rw [e]; exact ht)), h.2 t ht]

theorem fr_agree {sp : List Sp} {g : Nat → Nat} {L L' : Nat → Bool} {a : Act} {T : List Tmp} : ∀ (k : Nat), (∀ j, j < k → ∀ d, dstAt ops j = some d → d ∈ T → L j = L' j) → Agree T (fr ops sp g L a k) (fr ops sp g L' a k)
  | 0, _ => ⟨rfl, fun _ _ => rfl⟩
  | k + 1, h => by
    have ih := fr_agree (sp := sp) (g := g) (a := a) k (fun j hj => h j (by omega))
    simp only [fr]
    by_cases hT : ∃ d, dstAt ops k = some d ∧ d ∈ T
    · obtain ⟨d, hd, hm⟩ := hT
      rw [h k (by omega) d hd hm]
      split
      · exact ih.put _ _
      · exact ih
    · have hn : ∀ t, dstAt ops k = some t → t ∉ T := fun t ht hm => hT ⟨t, ht, hm⟩
      split <;> split
      · exact ih.put _ _
      · exact ih.put_left _ _ hn
      · exact ih.put_right _ _ hn
      · exact ih

theorem agree_exec {o : Oper} {a b : Act} (hs : ∀ cs b, o.op ≠ .select cs b) (h : Agree (o.looksAt ops) a b) : execOp a.eval o = execOp b.eval o ∧ Region.wanted o (yielded ops a.tmps) = Region.wanted o (yielded ops b.tmps) := by
  refine ⟨execOp_congr o hs fun x hx => ?_, ?_⟩
  · cases x with
    | tmp t =>
      have := h.2 t (List.mem_append_left _ (List.mem_filterMap.2 ⟨.tmp t, by simpa using hx, rfl⟩))
      simp only [Act.eval]
      first | (rw [this]; done) | (simp [this]; done) | (simp [Array.getD_eq_getD_getElem?, this])
    | _ => rfl
  · unfold Region.wanted
    cases hg : o.guard with
    | none => rfl
    | some gw =>
      obtain ⟨g, want⟩ := gw
      have hy : yielded ops a.tmps g = yielded ops b.tmps g := by
        unfold yielded
        cases ht : (ops[g]?).bind (·.dst) with
        | none => rfl
        | some t =>
          have := h.2 t (by simp [Oper.looksAt, hg, ht])
          simp [this]
      simp only [hy]

theorem fr_g {sp : List Sp} {g g' : Nat → Nat} {L : Nat → Bool} {a : Act} : ∀ (k : Nat), (∀ j, L j = true → g j = g' j) → fr ops sp g L a k = fr ops sp g' L a k
  | 0, _ => rfl
  | k + 1, h => by
    simp only [fr]
    rw [fr_g k h]
    split
    · rename_i hk
      rw [h k hk]
    · rfl
theorem fr_L {sp : List Sp} {g : Nat → Nat} {L L' : Nat → Bool} {a : Act} : ∀ (k : Nat), (∀ j, j < k → L j = L' j) → fr ops sp g L a k = fr ops sp g L' a k
  | 0, _ => rfl
  | k + 1, h => by
    simp only [fr]
    rw [fr_L k (fun j hj => h j (by omega)), h k (by omega)]
/-- one more has come up -/
theorem fr_set {sp : List Sp} {g : Nat → Nat} {L : Nat → Bool} {a : Act} {i : Nat} (hi : L i = false) :
    ∀ (k : Nat), i < k → (∀ j, j < k → j ≠ i → ∀ d, dstAt ops i = some d → dstAt ops j ≠ some d) →
    fr ops sp g (fun j => L j || decide (j = i)) a k = (fr ops sp g L a k).put (dstAt ops i) ((sp.getD i .skip).get (g i))
  | 0, h, _ => by omega
  | k + 1, h, hd => by
    simp only [fr]
    by_cases hk : k = i
    · subst hk
      simp only [hi, decide_true, Bool.or_true, if_true, Bool.false_eq_true, if_false]
      rw [fr_L k (L' := L) (fun j hj => by simp; omega)]
    · have ih := fr_set (sp := sp) (g := g) (a := a) hi k (by omega) (fun j hj => hd j (by omega))
      rw [ih]
      simp only [hk, decide_false, Bool.or_false]
      split
      · exact Act.put_comm _ _ _ (hd k (by omega) hk)
      · rfl

/-- the new variables: apart from what is old and from one another, and each holds what it was made with -/
def Fresh (g : Nat → Nat) (w0 W : World) : List (Nat × Obj) → Prop
  | [] => True
  | p :: r => (w0.heap.size ≤ g p.1 ∧ g p.1 < W.heap.size ∧ W.heap[g p.1]? = some p.2) ∧ (∀ q ∈ r, g p.1 ≠ g q.1) ∧ Fresh g w0 W r
def Sp.news (k : Nat) : Sp → List (Nat × Obj)
  | .fresh o => [(k, o)]
  | _ => []
def Obs (P : Program) (ops : Array Oper) (Q : Exit → Act → World → Prop) (S : World → Prop) (w0 : World) (g : Nat → Nat) (tl : List Oper) : List Oper → List Sp → Nat → List (Nat × Obj) → Act → Prop
  | [], [], _, fs, a => ∀ W, S W → Below w0.heap.size w0 W → Fresh g w0 W fs → wpList P ops Q tl a W
  | o :: os, s :: ss, k, fs, a => ob P ops S o a s ∧ Obs P ops Q S w0 g tl os ss (k + 1) (fs ++ s.news k) (a.put o.dst (s.get (g k)))
  | _, _, _, _, _ => False

theorem obs_at {g : Nat → Nat} {w0 : World} {tl : List Oper} {sp : List Sp} {a : Act} : ∀ (os : List Oper) (ss : List Sp) (k : Nat) (fs : List (Nat × Obj)),
    (∀ j, j < os.length → os[j]? = ops[k + j]?) → (∀ j, ss[j]? = sp[k + j]?) → Obs P ops Q S w0 g tl os ss k fs (fr ops sp g (fun _ => true) a k) →
    os.length = ss.length ∧ (∀ i o, k ≤ i → i < k + os.length → ops[i]? = some o → ob P ops S o (fr ops sp g (fun _ => true) a i) (sp.getD i .skip)) ∧
    (∀ W, S W → Below w0.heap.size w0 W → Fresh g w0 W (fs ++ (List.range' k os.length).flatMap fun i => (sp.getD i .skip).news i) → wpList P ops Q tl (fr ops sp g (fun _ => true) a (k + os.length)) W)
  | [], [], k, fs, _, _, h => ⟨rfl, fun i o h1 h2 => (by simp at h2; omega), by simpa [Obs] using h⟩
  | [], _ :: _, _, _, _, _, h => by simp [Obs] at h
  | _ :: _, [], _, _, _, _, h => by simp [Obs] at h
  | o :: os, s :: ss, k, fs, ho, hs, h => by
    obtain ⟨h1, h2⟩ := h
    have ho0 : ops[k]? = some o := by simpa using (ho 0 (by simp)).symm
    have hs0 : sp[k]? = some s := by simpa using (hs 0).symm
    have hsd : sp.getD k .skip = s := by simp [List.getD_eq_getElem?_getD, hs0]
    have e : fr ops sp g (fun _ => true) a (k + 1) = (fr ops sp g (fun _ => true) a k).put o.dst (s.get (g k)) := by
      simp only [fr, if_true, hsd, dstAt, ho0, Option.bind_some]
    rw [← e] at h2
    obtain ⟨h3, h4, h5⟩ := obs_at (a := a) (sp := sp) os ss (k + 1) _ (fun j hj => by have := ho (j + 1) (by simp; omega); simpa [Nat.add_assoc, Nat.add_comm 1 j] using this) (fun j => by have := hs (j + 1); simpa [Nat.add_assoc, Nat.add_comm 1 j] using this) h2
    refine ⟨by simp [h3], fun i o' hi hi' ho' => ?_, ?_⟩
    · by_cases hik : i = k
      · subst hik
        obtain rfl : o' = o := Option.some.inj (ho'.symm.trans ho0)
        rw [hsd]
        exact h1
      · exact h4 i o' (by omega) (by simp at hi'; omega) ho'
    · have e2 : k + (o :: os).length = k + 1 + os.length := by simp; omega
      have e3 : (fs ++ (List.range' k (o :: os).length).flatMap fun i => (sp.getD i .skip).news i) = (fs ++ s.news k) ++ (List.range' (k + 1) os.length).flatMap fun i => (sp.getD i .skip).news i := by
        rw [List.length_cons, List.range'_succ, List.flatMap_cons, hsd, List.append_assoc]
      rw [e2, e3]
      exact h5

def anyB (md : Region.Mode) (ops : Array Oper) (n : Nat) : Bool :=
  decide (n ≤ ops.size) && Region.noSelect ops && tailB md ops n &&
  ((List.range n).all fun i => match ops[i]? with
    | some o => (o.after.all fun e => !Region.binds md e || decide (e.on < i)) && ((List.range n).all fun j => match dstAt ops j with
        | some d => (!(o.looksAt ops).contains d || (decide (j < i) && Region.waitsFor md ops i j)) && (j == i || dstAt ops i != some d)
        | none => true)
    | none => false) &&
  Region.seqB md ops (ops.size - n) n (Array.replicate n true ++ Array.replicate (ops.size - n) false)

structure Inv (ops : Array Oper) (S : World → Prop) (w0 : World) (sp : List Sp) (n : Nat) (a0 : Act) (L : Nat → Bool) (a : Act) (w : World) : Prop where
  intro ::
  ex : ∃ g : Nat → Nat, a = fr ops sp g L a0 n ∧ (∀ k o, k < n → L k = true → sp.getD k .skip = .fresh o → w0.heap.size ≤ g k ∧ g k < w.heap.size ∧ w.heap[g k]? = some o) ∧
    (∀ j k o o', j < n → k < n → j ≠ k → L j = true → L k = true → sp.getD j .skip = .fresh o → sp.getD k .skip = .fresh o' → g j ≠ g k)
  s : S w
  bel : Below w0.heap.size w0 w

theorem fresh_all {g : Nat → Nat} {w0 W : World} {sp : List Sp} {n : Nat} : ∀ (m k : Nat), k + m = n →
    (∀ j o, j < n → sp.getD j .skip = .fresh o → w0.heap.size ≤ g j ∧ g j < W.heap.size ∧ W.heap[g j]? = some o) →
    (∀ i j o o', i < n → j < n → i ≠ j → sp.getD i .skip = .fresh o → sp.getD j .skip = .fresh o' → g i ≠ g j) →
    Fresh g w0 W ((List.range' k m).flatMap fun i => (sp.getD i .skip).news i)
  | 0, _, _, _, _ => trivial
  | m + 1, k, hk, h1, h2 => by
    have ih := fresh_all m (k + 1) (by omega) h1 h2
    rw [List.range'_succ, List.flatMap_cons]
    cases hs : sp.getD k .skip with
    | fresh o =>
      refine ⟨h1 k o (by omega) hs, fun q hq => ?_, ih⟩
      obtain ⟨i, hi, hq⟩ := List.mem_flatMap.1 hq
      rw [List.mem_range'_1] at hi
      cases hs' : sp.getD i .skip with
      | fresh o' =>
        rw [hs'] at hq
        simp only [Sp.news, List.mem_singleton] at hq
        subst hq
        exact h2 k i o o' (by omega) (by omega) (by omega) hs hs'
      | val v => rw [hs'] at hq; simp [Sp.news] at hq
      | call f as v => rw [hs'] at hq; simp [Sp.news] at hq
      | skip => rw [hs'] at hq; simp [Sp.news] at hq
    | val v => exact ih
    | call f as v => exact ih
    | skip => exact ih

theorem anyB_spec {n : Nat} (h : anyB md ops n = true) : n ≤ ops.size ∧ Region.noSelect ops = true ∧ tailB md ops n = true ∧
    (∀ i, i < n → ∃ o, ops[i]? = some o ∧ (∀ e ∈ o.after, Region.binds md e = true → e.on < i) ∧
      ∀ j, j < n → ∀ d, dstAt ops j = some d → (d ∈ o.looksAt ops → j < i ∧ Region.waitsFor md ops i j = true) ∧ (j = i ∨ dstAt ops i ≠ some d)) ∧
    Region.seqB md ops (ops.size - n) n (Array.replicate n true ++ Array.replicate (ops.size - n) false) = true := by
  simp only [anyB, Bool.and_eq_true, decide_eq_true_eq, List.all_eq_true, List.mem_range] at h
  obtain ⟨⟨⟨⟨h1, h2⟩, h3⟩, h4⟩, h5⟩ := h
  refine ⟨h1, h2, h3, fun i hi => ?_, h5⟩
  have := h4 i hi
  cases ho : ops[i]? with
  | none => rw [ho] at this; cases this
  | some o =>
    rw [ho] at this
    simp only [Bool.and_eq_true, Array.all_eq_true_iff_forall_mem, List.all_eq_true, List.mem_range, Bool.or_eq_true, Bool.not_eq_true', decide_eq_true_eq] at this
    obtain ⟨h6, h7⟩ := this
    refine ⟨o, rfl, fun e he hb => ?_, fun j hj d hd => ?_⟩
    · rcases h6 e he with h | h
      · rw [hb] at h; cases h
      · exact h
    · have h8 := h7 j hj
      rw [hd] at h8
      simp only [Bool.and_eq_true, Bool.or_eq_true, Bool.not_eq_true', decide_eq_true_eq, beq_iff_eq, bne_iff_ne] at h8
      refine ⟨fun hm => ?_, h8.2⟩
      rcases h8.1 with h | h
      · have : (o.looksAt ops).contains d = true := by simpa using hm
        rw [this] at h; cases h
      · exact h

/-- of the head's operations that have not come up, one may come up now -/
theorem head_ready {n : Nat} {listed : Array Bool} (hb : ∀ i, i < n → ∃ o, ops[i]? = some o ∧ ∀ e ∈ o.after, Region.binds md e = true → e.on < i) (hs : listed.size = ops.size) (hn : n ≤ ops.size) :
    ∀ (i : Nat), i < n → listed.getD i false = false → ∃ j, j < n ∧ j ∈ Region.ready md ops listed := by
  intro i
  induction i using Nat.strongRecOn with
  | _ i ih =>
    intro hi hl
    obtain ⟨o, ho, hbk⟩ := hb i hi
    by_cases hall : ∀ e ∈ o.after, Region.binds md e = true → listed.getD e.on false = true
    · exact ⟨i, hi, mem_ready.2 ⟨getD_in (by omega) hl, o, ho, hall⟩⟩
    · simp only [Classical.not_forall] at hall
      obtain ⟨e, he, hbi, hne⟩ := hall
      exact ih e.on (hbk e he hbi) (by have := hbk e he hbi; omega) (by simpa using hne)

theorem wpAny_of_obs {sp : List Sp} {n : Nat} {a0 : Act} {w0 : World} {tl : List Oper} (hB : anyB md ops n = true) (hcl : ∀ w w', S w → Below w.heap.size w w' → S w')
    (hob : ∀ g i o, i < n → ops[i]? = some o → ob P ops S o (fr ops sp g (fun _ => true) a0 i) (sp.getD i .skip))
    (htl : ∀ j, tl[j]? = ops[n + j]?) (htll : tl.length = ops.size - n)
    (hend : ∀ g W, S W → Below w0.heap.size w0 W → Fresh g w0 W ((List.range' 0 n).flatMap fun i => (sp.getD i .skip).news i) → wpList P ops Q tl (fr ops sp g (fun _ => true) a0 n) W) :
    ∀ (m : Nat) (R : List Nat) (listed : Array Bool) (a : Act) (w : World), R.length = m → R.Nodup → HeadInv md ops n listed → (∀ j, j < n → (j ∈ R ↔ listed.getD j false = false)) → (∀ j ∈ R, j < n) →
    Inv ops S w0 sp n a0 (fun j => listed.getD j false) a w → wpAny P md ops Q (m + tl.length) listed a w := by
  obtain ⟨b1, b2, b3, b4, b5⟩ := anyB_spec hB
  intro m
  induction m with
  | zero =>
    intro R listed a w hR hnd hinv hmem hlt ⟨⟨g, ha, hf1, hf2⟩, hs, hbel⟩
    have hR0 : R = [] := List.length_eq_zero_iff.1 hR
    subst hR0
    have hall : ∀ j, j < n → listed.getD j false = true := fun j hj => by
      cases h : listed.getD j false with
      | true => rfl
      | false => exact absurd ((hmem j hj).2 h) (by simp)
    have hL : listed = Array.replicate n true ++ Array.replicate (ops.size - n) false := by
      apply Array.ext (by simp [hinv.size]; omega)
      intro i h1 h2
      rw [Array.getElem_append]
      split
      · rename_i h
        have := hall i (by simpa using h)
        simp [h1] at this
        simp [this]
      · rename_i h
        have := getD_both (hinv.tail i (by simpa using h) (by rw [← hinv.size]; exact h1))
        simp [h1] at this
        simp [this]
    rw [Nat.zero_add]
    have hfr : a = fr ops sp g (fun _ => true) a0 n := by rw [ha]; exact fr_L n hall
    have hw := hend g w hs hbel (fresh_all n 0 (by omega) (fun j o hj ho => hf1 j o hj (hall j hj) ho) (fun i j o o' hi hj hne ho ho' => hf2 i j o o' hi hj hne (hall i hi) (hall j hj) ho ho'))
    rw [← hfr] at hw
    refine wpAny_of_seq tl n listed a w htl ?_ hw
    rw [htll, hL]
    exact b5
  | succ m ih =>
    intro R listed a w hR hnd hinv hmem hlt ⟨⟨g, ha, hf1, hf2⟩, hs, hbel⟩
    have hex : ∃ i, i < n ∧ listed.getD i false = false := by
      cases R with
      | nil => cases hR
      | cons r R => exact ⟨r, hlt r (by simp), (hmem r (hlt r (by simp))).1 (by simp)⟩
    obtain ⟨i0, hi0, hi0'⟩ := hex
    obtain ⟨j0, hj0, hj0'⟩ := head_ready (fun i hi => by obtain ⟨o, h1, h2, _⟩ := b4 i hi; exact ⟨o, h1, h2⟩) hinv.size b1 i0 hi0 hi0'
    have hone := only_head b3 hinv hi0 (getD_in (by rw [hinv.size]; omega) hi0')
    rw [show m + 1 + tl.length = (m + tl.length) + 1 by omega]
    refine ⟨fun h => (by rw [h] at hj0'; cases hj0'), fun i hi => ?_⟩
    have hin := hone i hi
    obtain ⟨hun, oi, hoi, hdeps⟩ := mem_ready.1 hi
    have hunf := getD_both hun
    obtain ⟨o', ho', hbk, hdst⟩ := b4 i hin
    obtain rfl : o' = oi := Option.some.inj (ho'.symm.trans hoi)
    have hsel := Region.noSelect_spec b2 i o'
    -- the operation in the frame at hand
    have hag : Agree (o'.looksAt ops) a (fr ops sp g (fun _ => true) a0 i) := by
      have e : fr ops sp g (fun _ => true) a0 i = fr ops sp g (fun j => decide (j < i)) a0 n := by
        have : ∀ k, i ≤ k → fr ops sp g (fun j => decide (j < i)) a0 k = fr ops sp g (fun _ => true) a0 i := by
          intro k
          induction k with
          | zero => intro h; obtain rfl : i = 0 := by omega
                    rfl
          | succ k ihk =>
            intro h
            by_cases hk : i = k + 1
            · subst hk
              exact fr_L _ (fun j hj => by simp; omega)
            · simp only [fr]
              rw [if_neg (by simp; omega)]
              exact ihk (by omega)
        exact (this n (by omega)).symm
      rw [ha, e]
      refine fr_agree n (fun j hj d hd hm => ?_)
      obtain ⟨h1, h2⟩ := (hdst j hj d hd).1 hm
      obtain ⟨oj, hoj, e', he', hbb, hon⟩ := Region.waitsFor_spec h2
      obtain rfl : oj = o' := Option.some.inj (hoj.symm.trans hoi)
      have := hdeps e' he' hbb
      rw [hon] at this
      simp [this, h1]
    obtain ⟨hex1, hex2⟩ := agree_exec (ops := ops) (fun cs b => hsel cs b hoi) hag
    have hobi := ob_congr hex1 hex2 (hob g i o' hin hoi)
    -- what follows
    have hset : ∀ j, (listed.setIfInBounds i true).getD j false = (listed.getD j false || decide (j = i)) := fun j => by
      by_cases hji : j = i
      · subst hji
        have : j < listed.size := by rw [hinv.size]; omega
        simp [this]
      · rw [getD_set_ne false (Ne.symm hji)]; simp [hji]
    have next : ∀ (g' : Nat → Nat) (w' : World), (∀ j, j ≠ i → g' j = g j) → S w' → Below w.heap.size w w' →
        (∀ o, sp.getD i .skip = .fresh o → w.heap.size ≤ g' i ∧ g' i < w'.heap.size ∧ w'.heap[g' i]? = some o) →
        wpAny P md ops Q (m + tl.length) (listed.setIfInBounds i true) (a.put o'.dst ((sp.getD i .skip).get (g' i))) w' := by
      intro g' w' hg hs' hb' hfr
      have hL : (fun j => (listed.setIfInBounds i true).getD j false) = fun j => listed.getD j false || decide (j = i) := funext hset
      refine ih (R.erase i) (listed.setIfInBounds i true) _ w' (by rw [List.length_erase_of_mem ((hmem i hin).2 hunf), hR]; rfl) (hnd.erase i) (hinv.set hi hin) (fun j hj => ?_) (fun j hj => hlt j (List.mem_of_mem_erase hj)) ?_
      · rw [hnd.mem_erase_iff, hset, hmem j hj]
        simp
        exact And.comm
      · rw [hL]
        refine ⟨⟨g', ?_, ?_, ?_⟩, hs', hbel.trans (hb'.mono hbel.size)⟩
        · rw [fr_set hunf n hin (fun j hj hji d hd => ?_)]
          · rw [ha, show dstAt ops i = o'.dst by simp [dstAt, hoi]]
            rw [fr_g n (fun j hj => ?_)]
            refine (hg j ?_).symm
            rintro rfl
            rw [hunf] at hj
            cases hj
          · obtain ⟨oj, hoj, _, hdj⟩ := b4 j hj
            exact ((hdj i hin d hd).2).resolve_left (fun h => hji h.symm)
        · intro k o hk hLk hsk
          by_cases hki : k = i
          · subst hki
            obtain ⟨h1, h2, h3⟩ := hfr o hsk
            exact ⟨Nat.le_trans hbel.size h1, h2, h3⟩
          · have hLk' : listed.getD k false = true := by simpa [hki] using hLk
            obtain ⟨h1, h2, h3⟩ := hf1 k o hk hLk' hsk
            rw [hg k hki]
            exact ⟨h1, Nat.lt_of_lt_of_le h2 hb'.size, (hb'.block _ h2).trans h3⟩
        · intro j k o o2 hj hk hne hLj hLk hsj hsk
          by_cases hji : j = i
          · subst hji
            have hkj : k ≠ j := fun h => hne h.symm
            have hLk' : listed.getD k false = true := by simpa [hkj] using hLk
            have h1 := (hf1 k o2 hk hLk' hsk).2.1
            have h2 := (hfr o hsj).1
            rw [hg k hkj]
            omega
          · have hLj' : listed.getD j false = true := by simpa [hji] using hLj
            by_cases hki : k = i
            · subst hki
              have h1 := (hf1 j o hj hLj' hsj).2.1
              have h2 := (hfr o2 hsk).1
              rw [hg j hji]
              omega
            · have hLk' : listed.getD k false = true := by simpa [hki] using hLk
              rw [hg j hji, hg k hki]
              exact hf2 j k o o2 hj hk hne hLj' hLk' hsj hsk
    have h0 : ∀ o, o ∈ ([] : List Obj) → True := fun _ _ => trivial
    unfold wpOp
    rw [hoi]
    show if Region.wanted o' (yielded ops a.tmps) = true then _ else _
    cases hsi : sp.getD i .skip with
    | val v =>
      rw [hsi] at hobi next
      obtain ⟨hw, hr⟩ := hobi
      rw [if_pos hw]
      refine .inl ?_
      unfold Oper.wp
      rw [hr w hs]
      exact next g w (fun _ _ => rfl) hs (Below.refl _ _) (fun o h => by cases h)
    | call f args v =>
      rw [hsi] at hobi next
      obtain ⟨hw, hr, hc⟩ := hobi
      rw [if_pos hw]
      refine .inl ?_
      unfold Oper.wp
      rw [hr w hs]
      refine (hc w hs).mono ?_
      rintro e w' ⟨rfl, hb⟩
      exact next g w' (fun _ _ => rfl) (hcl w w' hs hb) hb (fun o h => by cases h)
    | fresh obj =>
      rw [hsi] at hobi next
      obtain ⟨hw, hr⟩ := hobi
      rw [if_pos hw]
      refine .inl ?_
      unfold Oper.wp
      rw [hr w hs]
      have hb : Below w.heap.size w (w.alloc obj) := (Below.refl _ _).alloc (Nat.le_refl _) _
      have := next (fun j => if j = i then w.heap.size else g j) (w.alloc obj) (fun j hj => by simp [hj]) (hcl w _ hs hb) hb (fun o h => by
        injection h with h
        subst h
        refine ⟨by simp, by simp, ?_⟩
        show (w.heap.push obj)[if i = i then w.heap.size else g i]? = some obj
        simp)
      simp only [if_true, Sp.get] at this
      exact this
    | skip =>
      rw [hsi] at hobi next
      have hw : Region.wanted o' (yielded ops a.tmps) = false := hobi
      rw [if_neg (by rw [hw]; simp)]
      exact next g w (fun _ _ => rfl) hs (Below.refl _ _) (fun o h => by cases h)

theorem wp_region_order {id : Nat} {a : Act} {w : World} {l : List Oper} (S : World → Prop) (n : Nat) (sp : List Sp) (hm : P.follows .mixedOrders = true) (hB : anyB .any l.toArray n = true)
    (hcl : ∀ w w', S w → Below w.heap.size w w' → S w') (hS : S w)
    (h : ∀ g : Nat → Nat, Obs P l.toArray Q S w g (l.drop n) (l.take n) sp 0 [] a) : (Code.region id l.toArray true).wp P Q a w := by
  obtain ⟨b1, b2, b3, b4, b5⟩ := anyB_spec hB
  have hn : n ≤ l.length := by simpa using b1
  have hlen : (l.take n).length = n := by simp; omega
  have hob := fun g => obs_at (ops := l.toArray) (a := a) (sp := sp) (g := g) (w0 := w) (l.take n) sp 0 [] (fun j hj => by
    have : j < n := by omega
    simp [List.getElem?_take, this]) (fun j => by simp) (h g)
  have hd : Below w.heap.size w w.drew := (Below.refl _ _).drew
  refine wp_region_any hm ?_
  have hinv0 : HeadInv .any l.toArray n (Array.replicate l.toArray.size false) :=
    ⟨by simp, fun j oj _ hl => (by rw [getD_replicate_false] at hl; cases hl), fun t _ ht => getD_in (by simpa using ht) (getD_replicate_false _ _)⟩
  have hfr0 : a = fr l.toArray sp (fun _ => 0) (fun j => (Array.replicate l.toArray.size false).getD j false) a n := by
    have e0 : (fun j => (Array.replicate l.toArray.size false).getD j false) = fun _ => false := funext fun j => getD_replicate_false _ _
    rw [e0]
    have : ∀ k, fr l.toArray sp (fun _ => 0) (fun _ => false) a k = a := by
      intro k
      induction k with
      | zero => rfl
      | succ k ih => simp only [fr, ih]; simp
    exact (this n).symm
  have key := wpAny_of_obs (P := P) (Q := Q) (S := S) (sp := sp) (n := n) (a0 := a) (w0 := w) (tl := l.drop n) hB hcl
    (fun g i o hi ho => (hob g).2.1 i o (by omega) (by omega) ho) (fun j => by simp [List.getElem?_drop]) (by simp)
    (fun g W hs hb hf => by
      have := (hob g).2.2 W hs hb (by simpa [hlen] using hf)
      rw [hlen, Nat.zero_add] at this
      exact this)
    n (List.range n) (Array.replicate l.toArray.size false) a w.drew (by simp) List.nodup_range hinv0 (fun j hj => by rw [getD_replicate_false]; simpa using hj) (fun j hj => by simpa using hj)
    ⟨⟨fun _ => 0, hfr0, fun k o _ hk => (by rw [getD_replicate_false] at hk; cases hk), fun j k o o' _ _ _ hk => (by rw [getD_replicate_false] at hk; cases hk)⟩, hcl _ _ hS hd, hd⟩
  have e : n + (l.drop n).length = l.toArray.size := by simp; omega
  rw [e] at key
  exact key
theorem wp_region_ord {id : Nat} {a : Act} {w : World} {l : List Oper} (S S0 : World → Prop) (n : Nat) (sp : List Sp) (hm : P.follows .mixedOrders = true) (hB : anyB .any l.toArray n = true)
    (hcl : ∀ w w', S w → Below w.heap.size w w' → S w') (h0 : S0 w) (hS : ∀ W, S0 W → S W)
    (h : ∀ W, S0 W → ∀ g : Nat → Nat, Obs P l.toArray Q S W g (l.drop n) (l.take n) sp 0 [] a) : (Code.region id l.toArray true).wp P Q a w :=
  wp_region_order S n sp hm hB hcl (hS w h0) (h w h0)
theorem bcs {W w1 : World} (hb : Below W.heap.size W w1) {b o : Nat} {v : Value} (hc : W.cell? ⟨b, o, none⟩ = some v) : w1.cell? ⟨b, o, none⟩ = some v := (hb.cell (p := ⟨b, o, none⟩) (World.block_lt_of_cell? W _ hc)).trans hc
theorem bfs {W w1 : World} (hb : Below W.heap.size W w1) {b o : Nat} {v : Value} {f : Bool} (hc : W.cell? ⟨b, o, none⟩ = some v) (hf : W.frozen? ⟨b, o, none⟩ = f) : w1.frozen? ⟨b, o, none⟩ = f := (hb.frozen (p := ⟨b, o, none⟩) (World.block_lt_of_cell? W _ hc)).trans hf
theorem cob {W : World} {b : Nat} {vs : Array Value} {t : TypeId} (h : W.heap[b]? = some (.cells vs t (0, 0))) (o : Nat) {v : Value} (hv : vs[o]? = some v) : W.cell? ⟨b, o, none⟩ = some v := by simp [World.cell?, h, hv]
theorem fob {W : World} {b : Nat} {vs : Array Value} {t : TypeId} (h : W.heap[b]? = some (.cells vs t (0, 0))) (o : Nat) : W.frozen? ⟨b, o, none⟩ = false := by simp [World.frozen?, h]
theorem bel_step {w w1 w2 : World} (h : Below w.heap.size w w1) (hb : Below w1.heap.size w1 w2) : Below w.heap.size w w2 := h.trans (hb.mono h.size)
theorem qne {W : World} {b o : Nat} {v : Value} (hc : W.cell? ⟨b, o, none⟩ = some v) : ¬ b = W.heap.size := fun h => by
  have h1 : b < W.heap.size := World.block_lt_of_cell? W _ hc
  omega
theorem qlt {W : World} {b o : Nat} {v : Value} (hc : W.cell? ⟨b, o, none⟩ = some v) : b < W.heap.size := World.block_lt_of_cell? W _ hc
end
end Go.Proofs.Ytfbgfnebodabpaa
