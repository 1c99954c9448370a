/- A region that draws its order and whose last operation (a store) waits for all others: it is walked without it first. -/
import Derived.Deep.RegionHeld3
import Derived.Deep.QuietTactic
import Derived.WalkKit
namespace Go
section
variable {P : Program} {Q : Exit → Act → World → Prop} {S : World → Prop}
def lastQ (P : Program) (o : Oper) (Q : Exit → Act → World → Prop) : Exit → Act → World → Prop
  | .normal, a, w => Oper.wp P o a w (fun a w => Q .normal a w) Q
  | e, a, w => Q e a w
theorem lastQ_normal {o : Oper} {a : Act} {w : World} (h : ∀ K' : Act → World → Prop, (∀ a w, Q .normal a w → K' a w) → Oper.wp P o a w K' Q) : lastQ P o Q .normal a w := h _ (fun _ _ h => h)
theorem upon_lastQ {o o' : Oper} {a : Act} {K : Act → World → Prop} {r : Result Next} (h : o'.upon P a K (lastQ P o Q) r) : o'.upon P a K Q r := by
  cases r with
  | ok n w' =>
    cases n <;> simp only [Oper.upon] at h ⊢ <;> first
      | exact h
      | exact Calls.mono h (fun e w'' he => by cases e <;> exact he)
  | halt x w' => cases x <;> simp only [Oper.upon] at h ⊢ <;> exact h
def orderlyB (ops : Array Oper) : Bool :=
  (List.range ops.size).all fun i => match ops[i]? with
    | some oi => oi.after.all (fun e => decide (e.on < i)) && (match oi.guard with | some (g, _) => decide (g < ops.size) | none => true)
    | none => true
def closesB (ops : Array Oper) (o : Oper) : Bool :=
  (List.range ops.size).all (fun i => o.after.any fun e => Region.binds .any e && e.on == i) && o.after.all (fun e => decide (e.on < ops.size)) && o.guard.isNone
theorem orderly_spec {ops : Array Oper} (h : orderlyB ops = true) {i : Nat} {oi : Oper} (hi : ops[i]? = some oi) : (∀ e ∈ oi.after, e.on < i) ∧ ∀ g b, oi.guard = some (g, b) → g < ops.size := by
  have h1 := List.all_eq_true.1 h i (List.mem_range.2 (Array.getElem?_eq_some_iff.1 hi).1)
  simp only [hi, Bool.and_eq_true] at h1
  refine ⟨fun e he => ?_, fun g b hg => ?_⟩
  · have := Array.all_eq_true'.1 h1.1 e he
    simpa using this
  · have := h1.2
    rw [hg] at this
    simpa using this
theorem wp_any_last {ops : Array Oper} {o : Oper} (h1 : orderlyB ops = true) (h2 : closesB ops o = true) :
    ∀ (fuel : Nat) (listed : Array Bool) (a : Act) (w : World), listed.size = ops.size → wpAny P .any ops (lastQ P o Q) fuel listed a w → wpAny P .any (ops.push o) Q (fuel + 1) (listed.push false) a w := by
  unfold closesB at h2
  simp only [Bool.and_eq_true, Option.isNone_iff_eq_none] at h2
  obtain ⟨⟨c1, c2⟩, c3⟩ := h2
  have hwait : ∀ i, i < ops.size → ∃ e ∈ o.after, Region.binds .any e = true ∧ e.on = i := fun i hi => by
    have := List.all_eq_true.1 c1 i (List.mem_range.2 hi)
    obtain ⟨e, he, hb⟩ := Array.any_eq_true'.1 this
    simp only [Bool.and_eq_true, beq_iff_eq] at hb
    exact ⟨e, he, hb⟩
  have hlt : ∀ e ∈ o.after, e.on < ops.size := fun e he => by simpa using Array.all_eq_true'.1 c2 e he
  have gT : ∀ (listed : Array Bool) i, listed.size = ops.size → i < ops.size → (listed.push false).getD i true = listed.getD i true := fun listed i hs hi => by
    rw [Array.getD_eq_getD_getElem?, Array.getD_eq_getD_getElem?, Array.getElem?_push, if_neg (by omega)]
  have gF : ∀ (listed : Array Bool) i, listed.size = ops.size → (listed.push false).getD i false = listed.getD i false := fun listed i hs => by
    rw [Array.getD_eq_getD_getElem?, Array.getD_eq_getD_getElem?, Array.getElem?_push]
    by_cases hi : i = listed.size
    · subst hi; simp
    · rw [if_neg hi]
  have gN : ∀ listed : Array Bool, listed.size = ops.size → (listed.push false).getD ops.size true = false := fun listed hs => by
    rw [Array.getD_eq_getD_getElem?, ← hs]; simp
  have gTF : ∀ (listed : Array Bool) i, listed.size = ops.size → i < ops.size → listed.getD i true = listed.getD i false := fun listed i hs hi => by
    rw [Array.getD_eq_getD_getElem?, Array.getD_eq_getD_getElem?, Array.getElem?_eq_getElem (by omega)]; rfl
  have oP : ∀ i, i < ops.size → (ops.push o)[i]? = ops[i]? := fun i hi => by rw [Array.getElem?_push, if_neg (by omega)]
  have rdy : ∀ (listed : Array Bool) i, listed.size = ops.size → i < ops.size → (i ∈ Region.ready .any (ops.push o) (listed.push false) ↔ i ∈ Region.ready .any ops listed) := fun listed i hs hi => by
    rw [mem_ready, mem_ready, gT listed i hs hi, oP i hi]
    simp only [gF listed _ hs]
  have rdyN : ∀ (listed : Array Bool), listed.size = ops.size → (ops.size ∈ Region.ready .any (ops.push o) (listed.push false) ↔ ∀ i, i < ops.size → listed.getD i false = true) := fun listed hs => by
    rw [mem_ready, gN listed hs]
    simp only [gF listed _ hs]
    constructor
    · rintro ⟨_, o', ho', hall⟩ i hi
      obtain rfl : o = o' := by simpa using ho'
      obtain ⟨e, he, hb, rfl⟩ := hwait i hi
      exact hall e he hb
    · intro h
      exact ⟨trivial, o, by simp, fun e he _ => h _ (hlt e he)⟩
  have rdyO : ∀ (listed : Array Bool) i, listed.size = ops.size → i ∈ Region.ready .any (ops.push o) (listed.push false) → i < ops.size ∨ i = ops.size := fun listed i hs hi => by
    obtain ⟨_, o', ho', _⟩ := mem_ready.1 hi
    have := (Array.getElem?_eq_some_iff.1 ho').1
    simp at this
    omega
  have fin : ∀ (f : Nat) (listed : Array Bool) (a : Act) (w : World), listed.size = ops.size → Region.ready .any ops listed = [] → lastQ P o Q .normal a w → wpAny P .any (ops.push o) Q (f + 1) (listed.push false) a w := fun f listed a w hs hr hl => by
    have hall : ∀ n i, i < n → i < ops.size → listed.getD i false = true := by
      intro n
      induction n with
      | zero => intro i h; omega
      | succ n ih =>
        intro i hi hi2
        cases hx : listed.getD i false with
        | true => rfl
        | false =>
          exfalso
          have hmem : i ∈ Region.ready .any ops listed := by
            refine mem_ready.2 ⟨(gTF listed i hs hi2).trans hx, ops[i], Array.getElem?_eq_getElem hi2, fun e he _ => ?_⟩
            have := (orderly_spec h1 (Array.getElem?_eq_getElem hi2)).1 e he
            exact ih e.on (by omega) (by omega)
          rw [hr] at hmem
          cases hmem
    have hN := (rdyN listed hs).2 (fun i hi => hall (i + 1) i (by omega) hi)
    refine And.intro (fun h0 => by rw [h0] at hN; cases hN) (fun i hi => ?_)
    rcases rdyO listed i hs hi with h3 | h3
    · rw [rdy listed i hs h3, hr] at hi
      cases hi
    · subst h3
      unfold wpOp
      simp only [Array.getElem?_push_size, Region.wanted, c3, if_true]
      refine .inl (Oper.wp_mono (fun a' w' hq => ?_) hl)
      have hnil : Region.ready .any (ops.push o) ((listed.push false).setIfInBounds ops.size true) = [] := by
        refine List.eq_nil_iff_forall_not_mem.2 fun j hj => ?_
        have hj2 := mem_ready.1 hj
        obtain ⟨hj3, o', ho', _⟩ := hj2
        have hjl := (Array.getElem?_eq_some_iff.1 ho').1
        simp at hjl
        by_cases hjn : ops.size = j
        · subst hjn
          rw [Array.getD_eq_getD_getElem?, Array.getElem?_setIfInBounds_self_of_lt (by simp; omega)] at hj3
          cases hj3
        · rw [getD_set_ne true hjn, gT listed j hs (by omega), gTF listed j hs (by omega), hall (j + 1) j (by omega) (by omega)] at hj3
          cases hj3
      cases f with
      | zero => exact ⟨hnil, hq⟩
      | succ f => exact ⟨fun _ => hq, by rw [hnil]; simp⟩
  intro fuel
  induction fuel with
  | zero => intro listed a w hs h; exact fin 0 listed a w hs h.1 h.2
  | succ fuel ih =>
    intro listed a w hs h
    by_cases hr : Region.ready .any ops listed = []
    · exact fin _ listed a w hs hr (h.1 hr)
    · obtain ⟨i0, hi0⟩ := List.exists_mem_of_ne_nil _ hr
      have hi0l : i0 < ops.size := by
        obtain ⟨_, o', ho', _⟩ := mem_ready.1 hi0
        exact (Array.getElem?_eq_some_iff.1 ho').1
      refine And.intro (fun h0 => ?_) (fun i hi => ?_)
      · have := (rdy listed i0 hs hi0l).2 hi0
        rw [h0] at this
        cases this
      · rcases rdyO listed i hs hi with h3 | h3
        · have hop := h.2 i ((rdy listed i hs h3).1 hi)
          have hsz : (listed.setIfInBounds i true).size = ops.size := by simpa using hs
          have hpush : (listed.push false).setIfInBounds i true = (listed.setIfInBounds i true).push false := by
            apply Array.ext_getElem?
            intro j
            simp only [Array.getElem?_setIfInBounds, Array.getElem?_push, Array.size_push, Array.size_setIfInBounds]
            by_cases hij : i = j
            · subst hij
              have : ¬ i = listed.size := by omega
              simp [this, show i < listed.size by omega, show i < listed.size + 1 by omega]
            · simp [hij]
          rw [hpush]
          refine wpOp_mono (fun a' w' h' => ih _ a' w' hsz h') ?_
          have hoi := Array.getElem?_eq_getElem h3
          unfold wpOp at hop ⊢
          rw [oP i h3]
          simp only [hoi] at hop ⊢
          have hw : Region.wanted ops[i] (yielded (ops.push o) a.tmps) = Region.wanted ops[i] (yielded ops a.tmps) := by
            unfold Region.wanted
            cases hg : (ops[i]).guard with
            | none => rfl
            | some gb =>
              obtain ⟨g, b⟩ := gb
              have := (orderly_spec h1 hoi).2 g b hg
              simp only [yielded, oP g this]
          rw [hw]
          split
          · rename_i hwt
            simp only [hwt, if_true] at hop
            rcases hop with hop | hop
            · exact .inl (upon_lastQ hop)
            · exact .inr hop
          · rename_i hwt
            simp only [hwt] at hop
            exact hop
        · subst h3
          have h4 := (rdyN listed hs).1 hi i0 hi0l
          have h5 := (mem_ready.1 hi0).1
          rw [gTF listed i0 hs hi0l, h4] at h5
          cases h5
theorem wp_region_last {id : Nat} {ops ops' : Array Oper} {o : Oper} {a : Act} {w : World} (hm : P.follows .mixedOrders = true) (ho : ops = ops'.push o) (h1 : orderlyB ops' = true) (h2 : closesB ops' o = true) (hS : S w.drew)
    (h : S w.drew → wpAnyH P .any ops' (lastQ P o Q) S ops'.size (Array.replicate ops'.size false) a w.drew) : (Code.region id ops true).wp P Q a w := by
  subst ho
  refine wp_region_any hm ?_
  have := wp_any_last (P := P) (Q := Q) h1 h2 ops'.size (Array.replicate ops'.size false) a w.drew (by simp) (wpAny_of_held _ _ _ _ (h hS))
  rw [Array.size_push, Array.replicate_succ]
  exact this
end
end Go
