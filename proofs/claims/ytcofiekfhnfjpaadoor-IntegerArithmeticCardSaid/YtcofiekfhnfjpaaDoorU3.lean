
import Derived.OrdersHeld
import Derived.StillTail
import Derived.Deep.RegionHeld
import Derived.Below
/- Held -/
namespace Go.Proofs.YtcofiekfhnfjpaaDoor
set_option linter.unusedVariables false
set_option linter.unusedSimpArgs false
/- A region that draws its order: its first n operations (loads, calls) go under one condition S on the world; the rest (stores) goes behind them, in the order of the text. -/
section
variable {P : Program} {ops : Array Oper} {Q : Exit → Act → World → Prop} {md : Region.Mode} {S : World → Prop}

/-- the tail is empty, or it waits for the whole head -/
def tailB (md : Region.Mode) (ops : Array Oper) (n : Nat) : Bool := decide (ops.size ≤ n) || (decide (n < ops.size) && Region.sinkB md ops n && Region.chainB md ops n)
theorem only_head {n i : Nat} {listed : Array Bool} (ht : tailB md ops n = true) (inv : HeadInv md ops n listed) (hin : i < n) (hun : listed.getD i true = false) : ∀ j ∈ Region.ready md ops listed, j < n := by
  intro j hj
  simp only [tailB, Bool.or_eq_true, Bool.and_eq_true, decide_eq_true_eq] at ht
  rcases ht with ht | ⟨⟨h1, h2⟩, h3⟩
  · obtain ⟨_, oj, hoj, _⟩ := mem_ready.1 hj
    have := (Array.getElem?_eq_some_iff.1 hoj).1
    omega
  · rcases Nat.lt_or_ge j n with h | h
    · exact h
    · exact absurd hj (tail_waits h2 h3 h1 inv _ i rfl hin hun j h)

end
end Go.Proofs.YtcofiekfhnfjpaaDoor

/- Ord -/
namespace Go.Proofs.YtcofiekfhnfjpaaDoor
open Go.RowKit
set_option linter.unusedVariables false
set_option linter.unusedSimpArgs false
/- A region that draws its order, walked once in the order of the text: loads and other readings, calls that leave what is old as it was, new variables; behind them the stores. -/
inductive Sp where
  | val (v : Value)
  | call (f : FuncId) (args : Array Value) (v : Value)
  | fresh (o : Obj)
  | skip
def Sp.get : Sp → Nat → Value
  | .val v, _ => v
  | .call _ _ v, _ => v
  | .fresh _, g => .pointer (some ⟨g, 0, none⟩)
  | .skip, _ => undef
section
variable {P : Program} {ops : Array Oper} {Q : Exit → Act → World → Prop} {md : Region.Mode} {S : World → Prop}

def dstAt (ops : Array Oper) (k : Nat) : Option Tmp := (ops[k]?).bind (·.dst)
/-- the frame in which the operations of L have come up -/
def fr (ops : Array Oper) (sp : List Sp) (g : Nat → Nat) (L : Nat → Bool) (a : Act) : Nat → Act
  | 0 => a
  | k + 1 => if L k = true then (fr ops sp g L a k).put (dstAt ops k) ((sp.getD k .skip).get (g k)) else fr ops sp g L a k

theorem put_size (a : Act) (d : Option Tmp) (v : Value) : (a.put d v).tmps.size = a.tmps.size := by cases d <;> simp [Act.put]
theorem put_look (a : Act) (d : Tmp) (v : Value) (t : Nat) : (a.put (some d) v).tmps[t]? = if d = t then (if t < a.tmps.size then some v else none) else a.tmps[t]? := by
  simp only [Act.put]
  rw [Array.getElem?_setIfInBounds]
  split
  · rename_i h
    subst h
    rfl
  · rfl

def Agree (T : List Tmp) (a b : Act) : Prop := a.tmps.size = b.tmps.size ∧ ∀ t ∈ T, a.tmps[t]? = b.tmps[t]?
theorem Agree.put {T : List Tmp} {a b : Act} (h : Agree T a b) (d : Option Tmp) (v : Value) : Agree T (a.put d v) (b.put d v) := by
  cases d with
  | none => exact h
  | some d =>
    refine ⟨by rw [put_size, put_size]; exact h.1, fun t ht => ?_⟩
    rw [put_look, put_look, h.1, h.2 t ht]
theorem Agree.put_left {T : List Tmp} {a b : Act} (h : Agree T a b) (d : Option Tmp) (v : Value) (hd : ∀ t, d = some t → t ∉ T) : Agree T (a.put d v) b := by
  cases d with
  | none => exact h
  | some d =>
    refine ⟨by rw [put_size]; exact h.1, fun t ht => ?_⟩
    rw [put_look, if_neg (fun (e : d = t) => hd d rfl (by rw [e]; exact ht)), h.2 t ht]
theorem Agree.put_right {T : List Tmp} {a b : Act} (h : Agree T a b) (d : Option Tmp) (v : Value) (hd : ∀ t, d = some t → t ∉ T) : Agree T a (b.put d v) := by
  cases d with
  | none => exact h
  | some d =>
    refine ⟨by rw [put_size]; exact h.1, fun t ht => ?_⟩
    rw [put_look, if_neg (fun (e : d = t) => hd d rfl (by rw [e]; exact ht)), h.2 t ht]

theorem agree_exec {o : Oper} {a b : Act} (hs : ∀ cs b, o.op ≠ .select cs b) (h : Agree (o.looksAt ops) a b) : execOp a.eval o = execOp b.eval o ∧ Region.wanted o (yielded ops a.tmps) = Region.wanted o (yielded ops b.tmps) := by
  refine ⟨execOp_congr o hs fun x hx => ?_, ?_⟩
  · cases x with
    | tmp t =>
      have := h.2 t (List.mem_append_left _ (List.mem_filterMap.2 ⟨.tmp t, by simpa using hx, rfl⟩))
      simp only [Act.eval]
      first | (rw [this]; done) | (simp [this]; done) | (simp [Array.getD_eq_getD_getElem?, this])
    | _ => rfl
  · unfold Region.wanted
    cases hg : o.guard with
    | none => rfl
    | some gw =>
      obtain ⟨g, want⟩ := gw
      have hy : yielded ops a.tmps g = yielded ops b.tmps g := by
        unfold yielded
        cases ht : (ops[g]?).bind (·.dst) with
        | none => rfl
        | some t =>
          have := h.2 t (by simp [Oper.looksAt, hg, ht])
          simp [this]
      simp only [hy]

def Sp.news (k : Nat) : Sp → List (Nat × Obj)
  | .fresh o => [(k, o)]
  | _ => []
def anyB (md : Region.Mode) (ops : Array Oper) (n : Nat) : Bool :=
  decide (n ≤ ops.size) && Region.noSelect ops && tailB md ops n &&
  ((List.range n).all fun i => match ops[i]? with
    | some o => (o.after.all fun e => !Region.binds md e || decide (e.on < i)) && ((List.range n).all fun j => match dstAt ops j with
        | some d => (!(o.looksAt ops).contains d || (decide (j < i) && Region.waitsFor md ops i j)) && (j == i || dstAt ops i != some d)
        | none => true)
    | none => false) &&
  Region.seqB md ops (ops.size - n) n (Array.replicate n true ++ Array.replicate (ops.size - n) false)

theorem anyB_spec {n : Nat} (h : anyB md ops n = true) : n ≤ ops.size ∧ Region.noSelect ops = true ∧ tailB md ops n = true ∧
    (∀ i, i < n → ∃ o, ops[i]? = some o ∧ (∀ e ∈ o.after, Region.binds md e = true → e.on < i) ∧
      ∀ j, j < n → ∀ d, dstAt ops j = some d → (d ∈ o.looksAt ops → j < i ∧ Region.waitsFor md ops i j = true) ∧ (j = i ∨ dstAt ops i ≠ some d)) ∧
    Region.seqB md ops (ops.size - n) n (Array.replicate n true ++ Array.replicate (ops.size - n) false) = true := by
  simp only [anyB, Bool.and_eq_true, decide_eq_true_eq, List.all_eq_true, List.mem_range] at h
  obtain ⟨⟨⟨⟨h1, h2⟩, h3⟩, h4⟩, h5⟩ := h
  refine ⟨h1, h2, h3, fun i hi => ?_, h5⟩
  have := h4 i hi
  cases ho : ops[i]? with
  | none => rw [ho] at this; cases this
  | some o =>
    rw [ho] at this
    simp only [Bool.and_eq_true, Array.all_eq_true_iff_forall_mem, List.all_eq_true, List.mem_range, Bool.or_eq_true, Bool.not_eq_true', decide_eq_true_eq] at this
    obtain ⟨h6, h7⟩ := this
    refine ⟨o, rfl, fun e he hb => ?_, fun j hj d hd => ?_⟩
    · rcases h6 e he with h | h
      · rw [hb] at h; cases h
      · exact h
    · have h8 := h7 j hj
      rw [hd] at h8
      simp only [Bool.and_eq_true, Bool.or_eq_true, Bool.not_eq_true', decide_eq_true_eq, beq_iff_eq, bne_iff_ne] at h8
      refine ⟨fun hm => ?_, h8.2⟩
      rcases h8.1 with h | h
      · have : (o.looksAt ops).contains d = true := by simpa using hm
        rw [this] at h; cases h
      · exact h

/-- of the head's operations that have not come up, one may come up now -/
theorem head_ready {n : Nat} {listed : Array Bool} (hb : ∀ i, i < n → ∃ o, ops[i]? = some o ∧ ∀ e ∈ o.after, Region.binds md e = true → e.on < i) (hs : listed.size = ops.size) (hn : n ≤ ops.size) :
    ∀ (i : Nat), i < n → listed.getD i false = false → ∃ j, j < n ∧ j ∈ Region.ready md ops listed := by
  intro i
  induction i using Nat.strongRecOn with
  | _ i ih =>
    intro hi hl
    obtain ⟨o, ho, hbk⟩ := hb i hi
    by_cases hall : ∀ e ∈ o.after, Region.binds md e = true → listed.getD e.on false = true
    · exact ⟨i, hi, mem_ready.2 ⟨getD_in (by omega) hl, o, ho, hall⟩⟩
    · simp only [Classical.not_forall] at hall
      obtain ⟨e, he, hbi, hne⟩ := hall
      exact ih e.on (hbk e he hbi) (by have := hbk e he hbi; omega) (by simpa using hne)

theorem bcs {W w1 : World} (hb : Below W.heap.size W w1) {b o : Nat} {v : Value} (hc : W.cell? ⟨b, o, none⟩ = some v) : w1.cell? ⟨b, o, none⟩ = some v := (hb.cell (p := ⟨b, o, none⟩) (World.block_lt_of_cell? W _ hc)).trans hc
theorem bfs {W w1 : World} (hb : Below W.heap.size W w1) {b o : Nat} {v : Value} {f : Bool} (hc : W.cell? ⟨b, o, none⟩ = some v) (hf : W.frozen? ⟨b, o, none⟩ = f) : w1.frozen? ⟨b, o, none⟩ = f := (hb.frozen (p := ⟨b, o, none⟩) (World.block_lt_of_cell? W _ hc)).trans hf
theorem cob {W : World} {b : Nat} {vs : Array Value} {t : TypeId} (h : W.heap[b]? = some (.cells vs t (0, 0))) (o : Nat) {v : Value} (hv : vs[o]? = some v) : W.cell? ⟨b, o, none⟩ = some v := by simp [World.cell?, h, hv]
theorem fob {W : World} {b : Nat} {vs : Array Value} {t : TypeId} (h : W.heap[b]? = some (.cells vs t (0, 0))) (o : Nat) : W.frozen? ⟨b, o, none⟩ = false := by simp [World.frozen?, h]
theorem bel_step {w w1 w2 : World} (h : Below w.heap.size w w1) (hb : Below w1.heap.size w1 w2) : Below w.heap.size w w2 := h.trans (hb.mono h.size)
theorem qne {W : World} {b o : Nat} {v : Value} (hc : W.cell? ⟨b, o, none⟩ = some v) : ¬ b = W.heap.size := fun h => by
  have h1 : b < W.heap.size := World.block_lt_of_cell? W _ hc
  omega
theorem qlt {W : World} {b o : Nat} {v : Value} (hc : W.cell? ⟨b, o, none⟩ = some v) : b < W.heap.size := World.block_lt_of_cell? W _ hc
end
end Go.Proofs.YtcofiekfhnfjpaaDoor

