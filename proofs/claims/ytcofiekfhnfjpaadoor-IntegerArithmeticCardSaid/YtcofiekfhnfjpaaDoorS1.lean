
import Derived.Test.YtcofiekfhnfjpaaDoorGo
import Derived.Test.YtcofiekfhnfjpaaDoorU7
namespace Go.Proofs.YtcofiekfhnfjpaaDoor
open Go.RowKit
set_option linter.unusedVariables false
set_option linter.unusedSimpArgs false
/-- A variable's block: its cells, none of them frozen. -/
def Bx (w : World) (g : Nat) (vs : List Value) : Prop := (∀ i v, vs[i]? = some v → w.cell? ⟨g, i, none⟩ = some v ∧ w.frozen? ⟨g, i, none⟩ = false) ∧ g < w.heap.size
theorem Bx.below {w w' : World} {g : Nat} {vs : List Value} (h : Bx w g vs) (hb : Below w.heap.size w w') : Bx w' g vs :=
  ⟨fun i v hv => ⟨bcs hb (h.1 i v hv).1, bfs hb (h.1 i v hv).1 (h.1 i v hv).2⟩, Nat.lt_of_lt_of_le h.2 hb.size⟩
theorem Bx.c {w : World} {g : Nat} {vs : List Value} (h : Bx w g vs) (i : Nat) {v : Value} (hv : vs[i]? = some v) : w.cell? ⟨g, i, none⟩ = some v ∧ w.frozen? ⟨g, i, none⟩ = false := h.1 i v hv
theorem Bx.n {w : World} {g : Nat} {vs : List Value} (h : Bx w g vs) : ¬ g = w.heap.size ∧ ¬ w.heap.size = g ∧ g < w.heap.size := by
  have := h.2
  omega
theorem Bx.x1 {w : World} {g : Nat} {v0 : Value} (h : Bx w g [v0]) : (w.cell? ⟨g, 0, none⟩ = some v0 ∧ w.frozen? ⟨g, 0, none⟩ = false) ∧ ¬ g = w.heap.size ∧ ¬ w.heap.size = g ∧ g < w.heap.size := ⟨h.c 0 rfl, h.n⟩
theorem Bx.x2 {w : World} {g : Nat} {v0 v1 : Value} (h : Bx w g [v0, v1]) : (w.cell? ⟨g, 0, none⟩ = some v0 ∧ w.frozen? ⟨g, 0, none⟩ = false) ∧ (w.cell? ⟨g, 1, none⟩ = some v1 ∧ w.frozen? ⟨g, 1, none⟩ = false) ∧ ¬ g = w.heap.size ∧ ¬ w.heap.size = g ∧ g < w.heap.size :=
  ⟨h.c 0 rfl, h.c 1 rfl, h.n⟩
theorem Bx.of2 {w : World} {g : Nat} {v0 v1 : Value} (h0 : w.cell? ⟨g, 0, none⟩ = some v0) (f0 : w.frozen? ⟨g, 0, none⟩ = false) (h1 : w.cell? ⟨g, 1, none⟩ = some v1) (f1 : w.frozen? ⟨g, 1, none⟩ = false) : Bx w g [v0, v1] := by
  refine ⟨fun i v hv => ?_, qlt h0⟩
  match i, hv with
  | 0, hv => cases hv; exact ⟨h0, f0⟩
  | 1, hv => cases hv; exact ⟨h1, f1⟩
theorem Bx.row {w : World} {g : Nat} {vs : List Value} {T : TypeId} (h : w.heap[g]? = some (.cells vs.toArray T)) : Bx w g vs := by
  refine ⟨fun i v hv => ⟨cob h i (by simpa using hv), fob h i⟩, ?_⟩
  exact (Array.getElem?_eq_some_iff.1 h).1
theorem Bx.new (w : World) (vs : List Value) (T : TypeId) : Bx (w.alloc (.cells vs.toArray T)) w.heap.size vs := Bx.row (heap_alloc_new w _)
theorem Bx.newAt (w : World) (vs : List Value) (T : TypeId) {g : Nat} (h : g = w.heap.size) : Bx (w.alloc (.cells vs.toArray T)) g vs := h ▸ Bx.new w vs T
theorem Bx.dr {w : World} {g : Nat} {vs : List Value} (h : Bx w g vs) : Bx w.drew g vs := h.below (Below.refl _ _).drew
theorem Bx.drN {w : World} {g : Nat} {vs : List Value} (h : Bx w g vs) (n : Nat) : Bx (w.drewN n) g vs := h.below (below_drewN (Below.refl _ _) n)
theorem Bx.al {w : World} {g : Nat} {vs : List Value} (h : Bx w g vs) (o : Obj) : Bx (w.alloc o) g vs := h.below (Below.alloc (Below.refl _ _) (Nat.le_refl _) o)
theorem Bx.st {w : World} {g : Nat} {vs : List Value} (h : Bx w g vs) {b o : Nat} {v : Value} (hne : ¬ b = g) : Bx (w.setCell ⟨b, o, none⟩ v) g vs := by
  have hb : Below (w.heap.size) w w := Below.refl _ _
  have h2 := (grownBy_set w b o v)
  refine ⟨fun i u hu => ?_, Nat.lt_of_lt_of_le h.2 h2.size⟩
  have e : some (⟨g, i, none⟩ : Addr).block ≠ some b := fun e => hne (Option.some.inj e).symm
  exact ⟨(h2.cell_far ⟨g, i, none⟩ h.2 e).trans (h.1 i u hu).1, (h2.frozen_far ⟨g, i, none⟩ h.2 e).trans (h.1 i u hu).2⟩
theorem Rw.dr {W : World} {a : Option Addr} {l : List (BitVec 32)} (h : Rw W a l) : Rw W.drew a l := h.below (Below.refl _ _).drew
theorem Rw.drN {W : World} {a : Option Addr} {l : List (BitVec 32)} (h : Rw W a l) (n : Nat) : Rw (W.drewN n) a l := h.below (below_drewN (Below.refl _ _) n)
theorem Rw.al {W : World} {a : Option Addr} {l : List (BitVec 32)} (h : Rw W a l) (o : Obj) : Rw (W.alloc o) a l := h.below (Below.alloc (Below.refl _ _) (Nat.le_refl _) o)
theorem Rw.sv {W : World} {a : Option Addr} {l : List (BitVec 32)} {b o : Nat} {u v : Value} (h : Rw W a l) (hc : W.cell? ⟨b, o, none⟩ = some u) (hu : ∀ n, u ≠ .int .u32 n) : Rw (W.setCell ⟨b, o, none⟩ v) a l := fun k hk => by
  obtain ⟨ad, e, hd⟩ := h k hk
  refine ⟨ad, e, ?_⟩
  have n0 : (⟨b, o, none⟩ : Addr) ≠ ad.add k := fun e2 => by rw [← e2, hc] at hd; exact hu _ (Option.some.inj hd)
  rw [World.cell?_setCell_other (h := n0)]
  exact hd
theorem Rw.ss {W : World} {a : Option Addr} {l : List (BitVec 32)} {b o : Nat} {x : Option Addr} {i j : Nat} {v : Value} (h : Rw W a l) (hc : W.cell? ⟨b, o, none⟩ = some (.slice x i j)) : Rw (W.setCell ⟨b, o, none⟩ v) a l := h.sv hc (fun _ e => by cases e)
def nonU : Value → Bool
  | .int .u32 _ => false
  | _ => true
def StB (W : World) : List (Nat × Nat × Value) → Prop
  | [] => True
  | p :: r => (∃ u, W.cell? ⟨p.1, p.2.1, none⟩ = some u ∧ nonU u = true) ∧ StB W r
def sets (W : World) : List (Nat × Nat × Value) → World
  | [] => W
  | p :: r => sets (W.setCell ⟨p.1, p.2.1, none⟩ p.2.2) r
theorem sets_far {a : Addr} : ∀ (L : List (Nat × Nat × Value)) (W : World), (∀ p ∈ L, (⟨p.1, p.2.1, none⟩ : Addr) ≠ a) → (sets W L).cell? a = W.cell? a
  | [], _, _ => rfl
  | p :: r, W, h => by
    show (sets (W.setCell ⟨p.1, p.2.1, none⟩ p.2.2) r).cell? a = _
    rw [sets_far r _ (fun q hq => h q (by simp [hq])), World.cell?_setCell_other (h := h p (by simp))]
theorem stB_mem {W : World} : ∀ {L : List (Nat × Nat × Value)}, StB W L → ∀ p ∈ L, ∃ u, W.cell? ⟨p.1, p.2.1, none⟩ = some u ∧ nonU u = true
  | [], _, p, hp => by cases hp
  | q :: r, h, p, hp => by
    rcases List.mem_cons.1 hp with rfl | hp
    · exact h.1
    · exact stB_mem h.2 p hp
/-- Rows stay as they are when variables are written. -/
theorem Rw.sets {W : World} {a : Option Addr} {l : List (BitVec 32)} (h : Rw W a l) (L : List (Nat × Nat × Value)) (hL : StB W L) : Rw (sets W L) a l := fun k hk => by
  obtain ⟨ad, e, hd⟩ := h k hk
  refine ⟨ad, e, ?_⟩
  rw [sets_far L W (fun p hp e2 => ?_)]
  · exact hd
  · obtain ⟨u, h1, h2⟩ := stB_mem hL p hp
    rw [e2, hd] at h1
    cases h1
    simp [nonU] at h2
theorem belA {w W : World} (h : Below w.heap.size w W) (o : Obj) : Below w.heap.size w (W.alloc o) := h.alloc h.size o
theorem belS {w W : World} (h : Below w.heap.size w W) {b o : Nat} {v : Value} (hb : w.heap.size ≤ b) : Below w.heap.size w (W.setCell ⟨b, o, none⟩ v) := h.setCell hb v
/-- What a call answers: values chosen with the rows that it made. -/
def AnsR (v : Pick → Value) (R : Pick → Nat → Nat → World → Prop) (W : World) (e : Ending) (w' : World) : Prop := ∃ γ, e = .returned (v γ) ∧ R γ W.heap.size w'.heap.size w' ∧ Below W.heap.size W w'
/-- Rows that were made. -/
def RwsP (Xs : List (List (BitVec 32))) (γ : Pick) (lo hi : Nat) (W : World) : Prop := ∀ i X, Xs[i]? = some X → X.length ≤ (γ i).2 ∧ Rw W (γ i).1 X
theorem rwsP_fit (Xs : List (List (BitVec 32))) (v : Pick → Value) : (Sg.made v (RwsP Xs)).fit := fun γ lo hi w w' hh h hb i X hX => ⟨(h i X hX).1, (h i X hX).2.below hb⟩
/-- Rows that were made, and that nobody else has. -/
def OwP (Xs : List (List (BitVec 32))) (γ : Pick) (lo hi : Nat) (W : World) : Prop :=
  (∀ i X, Xs[i]? = some X → W.ownsRow lo 32 1 (.slice (γ i).1 X.length (γ i).2) X.length (bv32 X) ∧ ∀ p, (γ i).1 = some p → p.block < hi) ∧
  ∀ i j X Y p q, Xs[i]? = some X → Xs[j]? = some Y → i ≠ j → (γ i).1 = some p → (γ j).1 = some q → p.block ≠ q.block
theorem owP_fit (Xs : List (List (BitVec 32))) (v : Pick → Value) : (Sg.made v (OwP Xs)).fit := fun γ lo hi w w' hh h hb => ⟨fun i X hX => ⟨own_below (h.1 i X hX).1 hb, (h.1 i X hX).2⟩, h.2⟩
theorem OwP.rws {Xs : List (List (BitVec 32))} {γ : Pick} {lo hi : Nat} {W : World} (h : OwP Xs γ lo hi W) : RwsP Xs γ lo hi W := fun i X hX => ⟨own_cap (h.1 i X hX).1, Rw.of_own (h.1 i X hX).1⟩
/-- Rows, whatever their capacity. -/
def RwnP (Xs : List (List (BitVec 32))) (γ : Pick) (lo hi : Nat) (W : World) : Prop := ∀ i X, Xs[i]? = some X → Rw W (γ i).1 X
theorem rwnP_fit (Xs : List (List (BitVec 32))) (v : Pick → Value) : (Sg.made v (RwnP Xs)).fit := fun γ lo hi w w' hh h hb i X hX => (h i X hX).below hb
theorem RwsP.n {Xs : List (List (BitVec 32))} {γ : Pick} {lo hi : Nat} {W : World} (h : RwsP Xs γ lo hi W) : RwnP Xs γ lo hi W := fun i X hX => (h i X hX).2
def TrueP (γ : Pick) (lo hi : Nat) (W : World) : Prop := True
theorem trueP_fit (v : Pick → Value) : (Sg.made v TrueP).fit := fun _ _ _ _ _ _ _ _ => trivial
theorem fit_const (v : Value) : (Sg.val [] (fun _ _ => v)).fit := fun _ _ _ _ _ => rfl
theorem fit_fresh (o : Obj) : (Sg.fresh o).fit := trivial
theorem fit_skip : Sg.skip.fit := trivial
theorem fits_cons {s : Sg} {r : List Sg} (h : s.fit) (k : fits r) : fits (s :: r) := ⟨h, k⟩
theorem fits_nil : fits [] := trivial
theorem AnsR.mono {v : Pick → Value} {R R' : Pick → Nat → Nat → World → Prop} {W : World} {e : Ending} {w' : World} (h : AnsR v R W e w') (hR : ∀ γ lo hi w, R γ lo hi w → R' γ lo hi w) : AnsR v R' W e w' := by
  obtain ⟨γ, h1, h2, h3⟩ := h
  exact ⟨γ, h1, hR _ _ _ _ h2, h3⟩
theorem AnsR.fix {v : Value} {W : World} {e : Ending} {w' : World} (h : e = .returned v ∧ Below W.heap.size W w') : AnsR (fun _ => v) TrueP W e w' := ⟨fun _ => (none, 0), h.1, trivial, h.2⟩
/-- an integer, a rational number in rows that were made -/
def iV (s : Bool) (X : List (BitVec 32)) (γ : Pick) : Value := .agg #[.bool s, .slice (γ 0).1 X.length (γ 0).2]
def pk1 (a : Option Addr) (c : Nat) : Pick := fun _ => (a, c)
end Go.Proofs.YtcofiekfhnfjpaaDoor
