import Derived.Test.YtfbgfnebodabpaaOwn
import Derived.Laws.OwnMore
import Derived.Deep.Draws
import Derived.Lib.Hide
import Derived.Maps.AppendAt
namespace Go.Proofs.Ytfbgfnebodabpaa
open Go.RowKit
set_option linter.unusedVariables false
/- Slices of records: k cells for each element of a list. -/
theorem own_keep {w w1 : World} {base : Nat} {e : TypeId} {size : Nat} {v : Value} {n : Nat} {xs : List Value} (h : w.ownsRow base e size v n xs) (hb : Below w.heap.size w w1) : w1.ownsRow base e size v n xs :=
  h.kept (row := none) ⟨hb.os, hb.tape, hb.output, hb.size, fun k hk _ => hb.block k hk⟩ (by cases v.ownBlock <;> simp)
section
variable {α : Type} {k : Nat} {f : α → List Value}
def Cl (f : α → List Value) (l : List α) : List Value := l.flatMap f
theorem Cl_nil : Cl f [] = [] := rfl
theorem Cl_cons (x : α) (l : List α) : Cl f (x :: l) = f x ++ Cl f l := by simp [Cl]
theorem Cl_snoc (l : List α) (x : α) : Cl f (l ++ [x]) = Cl f l ++ f x := by simp [Cl]
theorem Cl_append (l m : List α) : Cl f (l ++ m) = Cl f l ++ Cl f m := by simp [Cl]
theorem Cl_len (hk : ∀ x, (f x).length = k) (l : List α) : (Cl f l).length = l.length * k := by
  induction l with
  | nil => simp [Cl]
  | cons x r ih => rw [Cl_cons, List.length_append, hk, ih, List.length_cons, Nat.add_mul]; omega
theorem Cl_get (hk : ∀ x, (f x).length = k) : ∀ (l : List α) (i : Nat) (h : i < l.length) (j : Nat), j < k → (Cl f l)[i * k + j]? = (f l[i])[j]?
  | [], i, h, j, hj => by simp at h
  | x :: r, 0, h, j, hj => by rw [Cl_cons, Nat.zero_mul, Nat.zero_add, List.getElem?_append_left (by rw [hk]; exact hj)]; rfl
  | x :: r, i + 1, h, j, hj => by
    have ih := Cl_get hk r i (by simpa using h) j hj
    rw [Cl_cons, List.getElem?_append_right (by rw [hk, Nat.add_mul]; omega), hk, show (i + 1) * k + j - k = i * k + j by rw [Nat.add_mul]; omega, ih]
    rfl
theorem Cl_set (hk : ∀ x, (f x).length = k) : ∀ (l : List α) (i : Nat) (h : i < l.length) (j : Nat) (u : Value) (y : α), j < k → f y = (f l[i]).set j u → Cl f (l.set i y) = (Cl f l).set (i * k + j) u
  | [], i, h, j, u, y, hj, he => by simp at h
  | x :: r, 0, h, j, u, y, hj, he => by
    have he' : f y = (f x).set j u := he
    rw [List.set_cons_zero, Cl_cons, Cl_cons, he', Nat.zero_mul, Nat.zero_add, List.set_append_left _ _ (by rw [hk]; exact hj)]
  | x :: r, i + 1, h, j, u, y, hj, he => by
    have ih := Cl_set hk r i (by simpa using h) j u y hj he
    rw [List.set_cons_succ, Cl_cons, Cl_cons, ih, List.set_append_right _ _ (by rw [hk, Nat.add_mul]; omega), hk, show (i + 1) * k + j - k = i * k + j by rw [Nat.add_mul]; omega]
/-- A slice reads as a list of records. -/
def RS (k : Nat) (f : α → List Value) (w : World) (a : Option Addr) (l : List α) : Prop := ∀ i (h : i < l.length), ∃ ad, a = some ad ∧ ∀ j u, (f l[i])[j]? = some u → w.cell? ((ad.add (i * k)).add j) = some u
theorem RS.nil (w : World) (a : Option Addr) : RS k f w a [] := fun i h => by simp at h
theorem RS.below {w w' : World} {a : Option Addr} {l : List α} (h : RS k f w a l) (hb : Below w.heap.size w w') : RS k f w' a l := fun i hi => by
  obtain ⟨ad, e, hc⟩ := h i hi
  exact ⟨ad, e, fun j u hu => (hb.cell (World.block_lt_of_cell? w _ (hc j u hu))).trans (hc j u hu)⟩
theorem RS.drewN {w : World} {a : Option Addr} {l : List α} (h : RS k f w a l) (n : Nat) : RS k f (w.drewN n) a l := h
theorem RS.take {w : World} {a : Option Addr} {l : List α} (h : RS k f w a l) (n : Nat) : RS k f w a (l.take n) := fun i hi => by
  obtain ⟨ad, e, hc⟩ := h i (by simp at hi; omega)
  exact ⟨ad, e, fun j u hu => hc j u (by rw [List.getElem_take] at hu; exact hu)⟩
theorem rs_of_rdv (h0 : 0 < k) (hk : ∀ x, (f x).length = k) {w : World} {a : Option Addr} {l : List α} (h : RdV w a (Cl f l)) : RS k f w a l := fun i hi => by
  obtain ⟨u0, hu0⟩ : ∃ u, (f l[i])[0]? = some u := ⟨_, List.getElem?_eq_getElem (show 0 < (f l[i]).length by rw [hk]; exact h0)⟩
  obtain ⟨ad, rfl, _⟩ := h (i * k + 0) u0 (by rw [Cl_get hk l i hi 0 (by omega)]; exact hu0)
  refine ⟨ad, rfl, fun j u hu => ?_⟩
  have hj : j < k := by rw [← hk l[i]]; exact (List.getElem?_eq_some_iff.1 hu).1
  obtain ⟨ad', e, hc⟩ := h (i * k + j) u (by rw [Cl_get hk l i hi j hj]; exact hu)
  cases e
  rw [add_addr]
  exact hc
theorem own_rdv {w : World} {B n c : Nat} {T : TypeId} {a : Option Addr} {xs : List Value} (h : w.ownsRow B T k (.slice a n c) n xs) : RdV w a xs := by
  intro j u hu
  rcases h.2 with ⟨e, h1⟩ | ⟨g, cap, cur, h1, h2, _⟩
  · subst h1
    have h2 := h.1
    have : xs = [] := List.length_eq_zero_iff.1 (by omega)
    subst this
    simp at hu
  · injection h1 with e1 _ _
    subst e1
    exact ⟨_, rfl, h.cells (g := g) rfl j u hu⟩
theorem own_rs (h0 : 0 < k) (hk : ∀ x, (f x).length = k) {w : World} {B n c : Nat} {T : TypeId} {a : Option Addr} {l : List α} (h : w.ownsRow B T k (.slice a n c) n (Cl f l)) : RS k f w a l := rs_of_rdv h0 hk (own_rdv h)
theorem own_capK {w : World} {B n c : Nat} {T : TypeId} {a : Option Addr} {xs : List Value} (h : w.ownsRow B T k (.slice a n c) n xs) : n ≤ c := by
  rcases h.2 with ⟨h1, h2⟩ | ⟨g, cap, cur, h1, _, _, h2, _⟩
  · injection h1; omega
  · injection h1; omega
theorem add0 (g j : Nat) : (⟨g, 0, none⟩ : Addr).add j = ⟨g, j, none⟩ := by unfold Addr.add; split <;> simp_all
/-- A row of one's own with an element: where it lies, its cells, none of them frozen. -/
theorem own_at (h0 : 0 < k) (hk : ∀ x, (f x).length = k) {w : World} {B n c : Nat} {T : TypeId} {a : Option Addr} {l : List α} (h : w.ownsRow B T k (.slice a n c) n (Cl f l)) (i : Nat) (hi : i < l.length) :
    ∃ ad, a = some ad ∧ B ≤ ad.block ∧ ad.block < w.heap.size ∧ (∀ j u, (f l[i])[j]? = some u → w.cell? ((ad.add (i * k)).add j) = some u) ∧ (∀ j, w.frozen? ((ad.add (i * k)).add j) = false) := by
  obtain ⟨ad, rfl, hc⟩ := own_rs h0 hk h i hi
  obtain ⟨g, rfl, hB, hlt⟩ : ∃ g, ad = ⟨g, 0, none⟩ ∧ B ≤ g ∧ g < w.heap.size := by
    have := h.lt
    rcases h.2 with ⟨e, _⟩ | ⟨g, cap, cur, e, hB, hh, _⟩
    · cases e
    · cases e
      exact ⟨g, rfl, hB, (Array.getElem?_eq_some_iff.1 hh).1⟩
  exact ⟨_, rfl, hB, hlt, hc, fun j => by rw [add_addr, add0]; exact h.frozenAt _⟩
/-- One cell of an element is written. -/
theorem own_put (hk : ∀ x, (f x).length = k) {w : World} {B n c : Nat} {T : TypeId} {ad : Addr} {l : List α} (h : w.ownsRow B T k (.slice (some ad) n c) n (Cl f l)) (i : Nat) (hi : i < l.length) (j : Nat) (hj : j < k) (u : Value) (y : α) (he : f y = (f l[i]).set j u) :
    (w.setCell ((ad.add (i * k)).add j) u).ownsRow B T k (.slice (some ad) n c) n (Cl f (l.set i y)) ∧ w.grownBy (w.setCell ((ad.add (i * k)).add j) u) (some ad.block) := by
  obtain ⟨g, rfl⟩ : ∃ g, ad = ⟨g, 0, none⟩ := by
    rcases h.2 with ⟨e, _⟩ | ⟨g, cap, cur, e, _⟩
    · cases e
    · cases e; exact ⟨g, rfl⟩
  rw [add_addr, add0, Cl_set hk l i hi j u y hj he]
  exact h.stored _ u
/-- Two rows of one's own of different types are apart. -/
theorem own_apart {w : World} {B B' n n' k' : Nat} {T T' : TypeId} {v v' : Value} {xs ys : List Value} (h : w.ownsRow B T k v n xs) (h' : w.ownsRow B' T' k' v' n' ys) (hne : T ≠ T') (g : Nat) (e : v.ownBlock = some g) (e' : v'.ownBlock = some g) : False := by
  rcases h.2 with ⟨rfl, _⟩ | ⟨g1, cap, cur, rfl, _, hh, _⟩
  · cases e
  · rcases h'.2 with ⟨rfl, _⟩ | ⟨g2, cap2, cur2, rfl, _, hh2, _⟩
    · cases e'
    · injection e with e; injection e' with e'
      subst e e'
      rw [hh] at hh2
      injection hh2 with h3
      injection h3 with _ h4
      exact hne h4
theorem own_kept2 {w w' : World} {B B' n n' k' : Nat} {T T' : TypeId} {v v' : Value} {xs ys : List Value} (h : w.ownsRow B T k v n xs) (h' : w.ownsRow B' T' k' v' n' ys) (hne : T ≠ T') (hg : w.grownBy w' v'.ownBlock) : w'.ownsRow B T k v n xs :=
  h.kept hg (by
    cases e : v.ownBlock with
    | none => exact .inl rfl
    | some g => exact .inr (fun e2 => own_apart h h' hne g e e2.symm))
theorem row_cell {w : World} {g : Nat} {cs : Array Value} {T : TypeId} (h : w.heap[g]? = some (.cells cs T (0, 0))) (j : Nat) : w.cell? ⟨g, j, none⟩ = cs[j]? := cell_of_row w g j cs T (0, 0) h
theorem cells_new (W : World) (cs : Array Value) (T : TypeId) (j : Nat) (u : Value) (hu : cs.toList[j]? = some u) : (W.alloc (.cells cs T)).cell? ((⟨W.heap.size, 0, none⟩ : Addr).add j) = some u := by
  rw [add0, cell_of_row _ _ j _ _ (0, 0) (heap_alloc_new W _)]
  simpa using hu
end
/-- One more record behind a row of the call's own. -/
theorem wp_snocS {P : Program} {wr : World} {B k bytes : Nat} {o : Oper} {a : Act} {K : Act → World → Prop} {Q : Exit → Act → World → Prop} {α : Type} (f : α → List Value) (s x : Operand) (t T : TypeId)
    (ho : o.op = .call { callee := .builtin .append, args := #[s, x], argTypes := #[t, t] }) (ht : P.underlying t = some (.slice T)) {z : Value} (hinf : (P.info? T).map (fun i => (i.zero, i.size, i.bytes)) = some (some z, k, bytes)) (hzs : z.cells.size = k) (hk0 : 0 < k)
    {v : Value} {n : Nat} {l : List α} (hown : wr.ownsRow B T k v n (Cl f l)) (hB : B ≤ wr.heap.size) (hn : n + 1 ≤ 1000000) (hby : bytes ≤ 1000000)
    (y : α) (cs : Array Value) (hcs : cs.toList = f y) (hl : (f y).length = k) (h1 : ∀ u ∈ f y, u.oneCell' = true) {b : Nat} (hbb : wr.heap.size = b) (hs : a.eval s = v) (hx : a.eval x = .slice (some ⟨b, 0, none⟩) 1 1)
    (h : ∀ v' w', w'.ownsRow B T k v' (n + 1) (Cl f (l ++ [y])) → Below B wr w' → wr.grownBy w' v.ownBlock → K (a.put o.dst v') w') :
    o.wp P a (wr.alloc (.cells cs T)) K Q := by
  subst hbb
  obtain ⟨i0, hi, hz0, hz1, hz2⟩ := info_parts hinf
  have hb1 := Below.alloc (Below.refl B wr) hB (.cells cs T)
  have hsz : B ≤ (wr.alloc (.cells cs T)).heap.size := by simp; omega
  refine wp_append_own _ s x _ ho B T i0 z k bytes ht hi hz0 hz1 hz2 hzs hk0 v n (Cl f l) hs (hown.alloc _) ⟨wr.heap.size, 0, none⟩ 1 1 (f y) hx (by omega) ?_ h1 (by unfold maxLen; omega) (Nat.le_trans (Nat.mul_le_mul hn hby) (by decide)) hsz ?_
  · intro j u hu
    exact cells_new wr cs T j u (by rw [hcs]; exact hu)
  · intro v' w' hown2 hg _
    exact h v' w' (by rw [Cl_snoc]; exact hown2) (hb1.grown hg hsz (fun q hq => (hown.lt q hq).1)) ((World.grownBy_alloc wr _ _).trans hg)
theorem wpList_snocS {P : Program} {wr : World} {B k bytes : Nat} {ops : Array Oper} {rest : List Oper} {o : Oper} {a : Act} {Q : Exit → Act → World → Prop} {α : Type} (f : α → List Value) (hgd : o.guard = none) (s x : Operand) (t T : TypeId)
    (ho : o.op = .call { callee := .builtin .append, args := #[s, x], argTypes := #[t, t] }) (ht : P.underlying t = some (.slice T)) {z : Value} (hinf : (P.info? T).map (fun i => (i.zero, i.size, i.bytes)) = some (some z, k, bytes)) (hzs : z.cells.size = k) (hk0 : 0 < k)
    {v : Value} {n : Nat} {l : List α} (hown : wr.ownsRow B T k v n (Cl f l)) (hB : B ≤ wr.heap.size) (hn : n + 1 ≤ 1000000) (hby : bytes ≤ 1000000)
    (y : α) (cs : Array Value) (hcs : cs.toList = f y) (hl : (f y).length = k) (h1 : ∀ u ∈ f y, u.oneCell' = true) {b : Nat} (hbb : wr.heap.size = b) (hs : a.eval s = v) (hx : a.eval x = .slice (some ⟨b, 0, none⟩) 1 1)
    (h : ∀ v' w', w'.ownsRow B T k v' (n + 1) (Cl f (l ++ [y])) → Below B wr w' → wr.grownBy w' v.ownBlock → wpList P ops Q rest (a.put o.dst v') w') :
    wpList P ops Q (o :: rest) a (wr.alloc (.cells cs T)) :=
  wpList_plain hgd fun _ hK => wp_snocS f s x t T ho ht hinf hzs hk0 hown hB hn hby y cs hcs hl h1 hbb hs hx fun v' w' h2 h3 h4 => hK _ _ (h v' w' h2 h3 h4)
/-- The same; and where the new row lies. -/
theorem wp_snocA {P : Program} {wr : World} {B k bytes : Nat} {o : Oper} {a : Act} {K : Act → World → Prop} {Q : Exit → Act → World → Prop} {α : Type} (f : α → List Value) (s x : Operand) (t T : TypeId)
    (ho : o.op = .call { callee := .builtin .append, args := #[s, x], argTypes := #[t, t] }) (ht : P.underlying t = some (.slice T)) {z : Value} (hinf : (P.info? T).map (fun i => (i.zero, i.size, i.bytes)) = some (some z, k, bytes)) (hzs : z.cells.size = k) (hk0 : 0 < k)
    {v : Value} {n : Nat} {l : List α} (hown : wr.ownsRow B T k v n (Cl f l)) (hB : B ≤ wr.heap.size) (hn : n + 1 ≤ 1000000) (hby : bytes ≤ 1000000)
    (y : α) (cs : Array Value) (hcs : cs.toList = f y) (hl : (f y).length = k) (h1 : ∀ u ∈ f y, u.oneCell' = true) {b : Nat} (hbb : wr.heap.size = b) (hs : a.eval s = v) (hx : a.eval x = .slice (some ⟨b, 0, none⟩) 1 1)
    (h : ∀ v' w', w'.ownsRow B T k v' (n + 1) (Cl f (l ++ [y])) → Below B wr w' → wr.grownBy w' v.ownBlock → (∀ g, g < wr.heap.size → v.ownBlock ≠ some g → v'.ownBlock ≠ some g) → K (a.put o.dst v') w') :
    o.wp P a (wr.alloc (.cells cs T)) K Q := by
  subst hbb
  obtain ⟨i0, hi, hz0, hz1, hz2⟩ := info_parts hinf
  have hb1 := Below.alloc (Below.refl B wr) hB (.cells cs T)
  have hsz : B ≤ (wr.alloc (.cells cs T)).heap.size := by simp; omega
  obtain ⟨v', w', hrun, h2, h3, _, h5⟩ := run_append_own_at (P := P) (wr.alloc (.cells cs T)) B t o.type T i0 z k bytes ht hi hz0 hz1 hz2 hzs hk0 v n (Cl f l) (hown.alloc _) ⟨wr.heap.size, 0, none⟩ 1 1 (f y) (by omega) (fun j u hu => cells_new wr cs T j u (by rw [hcs]; exact hu)) h1 (by unfold maxLen; omega) (Nat.le_trans (Nat.mul_le_mul hn hby) (by decide)) hsz
  unfold Oper.wp execOp
  simp only [ho, resolve, invoke, builtin, Sem.run_bind, Sem.run_pure, Result.andThen_ok, List.map_toArray, List.map_cons, List.map_nil, hs, hx, hrun]
  refine h v' w' (by rw [Cl_snoc]; exact h2) (hb1.grown h3 hsz (fun q hq => (hown.lt q hq).1)) ((World.grownBy_alloc wr _ _).trans h3) (fun g hg hne e => ?_)
  rcases h5 with h5 | h5
  · exact hne (h5 ▸ e)
  · rw [h5] at e
    have := Option.some.inj e
    simp at this
    omega
theorem wpList_snocA {P : Program} {wr : World} {B k bytes : Nat} {ops : Array Oper} {rest : List Oper} {o : Oper} {a : Act} {Q : Exit → Act → World → Prop} {α : Type} (f : α → List Value) (hgd : o.guard = none) (s x : Operand) (t T : TypeId)
    (ho : o.op = .call { callee := .builtin .append, args := #[s, x], argTypes := #[t, t] }) (ht : P.underlying t = some (.slice T)) {z : Value} (hinf : (P.info? T).map (fun i => (i.zero, i.size, i.bytes)) = some (some z, k, bytes)) (hzs : z.cells.size = k) (hk0 : 0 < k)
    {v : Value} {n : Nat} {l : List α} (hown : wr.ownsRow B T k v n (Cl f l)) (hB : B ≤ wr.heap.size) (hn : n + 1 ≤ 1000000) (hby : bytes ≤ 1000000)
    (y : α) (cs : Array Value) (hcs : cs.toList = f y) (hl : (f y).length = k) (h1 : ∀ u ∈ f y, u.oneCell' = true) {b : Nat} (hbb : wr.heap.size = b) (hs : a.eval s = v) (hx : a.eval x = .slice (some ⟨b, 0, none⟩) 1 1)
    (h : ∀ v' w', w'.ownsRow B T k v' (n + 1) (Cl f (l ++ [y])) → Below B wr w' → wr.grownBy w' v.ownBlock → (∀ g, g < wr.heap.size → v.ownBlock ≠ some g → v'.ownBlock ≠ some g) → wpList P ops Q rest (a.put o.dst v') w') :
    wpList P ops Q (o :: rest) a (wr.alloc (.cells cs T)) :=
  wpList_plain hgd fun _ hK => wp_snocA f s x t T ho ht hinf hzs hk0 hown hB hn hby y cs hcs hl h1 hbb hs hx fun v' w' h2 h3 h4 h5 => hK _ _ (h v' w' h2 h3 h4 h5)
/-- A literal row reads as its records. -/
theorem rs_lit {α : Type} {k : Nat} {f : α → List Value} (h0 : 0 < k) (hk : ∀ x, (f x).length = k) {X : World} {g : Nat} {cs : Array Value} {T : TypeId} {l : List α} (hg : g = X.heap.size) (hcs : cs.toList = Cl f l) : RS k f (X.alloc (.cells cs T)) (some ⟨g, 0, none⟩) l := by
  subst hg
  exact rs_of_rdv h0 hk fun j u hu => ⟨_, rfl, cells_new X cs T j u (by rw [hcs]; exact hu)⟩
theorem RS.grown {α : Type} {k : Nat} {f : α → List Value} {w w' : World} {a : Option Addr} {l : List α} {r : Option Nat} (h : RS k f w a l) (hg : w.grownBy w' r) (hne : ∀ ad, a = some ad → r ≠ some ad.block) : RS k f w' a l := fun i hi => by
  obtain ⟨ad, e, hc⟩ := h i hi
  refine ⟨ad, e, fun j u hu => hg.cell (hc j u hu) (fun e2 => hne ad e ?_)⟩
  rw [← e2, block_add, block_add]
/-- An empty row, just made. -/
theorem own_empty {W : World} {B g k : Nat} {T : TypeId} {xs : List Value} (hg : g = W.heap.size) (hB : B ≤ W.heap.size) (hx : xs = []) : (W.alloc (.cells #[] T)).ownsRow B T k (.slice (some ⟨g, 0, none⟩) 0 0) 0 xs := by
  subst hg hx
  exact World.ownsRow_made W #[] 0 hB (by unfold maxLen; omega) (by simp)
/-- An argument that is a slice of records. -/
def IsRecs {α : Type} (k : Nat) (f : α → List Value) (wf : α → Prop) (w : World) (a : Option Addr) (n c : Nat) (l : List α) : Prop :=
  (a = none ∧ n = 0 ∧ c = 0 ∧ l = []) ∨ ∃ ad, a = some ad ∧ n ≤ c ∧ c ≤ maxLen ∧ l.length = n ∧ (∀ i (h : i < l.length), wf l[i]) ∧ ∀ i (h : i < l.length) j u, (f l[i])[j]? = some u → w.cell? ((ad.add (i * k)).add j) = some u
theorem IsRecs.rs {α : Type} {k : Nat} {f : α → List Value} {wf : α → Prop} {w : World} {a : Option Addr} {n c : Nat} {l : List α} (h : IsRecs k f wf w a n c l) : RS k f w a l := fun i hi => by
  rcases h with ⟨_, _, _, rfl⟩ | ⟨ad, h1, _, _, _, _, h2⟩
  · simp at hi
  · exact ⟨ad, h1, h2 i hi⟩
theorem IsRecs.len {α : Type} {k : Nat} {f : α → List Value} {wf : α → Prop} {w : World} {a : Option Addr} {n c : Nat} {l : List α} (h : IsRecs k f wf w a n c l) : l.length = n ∧ n ≤ c ∧ c ≤ maxLen := by
  rcases h with ⟨_, rfl, rfl, rfl⟩ | ⟨ad, h1, h2, h3, h4, _, _⟩
  · exact ⟨rfl, Nat.le_refl _, Nat.zero_le _⟩
  · exact ⟨h4, h2, h3⟩
theorem IsRecs.all {α : Type} {k : Nat} {f : α → List Value} {wf : α → Prop} {w : World} {a : Option Addr} {n c : Nat} {l : List α} (h : IsRecs k f wf w a n c l) : ∀ i (h : i < l.length), wf l[i] := fun i hi => by
  rcases h with ⟨_, _, _, rfl⟩ | ⟨ad, h1, _, _, _, h2, _⟩
  · simp at hi
  · exact h2 i hi
theorem list_of {α : Type} {P : Nat → α → Prop} : ∀ n, (∀ i, i < n → ∃ x, P i x) → ∃ l : List α, l.length = n ∧ ∀ i (h : i < l.length), P i l[i]
  | 0, _ => ⟨[], rfl, fun i h => by simp at h⟩
  | n + 1, h => by
    obtain ⟨l, hl, hp⟩ := list_of n (fun i hi => h i (by omega))
    obtain ⟨x, hx⟩ := h n (by omega)
    refine ⟨l ++ [x], by simp [hl], fun i hi => ?_⟩
    rw [List.getElem_append]
    split
    · exact hp i ‹_›
    · have : i = n := by simp at hi; omega
      subst this
      simpa using hx
end Go.Proofs.Ytfbgfnebodabpaa
