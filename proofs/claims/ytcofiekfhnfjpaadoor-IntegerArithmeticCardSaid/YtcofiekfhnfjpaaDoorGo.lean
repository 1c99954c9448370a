
import Derived.Test.YtcofiekfhnfjpaaDoorU3
namespace Go.Proofs.YtcofiekfhnfjpaaDoor
open Go.RowKit
set_option linter.unusedVariables false
set_option linter.unusedSimpArgs false
/- A region that draws its order, walked once in the order of the text, whose calls answer rows of their own: what an operation made is chosen by G (the addresses and capacities of its rows), in a stretch of blocks from lo to hi. -/
section
variable {P : Program} {ops : Array Oper} {Q : Exit → Act → World → Prop} {md : Region.Mode} {S : World → Prop}

def look (a : Act) : List (Nat × Value) → Nat → Value
  | [], t => a.eval (.tmp t)
  | (s, v) :: r, t => if s = t then v else look a r t
def rhoF (f : Nat → Value) : Operand → Value
  | .tmp t => f t
  | .const v => v
  | .global g => .pointer (some ⟨g, 0, none⟩)
  | .func f => .func (.func f) #[] #[]
theorem rhoF_tmp (f : Nat → Value) (t : Nat) : rhoF f (.tmp t) = f t := rfl
theorem rhoF_const (f : Nat → Value) (v : Value) : rhoF f (.const v) = v := rfl
theorem rhoF_global (f : Nat → Value) (g : Nat) : rhoF f (.global g) = .pointer (some ⟨g, 0, none⟩) := rfl
theorem rhoF_func (f : Nat → Value) (g : FuncId) : rhoF f (.func g) = .func (.func g) #[] #[] := rfl
def seen (ops : Array Oper) (a : Act) (env : List (Nat × Value)) (g : Nat) : Option Bool :=
  match (ops[g]?).bind (·.dst) with
  | some t => match look a env t with
    | .bool b => some b
    | _ => none
  | none => none
def wantedE (ops : Array Oper) (o : Oper) (a : Act) (env : List (Nat × Value)) : Bool := Region.wanted o (seen ops a env)
def putD (d : Option Tmp) (v : Value) (env : List (Nat × Value)) : List (Nat × Value) :=
  match d with
  | some t => (t, v) :: env
  | none => env
def puts (a : Act) : List (Nat × Value) → Act
  | [] => a
  | (s, v) :: r => (puts a r).put (some s) v

theorem puts_size (a : Act) : ∀ env, (puts a env).tmps.size = a.tmps.size
  | [] => rfl
  | (s, v) :: r => by rw [puts, put_size, puts_size a r]
theorem look_eq (a : Act) : ∀ (env : List (Nat × Value)), (∀ p ∈ env, p.1 < a.tmps.size) → ∀ t, look a env t = (puts a env).tmps.getD t undef
  | [], _, t => rfl
  | (s, v) :: r, h, t => by
    have hr := look_eq a r (fun p hp => h p (by simp [hp])) t
    simp only [Array.getD_eq_getD_getElem?] at hr ⊢
    rw [look, puts, put_look, puts_size]
    by_cases e : s = t
    · subst e
      have := h (s, v) (by simp)
      simp at this
      simp [this]
    · rw [if_neg e, if_neg e]; exact hr
theorem rho_eq (a : Act) (env : List (Nat × Value)) (h : ∀ p ∈ env, p.1 < a.tmps.size) : (puts a env).eval = rhoF (look a env) := by
  funext x
  cases x with
  | tmp t => exact (look_eq a env h t).symm
  | const v => rfl
  | global g => rfl
  | func f => rfl
theorem seen_eq (a : Act) (env : List (Nat × Value)) (h : ∀ p ∈ env, p.1 < a.tmps.size) : yielded ops (puts a env).tmps = seen ops a env := by
  funext g
  unfold yielded seen
  cases ht : (ops[g]?).bind (·.dst) with
  | none => rfl
  | some t =>
    simp only [Option.bind_some]
    rw [look_eq a env h t, Array.getD_eq_getD_getElem?]
    cases (puts a env).tmps[t]? with
    | none => rfl
    | some v => cases v <;> rfl


abbrev Pick := Nat → Option Addr × Nat
inductive Sg where
  | val (ds : List Nat) (v : (Nat → Pick) → (Nat → Nat) → Value)
  | made (v : Pick → Value) (R : Pick → Nat → Nat → World → Prop)
  | fresh (o : Obj)
  | skip
def Sg.get : Sg → (Nat → Pick) → (Nat → Nat) → Nat → Value
  | .val _ v, G, lo, _ => v G lo
  | .made v _, G, _, k => v (G k)
  | .fresh _, _, lo, k => .pointer (some ⟨lo k, 0, none⟩)
  | .skip, _, _, _ => undef
def Sg.fact : Sg → Pick → Nat → Nat → World → Prop
  | .made _ R, γ, lo, hi, W => R γ lo hi W
  | .fresh o, _, lo, hi, W => W.heap[lo]? = some o ∧ hi = lo + 1
  | _, _, _, _, _ => True
/-- a value looks at nothing but what ds names; what was made stays as it is -/
def Sg.fit : Sg → Prop
  | .val ds v => ∀ G G' lo lo', (∀ j ∈ ds, G j = G' j ∧ lo j = lo' j) → v G lo = v G' lo'
  | .made _ R => ∀ γ lo hi w w', hi ≤ w.heap.size → R γ lo hi w → Below w.heap.size w w' → R γ lo hi w'
  | _ => True
def Sg.news : Sg → Bool
  | .made _ _ => true
  | .fresh _ => true
  | _ => false
def Sg.ds : Sg → List Nat
  | .val ds _ => ds
  | _ => []
def fits : List Sg → Prop
  | [] => True
  | s :: r => s.fit ∧ fits r
theorem fits_at : ∀ {sp : List Sg}, fits sp → ∀ i, (sp.getD i .skip).fit
  | [], _, i => by simp [Sg.fit]
  | s :: r, h, 0 => h.1
  | s :: r, h, i + 1 => by simpa using fits_at h.2 i
theorem fact_next {s : Sg} (hf : s.fit) {γ : Pick} {lo hi : Nat} {w w' : World} (hh : hi ≤ w.heap.size) (h : s.fact γ lo hi w) (hb : Below w.heap.size w w') : s.fact γ lo hi w' := by
  cases s with
  | made v R => exact hf γ lo hi w w' hh h hb
  | fresh o =>
    obtain ⟨h1, h2⟩ := h
    subst h2
    exact ⟨(hb.block _ (by omega)).trans h1, rfl⟩
  | _ => trivial

def gr (ops : Array Oper) (sp : List Sg) (G : Nat → Pick) (lo : Nat → Nat) (L : Nat → Bool) (a : Act) : Nat → Act
  | 0 => a
  | k + 1 => if L k = true then (gr ops sp G lo L a k).put (dstAt ops k) ((sp.getD k .skip).get G lo k) else gr ops sp G lo L a k
theorem gr_agree {sp : List Sg} {G : Nat → Pick} {lo : Nat → Nat} {L L' : Nat → Bool} {a : Act} {T : List Tmp} : ∀ (k : Nat), (∀ j, j < k → ∀ d, dstAt ops j = some d → d ∈ T → L j = L' j) → Agree T (gr ops sp G lo L a k) (gr ops sp G lo L' a k)
  | 0, _ => ⟨rfl, fun _ _ => rfl⟩
  | k + 1, h => by
    have ih := gr_agree (sp := sp) (G := G) (lo := lo) (a := a) k (fun j hj => h j (by omega))
    simp only [gr]
    by_cases hT : ∃ d, dstAt ops k = some d ∧ d ∈ T
    · obtain ⟨d, hd, hm⟩ := hT
      rw [h k (by omega) d hd hm]
      split
      · exact ih.put _ _
      · exact ih
    · have hn : ∀ t, dstAt ops k = some t → t ∉ T := fun t ht hm => hT ⟨t, ht, hm⟩
      split <;> split
      · exact ih.put _ _
      · exact ih.put_left _ _ hn
      · exact ih.put_right _ _ hn
      · exact ih
theorem gr_G {sp : List Sg} {G G' : Nat → Pick} {lo lo' : Nat → Nat} {L : Nat → Bool} {a : Act} (hfit : fits sp) (h : ∀ j, L j = true → G j = G' j ∧ lo j = lo' j) (hcl : ∀ k, L k = true → ∀ j ∈ (sp.getD k .skip).ds, L j = true) :
    ∀ (k : Nat), gr ops sp G lo L a k = gr ops sp G' lo' L a k
  | 0 => rfl
  | k + 1 => by
    simp only [gr]
    rw [gr_G hfit h hcl k]
    split
    · rename_i hk
      have hf := fits_at hfit k
      have hc := hcl k hk
      congr 1
      cases hs : sp.getD k .skip with
      | val ds v =>
        rw [hs] at hf hc
        exact hf G G' lo lo' (fun j hj => h j (hc j hj))
      | made v R => simp only [Sg.get]; rw [(h k hk).1]
      | fresh o => simp only [Sg.get]; rw [(h k hk).2]
      | skip => rfl
    · rfl
theorem gr_L {sp : List Sg} {G : Nat → Pick} {lo : Nat → Nat} {L L' : Nat → Bool} {a : Act} : ∀ (k : Nat), (∀ j, j < k → L j = L' j) → gr ops sp G lo L a k = gr ops sp G lo L' a k
  | 0, _ => rfl
  | k + 1, h => by
    simp only [gr]
    rw [gr_L k (fun j hj => h j (by omega)), h k (by omega)]
theorem gr_set {sp : List Sg} {G : Nat → Pick} {lo : Nat → Nat} {L : Nat → Bool} {a : Act} {i : Nat} (hi : L i = false) :
    ∀ (k : Nat), i < k → (∀ j, j < k → j ≠ i → ∀ d, dstAt ops i = some d → dstAt ops j ≠ some d) →
    gr ops sp G lo (fun j => L j || decide (j = i)) a k = (gr ops sp G lo L a k).put (dstAt ops i) ((sp.getD i .skip).get G lo i)
  | 0, h, _ => by omega
  | k + 1, h, hd => by
    simp only [gr]
    by_cases hk : k = i
    · subst hk
      simp only [hi, decide_true, Bool.or_true, if_true, Bool.false_eq_true, if_false]
      rw [gr_L k (L' := L) (fun j hj => by simp; omega)]
    · have ih := gr_set (sp := sp) (G := G) (lo := lo) (a := a) hi k (by omega) (fun j hj => hd j (by omega))
      rw [ih]
      simp only [hk, decide_false, Bool.or_false]
      split
      · exact Act.put_comm _ _ _ (hd k (by omega) hk)
      · rfl

/-- what operation i may ask for: what the operations of D have made -/
def Facts (sp : List Sg) (G : Nat → Pick) (lo hi : Nat → Nat) (W : World) (D : List Nat) : Prop := ∀ j ∈ D, (sp.getD j .skip).fact (G j) (lo j) (hi j) W ∧ ((sp.getD j .skip).news = true → hi j ≤ W.heap.size)
def og (P : Program) (ops : Array Oper) (S : World → Prop) (F : World → Prop) (G : Nat → Pick) (lo : Nat → Nat) (o : Oper) (a : Act) : Sg → Prop
  | .val _ v => Region.wanted o (yielded ops a.tmps) = true ∧ ∀ w, S w → F w → (execOp a.eval o).run P w = .ok (.value (v G lo)) w
  | .made v R => Region.wanted o (yielded ops a.tmps) = true ∧ ∀ w, S w → F w →
    (∃ f args, (execOp a.eval o).run P w = .ok (.enter f args) w ∧ Calls P f args w fun e w' => ∃ γ, e = .returned (v γ) ∧ R γ w.heap.size w'.heap.size w' ∧ Below w.heap.size w w') ∨
    (∃ γ w', (execOp a.eval o).run P w = .ok (.value (v γ)) w' ∧ R γ w.heap.size w'.heap.size w' ∧ Below w.heap.size w w')
  | .fresh obj => Region.wanted o (yielded ops a.tmps) = true ∧ ∀ w, S w → (execOp a.eval o).run P w = .ok (.value (.pointer (some ⟨w.heap.size, 0, none⟩))) (w.alloc obj)
  | .skip => Region.wanted o (yielded ops a.tmps) = false
theorem og_congr {F : World → Prop} {G : Nat → Pick} {lo : Nat → Nat} {o : Oper} {a b : Act} {s : Sg} (he : execOp a.eval o = execOp b.eval o) (hw : Region.wanted o (yielded ops a.tmps) = Region.wanted o (yielded ops b.tmps)) (h : og P ops S F G lo o b s) : og P ops S F G lo o a s := by
  cases s <;> simp only [og] at h ⊢ <;> rw [hw] <;> first | (rw [he]; exact h) | exact h
/-- what was made lies apart -/
def Apart (sp : List Sg) (G : Nat → Pick) (lo hi : Nat → Nat) (w0 W : World) : List Nat → Prop
  | [] => True
  | k :: r => (w0.heap.size ≤ lo k ∧ lo k ≤ hi k ∧ hi k ≤ W.heap.size ∧ (sp.getD k .skip).fact (G k) (lo k) (hi k) W) ∧ (∀ q ∈ r, hi k ≤ lo q ∨ hi q ≤ lo k) ∧ Apart sp G lo hi w0 W r
def newsOf (sp : List Sg) (n : Nat) : List Nat := (List.range n).filter fun k => (sp.getD k .skip).news

/-- D names, for each operation, some that have come up before it -/
def depB (md : Region.Mode) (ops : Array Oper) (sp : List Sg) (D : List (List Nat)) (n : Nat) : Bool :=
  (List.range n).all fun i => ((D.getD i []).all fun j => decide (j < i) && (Region.waitsFor md ops i j || (D.getD i []).any fun k => Region.waitsFor md ops i k && (D.getD k []).contains j)) &&
    ((sp.getD i .skip).ds.all fun j => (D.getD i []).contains j)
theorem depB_spec {sp : List Sg} {D : List (List Nat)} {n : Nat} (h : depB md ops sp D n = true) : ∀ i, i < n → (∀ j ∈ D.getD i [], j < i ∧ (Region.waitsFor md ops i j = true ∨ ∃ k, k < i ∧ Region.waitsFor md ops i k = true ∧ j ∈ D.getD k [])) ∧ ∀ j ∈ (sp.getD i .skip).ds, j ∈ D.getD i [] := by
  simp only [depB, List.all_eq_true, List.mem_range, Bool.and_eq_true, decide_eq_true_eq, Bool.or_eq_true, List.any_eq_true, List.contains_iff_mem] at h
  intro i hi
  obtain ⟨h1, h2⟩ := h i hi
  refine ⟨fun j hj => ?_, h2⟩
  obtain ⟨h3, h4⟩ := h1 j hj
  refine ⟨h3, ?_⟩
  rcases h4 with h4 | ⟨k, hk, h5, h6⟩
  · exact .inl h4
  · exact .inr ⟨k, (h1 k hk).1, h5, h6⟩
theorem waits_listed {i j : Nat} {oi : Oper} {listed : Array Bool} (hoi : ops[i]? = some oi) (hdeps : ∀ e ∈ oi.after, Region.binds md e = true → listed.getD e.on false = true) (hw : Region.waitsFor md ops i j = true) : listed.getD j false = true := by
  obtain ⟨oj, hoj, e', he', hbb, hon⟩ := Region.waitsFor_spec hw
  obtain rfl : oj = oi := Option.some.inj (hoj.symm.trans hoi)
  have := hdeps e' he' hbb
  rwa [hon] at this
theorem dep_closed {sp : List Sg} {D : List (List Nat)} {n : Nat} {listed : Array Bool} (hD : depB md ops sp D n = true) (hops : ∀ i, i < n → ∃ o, ops[i]? = some o) (hinv : HeadInv md ops n listed) :
    ∀ k, k < n → listed.getD k false = true → ∀ j ∈ D.getD k [], listed.getD j false = true := by
  intro k
  induction k using Nat.strongRecOn with
  | _ k ih =>
    intro hk hl j hj
    obtain ⟨o, ho⟩ := hops k hk
    obtain ⟨h1, h2⟩ := (depB_spec hD k hk).1 j hj
    rcases h2 with h2 | ⟨m, hm, h3, h4⟩
    · exact waits_listed ho (hinv.closed k o ho hl) h2
    · exact ih m hm (by omega) (waits_listed ho (hinv.closed k o ho hl) h3) j h4
theorem dep_ready {sp : List Sg} {D : List (List Nat)} {n i : Nat} {oi : Oper} {listed : Array Bool} (hD : depB md ops sp D n = true) (hops : ∀ i, i < n → ∃ o, ops[i]? = some o) (hinv : HeadInv md ops n listed) (hin : i < n) (hoi : ops[i]? = some oi)
    (hdeps : ∀ e ∈ oi.after, Region.binds md e = true → listed.getD e.on false = true) : ∀ j ∈ D.getD i [], listed.getD j false = true := by
  intro j hj
  obtain ⟨h1, h2⟩ := (depB_spec hD i hin).1 j hj
  rcases h2 with h2 | ⟨m, hm, h3, h4⟩
  · exact waits_listed hoi hdeps h2
  · exact dep_closed hD hops hinv m (by omega) (waits_listed hoi hdeps h3) j h4

structure Gnv (ops : Array Oper) (S : World → Prop) (w0 : World) (sp : List Sg) (n : Nat) (a0 : Act) (L : Nat → Bool) (a : Act) (w : World) : Prop where
  intro ::
  ex : ∃ (G : Nat → Pick) (lo hi : Nat → Nat), a = gr ops sp G lo L a0 n ∧ (∀ k, k < n → L k = true → (sp.getD k .skip).news = true → w0.heap.size ≤ lo k ∧ lo k ≤ hi k ∧ hi k ≤ w.heap.size ∧ (sp.getD k .skip).fact (G k) (lo k) (hi k) w) ∧
    (∀ j k, j < n → k < n → j ≠ k → L j = true → L k = true → (sp.getD j .skip).news = true → (sp.getD k .skip).news = true → hi j ≤ lo k ∨ hi k ≤ lo j)
  s : S w
  bel : Below w0.heap.size w0 w

theorem apart_all {sp : List Sg} {G : Nat → Pick} {lo hi : Nat → Nat} {w0 W : World} : ∀ (l : List Nat), l.Nodup → (∀ k ∈ l, w0.heap.size ≤ lo k ∧ lo k ≤ hi k ∧ hi k ≤ W.heap.size ∧ (sp.getD k .skip).fact (G k) (lo k) (hi k) W) →
    (∀ j ∈ l, ∀ k ∈ l, j ≠ k → hi j ≤ lo k ∨ hi k ≤ lo j) → Apart sp G lo hi w0 W l
  | [], _, _, _ => trivial
  | k :: r, hn, h1, h2 => by
    rw [List.nodup_cons] at hn
    exact ⟨h1 k (by simp), fun q hq => h2 k (by simp) q (by simp [hq]) (by rintro rfl; exact hn.1 hq),
      apart_all r hn.2 (fun j hj => h1 j (by simp [hj])) (fun i hi' j hj => h2 i (by simp [hi']) j (by simp [hj]))⟩
theorem wpAny_of_og {sp : List Sg} {D : List (List Nat)} {n : Nat} {a0 : Act} {w0 : World} {tl : List Oper} (hB : anyB md ops n = true) (hfit : fits sp) (hD : depB md ops sp D n = true) (hspn : sp.length = n) (hcl : ∀ w w', S w → Below w.heap.size w w' → S w')
    (hob : ∀ G lo hi i o, i < n → ops[i]? = some o → og P ops S (fun W => Facts sp G lo hi W (D.getD i [])) G lo o (gr ops sp G lo (fun _ => true) a0 i) (sp.getD i .skip))
    (htl : ∀ j, tl[j]? = ops[n + j]?) (htll : tl.length = ops.size - n)
    (hend : ∀ G lo hi W, S W → Below w0.heap.size w0 W → Apart sp G lo hi w0 W (newsOf sp n) → wpList P ops Q tl (gr ops sp G lo (fun _ => true) a0 n) W) :
    ∀ (m : Nat) (R : List Nat) (listed : Array Bool) (a : Act) (w : World), R.length = m → R.Nodup → HeadInv md ops n listed → (∀ j, j < n → (j ∈ R ↔ listed.getD j false = false)) → (∀ j ∈ R, j < n) →
    Gnv ops S w0 sp n a0 (fun j => listed.getD j false) a w → wpAny P md ops Q (m + tl.length) listed a w := by
  obtain ⟨b1, b2, b3, b4, b5⟩ := anyB_spec hB
  have hops : ∀ i, i < n → ∃ o, ops[i]? = some o := fun i hi => by obtain ⟨o, h1, _⟩ := b4 i hi; exact ⟨o, h1⟩
  intro m
  induction m with
  | zero =>
    intro R listed a w hR hnd hinv hmem hlt ⟨⟨G, lo, hi, ha, hf1, hf2⟩, hs, hbel⟩
    have hR0 : R = [] := List.length_eq_zero_iff.1 hR
    subst hR0
    have hall : ∀ j, j < n → listed.getD j false = true := fun j hj => by
      cases h : listed.getD j false with
      | true => rfl
      | false => exact absurd ((hmem j hj).2 h) (by simp)
    have hL : listed = Array.replicate n true ++ Array.replicate (ops.size - n) false := by
      apply Array.ext (by simp [hinv.size]; omega)
      intro i h1 h2
      rw [Array.getElem_append]
      split
      · rename_i h
        have := hall i (by simpa using h)
        simp [h1] at this
        simp [this]
      · rename_i h
        have := getD_both (hinv.tail i (by simpa using h) (by rw [← hinv.size]; exact h1))
        simp [h1] at this
        simp [this]
    rw [Nat.zero_add]
    have hfr : a = gr ops sp G lo (fun _ => true) a0 n := by rw [ha]; exact gr_L n hall
    have hw := hend G lo hi w hs hbel (apart_all (newsOf sp n) (List.nodup_range.filter _) (fun k hk => by
        obtain ⟨h1, h2⟩ := List.mem_filter.1 hk
        exact hf1 k (by simpa using h1) (hall k (by simpa using h1)) h2) (fun j hj k hk hne => by
        obtain ⟨h1, h2⟩ := List.mem_filter.1 hj
        obtain ⟨h3, h4⟩ := List.mem_filter.1 hk
        exact hf2 j k (by simpa using h1) (by simpa using h3) hne (hall j (by simpa using h1)) (hall k (by simpa using h3)) h2 h4))
    rw [← hfr] at hw
    refine wpAny_of_seq tl n listed a w htl ?_ hw
    rw [htll, hL]
    exact b5
  | succ m ih =>
    intro R listed a w hR hnd hinv hmem hlt ⟨⟨G, lo, hi, ha, hf1, hf2⟩, hs, hbel⟩
    have hex : ∃ i, i < n ∧ listed.getD i false = false := by
      cases R with
      | nil => cases hR
      | cons r R => exact ⟨r, hlt r (by simp), (hmem r (hlt r (by simp))).1 (by simp)⟩
    obtain ⟨i0, hi0, hi0'⟩ := hex
    obtain ⟨j0, hj0, hj0'⟩ := head_ready (fun i hi => by obtain ⟨o, h1, h2, _⟩ := b4 i hi; exact ⟨o, h1, h2⟩) hinv.size b1 i0 hi0 hi0'
    have hone := only_head b3 hinv hi0 (getD_in (by rw [hinv.size]; omega) hi0')
    rw [show m + 1 + tl.length = (m + tl.length) + 1 by omega]
    refine ⟨fun h => (by rw [h] at hj0'; cases hj0'), fun i hri => ?_⟩
    have hin := hone i hri
    obtain ⟨hun, oi, hoi, hdeps⟩ := mem_ready.1 hri
    have hunf := getD_both hun
    obtain ⟨o', ho', hbk, hdst⟩ := b4 i hin
    obtain rfl : o' = oi := Option.some.inj (ho'.symm.trans hoi)
    have hsel := Region.noSelect_spec b2 i o'
    have hready := dep_ready hD hops hinv hin hoi hdeps
    -- the operation in the frame at hand
    have hag : Agree (o'.looksAt ops) a (gr ops sp G lo (fun _ => true) a0 i) := by
      have e : gr ops sp G lo (fun _ => true) a0 i = gr ops sp G lo (fun j => decide (j < i)) a0 n := by
        have : ∀ k, i ≤ k → gr ops sp G lo (fun j => decide (j < i)) a0 k = gr ops sp G lo (fun _ => true) a0 i := by
          intro k
          induction k with
          | zero => intro h; obtain rfl : i = 0 := by omega
                    rfl
          | succ k ihk =>
            intro h
            by_cases hk : i = k + 1
            · subst hk
              exact gr_L _ (fun j hj => by simp; omega)
            · simp only [gr]
              rw [if_neg (by simp; omega)]
              exact ihk (by omega)
        exact (this n (by omega)).symm
      rw [ha, e]
      refine gr_agree n (fun j hj d hd hm => ?_)
      obtain ⟨h1, h2⟩ := (hdst j hj d hd).1 hm
      have := waits_listed hoi hdeps h2
      simp [this, h1]
    obtain ⟨hex1, hex2⟩ := agree_exec (ops := ops) (fun cs b => hsel cs b hoi) hag
    have hobi := og_congr hex1 hex2 (hob G lo hi i o' hin hoi)
    have hF : Facts sp G lo hi w (D.getD i []) := fun j hj => by
      have hjn : j < n := Nat.lt_trans ((depB_spec hD i hin).1 j hj).1 hin
      have hjl := hready j hj
      cases hnw : (sp.getD j .skip).news with
      | true =>
        obtain ⟨h1, h2, h3, h4⟩ := hf1 j hjn hjl hnw
        exact ⟨h4, fun _ => h3⟩
      | false =>
        refine ⟨?_, fun h => by cases h⟩
        cases hsj : sp.getD j .skip <;> rw [hsj] at hnw <;> first | (simp [Sg.news] at hnw; done) | trivial
    -- what follows
    have hset : ∀ j, (listed.setIfInBounds i true).getD j false = (listed.getD j false || decide (j = i)) := fun j => by
      by_cases hji : j = i
      · subst hji
        have : j < listed.size := by rw [hinv.size]; omega
        simp [this]
      · rw [getD_set_ne false (Ne.symm hji)]; simp [hji]
    have hspd : ∀ k, ¬ k < n → (sp.getD k .skip).ds = [] := fun k hk => by
      rw [List.getD_eq_getElem?_getD, List.getElem?_eq_none (by omega)]; rfl
    have next : ∀ (G' : Nat → Pick) (lo' hi' : Nat → Nat) (w' : World), (∀ j, j ≠ i → G' j = G j ∧ lo' j = lo j ∧ hi' j = hi j) → S w' → Below w.heap.size w w' →
        ((sp.getD i .skip).news = true → w.heap.size ≤ lo' i ∧ lo' i ≤ hi' i ∧ hi' i ≤ w'.heap.size ∧ (sp.getD i .skip).fact (G' i) (lo' i) (hi' i) w') →
        wpAny P md ops Q (m + tl.length) (listed.setIfInBounds i true) (a.put o'.dst ((sp.getD i .skip).get G' lo' i)) w' := by
      intro G' lo' hi' w' hg hs' hb' hfr
      have hL : (fun j => (listed.setIfInBounds i true).getD j false) = fun j => listed.getD j false || decide (j = i) := funext hset
      refine ih (R.erase i) (listed.setIfInBounds i true) _ w' (by rw [List.length_erase_of_mem ((hmem i hin).2 hunf), hR]; rfl) (hnd.erase i) (hinv.set hri hin) (fun j hj => ?_) (fun j hj => hlt j (List.mem_of_mem_erase hj)) ?_
      · rw [hnd.mem_erase_iff, hset, hmem j hj]
        simp
        exact And.comm
      · rw [hL]
        refine ⟨⟨G', lo', hi', ?_, ?_, ?_⟩, hs', hbel.trans (hb'.mono hbel.size)⟩
        · rw [gr_set hunf n hin (fun j hj hji d hd => ?_)]
          · rw [ha, show dstAt ops i = o'.dst by simp [dstAt, hoi]]
            rw [gr_G (G := G) (G' := G') (lo := lo) (lo' := lo') hfit (fun j hj => ?_) (fun k hk j hj => ?_) n]
            · have hji : j ≠ i := by
                rintro rfl
                rw [hunf] at hj
                cases hj
              exact ⟨(hg j hji).1.symm, (hg j hji).2.1.symm⟩
            · by_cases hkn : k < n
              · exact dep_closed hD hops hinv k hkn hk j ((depB_spec hD k hkn).2 j hj)
              · rw [hspd k hkn] at hj
                cases hj
          · obtain ⟨oj, hoj, _, hdj⟩ := b4 j hj
            exact ((hdj i hin d hd).2).resolve_left (fun h => hji h.symm)
        · intro k hk hLk hsk
          by_cases hki : k = i
          · subst hki
            obtain ⟨h1, h2, h3, h4⟩ := hfr hsk
            exact ⟨Nat.le_trans hbel.size h1, h2, h3, h4⟩
          · have hLk' : listed.getD k false = true := by simpa [hki] using hLk
            obtain ⟨h1, h2, h3, h4⟩ := hf1 k hk hLk' hsk
            obtain ⟨e1, e2, e3⟩ := hg k hki
            rw [e1, e2, e3]
            exact ⟨h1, h2, Nat.le_trans h3 hb'.size, fact_next (fits_at hfit k) h3 h4 hb'⟩
        · intro j k hj hk hne hLj hLk hsj hsk
          by_cases hji : j = i
          · subst hji
            have hkj : k ≠ j := fun h => hne h.symm
            have hLk' : listed.getD k false = true := by simpa [hkj] using hLk
            have h1 := (hf1 k hk hLk' hsk).2.2.1
            have h2 := (hfr hsj).1
            obtain ⟨e1, e2, e3⟩ := hg k hkj
            rw [e2, e3]
            right; omega
          · have hLj' : listed.getD j false = true := by simpa [hji] using hLj
            obtain ⟨d1, d2, d3⟩ := hg j hji
            by_cases hki : k = i
            · subst hki
              have h1 := (hf1 j hj hLj' hsj).2.2.1
              have h2 := (hfr hsk).1
              rw [d2, d3]
              left; omega
            · have hLk' : listed.getD k false = true := by simpa [hki] using hLk
              obtain ⟨e1, e2, e3⟩ := hg k hki
              rw [d2, d3, e2, e3]
              exact hf2 j k hj hk hne hLj' hLk' hsj hsk
    have upd : ∀ (γ : Pick) (l h : Nat), ∃ (G' : Nat → Pick) (lo' hi' : Nat → Nat), (∀ j, j ≠ i → G' j = G j ∧ lo' j = lo j ∧ hi' j = hi j) ∧ G' i = γ ∧ lo' i = l ∧ hi' i = h := fun γ l h =>
      ⟨fun j => if j = i then γ else G j, fun j => if j = i then l else lo j, fun j => if j = i then h else hi j, fun j hj => by simp [hj], by simp, by simp, by simp⟩
    unfold wpOp
    rw [hoi]
    show if Region.wanted o' (yielded ops a.tmps) = true then _ else _
    cases hsi : sp.getD i .skip with
    | val ds v =>
      rw [hsi] at hobi next
      obtain ⟨hw, hr⟩ := hobi
      rw [if_pos hw]
      refine .inl ?_
      unfold Oper.wp
      rw [hr w hs hF]
      exact next G lo hi w (fun _ _ => ⟨rfl, rfl, rfl⟩) hs (Below.refl _ _) (fun h => by cases h)
    | made v R =>
      rw [hsi] at hobi next
      obtain ⟨hw, hr⟩ := hobi
      rw [if_pos hw]
      refine .inl ?_
      unfold Oper.wp
      rcases hr w hs hF with ⟨f, args, hrun, hc⟩ | ⟨γ, w', hrun, hR', hb⟩
      · rw [hrun]
        refine hc.mono ?_
        rintro e w' ⟨γ, rfl, hR', hb⟩
        obtain ⟨G', lo', hi', h1, h2, h3, h4⟩ := upd γ w.heap.size w'.heap.size
        have := next G' lo' hi' w' h1 (hcl w w' hs hb) hb (fun _ => by rw [h2, h3, h4]; exact ⟨Nat.le_refl _, hb.size, Nat.le_refl _, hR'⟩)
        simp only [Sg.get, h2] at this
        exact this
      · rw [hrun]
        obtain ⟨G', lo', hi', h1, h2, h3, h4⟩ := upd γ w.heap.size w'.heap.size
        have := next G' lo' hi' w' h1 (hcl w w' hs hb) hb (fun _ => by rw [h2, h3, h4]; exact ⟨Nat.le_refl _, hb.size, Nat.le_refl _, hR'⟩)
        simp only [Sg.get, h2] at this
        exact this
    | fresh obj =>
      rw [hsi] at hobi next
      obtain ⟨hw, hr⟩ := hobi
      rw [if_pos hw]
      refine .inl ?_
      unfold Oper.wp
      rw [hr w hs]
      have hb : Below w.heap.size w (w.alloc obj) := (Below.refl _ _).alloc (Nat.le_refl _) _
      obtain ⟨G', lo', hi', h1, h2, h3, h4⟩ := upd (G i) w.heap.size (w.heap.size + 1)
      have := next G' lo' hi' (w.alloc obj) h1 (hcl w _ hs hb) hb (fun _ => by
        rw [h3, h4]
        refine ⟨Nat.le_refl _, by omega, by simp, ?_, rfl⟩
        show (w.heap.push obj)[w.heap.size]? = some obj
        simp)
      simp only [Sg.get, h3] at this
      exact this
    | skip =>
      rw [hsi] at hobi next
      have hw : Region.wanted o' (yielded ops a.tmps) = false := hobi
      rw [if_neg (by rw [hw]; simp)]
      exact next G lo hi w (fun _ _ => ⟨rfl, rfl, rfl⟩) hs (Below.refl _ _) (fun h => by cases h)

/-- the obligations, in the order of the text; the frame is a list of what has been written -/
def ogE (P : Program) (ops : Array Oper) (S F : World → Prop) (G : Nat → Pick) (lo : Nat → Nat) (o : Oper) (a : Act) (env : List (Nat × Value)) : Sg → Prop
  | .val _ v => wantedE ops o a env = true ∧ ∀ w, S w → F w → (execOp (rhoF (look a env)) o).run P w = .ok (.value (v G lo)) w
  | .made v R => wantedE ops o a env = true ∧ ∀ w, S w → F w →
    (∃ f args, (execOp (rhoF (look a env)) o).run P w = .ok (.enter f args) w ∧ Calls P f args w fun e w' => ∃ γ, e = .returned (v γ) ∧ R γ w.heap.size w'.heap.size w' ∧ Below w.heap.size w w') ∨
    (∃ γ w', (execOp (rhoF (look a env)) o).run P w = .ok (.value (v γ)) w' ∧ R γ w.heap.size w'.heap.size w' ∧ Below w.heap.size w w')
  | .fresh obj => wantedE ops o a env = true ∧ ∀ w, S w → (execOp (rhoF (look a env)) o).run P w = .ok (.value (.pointer (some ⟨w.heap.size, 0, none⟩))) (w.alloc obj)
  | .skip => wantedE ops o a env = false
theorem og_of_ogE {F : World → Prop} {G : Nat → Pick} {lo : Nat → Nat} {o : Oper} {a : Act} {env : List (Nat × Value)} (h : ∀ p ∈ env, p.1 < a.tmps.size) {s : Sg} (ho : ogE P ops S F G lo o a env s) : og P ops S F G lo o (puts a env) s := by
  have e1 := rho_eq a env h
  have e2 := seen_eq (ops := ops) a env h
  cases s <;> simp only [og, ogE, wantedE] at ho ⊢ <;> rw [e2] <;> first | (rw [e1]; exact ho) | exact ho
def Oge (P : Program) (ops : Array Oper) (S : World → Prop) (sp : List Sg) (D : List (List Nat)) (G : Nat → Pick) (lo hi : Nat → Nat) (a : Act) (E : List (Nat × Value) → Prop) : List Oper → List Sg → Nat → List (Nat × Value) → Prop
  | [], [], _, env => E env
  | o :: os, s :: ss, k, env => ogE P ops S (fun W => Facts sp G lo hi W (D.getD k [])) G lo o a env s ∧ Oge P ops S sp D G lo hi a E os ss (k + 1) (putD o.dst (s.get G lo k) env)
  | _, _, _, _ => False
theorem oge_at {sp : List Sg} {D : List (List Nat)} {G : Nat → Pick} {lo hi : Nat → Nat} {a : Act} {E : List (Nat × Value) → Prop} : ∀ (os : List Oper) (ss : List Sg) (k : Nat) (env : List (Nat × Value)),
    (∀ j, j < os.length → os[j]? = ops[k + j]?) → (∀ j, ss[j]? = sp[k + j]?) → (∀ o ∈ os, ∀ d, o.dst = some d → d < a.tmps.size) → (∀ p ∈ env, p.1 < a.tmps.size) →
    gr ops sp G lo (fun _ => true) a k = puts a env → Oge P ops S sp D G lo hi a E os ss k env →
    (∀ i o, k ≤ i → i < k + os.length → ops[i]? = some o → og P ops S (fun W => Facts sp G lo hi W (D.getD i [])) G lo o (gr ops sp G lo (fun _ => true) a i) (sp.getD i .skip)) ∧
    ∃ env', gr ops sp G lo (fun _ => true) a (k + os.length) = puts a env' ∧ E env'
  | [], [], k, env, _, _, _, _, hg, h => ⟨fun i o h1 h2 => (by simp at h2; omega), env, by simpa using hg, h⟩
  | [], _ :: _, _, _, _, _, _, _, _, h => by simp [Oge] at h
  | _ :: _, [], _, _, _, _, _, _, _, h => by simp [Oge] at h
  | o :: os, s :: ss, k, env, ho, hs, hd, he, hg, h => by
    obtain ⟨h1, h2⟩ := h
    have ho0 : ops[k]? = some o := by simpa using (ho 0 (by simp)).symm
    have hs0 : sp[k]? = some s := by simpa using (hs 0).symm
    have hsd : sp.getD k .skip = s := by simp [List.getD_eq_getElem?_getD, hs0]
    have he2 : ∀ p ∈ putD o.dst (s.get G lo k) env, p.1 < a.tmps.size := fun p hp => by
      unfold putD at hp
      cases hdst : o.dst with
      | none => rw [hdst] at hp; exact he p hp
      | some d =>
        rw [hdst] at hp
        rcases List.mem_cons.1 hp with rfl | hp
        · exact hd o (by simp) d hdst
        · exact he p hp
    have e : puts a (putD o.dst (s.get G lo k) env) = (puts a env).put o.dst (s.get G lo k) := by
      unfold putD
      cases o.dst <;> rfl
    have hg2 : gr ops sp G lo (fun _ => true) a (k + 1) = puts a (putD o.dst (s.get G lo k) env) := by
      simp only [gr, if_true, hsd, dstAt, ho0, Option.bind_some]
      rw [hg, e]
    obtain ⟨h3, env', h4, h5⟩ := oge_at os ss (k + 1) _ (fun j hj => by have := ho (j + 1) (by simp; omega); simpa [Nat.add_assoc, Nat.add_comm 1 j] using this) (fun j => by have := hs (j + 1); simpa [Nat.add_assoc, Nat.add_comm 1 j] using this) (fun o' ho' => hd o' (by simp [ho'])) he2 hg2 h2
    refine ⟨fun i o' hi' hi'' ho' => ?_, env', by rw [List.length_cons, show k + (os.length + 1) = k + 1 + os.length by omega]; exact h4, h5⟩
    by_cases hik : i = k
    · subst hik
      obtain rfl : o' = o := Option.some.inj (ho'.symm.trans ho0)
      rw [hsd, hg]
      exact og_of_ogE he h1
    · exact h3 i o' (by omega) (by simp at hi''; omega) ho'
section
variable {sp : List Sg} {D : List (List Nat)} {G : Nat → Pick} {lo hi : Nat → Nat} {E : List (Nat × Value) → Prop} {os : List Oper} {ss : List Sg} {a : Act} {o : Oper} {k : Nat} {env : List (Nat × Value)}
theorem oge_val {ds : List Nat} {v : (Nat → Pick) → (Nat → Nat) → Value} (hw : wantedE ops o a env = true) (h : ∀ f, look a env = f → ∀ w, S w → Facts sp G lo hi w (D.getD k []) → (execOp (rhoF f) o).run P w = .ok (.value (v G lo)) w) (hn : Oge P ops S sp D G lo hi a E os ss (k + 1) (putD o.dst (v G lo) env)) :
    Oge P ops S sp D G lo hi a E (o :: os) (.val ds v :: ss) k env := ⟨⟨hw, h _ rfl⟩, hn⟩
theorem oge_call {v : Pick → Value} {R : Pick → Nat → Nat → World → Prop} (f : FuncId) (args : Array Value) (hw : wantedE ops o a env = true) (h : ∀ r, look a env = r → ∀ w, S w → Facts sp G lo hi w (D.getD k []) → (execOp (rhoF r) o).run P w = .ok (.enter f args) w)
    (hc : ∀ w, S w → Facts sp G lo hi w (D.getD k []) → Calls P f args w fun e w' => ∃ γ, e = .returned (v γ) ∧ R γ w.heap.size w'.heap.size w' ∧ Below w.heap.size w w')
    (hn : Oge P ops S sp D G lo hi a E os ss (k + 1) (putD o.dst (v (G k)) env)) : Oge P ops S sp D G lo hi a E (o :: os) (.made v R :: ss) k env := ⟨⟨hw, fun w hs hF => .inl ⟨f, args, h _ rfl w hs hF, hc w hs hF⟩⟩, hn⟩
theorem oge_fresh {obj : Obj} (hw : wantedE ops o a env = true) (h : ∀ r, look a env = r → ∀ w, S w → (execOp (rhoF r) o).run P w = .ok (.value (.pointer (some ⟨w.heap.size, 0, none⟩))) (w.alloc obj))
    (hn : Oge P ops S sp D G lo hi a E os ss (k + 1) (putD o.dst (.pointer (some ⟨lo k, 0, none⟩)) env)) : Oge P ops S sp D G lo hi a E (o :: os) (.fresh obj :: ss) k env := ⟨⟨hw, h _ rfl⟩, hn⟩
theorem oge_nil (h : E env) : Oge P ops S sp D G lo hi a E [] [] k env := h
end
def dstB (n : Nat) (os : List Oper) : Bool := os.all fun o => match o.dst with
  | some d => decide (d < n)
  | none => true
/-- THE REGION: its head's operations in the order of the text, its tail behind them. -/
theorem wp_region_go {id : Nat} {a : Act} {w : World} {l : List Oper} (S S0 : World → Prop) (n m : Nat) (sp : List Sg) (D : List (List Nat)) (ns : List Nat) (hm : P.follows .mixedOrders = true) (hB : anyB .any l.toArray n = true) (hsz : a.tmps.size = m) (hd : dstB m l = true)
    (hD : depB .any l.toArray sp D n = true) (hns : newsOf sp n = ns) (hspn : sp.length = n) (hfit : fits sp) (hcl : ∀ w w', S w → Below w.heap.size w w' → S w') (h0 : S0 w) (hS : ∀ W, S0 W → S W)
    (h : ∀ W, S0 W → ∀ (G : Nat → Pick) (lo hi : Nat → Nat), Oge P l.toArray S sp D G lo hi a (fun env => ∀ W', S W' → Below W.heap.size W W' → Apart sp G lo hi W W' ns → wpList P l.toArray Q (l.drop n) (puts a env) W') (l.take n) sp 0 []) : (Code.region id l.toArray true).wp P Q a w := by
  obtain ⟨b1, b2, b3, b4, b5⟩ := anyB_spec hB
  have hn : n ≤ l.length := by simpa using b1
  have hlen : (l.take n).length = n := by simp; omega
  have hob := fun G lo hi => oge_at (ops := l.toArray) (a := a) (sp := sp) (D := D) (G := G) (lo := lo) (hi := hi) (l.take n) sp 0 [] (fun j hj => by
    have : j < n := by omega
    simp [List.getElem?_take, this]) (fun j => by simp) (fun o ho d hdo => by
      have := List.all_eq_true.1 hd o (List.mem_of_mem_take ho)
      rw [hdo] at this
      rw [hsz]
      simpa using this) (fun p hp => by cases hp) rfl (h w h0 G lo hi)
  have hd' : Below w.heap.size w w.drew := (Below.refl _ _).drew
  refine wp_region_any hm ?_
  have hinv0 : HeadInv .any l.toArray n (Array.replicate l.toArray.size false) :=
    ⟨by simp, fun j oj _ hl => (by rw [getD_replicate_false] at hl; cases hl), fun t _ ht => getD_in (by simpa using ht) (getD_replicate_false _ _)⟩
  have hfr0 : a = gr l.toArray sp (fun _ _ => (none, 0)) (fun _ => 0) (fun j => (Array.replicate l.toArray.size false).getD j false) a n := by
    have e0 : (fun j => (Array.replicate l.toArray.size false).getD j false) = fun _ => false := funext fun j => getD_replicate_false _ _
    rw [e0]
    have : ∀ k, gr l.toArray sp (fun _ _ => (none, 0)) (fun _ => 0) (fun _ => false) a k = a := by
      intro k
      induction k with
      | zero => rfl
      | succ k ih => simp only [gr, ih]; simp
    exact (this n).symm
  have hend : ∀ G lo hi W, S W → Below w.heap.size w W → Apart sp G lo hi w W (newsOf sp n) → wpList P l.toArray Q (l.drop n) (gr l.toArray sp G lo (fun _ => true) a n) W := fun G lo hi W hs hb hf => by
    obtain ⟨_, env', h4, h5⟩ := hob G lo hi
    rw [hlen, Nat.zero_add] at h4
    rw [h4]
    exact h5 W hs hb (by rw [← hns]; exact hf)
  have key := wpAny_of_og (P := P) (Q := Q) (S := S) (sp := sp) (D := D) (n := n) (a0 := a) (w0 := w) (tl := l.drop n) hB hfit hD hspn hcl
    (fun G lo hi i o hi' ho => (hob G lo hi).1 i o (by omega) (by omega) ho) (fun j => by simp [List.getElem?_drop]) (by simp) hend
    n (List.range n) (Array.replicate l.toArray.size false) a w.drew (by simp) List.nodup_range hinv0 (fun j hj => by rw [getD_replicate_false]; simpa using hj) (fun j hj => by simpa using hj)
    ⟨⟨fun _ _ => (none, 0), fun _ => 0, fun _ => 0, hfr0, fun k _ hk => (by rw [getD_replicate_false] at hk; cases hk), fun j k _ _ _ hk => (by rw [getD_replicate_false] at hk; cases hk)⟩, hcl _ _ (hS w h0) hd', hd'⟩
  have e : n + (l.drop n).length = l.toArray.size := by simp; omega
  rw [e] at key
  exact key
theorem wp_region_go1 {id : Nat} {a : Act} {w w1 : World} {l : List Oper} (S : World → Prop) (n m : Nat) (sp : List Sg) (D : List (List Nat)) (ns : List Nat) (hm : P.follows .mixedOrders = true) (hB : anyB .any l.toArray n = true) (hsz : a.tmps.size = m) (hd : dstB m l = true)
    (hD : depB .any l.toArray sp D n = true) (hns : newsOf sp n = ns) (hspn : sp.length = n) (hfit : fits sp) (hcl : ∀ w w', S w → Below w.heap.size w w' → S w') (h0 : S w1) (hE : Below w1.heap.size w1 w)
    (h : ∀ W, S W → ∀ (G : Nat → Pick) (lo hi : Nat → Nat), Oge P l.toArray S sp D G lo hi a (fun env => ∀ W', S W' → Below W.heap.size W W' → Apart sp G lo hi W W' ns → wpList P l.toArray Q (l.drop n) (puts a env) W') (l.take n) sp 0 []) : (Code.region id l.toArray true).wp P Q a w :=
  wp_region_go S S n m sp D ns hm hB hsz hd hD hns hspn hfit hcl (hcl _ _ h0 hE) (fun _ h => h) h
theorem wp_region_go0 {id : Nat} {a : Act} {w : World} {l : List Oper} (S : World → Prop) (n m : Nat) (sp : List Sg) (D : List (List Nat)) (ns : List Nat) (hm : P.follows .mixedOrders = true) (hB : anyB .any l.toArray n = true) (hsz : a.tmps.size = m) (hd : dstB m l = true)
    (hD : depB .any l.toArray sp D n = true) (hns : newsOf sp n = ns) (hspn : sp.length = n) (hfit : fits sp) (hcl : ∀ w w', S w → Below w.heap.size w w' → S w') (h0 : S w)
    (h : ∀ W, S W → ∀ (G : Nat → Pick) (lo hi : Nat → Nat), Oge P l.toArray S sp D G lo hi a (fun env => ∀ W', S W' → Below W.heap.size W W' → Apart sp G lo hi W W' ns → wpList P l.toArray Q (l.drop n) (puts a env) W') (l.take n) sp 0 []) : (Code.region id l.toArray true).wp P Q a w :=
  wp_region_go S S n m sp D ns hm hB hsz hd hD hns hspn hfit hcl h0 (fun _ h => h) h
end
end Go.Proofs.YtcofiekfhnfjpaaDoor
