
import Derived.Test.YtcofiekfhnfjpaaDoorS1b
namespace Go.Proofs.YtcofiekfhnfjpaaDoor
open Go.RowKit
set_option linter.unusedVariables false
set_option linter.unusedSimpArgs false
/- A region that draws its order and whose stores into new variables are late: a value of a later assignment may be read behind an earlier one's store. The variables are made by the region itself, so no reading looks at them. -/
namespace Late
section
variable {P : Program} {ops : Array Oper} {Q : Exit → Act → World → Prop} {md : Region.Mode} {S : World → Prop}

inductive Sg where
  | val (ds : List Nat) (v : (Nat → Pick) → (Nat → Nat) → Value)
  | made (v : Pick → Value) (R : Pick → World → Prop)
  | late (o : Obj) (n : Nat)
  | store (k : Nat) (ds : List Nat) (vs : (Nat → Pick) → (Nat → Nat) → List Value)
  | skip
def Sg.get : Sg → (Nat → Pick) → (Nat → Nat) → Nat → Value
  | .val _ v, G, lo, _ => v G lo
  | .made v _, G, _, k => v (G k)
  | .late _ _, _, lo, k => .pointer (some ⟨lo k, 0, none⟩)
  | .store _ _ _, _, _, _ => undef
  | .skip, _, _, _ => undef
/-- The variable's cells hold no digit. -/
def Bn (W : World) (b n : Nat) : Prop := ∃ vs : List Value, vs.length = n ∧ Bx W b vs ∧ vs.all nonU = true
def Sg.fact : Sg → Pick → Nat → World → Prop
  | .late _ n, _, b, W => Bn W b n
  | .made _ R, γ, _, W => R γ W
  | _, _, _, _ => True
def Sg.done : Sg → (Nat → Pick) → (Nat → Nat) → World → Prop
  | .store k _ vs, G, lo, W => Bx W (lo k) (vs G lo)
  | _, _, _, _ => True
/-- The stretch of blocks behind b, every other variable and every row stay as they are. -/
def Up (b : Nat) (w w' : World) : Prop := Below b w w' ∧ (∀ g vs, g ≠ b → Bx w g vs → Bx w' g vs) ∧ ∀ a l, Rw w a l → Rw w' a l
/-- a value looks at nothing but what ds names -/
def Sg.fit : Sg → Prop
  | .val ds v => ∀ G G' lo lo', (∀ j ∈ ds, G j = G' j ∧ lo j = lo' j) → v G lo = v G' lo'
  | .made _ R => (∀ γ w w', R γ w → Below w.heap.size w w' → R γ w') ∧ ∀ γ b w w', R γ w → Up b w w' → R γ w'
  | .store k ds vs => k ∈ ds ∧ ∀ G G' lo lo', (∀ j ∈ ds, G j = G' j ∧ lo j = lo' j) → vs G lo = vs G' lo'
  | _ => True
def Sg.news : Sg → Bool
  | .late _ _ => true
  | _ => false
def Sg.call : Sg → Bool
  | .made _ _ => true
  | _ => false
def Sg.tgt : Sg → Option Nat
  | .store k _ _ => some k
  | _ => none
def Sg.ds : Sg → List Nat
  | .val ds _ => ds
  | .store _ ds _ => ds
  | _ => []
def fits : List Sg → Prop
  | [] => True
  | s :: r => s.fit ∧ fits r
theorem fits_at : ∀ {sp : List Sg}, fits sp → ∀ i, (sp.getD i .skip).fit
  | [], _, i => by simp [Sg.fit]
  | s :: r, h, 0 => h.1
  | s :: r, h, i + 1 => by simpa using fits_at h.2 i
theorem fact_below {s : Sg} (hf : s.fit) {γ : Pick} {b : Nat} {w w' : World} (h : s.fact γ b w) (hb : Below w.heap.size w w') : s.fact γ b w' := by
  cases s with
  | late o n => exact h.imp fun vs h => ⟨h.1, h.2.1.below hb, h.2.2⟩
  | made v R => exact hf.1 γ w w' h hb
  | _ => trivial
theorem fact_up {s : Sg} (hf : s.fit) {γ : Pick} {b c : Nat} {w w' : World} (h : s.fact γ b w) (hne : s.news = true → b ≠ c) (hb : Up c w w') : s.fact γ b w' := by
  cases s with
  | late o n => exact h.imp fun vs h => ⟨h.1, hb.2.1 _ _ (hne rfl) h.2.1, h.2.2⟩
  | made v R => exact hf.2 γ c w w' h hb
  | _ => trivial
def storeB (sp : List Sg) (n : Nat) : Bool := (List.range n).all fun i => match (sp.getD i .skip).tgt with
  | none => true
  | some k => decide (k < n) && (sp.getD k .skip).news && (List.range n).all fun j => j == i || (sp.getD j .skip).tgt != some k
theorem storeB_spec {sp : List Sg} {n : Nat} (h : storeB sp n = true) : ∀ i, i < n → ∀ k, (sp.getD i .skip).tgt = some k → k < n ∧ (sp.getD k .skip).news = true ∧ ∀ j, j < n → j ≠ i → (sp.getD j .skip).tgt ≠ some k := by
  intro i hi k hk
  have := List.all_eq_true.1 h i (List.mem_range.2 hi)
  rw [hk] at this
  simp only [Bool.and_eq_true, decide_eq_true_eq, List.all_eq_true, List.mem_range, Bool.or_eq_true, beq_iff_eq, bne_iff_ne] at this
  exact ⟨this.1.1, this.1.2, fun j hj hne => (this.2 j hj).resolve_left hne⟩

def gr (ops : Array Oper) (sp : List Sg) (G : Nat → Pick) (lo : Nat → Nat) (L : Nat → Bool) (a : Act) : Nat → Act
  | 0 => a
  | k + 1 => if L k = true then (gr ops sp G lo L a k).put (dstAt ops k) ((sp.getD k .skip).get G lo k) else gr ops sp G lo L a k
theorem gr_agree {sp : List Sg} {G : Nat → Pick} {lo : Nat → Nat} {L L' : Nat → Bool} {a : Act} {T : List Tmp} : ∀ (k : Nat), (∀ j, j < k → ∀ d, dstAt ops j = some d → d ∈ T → L j = L' j) → Agree T (gr ops sp G lo L a k) (gr ops sp G lo L' a k)
  | 0, _ => ⟨rfl, fun _ _ => rfl⟩
  | k + 1, h => by
    have ih := gr_agree (sp := sp) (G := G) (lo := lo) (a := a) k (fun j hj => h j (by omega))
    simp only [gr]
    by_cases hT : ∃ d, dstAt ops k = some d ∧ d ∈ T
    · obtain ⟨d, hd, hm⟩ := hT
      rw [h k (by omega) d hd hm]
      split
      · exact ih.put _ _
      · exact ih
    · have hn : ∀ t, dstAt ops k = some t → t ∉ T := fun t ht hm => hT ⟨t, ht, hm⟩
      split <;> split
      · exact ih.put _ _
      · exact ih.put_left _ _ hn
      · exact ih.put_right _ _ hn
      · exact ih
theorem gr_G {sp : List Sg} {G G' : Nat → Pick} {lo lo' : Nat → Nat} {L : Nat → Bool} {a : Act} (hfit : fits sp) (h : ∀ j, L j = true → G j = G' j ∧ lo j = lo' j) (hcl : ∀ k, L k = true → ∀ j ∈ (sp.getD k .skip).ds, L j = true) :
    ∀ (k : Nat), gr ops sp G lo L a k = gr ops sp G' lo' L a k
  | 0 => rfl
  | k + 1 => by
    simp only [gr]
    rw [gr_G hfit h hcl k]
    split
    · rename_i hk
      have hf := fits_at hfit k
      have hc := hcl k hk
      congr 1
      cases hs : sp.getD k .skip with
      | val ds v =>
        rw [hs] at hf hc
        exact hf G G' lo lo' (fun j hj => h j (hc j hj))
      | made v R => simp only [Sg.get]; rw [(h k hk).1]
      | late o n => simp only [Sg.get]; rw [(h k hk).2]
      | store k ds vs => rfl
      | skip => rfl
    · rfl
theorem gr_L {sp : List Sg} {G : Nat → Pick} {lo : Nat → Nat} {L L' : Nat → Bool} {a : Act} : ∀ (k : Nat), (∀ j, j < k → L j = L' j) → gr ops sp G lo L a k = gr ops sp G lo L' a k
  | 0, _ => rfl
  | k + 1, h => by
    simp only [gr]
    rw [gr_L k (fun j hj => h j (by omega)), h k (by omega)]
theorem gr_set {sp : List Sg} {G : Nat → Pick} {lo : Nat → Nat} {L : Nat → Bool} {a : Act} {i : Nat} (hi : L i = false) :
    ∀ (k : Nat), i < k → (∀ j, j < k → j ≠ i → ∀ d, dstAt ops i = some d → dstAt ops j ≠ some d) →
    gr ops sp G lo (fun j => L j || decide (j = i)) a k = (gr ops sp G lo L a k).put (dstAt ops i) ((sp.getD i .skip).get G lo i)
  | 0, h, _ => by omega
  | k + 1, h, hd => by
    simp only [gr]
    by_cases hk : k = i
    · subst hk
      simp only [hi, decide_true, Bool.or_true, if_true, Bool.false_eq_true, if_false]
      rw [gr_L k (L' := L) (fun j hj => by simp; omega)]
    · have ih := gr_set (sp := sp) (G := G) (lo := lo) (a := a) hi k (by omega) (fun j hj => hd j (by omega))
      rw [ih]
      simp only [hk, decide_false, Bool.or_false]
      split
      · exact Act.put_comm _ _ _ (hd k (by omega) hk)
      · rfl

/-- what operation i may ask for -/
def Facts (sp : List Sg) (G : Nat → Pick) (lo : Nat → Nat) (W : World) (D : List Nat) : Prop := ∀ j ∈ D, (sp.getD j .skip).fact (G j) (lo j) W
def og (P : Program) (ops : Array Oper) (S : World → Prop) (F : World → Prop) (G : Nat → Pick) (lo : Nat → Nat) (o : Oper) (a : Act) : Sg → Prop
  | .val _ v => Region.wanted o (yielded ops a.tmps) = true ∧ ∀ w, S w → F w → (execOp a.eval o).run P w = .ok (.value (v G lo)) w
  | .made v R => Region.wanted o (yielded ops a.tmps) = true ∧ ∀ w, S w → F w →
    (∃ f args, (execOp a.eval o).run P w = .ok (.enter f args) w ∧ Calls P f args w fun e w' => ∃ γ, e = .returned (v γ) ∧ R γ w' ∧ Below w.heap.size w w')
  | .late obj n => Region.wanted o (yielded ops a.tmps) = true ∧ (∃ (vs : List Value) (T : TypeId), vs.length = n ∧ vs.all nonU = true ∧ obj = .cells vs.toArray T) ∧ ∀ w, S w → (execOp a.eval o).run P w = .ok (.value (.pointer (some ⟨w.heap.size, 0, none⟩))) (w.alloc obj)
  | .store k _ vs => Region.wanted o (yielded ops a.tmps) = true ∧ ∀ w, S w → F w → ∃ w', (execOp a.eval o).run P w = .ok .skip w' ∧ Up (lo k) w w' ∧ Bx w' (lo k) (vs G lo)
  | .skip => Region.wanted o (yielded ops a.tmps) = false
theorem og_congr {F : World → Prop} {G : Nat → Pick} {lo : Nat → Nat} {o : Oper} {a b : Act} {s : Sg} (he : execOp a.eval o = execOp b.eval o) (hw : Region.wanted o (yielded ops a.tmps) = Region.wanted o (yielded ops b.tmps)) (h : og P ops S F G lo o b s) : og P ops S F G lo o a s := by
  cases s <;> simp only [og] at h ⊢ <;> rw [hw] <;> first | (rw [he]; exact h) | exact h
/-- what was made lies apart -/
def Apart (lo : Nat → Nat) (w0 : World) : List Nat → Prop
  | [] => True
  | k :: r => w0.heap.size ≤ lo k ∧ (∀ q ∈ r, lo k ≠ lo q) ∧ Apart lo w0 r
def Stored (sp : List Sg) (G : Nat → Pick) (lo : Nat → Nat) (W : World) : List Nat → Prop
  | [] => True
  | i :: r => ((sp.getD i .skip).done G lo W ∧ (sp.getD i .skip).fact (G i) (lo i) W) ∧ Stored sp G lo W r
def newsOf (sp : List Sg) (n : Nat) : List Nat := (List.range n).filter fun k => (sp.getD k .skip).news
def storesOf (sp : List Sg) (n : Nat) : List Nat := (List.range n).filter fun k => (sp.getD k .skip).tgt.isSome || (sp.getD k .skip).call
theorem stored_all {sp : List Sg} {G : Nat → Pick} {lo : Nat → Nat} {W : World} : ∀ (l : List Nat), (∀ i ∈ l, (sp.getD i .skip).done G lo W ∧ (sp.getD i .skip).fact (G i) (lo i) W) → Stored sp G lo W l
  | [], _ => trivial
  | i :: r, h => ⟨h i (by simp), stored_all r (fun j hj => h j (by simp [hj]))⟩
theorem apart_all {lo : Nat → Nat} {w0 : World} : ∀ (l : List Nat), l.Nodup → (∀ k ∈ l, w0.heap.size ≤ lo k) → (∀ j ∈ l, ∀ k ∈ l, j ≠ k → lo j ≠ lo k) → Apart lo w0 l
  | [], _, _, _ => trivial
  | k :: r, hn, h1, h2 => by
    rw [List.nodup_cons] at hn
    exact ⟨h1 k (by simp), fun q hq => h2 k (by simp) q (by simp [hq]) (by rintro rfl; exact hn.1 hq),
      apart_all r hn.2 (fun j hj => h1 j (by simp [hj])) (fun i hi' j hj => h2 i (by simp [hi']) j (by simp [hj]))⟩

/-- D names, for each operation, some that have come up before it -/
def depB (md : Region.Mode) (ops : Array Oper) (sp : List Sg) (D : List (List Nat)) (n : Nat) : Bool :=
  (List.range n).all fun i => ((D.getD i []).all fun j => decide (j < i) && (Region.waitsFor md ops i j || (D.getD i []).any fun k => Region.waitsFor md ops i k && (D.getD k []).contains j)) &&
    ((sp.getD i .skip).ds.all fun j => (D.getD i []).contains j)
theorem depB_spec {sp : List Sg} {D : List (List Nat)} {n : Nat} (h : depB md ops sp D n = true) : ∀ i, i < n → (∀ j ∈ D.getD i [], j < i ∧ (Region.waitsFor md ops i j = true ∨ ∃ k, k < i ∧ Region.waitsFor md ops i k = true ∧ j ∈ D.getD k [])) ∧ ∀ j ∈ (sp.getD i .skip).ds, j ∈ D.getD i [] := by
  simp only [depB, List.all_eq_true, List.mem_range, Bool.and_eq_true, decide_eq_true_eq, Bool.or_eq_true, List.any_eq_true, List.contains_iff_mem] at h
  intro i hi
  obtain ⟨h1, h2⟩ := h i hi
  refine ⟨fun j hj => ?_, h2⟩
  obtain ⟨h3, h4⟩ := h1 j hj
  refine ⟨h3, ?_⟩
  rcases h4 with h4 | ⟨k, hk, h5, h6⟩
  · exact .inl h4
  · exact .inr ⟨k, (h1 k hk).1, h5, h6⟩
theorem waits_listed {i j : Nat} {oi : Oper} {listed : Array Bool} (hoi : ops[i]? = some oi) (hdeps : ∀ e ∈ oi.after, Region.binds md e = true → listed.getD e.on false = true) (hw : Region.waitsFor md ops i j = true) : listed.getD j false = true := by
  obtain ⟨oj, hoj, e', he', hbb, hon⟩ := Region.waitsFor_spec hw
  obtain rfl : oj = oi := Option.some.inj (hoj.symm.trans hoi)
  have := hdeps e' he' hbb
  rwa [hon] at this
theorem dep_closed {sp : List Sg} {D : List (List Nat)} {n : Nat} {listed : Array Bool} (hD : depB md ops sp D n = true) (hops : ∀ i, i < n → ∃ o, ops[i]? = some o) (hinv : HeadInv md ops n listed) :
    ∀ k, k < n → listed.getD k false = true → ∀ j ∈ D.getD k [], listed.getD j false = true := by
  intro k
  induction k using Nat.strongRecOn with
  | _ k ih =>
    intro hk hl j hj
    obtain ⟨o, ho⟩ := hops k hk
    obtain ⟨h1, h2⟩ := (depB_spec hD k hk).1 j hj
    rcases h2 with h2 | ⟨m, hm, h3, h4⟩
    · exact waits_listed ho (hinv.closed k o ho hl) h2
    · exact ih m hm (by omega) (waits_listed ho (hinv.closed k o ho hl) h3) j h4
theorem dep_ready {sp : List Sg} {D : List (List Nat)} {n i : Nat} {oi : Oper} {listed : Array Bool} (hD : depB md ops sp D n = true) (hops : ∀ i, i < n → ∃ o, ops[i]? = some o) (hinv : HeadInv md ops n listed) (hin : i < n) (hoi : ops[i]? = some oi)
    (hdeps : ∀ e ∈ oi.after, Region.binds md e = true → listed.getD e.on false = true) : ∀ j ∈ D.getD i [], listed.getD j false = true := by
  intro j hj
  obtain ⟨h1, h2⟩ := (depB_spec hD i hin).1 j hj
  rcases h2 with h2 | ⟨m, hm, h3, h4⟩
  · exact waits_listed hoi hdeps h2
  · exact dep_closed hD hops hinv m (by omega) (waits_listed hoi hdeps h3) j h4

structure Gnv (ops : Array Oper) (S : World → Prop) (w0 : World) (sp : List Sg) (n : Nat) (a0 : Act) (L : Nat → Bool) (a : Act) (w : World) : Prop where
  intro ::
  ex : ∃ (G : Nat → Pick) (lo : Nat → Nat), a = gr ops sp G lo L a0 n ∧ (∀ k, k < n → L k = true → (sp.getD k .skip).fact (G k) (lo k) w ∧ ((sp.getD k .skip).news = true → w0.heap.size ≤ lo k ∧ lo k < w.heap.size)) ∧
    (∀ i, i < n → L i = true → (sp.getD i .skip).done G lo w) ∧
    (∀ j k, j < n → k < n → j ≠ k → L j = true → L k = true → (sp.getD j .skip).news = true → (sp.getD k .skip).news = true → lo j ≠ lo k)
  s : S w
  bel : Below w0.heap.size w0 w

theorem wpAny_of_og {sp : List Sg} {D : List (List Nat)} {n : Nat} {a0 : Act} {w0 : World} {tl : List Oper} (hB : anyB md ops n = true) (hfit : fits sp) (hD : depB md ops sp D n = true) (hspn : sp.length = n) (hst : storeB sp n = true) (hln : ∀ G lo i q ds vs o2 n2, i < n → sp.getD i .skip = .store q ds vs → sp.getD q .skip = .late o2 n2 → (vs G lo).length = n2 ∧ (vs G lo).all nonU = true) (hs0 : S w0) (hcl : ∀ w w', S w → Below w.heap.size w w' → S w')
    (hob : ∀ G lo i o, i < n → ops[i]? = some o → og P ops S (fun W => Facts sp G lo W (D.getD i [])) G lo o (gr ops sp G lo (fun _ => true) a0 i) (sp.getD i .skip))
    (htl : ∀ j, tl[j]? = ops[n + j]?) (htll : tl.length = ops.size - n)
    (hend : ∀ G lo W, S W → Below w0.heap.size w0 W → Apart lo w0 (newsOf sp n) → Stored sp G lo W (storesOf sp n) → wpList P ops Q tl (gr ops sp G lo (fun _ => true) a0 n) W) :
    ∀ (m : Nat) (R : List Nat) (listed : Array Bool) (a : Act) (w : World), R.length = m → R.Nodup → HeadInv md ops n listed → (∀ j, j < n → (j ∈ R ↔ listed.getD j false = false)) → (∀ j ∈ R, j < n) →
    Gnv ops S w0 sp n a0 (fun j => listed.getD j false) a w → wpAny P md ops Q (m + tl.length) listed a w := by
  obtain ⟨b1, b2, b3, b4, b5⟩ := anyB_spec hB
  have hops : ∀ i, i < n → ∃ o, ops[i]? = some o := fun i hi => by obtain ⟨o, h1, _⟩ := b4 i hi; exact ⟨o, h1⟩
  intro m
  induction m with
  | zero =>
    intro R listed a w hR hnd hinv hmem hlt ⟨⟨G, lo, ha, hf1, hf3, hf2⟩, hs, hbel⟩
    have hR0 : R = [] := List.length_eq_zero_iff.1 hR
    subst hR0
    have hall : ∀ j, j < n → listed.getD j false = true := fun j hj => by
      cases h : listed.getD j false with
      | true => rfl
      | false => exact absurd ((hmem j hj).2 h) (by simp)
    have hL : listed = Array.replicate n true ++ Array.replicate (ops.size - n) false := by
      apply Array.ext (by simp [hinv.size]; omega)
      intro i h1 h2
      rw [Array.getElem_append]
      split
      · rename_i h
        have := hall i (by simpa using h)
        simp [h1] at this
        simp [this]
      · rename_i h
        have := getD_both (hinv.tail i (by simpa using h) (by rw [← hinv.size]; exact h1))
        simp [h1] at this
        simp [this]
    rw [Nat.zero_add]
    have hfr : a = gr ops sp G lo (fun _ => true) a0 n := by rw [ha]; exact gr_L n hall
    have hw := hend G lo w hs hbel (apart_all (newsOf sp n) (List.nodup_range.filter _) (fun k hk => by
        obtain ⟨h1, h2⟩ := List.mem_filter.1 hk
        exact ((hf1 k (by simpa using h1) (hall k (by simpa using h1))).2 h2).1) (fun j hj k hk hne => by
        obtain ⟨h1, h2⟩ := List.mem_filter.1 hj
        obtain ⟨h3, h4⟩ := List.mem_filter.1 hk
        exact hf2 j k (by simpa using h1) (by simpa using h3) hne (hall j (by simpa using h1)) (hall k (by simpa using h3)) h2 h4))
      (stored_all _ (fun i hi => by
        have h1 : i < n := List.mem_range.1 (List.mem_filter.1 hi).1
        exact ⟨hf3 i h1 (hall i h1), (hf1 i h1 (hall i h1)).1⟩))
    rw [← hfr] at hw
    refine wpAny_of_seq tl n listed a w htl ?_ hw
    rw [htll, hL]
    exact b5
  | succ m ih =>
    intro R listed a w hR hnd hinv hmem hlt ⟨⟨G, lo, ha, hf1, hf3, hf2⟩, hs, hbel⟩
    have hex : ∃ i, i < n ∧ listed.getD i false = false := by
      cases R with
      | nil => cases hR
      | cons r R => exact ⟨r, hlt r (by simp), (hmem r (hlt r (by simp))).1 (by simp)⟩
    obtain ⟨i0, hi0, hi0'⟩ := hex
    obtain ⟨j0, hj0, hj0'⟩ := head_ready (fun i hi => by obtain ⟨o, h1, h2, _⟩ := b4 i hi; exact ⟨o, h1, h2⟩) hinv.size b1 i0 hi0 hi0'
    have hone := only_head b3 hinv hi0 (getD_in (by rw [hinv.size]; omega) hi0')
    rw [show m + 1 + tl.length = (m + tl.length) + 1 by omega]
    refine ⟨fun h => (by rw [h] at hj0'; cases hj0'), fun i hri => ?_⟩
    have hin := hone i hri
    obtain ⟨hun, oi, hoi, hdeps⟩ := mem_ready.1 hri
    have hunf := getD_both hun
    obtain ⟨o', ho', hbk, hdst⟩ := b4 i hin
    obtain rfl : o' = oi := Option.some.inj (ho'.symm.trans hoi)
    have hsel := Region.noSelect_spec b2 i o'
    have hready := dep_ready hD hops hinv hin hoi hdeps
    -- the operation in the frame at hand
    have hag : Agree (o'.looksAt ops) a (gr ops sp G lo (fun _ => true) a0 i) := by
      have e : gr ops sp G lo (fun _ => true) a0 i = gr ops sp G lo (fun j => decide (j < i)) a0 n := by
        have : ∀ k, i ≤ k → gr ops sp G lo (fun j => decide (j < i)) a0 k = gr ops sp G lo (fun _ => true) a0 i := by
          intro k
          induction k with
          | zero => intro h; obtain rfl : i = 0 := by omega
                    rfl
          | succ k ihk =>
            intro h
            by_cases hk : i = k + 1
            · subst hk
              exact gr_L _ (fun j hj => by simp; omega)
            · simp only [gr]
              rw [if_neg (by simp; omega)]
              exact ihk (by omega)
        exact (this n (by omega)).symm
      rw [ha, e]
      refine gr_agree n (fun j hj d hd hm => ?_)
      obtain ⟨h1, h2⟩ := (hdst j hj d hd).1 hm
      have := waits_listed hoi hdeps h2
      simp [this, h1]
    obtain ⟨hex1, hex2⟩ := agree_exec (ops := ops) (fun cs b => hsel cs b hoi) hag
    have hobi := og_congr hex1 hex2 (hob G lo i o' hin hoi)
    have hF : Facts sp G lo w (D.getD i []) := fun j hj => (hf1 j (Nat.lt_trans ((depB_spec hD i hin).1 j hj).1 hin) (hready j hj)).1
    -- what follows
    have hset : ∀ j, (listed.setIfInBounds i true).getD j false = (listed.getD j false || decide (j = i)) := fun j => by
      by_cases hji : j = i
      · subst hji
        have : j < listed.size := by rw [hinv.size]; omega
        simp [this]
      · rw [getD_set_ne false (Ne.symm hji)]; simp [hji]
    have hspd : ∀ k, ¬ k < n → (sp.getD k .skip).ds = [] := fun k hk => by
      rw [List.getD_eq_getElem?_getD, List.getElem?_eq_none (by omega)]; rfl
    have next : ∀ (G' : Nat → Pick) (lo' : Nat → Nat) (w' : World), (∀ j, j ≠ i → G' j = G j ∧ lo' j = lo j) → S w' → Below w0.heap.size w0 w' →
        (∀ k, k < n → k ≠ i → listed.getD k false = true → (sp.getD k .skip).fact (G k) (lo k) w' ∧ ((sp.getD k .skip).news = true → lo k < w'.heap.size)) →
        (sp.getD i .skip).fact (G' i) (lo' i) w' → ((sp.getD i .skip).news = true → w.heap.size ≤ lo' i ∧ lo' i < w'.heap.size) →
        (∀ k, k < n → k ≠ i → listed.getD k false = true → (sp.getD k .skip).done G' lo' w') → (sp.getD i .skip).done G' lo' w' →
        wpAny P md ops Q (m + tl.length) (listed.setIfInBounds i true) (a.put o'.dst ((sp.getD i .skip).get G' lo' i)) w' := by
      intro G' lo' w' hg hs' hb' hold hfi hfr hdn hdi
      have hL : (fun j => (listed.setIfInBounds i true).getD j false) = fun j => listed.getD j false || decide (j = i) := funext hset
      refine ih (R.erase i) (listed.setIfInBounds i true) _ w' (by rw [List.length_erase_of_mem ((hmem i hin).2 hunf), hR]; rfl) (hnd.erase i) (hinv.set hri hin) (fun j hj => ?_) (fun j hj => hlt j (List.mem_of_mem_erase hj)) ?_
      · rw [hnd.mem_erase_iff, hset, hmem j hj]
        simp
        exact And.comm
      · rw [hL]
        refine ⟨⟨G', lo', ?_, ?_, ?_, ?_⟩, hs', hb'⟩
        · rw [gr_set hunf n hin (fun j hj hji d hd => ?_)]
          · rw [ha, show dstAt ops i = o'.dst by simp [dstAt, hoi]]
            rw [gr_G (G := G) (G' := G') (lo := lo) (lo' := lo') hfit (fun j hj => ?_) (fun k hk j hj => ?_) n]
            · have hji : j ≠ i := by
                rintro rfl
                rw [hunf] at hj
                cases hj
              exact ⟨(hg j hji).1.symm, (hg j hji).2.symm⟩
            · by_cases hkn : k < n
              · exact dep_closed hD hops hinv k hkn hk j ((depB_spec hD k hkn).2 j hj)
              · rw [hspd k hkn] at hj
                cases hj
          · obtain ⟨oj, hoj, _, hdj⟩ := b4 j hj
            exact ((hdj i hin d hd).2).resolve_left (fun h => hji h.symm)
        · intro k hk hLk
          by_cases hki : k = i
          · subst hki
            exact ⟨hfi, fun hsk => ⟨Nat.le_trans hbel.size (hfr hsk).1, (hfr hsk).2⟩⟩
          · have hLk' : listed.getD k false = true := by simpa [hki] using hLk
            obtain ⟨h2, h3⟩ := hold k hk hki hLk'
            rw [(hg k hki).1, (hg k hki).2]
            exact ⟨h2, fun hsk => ⟨((hf1 k hk hLk').2 hsk).1, h3 hsk⟩⟩
        · intro k hk hLk
          by_cases hki : k = i
          · subst hki
            exact hdi
          · exact hdn k hk hki (by simpa [hki] using hLk)
        · intro j k hj hk hne hLj hLk hsj hsk
          by_cases hji : j = i
          · subst hji
            have hkj : k ≠ j := fun h => hne h.symm
            have hLk' : listed.getD k false = true := by simpa [hkj] using hLk
            have h1 := ((hf1 k hk hLk').2 hsk).2
            have h2 := (hfr hsj).1
            rw [(hg k hkj).2]
            omega
          · have hLj' : listed.getD j false = true := by simpa [hji] using hLj
            by_cases hki : k = i
            · subst hki
              have h1 := ((hf1 j hj hLj').2 hsj).2
              have h2 := (hfr hsk).1
              rw [(hg j hji).2]
              omega
            · have hLk' : listed.getD k false = true := by simpa [hki] using hLk
              rw [(hg j hji).2, (hg k hki).2]
              exact hf2 j k hj hk hne hLj' hLk' hsj hsk
    -- what a store holds looks at nothing that comes later
    have hdlo : ∀ (G' : Nat → Pick) (lo' : Nat → Nat) (W : World), (∀ j, j ≠ i → G' j = G j ∧ lo' j = lo j) → ∀ k, k < n → listed.getD k false = true → (sp.getD k .skip).done G lo W → (sp.getD k .skip).done G' lo' W := by
      intro G' lo' W hg k hk hlk h
      have hf := fits_at hfit k
      have hd : ∀ j ∈ (sp.getD k .skip).ds, G' j = G j ∧ lo' j = lo j := fun j hj => hg j (by
        rintro rfl
        have := dep_closed hD hops hinv k hk hlk j ((depB_spec hD k hk).2 j hj)
        rw [hunf] at this
        cases this)
      cases hsk : sp.getD k .skip with
      | store q ds vs =>
        rw [hsk] at hf hd h
        show Bx W (lo' q) (vs G' lo')
        rw [(hd q hf.1).2, hf.2 G' G lo' lo hd]
        exact h
      | _ => trivial
    have keepB : ∀ w', Below w.heap.size w w' → ∀ k, k < n → listed.getD k false = true → (sp.getD k .skip).done G lo w → (sp.getD k .skip).done G lo w' := by
      intro w' hb k hk hlk h
      cases hsk : sp.getD k .skip with
      | store q ds vs => rw [hsk] at h; exact Bx.below h hb
      | _ => trivial
    have keepF : ∀ w', Below w.heap.size w w' → ∀ k, k < n → k ≠ i → listed.getD k false = true → (sp.getD k .skip).fact (G k) (lo k) w' ∧ ((sp.getD k .skip).news = true → lo k < w'.heap.size) := by
      intro w' hb k hk _ hlk
      exact ⟨fact_below (fits_at hfit k) (hf1 k hk hlk).1 hb, fun h => Nat.lt_of_lt_of_le ((hf1 k hk hlk).2 h).2 hb.size⟩
    have upd : ∀ (γ : Pick) (l : Nat), ∃ (G' : Nat → Pick) (lo' : Nat → Nat), (∀ j, j ≠ i → G' j = G j ∧ lo' j = lo j) ∧ G' i = γ ∧ lo' i = l := fun γ l =>
      ⟨fun j => if j = i then γ else G j, fun j => if j = i then l else lo j, fun j hj => by simp [hj], by simp, by simp⟩
    unfold wpOp
    rw [hoi]
    show if Region.wanted o' (yielded ops a.tmps) = true then _ else _
    cases hsi : sp.getD i .skip with
    | val ds v =>
      rw [hsi] at hobi next
      obtain ⟨hw, hr⟩ := hobi
      rw [if_pos hw]
      refine .inl ?_
      unfold Oper.wp
      rw [hr w hs hF]
      exact next G lo w (fun _ _ => ⟨rfl, rfl⟩) hs hbel (keepF w (Below.refl _ _)) trivial (fun h => by cases h) (fun k hk _ hl => hf3 k hk hl) trivial
    | made v R =>
      rw [hsi] at hobi next
      obtain ⟨hw, hr⟩ := hobi
      rw [if_pos hw]
      refine .inl ?_
      unfold Oper.wp
      obtain ⟨f, args, hrun, hc⟩ := hr w hs hF
      rw [hrun]
      refine hc.mono ?_
      rintro e w' ⟨γ, rfl, hR', hb⟩
      obtain ⟨G', lo', hg, h2, h3⟩ := upd γ (lo i)
      have := next G' lo' w' hg (hcl w w' hs hb) (hbel.trans (hb.mono hbel.size)) (keepF w' hb) (by rw [h2]; exact hR') (fun h => by cases h) (fun k hk hki hl => hdlo _ _ _ hg k hk hl (keepB _ hb k hk hl (hf3 k hk hl))) trivial
      simp only [Sg.get, h2] at this
      exact this
    | late obj nn =>
      rw [hsi] at hobi next
      obtain ⟨hw, ⟨vs, T, hvl, hvn, hvo⟩, hr⟩ := hobi
      rw [if_pos hw]
      refine .inl ?_
      unfold Oper.wp
      rw [hr w hs]
      have hb : Below w.heap.size w (w.alloc obj) := (Below.refl _ _).alloc (Nat.le_refl _) _
      obtain ⟨G', lo', hg, h2, hi'⟩ := upd (G i) w.heap.size
      have := next G' lo' (w.alloc obj) hg (hcl w _ hs hb) (hbel.trans (hb.mono hbel.size)) (keepF _ hb) (by
        rw [hi']
        refine ⟨vs, hvl, ?_, hvn⟩
        rw [hvo]
        exact Bx.new w vs T) (fun _ => by
        rw [hi']
        exact ⟨Nat.le_refl _, by simp⟩) (fun k hk hki hl => hdlo _ _ _ hg k hk hl (keepB _ hb k hk hl (hf3 k hk hl))) trivial
      simp only [Sg.get, hi'] at this
      exact this
    | store q ds vs =>
      rw [hsi] at hobi next
      obtain ⟨hw, hr⟩ := hobi
      rw [if_pos hw]
      refine .inl ?_
      unfold Oper.wp
      obtain ⟨w', hrun, hup, hbx⟩ := hr w hs hF
      rw [hrun]
      have hlen : ∀ o2 n2, sp.getD q .skip = .late o2 n2 → (vs G lo).length = n2 ∧ (vs G lo).all nonU = true := fun o2 n2 h => hln G lo i q ds vs o2 n2 hin hsi h
      obtain ⟨hqn, hqw, hqo⟩ := storeB_spec hst i hin q (by rw [hsi]; rfl)
      have hqD : q ∈ D.getD i [] := (depB_spec hD i hin).2 q (by
        rw [hsi]
        have hfi := fits_at hfit i
        rw [hsi] at hfi
        exact hfi.1)
      have hql := hready q hqD
      have hq1 := hf1 q hqn hql
      have hb0 : Below w0.heap.size w0 w' := hbel.trans (hup.1.mono (hq1.2 hqw).1)
      have := next G lo w' (fun _ _ => ⟨rfl, rfl⟩) (hcl w0 w' hs0 hb0) hb0 (fun k hk hki hl => by
        by_cases hkq : k = q
        · subst hkq
          refine ⟨?_, fun _ => hbx.2⟩
          cases hsk : sp.getD k .skip with
          | late o2 n2 => exact ⟨vs G lo, (hlen o2 n2 hsk).1, hbx, (hlen o2 n2 hsk).2⟩
          | made v R => rw [hsk] at hqw; cases hqw
          | _ => trivial
        · obtain ⟨h2, h3⟩ := hf1 k hk hl
          exact ⟨fact_up (fits_at hfit k) h2 (fun hn => hf2 k q hk hqn hkq hl hql hn hqw) hup, fun hn => Nat.lt_of_lt_of_le (h3 hn).2 hup.1.size⟩) trivial (fun h => by cases h) (fun k hk hki hl => by
        cases hsk : sp.getD k .skip with
        | store q2 ds2 vs2 =>
          have h3 := hf3 k hk hl
          rw [hsk] at h3
          have hq2 : q2 ≠ q := fun e => hqo k hk hki (by rw [hsk, e]; rfl)
          obtain ⟨h2n, h2w, _⟩ := storeB_spec hst k hk q2 (by rw [hsk]; rfl)
          have h2l : listed.getD q2 false = true := dep_closed hD hops hinv k hk hl q2 ((depB_spec hD k hk).2 q2 (by
            rw [hsk]
            have hfi := fits_at hfit k
            rw [hsk] at hfi
            exact hfi.1))
          exact hup.2.1 _ _ (hf2 q2 q h2n hqn hq2 h2l hql h2w hqw) h3
        | _ => trivial) hbx
      exact this
    | skip =>
      rw [hsi] at hobi next
      have hw : Region.wanted o' (yielded ops a.tmps) = false := hobi
      rw [if_neg (by rw [hw]; simp)]
      exact next G lo w (fun _ _ => ⟨rfl, rfl⟩) hs hbel (keepF w (Below.refl _ _)) trivial (fun h => by cases h) (fun k hk _ hl => hf3 k hk hl) trivial

/-- the obligations, in the order of the text; the frame is a list of what has been written -/
def ogE (P : Program) (ops : Array Oper) (S F : World → Prop) (G : Nat → Pick) (lo : Nat → Nat) (o : Oper) (a : Act) (env : List (Nat × Value)) : Sg → Prop
  | .val _ v => wantedE ops o a env = true ∧ ∀ w, S w → F w → (execOp (rhoF (look a env)) o).run P w = .ok (.value (v G lo)) w
  | .made v R => wantedE ops o a env = true ∧ ∀ w, S w → F w →
    (∃ f args, (execOp (rhoF (look a env)) o).run P w = .ok (.enter f args) w ∧ Calls P f args w fun e w' => ∃ γ, e = .returned (v γ) ∧ R γ w' ∧ Below w.heap.size w w')
  | .late obj n => wantedE ops o a env = true ∧ (∃ (vs : List Value) (T : TypeId), vs.length = n ∧ vs.all nonU = true ∧ obj = .cells vs.toArray T) ∧ ∀ w, S w → (execOp (rhoF (look a env)) o).run P w = .ok (.value (.pointer (some ⟨w.heap.size, 0, none⟩))) (w.alloc obj)
  | .store k _ vs => wantedE ops o a env = true ∧ ∀ w, S w → F w → ∃ w', (execOp (rhoF (look a env)) o).run P w = .ok .skip w' ∧ Up (lo k) w w' ∧ Bx w' (lo k) (vs G lo)
  | .skip => wantedE ops o a env = false
theorem og_of_ogE {F : World → Prop} {G : Nat → Pick} {lo : Nat → Nat} {o : Oper} {a : Act} {env : List (Nat × Value)} (h : ∀ p ∈ env, p.1 < a.tmps.size) {s : Sg} (ho : ogE P ops S F G lo o a env s) : og P ops S F G lo o (puts a env) s := by
  have e1 := rho_eq a env h
  have e2 := seen_eq (ops := ops) a env h
  cases s <;> simp only [og, ogE, wantedE] at ho ⊢ <;> rw [e2] <;> first | (rw [e1]; exact ho) | exact ho
def Oge (P : Program) (ops : Array Oper) (S : World → Prop) (sp : List Sg) (D : List (List Nat)) (G : Nat → Pick) (lo : Nat → Nat) (a : Act) (E : List (Nat × Value) → Prop) : List Oper → List Sg → Nat → List (Nat × Value) → Prop
  | [], [], _, env => E env
  | o :: os, s :: ss, k, env => ogE P ops S (fun W => Facts sp G lo W (D.getD k [])) G lo o a env s ∧ Oge P ops S sp D G lo a E os ss (k + 1) (putD o.dst (s.get G lo k) env)
  | _, _, _, _ => False
theorem oge_at {sp : List Sg} {D : List (List Nat)} {G : Nat → Pick} {lo : Nat → Nat} {a : Act} {E : List (Nat × Value) → Prop} : ∀ (os : List Oper) (ss : List Sg) (k : Nat) (env : List (Nat × Value)),
    (∀ j, j < os.length → os[j]? = ops[k + j]?) → (∀ j, ss[j]? = sp[k + j]?) → (∀ o ∈ os, ∀ d, o.dst = some d → d < a.tmps.size) → (∀ p ∈ env, p.1 < a.tmps.size) →
    gr ops sp G lo (fun _ => true) a k = puts a env → Oge P ops S sp D G lo a E os ss k env →
    (∀ i o, k ≤ i → i < k + os.length → ops[i]? = some o → og P ops S (fun W => Facts sp G lo W (D.getD i [])) G lo o (gr ops sp G lo (fun _ => true) a i) (sp.getD i .skip)) ∧
    ∃ env', gr ops sp G lo (fun _ => true) a (k + os.length) = puts a env' ∧ E env'
  | [], [], k, env, _, _, _, _, hg, h => ⟨fun i o h1 h2 => (by simp at h2; omega), env, by simpa using hg, h⟩
  | [], _ :: _, _, _, _, _, _, _, _, h => by simp [Oge] at h
  | _ :: _, [], _, _, _, _, _, _, _, h => by simp [Oge] at h
  | o :: os, s :: ss, k, env, ho, hs, hd, he, hg, h => by
    obtain ⟨h1, h2⟩ := h
    have ho0 : ops[k]? = some o := by simpa using (ho 0 (by simp)).symm
    have hs0 : sp[k]? = some s := by simpa using (hs 0).symm
    have hsd : sp.getD k .skip = s := by simp [List.getD_eq_getElem?_getD, hs0]
    have he2 : ∀ p ∈ putD o.dst (s.get G lo k) env, p.1 < a.tmps.size := fun p hp => by
      unfold putD at hp
      cases hdst : o.dst with
      | none => rw [hdst] at hp; exact he p hp
      | some d =>
        rw [hdst] at hp
        rcases List.mem_cons.1 hp with rfl | hp
        · exact hd o (by simp) d hdst
        · exact he p hp
    have e : puts a (putD o.dst (s.get G lo k) env) = (puts a env).put o.dst (s.get G lo k) := by
      unfold putD
      cases o.dst <;> rfl
    have hg2 : gr ops sp G lo (fun _ => true) a (k + 1) = puts a (putD o.dst (s.get G lo k) env) := by
      simp only [gr, if_true, hsd, dstAt, ho0, Option.bind_some]
      rw [hg, e]
    obtain ⟨h3, env', h4, h5⟩ := oge_at os ss (k + 1) _ (fun j hj => by have := ho (j + 1) (by simp; omega); simpa [Nat.add_assoc, Nat.add_comm 1 j] using this) (fun j => by have := hs (j + 1); simpa [Nat.add_assoc, Nat.add_comm 1 j] using this) (fun o' ho' => hd o' (by simp [ho'])) he2 hg2 h2
    refine ⟨fun i o' hi' hi'' ho' => ?_, env', by rw [List.length_cons, show k + (os.length + 1) = k + 1 + os.length by omega]; exact h4, h5⟩
    by_cases hik : i = k
    · subst hik
      obtain rfl : o' = o := Option.some.inj (ho'.symm.trans ho0)
      rw [hsd, hg]
      exact og_of_ogE he h1
    · exact h3 i o' (by omega) (by simp at hi''; omega) ho'
section
variable {sp : List Sg} {D : List (List Nat)} {G : Nat → Pick} {lo : Nat → Nat} {E : List (Nat × Value) → Prop} {os : List Oper} {ss : List Sg} {a : Act} {o : Oper} {k : Nat} {env : List (Nat × Value)}
theorem oge_val {ds : List Nat} {v : (Nat → Pick) → (Nat → Nat) → Value} (hw : wantedE ops o a env = true) (h : ∀ f, look a env = f → ∀ w, S w → Facts sp G lo w (D.getD k []) → (execOp (rhoF f) o).run P w = .ok (.value (v G lo)) w) (hn : Oge P ops S sp D G lo a E os ss (k + 1) (putD o.dst (v G lo) env)) :
    Oge P ops S sp D G lo a E (o :: os) (.val ds v :: ss) k env := ⟨⟨hw, h _ rfl⟩, hn⟩
theorem oge_call {v : Pick → Value} {R : Pick → World → Prop} (f : FuncId) (args : Array Value) (hw : wantedE ops o a env = true) (h : ∀ r, look a env = r → ∀ w, S w → Facts sp G lo w (D.getD k []) → (execOp (rhoF r) o).run P w = .ok (.enter f args) w)
    (hc : ∀ w, S w → Facts sp G lo w (D.getD k []) → Calls P f args w fun e w' => ∃ γ, e = .returned (v γ) ∧ R γ w' ∧ Below w.heap.size w w')
    (hn : Oge P ops S sp D G lo a E os ss (k + 1) (putD o.dst (v (G k)) env)) : Oge P ops S sp D G lo a E (o :: os) (.made v R :: ss) k env := ⟨⟨hw, fun w hs hF => ⟨f, args, h _ rfl w hs hF, hc w hs hF⟩⟩, hn⟩
theorem oge_late {vs : List Value} {T : TypeId} {n : Nat} (hvn : vs.length = n) (hvu : vs.all nonU = true) (hw : wantedE ops o a env = true) (h : ∀ r, look a env = r → ∀ w, S w → (execOp (rhoF r) o).run P w = .ok (.value (.pointer (some ⟨w.heap.size, 0, none⟩))) (w.alloc (.cells vs.toArray T)))
    (hn : Oge P ops S sp D G lo a E os ss (k + 1) (putD o.dst (.pointer (some ⟨lo k, 0, none⟩)) env)) : Oge P ops S sp D G lo a E (o :: os) (.late (.cells vs.toArray T) n :: ss) k env := ⟨⟨hw, ⟨vs, T, hvn, hvu, rfl⟩, h _ rfl⟩, hn⟩
theorem oge_store {q : Nat} {ds : List Nat} {vs : (Nat → Pick) → (Nat → Nat) → List Value} (hw : wantedE ops o a env = true) (hd : o.dst = none) (h : ∀ r, look a env = r → ∀ w, S w → Facts sp G lo w (D.getD k []) → ∃ w', (execOp (rhoF r) o).run P w = .ok .skip w' ∧ Up (lo q) w w' ∧ Bx w' (lo q) (vs G lo))
    (hn : Oge P ops S sp D G lo a E os ss (k + 1) env) : Oge P ops S sp D G lo a E (o :: os) (.store q ds vs :: ss) k env := ⟨⟨hw, h _ rfl⟩, by simp only [hd, putD]; exact hn⟩
theorem oge_skip (hw : wantedE ops o a env = false) (hn : Oge P ops S sp D G lo a E os ss (k + 1) (putD o.dst undef env)) : Oge P ops S sp D G lo a E (o :: os) (.skip :: ss) k env := ⟨hw, hn⟩
theorem oge_nil (h : E env) : Oge P ops S sp D G lo a E [] [] k env := h
end
def lenB (sp : List Sg) : List Sg → Prop
  | [] => True
  | .store q _ vs :: r => (match sp.getD q .skip with
    | .late _ n => ∀ G lo, (vs G lo).length = n ∧ (vs G lo).all nonU = true
    | _ => True) ∧ lenB sp r
  | _ :: r => lenB sp r
theorem lenB_at {sp : List Sg} : ∀ {l : List Sg}, lenB sp l → ∀ G lo i q ds vs o2 n2, l.getD i .skip = .store q ds vs → sp.getD q .skip = .late o2 n2 → (vs G lo).length = n2 ∧ (vs G lo).all nonU = true
  | [], _, _, _, i, _, _, _, _, _, h, _ => by simp at h
  | s :: r, h, G, lo, 0, q, ds, vs, o2, n2, h1, h2 => by
    simp only [List.getD_cons_zero] at h1
    subst h1
    have := h.1
    rw [h2] at this
    exact this G lo
  | s :: r, h, G, lo, i + 1, q, ds, vs, o2, n2, h1, h2 => by
    have hr : lenB sp r := by
      cases s with
      | store q ds vs => exact h.2
      | _ => exact h
    exact lenB_at hr G lo i q ds vs o2 n2 (by simpa using h1) h2
theorem lenB_spec {sp : List Sg} {n : Nat} (h : lenB sp sp) : ∀ G lo i q ds vs o2 n2, i < n → sp.getD i .skip = .store q ds vs → sp.getD q .skip = .late o2 n2 → (vs G lo).length = n2 ∧ (vs G lo).all nonU = true := fun G lo i q ds vs o2 n2 _ h1 h2 => lenB_at h G lo i q ds vs o2 n2 h1 h2
/-- THE REGION: its head's operations in the order of the text, late stores among them, its tail behind them. -/
theorem wp_region_late {id : Nat} {a : Act} {w w1 : World} {l : List Oper} (S : World → Prop) (n m : Nat) (sp : List Sg) (D : List (List Nat)) (ns sts : List Nat) (hm : P.follows .mixedOrders = true) (hB : anyB .any l.toArray n = true) (hsz : a.tmps.size = m) (hd : dstB m l = true)
    (hD : depB .any l.toArray sp D n = true) (hns : newsOf sp n = ns) (hsts : storesOf sp n = sts) (hst : storeB sp n = true) (hspn : sp.length = n) (hfit : fits sp) (hln : lenB sp sp) (hcl : ∀ w w', S w → Below w.heap.size w w' → S w') (h0 : S w1) (hE : Below w1.heap.size w1 w)
    (h : ∀ W, S W → ∀ (G : Nat → Pick) (lo : Nat → Nat), Oge P l.toArray S sp D G lo a (fun env => ∀ W', S W' → Below W.heap.size W W' → Apart lo W ns → Stored sp G lo W' sts → wpList P l.toArray Q (l.drop n) (puts a env) W') (l.take n) sp 0 []) : (Code.region id l.toArray true).wp P Q a w := by
  obtain ⟨b1, b2, b3, b4, b5⟩ := anyB_spec hB
  have hsw : S w := hcl _ _ h0 hE
  have hn : n ≤ l.length := by simpa using b1
  have hlen : (l.take n).length = n := by simp; omega
  have hob := fun G lo => oge_at (ops := l.toArray) (a := a) (sp := sp) (D := D) (G := G) (lo := lo) (l.take n) sp 0 [] (fun j hj => by
    have : j < n := by omega
    simp [List.getElem?_take, this]) (fun j => by simp) (fun o ho d hdo => by
      have := List.all_eq_true.1 hd o (List.mem_of_mem_take ho)
      rw [hdo] at this
      rw [hsz]
      simpa using this) (fun p hp => by cases hp) rfl (h w hsw G lo)
  have hd' : Below w.heap.size w w.drew := (Below.refl _ _).drew
  refine wp_region_any hm ?_
  have hinv0 : HeadInv .any l.toArray n (Array.replicate l.toArray.size false) :=
    ⟨by simp, fun j oj _ hl => (by rw [getD_replicate_false] at hl; cases hl), fun t _ ht => getD_in (by simpa using ht) (getD_replicate_false _ _)⟩
  have hfr0 : a = gr l.toArray sp (fun _ _ => (none, 0)) (fun _ => 0) (fun j => (Array.replicate l.toArray.size false).getD j false) a n := by
    have e0 : (fun j => (Array.replicate l.toArray.size false).getD j false) = fun _ => false := funext fun j => getD_replicate_false _ _
    rw [e0]
    have : ∀ k, gr l.toArray sp (fun _ _ => (none, 0)) (fun _ => 0) (fun _ => false) a k = a := by
      intro k
      induction k with
      | zero => rfl
      | succ k ih => simp only [gr, ih]; simp
    exact (this n).symm
  have hend : ∀ G lo W, S W → Below w.heap.size w W → Apart lo w (newsOf sp n) → Stored sp G lo W (storesOf sp n) → wpList P l.toArray Q (l.drop n) (gr l.toArray sp G lo (fun _ => true) a n) W := fun G lo W hs hb hf hg => by
    obtain ⟨_, env', h4, h5⟩ := hob G lo
    rw [hlen, Nat.zero_add] at h4
    rw [h4]
    exact h5 W hs hb (by rw [← hns]; exact hf) (by rw [← hsts]; exact hg)
  have key := wpAny_of_og (P := P) (Q := Q) (S := S) (sp := sp) (D := D) (n := n) (a0 := a) (w0 := w) (tl := l.drop n) hB hfit hD hspn hst (lenB_spec hln) hsw hcl
    (fun G lo i o hi' ho => (hob G lo).1 i o (by omega) (by omega) ho) (fun j => by simp [List.getElem?_drop]) (by simp) hend
    n (List.range n) (Array.replicate l.toArray.size false) a w.drew (by simp) List.nodup_range hinv0 (fun j hj => by rw [getD_replicate_false]; simpa using hj) (fun j hj => by simpa using hj)
    ⟨⟨fun _ _ => (none, 0), fun _ => 0, hfr0, fun k _ hk => (by rw [getD_replicate_false] at hk; cases hk), fun k _ hk => (by rw [getD_replicate_false] at hk; cases hk), fun j k _ _ _ hk => (by rw [getD_replicate_false] at hk; cases hk)⟩, hcl _ _ hsw hd', hd'⟩
  have e : n + (l.drop n).length = l.toArray.size := by simp; omega
  rw [e] at key
  exact key
end
theorem fit_rws (Xs : List (List (BitVec 32))) (v : Pick → Value) : (Sg.made v fun γ W => ∀ i X, Xs[i]? = some X → X.length ≤ (γ i).2 ∧ Rw W (γ i).1 X).fit :=
  ⟨fun _ _ _ h hb i X hX => ⟨(h i X hX).1, (h i X hX).2.below hb⟩, fun _ _ _ _ h hu i X hX => ⟨(h i X hX).1, hu.2.2 _ _ (h i X hX).2⟩⟩
def RwsL (Xs : List (List (BitVec 32))) (γ : Pick) (W : World) : Prop := ∀ i X, Xs[i]? = some X → X.length ≤ (γ i).2 ∧ Rw W (γ i).1 X
theorem fit_rwsL (Xs : List (List (BitVec 32))) (v : Pick → Value) : (Sg.made v (RwsL Xs)).fit := fit_rws Xs v
end Late
theorem AnsR.late {v : Pick → Value} {Xs : List (List (BitVec 32))} {W : World} {e : Ending} {w' : World} (h : AnsR v (RwsP Xs) W e w') : ∃ γ, e = .returned (v γ) ∧ Late.RwsL Xs γ w' ∧ Below W.heap.size W w' := h
attribute [local go_sem] rhoF_tmp rhoF_const rhoF_global rhoF_func
/-- A whole variable is written. -/
theorem stI {f : Nat → Value} {o : Oper} {t b : Nat} {u : Operand} {w : World} {y0 : Bool} {a0 : Option Addr} {n0 c0 : Nat} (ho : o.op = Op.store 24 (.tmp t) u) (hf : f t = .pointer (some ⟨b, 0, none⟩)) (hv : rhoF f u = .agg #[.bool y0, .slice a0 n0 c0]) (h : Late.Bn w b 2) :
    ∃ w', (execOp (rhoF f) o).run Tryd.prog w = .ok .skip w' ∧ Late.Up b w w' ∧ Bx w' b [.bool y0, .slice a0 n0 c0] := by
  obtain ⟨d, op, ty, ps, af, gu⟩ := o
  simp only at ho
  subst ho
  obtain ⟨vs, hl, h, hu⟩ := h
  match vs, hl, hu with
  | [x0, x1], _, hu =>
    simp only [List.all_cons, List.all_nil, Bool.and_true, Bool.and_eq_true] at hu
    obtain ⟨⟨k0, g0⟩, ⟨k1, g1⟩, -, -, kb⟩ := h.x2
    refine ⟨(w.setCell ⟨b, 0, none⟩ (.bool y0)).setCell ⟨b, 1, none⟩ (.slice a0 n0 c0), ?_, ⟨?_, fun g us hne hg => ?_, fun a l hr => ?_⟩, ?_⟩
    · simp only [execOp, hv]
      go_simp
    · exact Below.setCell (Below.setCell (Below.refl b w) (p := ⟨b, 0, none⟩) (Nat.le_refl b) _) (p := ⟨b, 1, none⟩) (Nat.le_refl b) _
    · exact (hg.st (Ne.symm hne)).st (Ne.symm hne)
    · exact Rw.sets hr [(b, 0, .bool y0), (b, 1, .slice a0 n0 c0)] ⟨⟨_, k0, hu.1⟩, ⟨_, k1, hu.2⟩, trivial⟩
    · refine Bx.of2 ?_ ?_ ?_ ?_ <;> go_simp
end Go.Proofs.YtcofiekfhnfjpaaDoor
