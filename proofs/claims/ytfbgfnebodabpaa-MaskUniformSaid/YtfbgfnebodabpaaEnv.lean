
import Derived.Test.YtfbgfnebodabpaaOrd
namespace Go.Proofs.Ytfbgfnebodabpaa
open Go.RowKit
set_option linter.unusedVariables false
set_option linter.unusedSimpArgs false
/- The same, with the frame kept as a list of what has been written: each operation is met by the values of its operands alone. -/
section
variable {P : Program} {ops : Array Oper} {Q : Exit → Act → World → Prop} {md : Region.Mode} {S : World → Prop}

def look (a : Act) : List (Nat × Value) → Nat → Value
  | [], t => a.eval (.tmp t)
  | (s, v) :: r, t => if s = t then v else look a r t
def rhoF (f : Nat → Value) : Operand → Value
  | .tmp t => f t
  | .const v => v
  | .global g => .pointer (some ⟨g, 0, none⟩)
  | .func f => .func (.func f) #[] #[]
theorem rhoF_tmp (f : Nat → Value) (t : Nat) : rhoF f (.tmp t) = f t := rfl
theorem rhoF_const (f : Nat → Value) (v : Value) : rhoF f (.const v) = v := rfl
theorem rhoF_global (f : Nat → Value) (g : Nat) : rhoF f (.global g) = .pointer (some ⟨g, 0, none⟩) := rfl
theorem rhoF_func (f : Nat → Value) (g : FuncId) : rhoF f (.func g) = .func (.func g) #[] #[] := rfl
def seen (ops : Array Oper) (a : Act) (env : List (Nat × Value)) (g : Nat) : Option Bool :=
  match (ops[g]?).bind (·.dst) with
  | some t => match look a env t with
    | .bool b => some b
    | _ => none
  | none => none
def wantedE (ops : Array Oper) (o : Oper) (a : Act) (env : List (Nat × Value)) : Bool := Region.wanted o (seen ops a env)
def putD (d : Option Tmp) (v : Value) (env : List (Nat × Value)) : List (Nat × Value) :=
  match d with
  | some t => (t, v) :: env
  | none => env
def puts (a : Act) : List (Nat × Value) → Act
  | [] => a
  | (s, v) :: r => (puts a r).put (some s) v

theorem puts_size (a : Act) : ∀ env, (puts a env).tmps.size = a.tmps.size
  | [] => rfl
  | (s, v) :: r => by rw [puts, put_size, puts_size a r]
theorem puts_eval (a : Act) : ∀ env : List (Nat × Value), (∀ p ∈ env, p.1 < a.tmps.size) → ∀ t, (puts a env).tmps[t]? = match env.lookup t with | some v => some v | none => a.tmps[t]?
  | [], _, t => rfl
  | (s, v) :: r, h, t => by
    rw [puts, put_look, puts_size]
    by_cases e : s = t
    · subst e
      have := h (s, v) (by simp)
      simp at this
      simp [List.lookup_cons, this]
    · have e' : (t == s) = false := by simp; exact fun h => e h.symm
      rw [if_neg e, puts_eval a r (fun p hp => h p (by simp [hp])) t, List.lookup_cons, e']
theorem look_eq (a : Act) : ∀ (env : List (Nat × Value)), (∀ p ∈ env, p.1 < a.tmps.size) → ∀ t, look a env t = (puts a env).tmps.getD t undef
  | [], _, t => rfl
  | (s, v) :: r, h, t => by
    have hr := look_eq a r (fun p hp => h p (by simp [hp])) t
    simp only [Array.getD_eq_getD_getElem?] at hr ⊢
    rw [look, puts, put_look, puts_size]
    by_cases e : s = t
    · subst e
      have := h (s, v) (by simp)
      simp at this
      simp [this]
    · rw [if_neg e, if_neg e]; exact hr
theorem rho_eq (a : Act) (env : List (Nat × Value)) (h : ∀ p ∈ env, p.1 < a.tmps.size) : (puts a env).eval = rhoF (look a env) := by
  funext x
  cases x with
  | tmp t => exact (look_eq a env h t).symm
  | const v => rfl
  | global g => rfl
  | func f => rfl
theorem seen_eq (a : Act) (env : List (Nat × Value)) (h : ∀ p ∈ env, p.1 < a.tmps.size) : yielded ops (puts a env).tmps = seen ops a env := by
  funext g
  unfold yielded seen
  cases ht : (ops[g]?).bind (·.dst) with
  | none => rfl
  | some t =>
    simp only [Option.bind_some]
    rw [look_eq a env h t, Array.getD_eq_getD_getElem?]
    cases (puts a env).tmps[t]? with
    | none => rfl
    | some v => cases v <;> rfl

def obE (P : Program) (ops : Array Oper) (S : World → Prop) (o : Oper) (a : Act) (env : List (Nat × Value)) : Sp → Prop
  | .val v => wantedE ops o a env = true ∧ ∀ w, S w → (execOp (rhoF (look a env)) o).run P w = .ok (.value v) w
  | .call f args v => wantedE ops o a env = true ∧ (∀ w, S w → (execOp (rhoF (look a env)) o).run P w = .ok (.enter f args) w) ∧ ∀ w, S w → Calls P f args w fun e w' => e = .returned v ∧ Below w.heap.size w w'
  | .fresh obj => wantedE ops o a env = true ∧ ∀ w, S w → (execOp (rhoF (look a env)) o).run P w = .ok (.value (.pointer (some ⟨w.heap.size, 0, none⟩))) (w.alloc obj)
  | .skip => wantedE ops o a env = false
theorem ob_of_obE {o : Oper} {a : Act} {env : List (Nat × Value)} (h : ∀ p ∈ env, p.1 < a.tmps.size) {s : Sp} (ho : obE P ops S o a env s) : ob P ops S o (puts a env) s := by
  have e1 := rho_eq a env h
  have e2 := seen_eq (ops := ops) a env h
  cases s <;> simp only [ob, obE, wantedE] at ho ⊢ <;> rw [e2] <;> first | (rw [e1]; exact ho) | exact ho

def Obe (P : Program) (ops : Array Oper) (Q : Exit → Act → World → Prop) (S : World → Prop) (w0 : World) (g : Nat → Nat) (tl : List Oper) (a : Act) : List Oper → List Sp → Nat → List (Nat × Obj) → List (Nat × Value) → Prop
  | [], [], _, fs, env => ∀ W, S W → Below w0.heap.size w0 W → Fresh g w0 W fs → wpList P ops Q tl (puts a env) W
  | o :: os, s :: ss, k, fs, env => obE P ops S o a env s ∧ Obe P ops Q S w0 g tl a os ss (k + 1) (fs ++ s.news k) (putD o.dst (s.get (g k)) env)
  | _, _, _, _, _ => False
theorem obs_of_obe {w0 : World} {g : Nat → Nat} {tl : List Oper} {a : Act} : ∀ (os : List Oper) (ss : List Sp) (k : Nat) (fs : List (Nat × Obj)) (env : List (Nat × Value)),
    (∀ o ∈ os, ∀ d, o.dst = some d → d < a.tmps.size) → (∀ p ∈ env, p.1 < a.tmps.size) → Obe P ops Q S w0 g tl a os ss k fs env → Obs P ops Q S w0 g tl os ss k fs (puts a env)
  | [], [], _, _, _, _, _, h => h
  | [], _ :: _, _, _, _, _, _, h => h
  | _ :: _, [], _, _, _, _, _, h => h
  | o :: os, s :: ss, k, fs, env, hd, he, h => by
    refine ⟨ob_of_obE he h.1, ?_⟩
    have h2 : ∀ p ∈ putD o.dst (s.get (g k)) env, p.1 < a.tmps.size := fun p hp => by
      unfold putD at hp
      cases hdst : o.dst with
      | none => rw [hdst] at hp; exact he p hp
      | some d =>
        rw [hdst] at hp
        rcases List.mem_cons.1 hp with rfl | hp
        · exact hd o (by simp) d hdst
        · exact he p hp
    have h3 := obs_of_obe os ss (k + 1) (fs ++ s.news k) _ (fun o' ho' => hd o' (by simp [ho'])) h2 h.2
    have e : puts a (putD o.dst (s.get (g k)) env) = (puts a env).put o.dst (s.get (g k)) := by
      unfold putD
      cases o.dst <;> rfl
    rw [e] at h3
    exact h3
section
variable {w0 : World} {g : Nat → Nat} {tl os : List Oper} {ss : List Sp} {a : Act} {o : Oper} {k : Nat} {fs : List (Nat × Obj)} {env : List (Nat × Value)}
theorem obe_val {v : Value} (hw : wantedE ops o a env = true) (h : ∀ f, look a env = f → ∀ w, S w → (execOp (rhoF f) o).run P w = .ok (.value v) w) (hn : Obe P ops Q S w0 g tl a os ss (k + 1) (fs ++ []) (putD o.dst v env)) :
    Obe P ops Q S w0 g tl a (o :: os) (.val v :: ss) k fs env := ⟨⟨hw, h _ rfl⟩, hn⟩
theorem obe_call {f : FuncId} {args : Array Value} {v : Value} (hw : wantedE ops o a env = true) (h : ∀ r, look a env = r → ∀ w, S w → (execOp (rhoF r) o).run P w = .ok (.enter f args) w) (hc : ∀ w, S w → Calls P f args w fun e w' => e = .returned v ∧ Below w.heap.size w w')
    (hn : Obe P ops Q S w0 g tl a os ss (k + 1) (fs ++ []) (putD o.dst v env)) : Obe P ops Q S w0 g tl a (o :: os) (.call f args v :: ss) k fs env := ⟨⟨hw, h _ rfl, hc⟩, hn⟩
theorem obe_fresh {obj : Obj} (hw : wantedE ops o a env = true) (h : ∀ r, look a env = r → ∀ w, S w → (execOp (rhoF r) o).run P w = .ok (.value (.pointer (some ⟨w.heap.size, 0, none⟩))) (w.alloc obj))
    (hn : Obe P ops Q S w0 g tl a os ss (k + 1) (fs ++ [(k, obj)]) (putD o.dst (.pointer (some ⟨g k, 0, none⟩)) env)) : Obe P ops Q S w0 g tl a (o :: os) (.fresh obj :: ss) k fs env := ⟨⟨hw, h _ rfl⟩, hn⟩
theorem obe_skip (hw : wantedE ops o a env = false) (hn : Obe P ops Q S w0 g tl a os ss (k + 1) (fs ++ []) (putD o.dst undef env)) :
    Obe P ops Q S w0 g tl a (o :: os) (.skip :: ss) k fs env := ⟨hw, hn⟩
theorem obe_nil (h : ∀ W, S W → Below w0.heap.size w0 W → Fresh g w0 W fs → wpList P ops Q tl (puts a env) W) : Obe P ops Q S w0 g tl a [] [] k fs env := h
end
def dstB (n : Nat) (os : List Oper) : Bool := os.all fun o => match o.dst with
  | some d => decide (d < n)
  | none => true
theorem wp_region_env {id : Nat} {a : Act} {w : World} {l : List Oper} (S S0 : World → Prop) (n m : Nat) (sp : List Sp) (hm : P.follows .mixedOrders = true) (hB : anyB .any l.toArray n = true) (hsz : a.tmps.size = m) (hd : dstB m l = true)
    (hcl : ∀ w w', S w → Below w.heap.size w w' → S w') (h0 : S0 w) (hS : ∀ W, S0 W → S W)
    (h : ∀ W, S0 W → ∀ g : Nat → Nat, Obe P l.toArray Q S W g (l.drop n) a (l.take n) sp 0 [] []) : (Code.region id l.toArray true).wp P Q a w := by
  refine wp_region_ord S S0 n sp hm hB hcl h0 hS fun W hW g => ?_
  refine obs_of_obe (l.take n) sp 0 [] [] (fun o ho d hdo => ?_) (fun p hp => by cases hp) (h W hW g)
  have := List.all_eq_true.1 hd o (List.mem_of_mem_take ho)
  rw [hdo] at this
  rw [hsz]
  simpa using this
end
end Go.Proofs.Ytfbgfnebodabpaa
