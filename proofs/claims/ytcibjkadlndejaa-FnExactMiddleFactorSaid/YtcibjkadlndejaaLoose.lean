/- Helper: regions that draw their order and whose operations may draw too (a not-a-number's bits): one walk in the order of the text serves every order. Conditions: none. -/
import Derived.Test.YtcibjkadlndejaaFloatKit
import Derived.Still
import Derived.BigQuiet
import Derived.Barred
namespace Go.Proofs.Ytcibjkadlndejaa

section
variable {P : Program} {ops : Array Oper} {md : Region.Mode} {C : World → Prop}

/-- What is asked of what an operation yields: a world of the class, and of the value what K asks. -/
def looseUpon (P : Program) (C : World → Prop) (K : Value → Prop) : Result Next → Prop
  | .ok (.value u) w' => C w' ∧ K u
  | .ok .skip w' => C w' ∧ K undef
  | .ok (.enter f args) w' => P.inits.idxOf? f = none ∧ ∃ u, Calls P f args w' (fun e w'' => e = .returned u ∧ C w'') ∧ K u
  | _ => False

def loose (P : Program) (C : World → Prop) (s : Sem Next) (K : Value → Prop) : Prop := ∀ w, C w → looseUpon P C K (s.run P w)

theorem looseUpon_mono {K K' : Value → Prop} (h : ∀ v, K v → K' v) {r : Result Next} (hh : looseUpon P C K r) : looseUpon P C K' r := by
  cases r with
  | ok n w' =>
    cases n <;> simp only [looseUpon] at hh ⊢
    case value u => exact ⟨hh.1, h _ hh.2⟩
    case skip => exact ⟨hh.1, h _ hh.2⟩
    case enter f args => obtain ⟨hi, u, hc, hk⟩ := hh; exact ⟨hi, u, hc, h _ hk⟩
  | halt x w' => simp only [looseUpon] at hh

theorem loose_mono {K K' : Value → Prop} (h : ∀ v, K v → K' v) {s : Sem Next} (hh : loose P C s K) : loose P C s K' := fun w hw => looseUpon_mono h (hh w hw)

theorem loose_some {s : Sem Next} {K : Value → Prop} (hC : ∃ w, C w) (h : loose P C s K) : ∃ v, K v := by
  obtain ⟨w, hw⟩ := hC
  have h0 := h w hw
  generalize s.run P w = r at *
  cases r with
  | ok n w' =>
    cases n <;> simp only [looseUpon] at h0
    case value u => exact ⟨_, h0.2⟩
    case skip => exact ⟨_, h0.2⟩
    case enter f args => obtain ⟨hi, u, hc, hk⟩ := h0; exact ⟨_, hk⟩
  | halt x w' => simp only [looseUpon] at h0

theorem calls_same {f : FuncId} {args : Array Value} {w : World} {u u' : Value} (hi : P.inits.idxOf? f = none)
    (h : Calls P f args w (fun e w'' => e = .returned u ∧ C w'')) (h' : Calls P f args w (fun e w'' => e = .returned u' ∧ C w'')) : u = u' := by
  have e1 : Calls P f args w fun | .returned v, _ => v = u | _, _ => False := h.mono fun e w' ⟨he, _⟩ => by subst he; rfl
  have e2 : Calls P f args w fun | .returned v, _ => v = u' | _, _ => False := h'.mono fun e w' ⟨he, _⟩ => by subst he; rfl
  obtain ⟨n, v, w1, r1, rfl⟩ := e1.done hi
  obtain ⟨m, v', w2, r2, rfl⟩ := e2.done hi
  have := runN_same_end r1 r2
  injection this

theorem loose_comm {si sj : Sem Next} {K : Value → Value → Prop} (hC : ∃ w, C w) (h : loose P C si (fun v => loose P C sj (fun u => K v u))) : loose P C sj (fun u => loose P C si (fun v => K v u)) := by
  intro w2 h2
  obtain ⟨v0, h0⟩ := loose_some hC h
  have h0' := h0 w2 h2
  have all : ∀ w1, C w1 → looseUpon P C (fun v => looseUpon P C (K v) (sj.run P w2)) (si.run P w1) := fun w1 h1 => looseUpon_mono (fun v hv => hv w2 h2) (h w1 h1)
  generalize sj.run P w2 = r at *
  cases r with
  | ok n w' =>
    cases n <;> simp only [looseUpon] at h0' ⊢
    case value u => exact ⟨h0'.1, fun w1 h1 => looseUpon_mono (fun v hv => hv.2) (all w1 h1)⟩
    case skip => exact ⟨h0'.1, fun w1 h1 => looseUpon_mono (fun v hv => hv.2) (all w1 h1)⟩
    case enter f args =>
      obtain ⟨hi, u, hc, _⟩ := h0'
      refine ⟨hi, u, hc, fun w1 h1 => looseUpon_mono (fun v hv => ?_) (all w1 h1)⟩
      obtain ⟨_, u', hc', hk⟩ := hv
      rw [calls_same hi hc hc']
      exact hk
  | halt x w' => simp only [looseUpon] at h0'

/-- Operation number i comes up in the state a. -/
def lOp (P : Program) (ops : Array Oper) (C : World → Prop) (i : Nat) (K : Act → Prop) (a : Act) : Prop :=
  match ops[i]? with
  | none => K a
  | some o => if Region.wanted o (yielded ops a.tmps) then loose P C (execOp a.eval o) (fun v => K (a.put o.dst v)) else K (a.put o.dst undef)

theorem lOp_mono {i : Nat} {a : Act} {K K' : Act → Prop} (h : ∀ a, K a → K' a) (hh : lOp P ops C i K a) : lOp P ops C i K' a := by
  unfold lOp at *
  split
  · rename_i ho; simp only [ho] at hh; exact h _ hh
  · rename_i o ho
    simp only [ho] at hh
    split
    · rename_i hw; simp only [hw, if_true] at hh; exact loose_mono (fun v => h _) hh
    · rename_i hw; simp only [hw] at hh; exact h _ hh

theorem lOp_some {i : Nat} {a : Act} {K : Act → Prop} (hC : ∃ w, C w) (hh : lOp P ops C i K a) : ∃ a, K a := by
  unfold lOp at hh
  split at hh
  · exact ⟨_, hh⟩
  · split at hh
    · obtain ⟨v, hv⟩ := loose_some hC hh; exact ⟨_, hv⟩
    · exact ⟨_, hh⟩

theorem lOp_comm {i j : Nat} {oi oj : Oper} (hi : ops[i]? = some oi) (hj : ops[j]? = some oj) (hap : oi.apart ops oj = true) (hsi : ∀ cs b, oi.op ≠ .select cs b) (hsj : ∀ cs b, oj.op ≠ .select cs b)
    (hC : ∃ w, C w) {K : Act → Prop} {a : Act} (h : lOp P ops C i (lOp P ops C j K) a) : lOp P ops C j (lOp P ops C i K) a := by
  obtain ⟨h1, h2, h3⟩ := Oper.apart_spec hap
  have e1 : ∀ v, Region.wanted oj (yielded ops (a.put oi.dst v).tmps) = Region.wanted oj (yielded ops a.tmps) := fun v => wanted_put oj a oi.dst v h1
  have e2 : ∀ u, Region.wanted oi (yielded ops (a.put oj.dst u).tmps) = Region.wanted oi (yielded ops a.tmps) := fun u => wanted_put oi a oj.dst u h3
  have e3 : ∀ v, execOp (a.put oi.dst v).eval oj = execOp a.eval oj := fun v => execOp_put oj hsj a oi.dst v h1
  have e4 : ∀ u, execOp (a.put oj.dst u).eval oi = execOp a.eval oi := fun u => execOp_put oi hsi a oj.dst u h3
  have e5 : ∀ v u, (a.put oi.dst v).put oj.dst u = (a.put oj.dst u).put oi.dst v := fun v u => Act.put_comm a v u h2
  simp only [lOp, hi, hj, e1, e2, e3, e4, e5] at h ⊢
  by_cases wi : Region.wanted oi (yielded ops a.tmps) = true
  · by_cases wj : Region.wanted oj (yielded ops a.tmps) = true
    · simp only [wi, wj, if_true] at h ⊢; exact loose_comm hC h
    · simp only [wi, wj, if_true] at h ⊢; exact h
  · by_cases wj : Region.wanted oj (yielded ops a.tmps) = true
    · simp only [wi, wj, if_true] at h ⊢; exact h
    · simp only [wi, wj] at h ⊢; exact h

/-- Whatever order is picked from here on. -/
def wpAnyL (P : Program) (md : Region.Mode) (ops : Array Oper) (C : World → Prop) (Q : Act → Prop) : Nat → Array Bool → Act → Prop
  | 0, listed, a => Region.ready md ops listed = [] ∧ Q a
  | fuel + 1, listed, a =>
    (Region.ready md ops listed = [] → Q a) ∧
    ∀ i ∈ Region.ready md ops listed, lOp P ops C i (wpAnyL P md ops C Q fuel (listed.setIfInBounds i true)) a

theorem wpAnyL_first {Q : Act → Prop} {i : Nat} {oi : Oper} (hi : ops[i]? = some oi) (hsel : ∀ (j : Nat) (o : Oper) cs b, ops[j]? = some o → o.op ≠ .select cs b) (hC : ∃ w, C w) :
    ∀ (fuel : Nat) (listed : Array Bool) (a : Act),
      (∀ j oj, ops[j]? = some oj → j ≠ i → listed.getD j true = false → (∀ e ∈ oj.after, Region.binds md e = true → e.on ≠ i) → oi.apart ops oj = true) →
      i ∈ Region.ready md ops listed → lOp P ops C i (wpAnyL P md ops C Q fuel (listed.setIfInBounds i true)) a → wpAnyL P md ops C Q (fuel + 1) listed a := by
  intro fuel
  induction fuel with
  | zero =>
    intro listed a _ hr H
    refine ⟨fun h => (by rw [h] at hr; cases hr), fun j hj => ?_⟩
    by_cases hji : j = i
    · subst hji; exact H
    · obtain ⟨a', ha⟩ := lOp_some hC H
      have := ready_mono hj hji
      rw [ha.1] at this
      cases this
  | succ fuel ih =>
    intro listed a hfree hr H
    refine ⟨fun h => (by rw [h] at hr; cases hr), fun j hj => ?_⟩
    by_cases hji : j = i
    · subst hji; exact H
    · obtain ⟨hjun, oj, hoj, hall⟩ := mem_ready.1 hj
      have hnot : ∀ e ∈ oj.after, Region.binds md e = true → e.on ≠ i := fun e he hb heq => by
        have g1 := hall e he hb
        have g0 := (mem_ready.1 hr).1
        rw [heq] at g1
        rcases Nat.lt_or_ge i listed.size with h' | h'
        · simp [h'] at g0 g1; rw [g0] at g1; cases g1
        · simp [Array.getElem?_eq_none h'] at g1
      have hfree' : ∀ k ok, ops[k]? = some ok → k ≠ i → (listed.setIfInBounds j true).getD k true = false →
          (∀ e ∈ ok.after, Region.binds md e = true → e.on ≠ i) → oi.apart ops ok = true := fun k ok hk hki hun hno => by
        refine hfree k ok hk hki ?_ hno
        by_cases hjk : j = k
        · subst hjk; exact hjun
        · rw [getD_set_ne true hjk] at hun; exact hun
      have h1 : lOp P ops C i (lOp P ops C j (wpAnyL P md ops C Q fuel ((listed.setIfInBounds i true).setIfInBounds j true))) a := lOp_mono (fun a' h => h.2 j (ready_mono hj hji)) H
      have h2 := lOp_comm hi hoj (hfree j oj hoj hji hjun hnot) (fun cs b => hsel i oi cs b hi) (fun cs b => hsel j oj cs b hoj) hC h1
      rw [Array.setIfInBounds_comm _ _ (Ne.symm hji)] at h2
      exact lOp_mono (fun a' h3 => ih (listed.setIfInBounds j true) a' hfree' (ready_mono hr (Ne.symm hji)) h3) h2

/-- The walk in the order of the text. -/
def wpLoose (P : Program) (ops : Array Oper) (C : World → Prop) (Q : Act → Prop) : List Oper → Act → Prop
  | [], a => Q a
  | o :: rest, a => if Region.wanted o (yielded ops a.tmps) then loose P C (execOp a.eval o) (fun v => wpLoose P ops C Q rest (a.put o.dst v)) else wpLoose P ops C Q rest (a.put o.dst undef)

theorem wpAnyL_lex {Q : Act → Prop} (hs : Region.noSelect ops = true) (hC : ∃ w, C w) : ∀ (l : List Oper) (k : Nat) (listed : Array Bool) (a : Act), (∀ j, l[j]? = ops[k + j]?) →
    Region.lexFrom md ops l.length k listed = true → wpLoose P ops C Q l a → wpAnyL P md ops C Q l.length listed a
  | [], _, _, _, _, hB, h => ⟨by simpa [Region.lexFrom] using hB, h⟩
  | o :: l, k, listed, a, hl, hB, h => by
    have h0 : ops[k]? = some o := by simpa using (hl 0).symm
    simp only [List.length_cons, Region.lexFrom, Bool.and_eq_true] at hB
    obtain ⟨⟨hr, hf⟩, hB'⟩ := hB
    have hst : lOp P ops C k (wpLoose P ops C Q l) a := by unfold lOp; simp only [h0]; exact h
    exact wpAnyL_first h0 (Region.noSelect_spec hs) hC l.length listed a (Region.free_spec h0 hf) (by simpa using hr)
      (lOp_mono (fun a' ha => wpAnyL_lex hs hC l (k + 1) _ a' (fun j => by have := hl (j + 1); simpa [Nat.add_assoc, Nat.add_comm 1 j] using this) hB' ha) hst)

theorem wpOp_of_lOp {i : Nat} {a : Act} {K : Act → Prop} {K' : Act → World → Prop} {Q' : Exit → Act → World → Prop} {w : World} (hC : C w) (h : ∀ a w', C w' → K a → K' a w') (hh : lOp P ops C i K a) : wpOp P ops Q' i K' a w := by
  unfold lOp at hh
  unfold wpOp
  split
  · rename_i ho; simp only [ho] at hh; exact h _ _ hC hh
  · rename_i o ho
    simp only [ho] at hh
    split
    · rename_i hw
      simp only [hw, if_true] at hh
      left
      have h3 := hh w hC
      unfold Oper.wp
      generalize (execOp a.eval o).run P w = r at *
      cases r with
      | ok n w' =>
        cases n <;> simp only [looseUpon] at h3 <;> simp only [Oper.upon]
        case value u => exact h _ _ h3.1 h3.2
        case skip => exact h _ _ h3.1 h3.2
        case enter f args =>
          obtain ⟨_, u, hc, hk⟩ := h3
          exact hc.mono fun e w'' ⟨he, hw''⟩ => by subst he; exact h _ _ hw'' hk
      | halt x w' => simp only [looseUpon] at h3
    · rename_i hw; simp only [hw] at hh; exact h _ _ hC hh

theorem wpAny_of_loose {Q : Act → Prop} {Q' : Exit → Act → World → Prop} (hQ : ∀ a w, C w → Q a → Q' .normal a w) : ∀ (fuel : Nat) (listed : Array Bool) (a : Act) (w : World), C w →
    wpAnyL P md ops C Q fuel listed a → wpAny P md ops Q' fuel listed a w
  | 0, _, _, _, hw, h => ⟨h.1, hQ _ _ hw h.2⟩
  | fuel + 1, _, _, _, hw, h => ⟨fun h0 => hQ _ _ hw (h.1 h0), fun i hi => wpOp_of_lOp hw (fun a' w' hw' => wpAny_of_loose hQ fuel _ a' w' hw') (h.2 i hi)⟩

theorem wp_region_loose {id : Nat} {Q : Exit → Act → World → Prop} {a : Act} {w : World} {l : List Oper} (hm : P.follows .mixedOrders = true) (hB : Region.lexB .any l.toArray = true)
    (h : wpLoose P l.toArray (fun w' => ∃ n, w' = w.drewN n) (fun a' => ∀ w', (∃ n, w' = w.drewN n) → Q .normal a' w') l a) : (Code.region id l.toArray true).wp P Q a w := by
  simp only [Region.lexB, Bool.and_eq_true] at hB
  refine wp_region_any hm (wpAny_of_loose (C := fun w' => ∃ n, w' = w.drewN n) (Q := fun a' => ∀ w', (∃ n, w' = w.drewN n) → Q .normal a' w') (fun _ w' hw' h => h w' hw') _ _ _ _ ⟨1, rfl⟩ ?_)
  have := wpAnyL_lex (P := P) (C := fun w' => ∃ n, w' = w.drewN n) (md := .any) hB.1 ⟨w, 0, rfl⟩ l 0 (Array.replicate l.toArray.size false) a (by simp) (by simpa using hB.2) h
  simpa using this

/-! ### Steps -/
section
variable {Q : Act → Prop} {a : Act} {o : Oper} {rest : List Oper}
theorem wpLoose_nil (h : Q a) : wpLoose P ops C Q [] a := h
theorem wpLoose_want (hw : Region.wanted o (yielded ops a.tmps) = true) (h : ∀ K : Act → Prop, (∀ a, wpLoose P ops C Q rest a → K a) → loose P C (execOp a.eval o) (fun v => K (a.put o.dst v))) : wpLoose P ops C Q (o :: rest) a := by
  unfold wpLoose
  rw [if_pos hw]
  exact h _ fun _ h => h
theorem wpLoose_skip (hw : Region.wanted o (yielded ops a.tmps) = false) (h : wpLoose P ops C Q rest (a.put o.dst undef)) : wpLoose P ops C Q (o :: rest) a := by
  unfold wpLoose
  rw [if_neg (by rw [hw]; exact Bool.false_ne_true)]
  exact h
end

/-- Operations that never enter a function. -/
def plainOp (o : Oper) : Bool := match o.op with
  | .move _ | .assign _ | .load .. | .binOp .. | .unOp .. | .convert .. | .indexAddr .. | .index .. | .fieldAddr .. | .field .. | .slice .. => true
  | _ => false

theorem value_not_enter {s : Sem Value} {w w' : World} {f : FuncId} {args : Array Value} : ((do pure (Next.value (← s)) : Sem Next)).run P w ≠ .ok (.enter f args) w' := by
  rw [Sem.run_bind]
  cases s.run P w with
  | ok v w1 => simp [Result.andThen, Sem.run_pure]
  | halt x w1 => simp [Result.andThen]

theorem plain_not_enter {o : Oper} (ho : plainOp o = true) {ev : Operand → Value} {w w' : World} {f : FuncId} {args : Array Value} : (execOp ev o).run P w ≠ .ok (.enter f args) w' := by
  unfold execOp
  unfold plainOp at ho
  split at ho
  all_goals first | (rename_i h; rw [h]; first | exact value_not_enter | (simp [Sem.run_pure]; done)) | cases ho

theorem loose_of_quiet {o : Oper} {a : Act} {K : Act → Prop} (ho : plainOp o = true) (h : o.quiet P a C K) : loose P C (execOp a.eval o) (fun v => K (a.put o.dst v)) := by
  intro w hw
  obtain ⟨v, h1, h2⟩ := h
  have h3 := h1 w hw
  unfold Oper.quietAt at h3
  have hne := fun w' f args => plain_not_enter (P := P) ho (ev := a.eval) (w := w) (w' := w') (f := f) (args := args)
  generalize (execOp a.eval o).run P w = r at *
  cases r with
  | ok n w' =>
    cases n <;> simp only [Oper.quietUpon] at h3 <;> simp only [looseUpon]
    case value u => obtain ⟨rfl, rfl⟩ := h3; exact ⟨hw, h2⟩
    case skip => obtain ⟨rfl, rfl⟩ := h3; exact ⟨hw, h2⟩
    case enter f args => exact absurd rfl (hne _ _ _)
  | halt x w' => simp only [Oper.quietUpon] at h3

theorem loose_of_call {o : Oper} {a : Act} {K : Act → Prop} {f : FuncId} {args : Array Value} {u : Value} (hr : ∀ w, (execOp a.eval o).run P w = .ok (.enter f args) w) (hi : P.inits.idxOf? f = none)
    (hc : ∀ w, C w → Calls P f args w (fun e w'' => e = .returned u ∧ C w'')) (hk : K (a.put o.dst u)) : loose P C (execOp a.eval o) (fun v => K (a.put o.dst v)) := by
  intro w hw
  rw [hr w]
  exact ⟨hi, u, hc w hw, hk⟩

end

section
variable {P : Program} {w0 : World}
theorem loose_farith {o : Oper} {a : Act} {K : Act → Prop}
    (op : BinOp) (t u : TypeId) (x y : Operand) (ho : o.op = .binOp op t x y u) (ha : arith op = true) (k : FloatKind) (vx vy : Nat) (hx : a.eval x = .float k vx) (hy : a.eval y = .float k vy)
    {X Y : Option Nat} (fx : FV k vx X) (fy : FV k vy Y)
    (h : ∀ r, FV k r (fop op k X Y) → K (a.put o.dst (.float k r))) : loose P (fun w' => ∃ n, w' = w0.drewN n) (execOp a.eval o) (fun v => K (a.put o.dst v)) := by
  rintro w ⟨n, rfl⟩
  obtain ⟨r, m, hr, hv⟩ := run_farith (P := P) (w0.drewN n) op t k vx vy ha
  rw [fx.1, fy.1] at hv
  have hg : ∀ W, (eqGuard op t x y (.float k vx) (.float k vy)).run P W = .ok () W := by
    intro W
    cases op <;> first | (cases ha; done) | rfl
  unfold execOp
  simp only [ho, hx, hy, Sem.run_bind, hg, Result.andThen_ok, hr, Sem.run_pure]
  exact ⟨⟨n + m, World.drewN_drewN _ _ _⟩, h r hv⟩

theorem loose_widen {o : Oper} {a : Act} {K : Act → Prop}
    (src dst : TypeId) (x : Operand) (ho : o.op = .convert src dst x) (vx : Nat) (hx : a.eval x = .float .f32 vx) (hs : (P.underlying src).isSome = true) (hd : P.underlying dst = some (.float .f64))
    {X : Option Nat} (fx : FV .f32 vx X)
    (h : ∀ r, FV .f64 r (widen X) → K (a.put o.dst (.float .f64 r))) : loose P (fun w' => ∃ n, w' = w0.drewN n) (execOp a.eval o) (fun v => K (a.put o.dst v)) := by
  rintro w ⟨n, rfl⟩
  obtain ⟨r, m, hr, hv⟩ := run_widen (P := P) (w0.drewN n) src dst vx hs hd
  rw [fx.1] at hv
  unfold execOp
  simp only [ho, hx, Sem.run_bind, hr, Result.andThen_ok, Sem.run_pure]
  exact ⟨⟨n + m, World.drewN_drewN _ _ _⟩, h r hv⟩

theorem loose_narrow {o : Oper} {a : Act} {K : Act → Prop}
    (src dst : TypeId) (x : Operand) (ho : o.op = .convert src dst x) (vx : Nat) (hx : a.eval x = .float .f64 vx) (hs : (P.underlying src).isSome = true) (hd : P.underlying dst = some (.float .f32))
    {X : Option Nat} (fx : FV .f64 vx X) (hf : fits X)
    (h : ∀ r, FV .f32 r (narrow X) → K (a.put o.dst (.float .f32 r))) : loose P (fun w' => ∃ n, w' = w0.drewN n) (execOp a.eval o) (fun v => K (a.put o.dst v)) := by
  rintro w ⟨n, rfl⟩
  obtain ⟨r, m, hr, hv⟩ := run_narrow (P := P) (w0.drewN n) src dst vx hs hd (by rw [fx.1]; exact hf)
  rw [fx.1] at hv
  unfold execOp
  simp only [ho, hx, Sem.run_bind, hr, Result.andThen_ok, Sem.run_pure]
  exact ⟨⟨n + m, World.drewN_drewN _ _ _⟩, h r hv⟩
end
end Go.Proofs.Ytcibjkadlndejaa
