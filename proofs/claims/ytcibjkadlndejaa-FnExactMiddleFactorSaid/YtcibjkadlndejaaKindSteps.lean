/- Helper: the walk of a region by kinds of operations, step by step. Conditions: none. -/
import Derived.Test.YtcibjkadlndejaaKinds
set_option linter.unusedVariables false
set_option linter.unusedSimpArgs false
namespace Go.Proofs.Ytcibjkadlndejaa

section
variable {P : Program} {ops : Array Oper} {C : World → Prop} {kind : Nat → Nat}
def wpKinds (P : Program) (ops : Array Oper) (C : World → Prop) (kind : Nat → Nat) (Q : Act → Prop) : List Oper → Nat → Act → Prop
  | [], _, a => Q a
  | o :: rest, k, a => if Region.wanted o (yielded ops a.tmps) then (match kind k with
      | 0 => fixed P o a C (wpKinds P ops C kind Q rest (k + 1))
      | 1 => openV P C (execOp a.eval o) (fun v => wpKinds P ops C kind Q rest (k + 1) (a.put o.dst v))
      | _ => noisy P C (execOp a.eval o) (fun v => wpKinds P ops C kind Q rest (k + 1) (a.put o.dst v))) else wpKinds P ops C kind Q rest (k + 1) (a.put o.dst undef)
theorem lex_of_kinds {Q : Act → Prop} : ∀ (l : List Oper) (k : Nat) (a : Act), (∀ j, j < l.length → l[j]? = ops[k + j]?) → wpKinds P ops C kind Q l k a → wpLex (kOp P ops C kind) Q l.length k a
  | [], _, _, _, h => h
  | o :: l, k, a, hl, h => by
    have h0 : ops[k]? = some o := by simpa using (hl 0 (by simp)).symm
    have hst : kOp P ops C kind k (wpKinds P ops C kind Q l (k + 1)) a := by unfold kOp; simp only [h0]; exact h
    exact kOp_mono (fun a' ha => lex_of_kinds l (k + 1) a' (fun j hj => by have := hl (j + 1) (by simp; omega); simpa [Nat.add_assoc, Nat.add_comm 1 j] using this) ha) hst
theorem wp_region_kinds {id : Nat} {Q : Exit → Act → World → Prop} {a : Act} {w : World} {l : List Oper} (C : World → Prop) (kind : Nat → Nat) (n : Nat) (hC : C (w.drewN 1)) (hm : P.follows .mixedOrders = true) (hB : Region.lexTailB .any l.toArray n = true)
    (hbad : badB .any l.toArray (badK kind) = true) (h : wpKinds P l.toArray C kind (fun a' => ∀ w', C w' → wpList P l.toArray Q (l.drop n) a' w') (l.take n) 0 a) : (Code.region id l.toArray true).wp P Q a w := by
  have hn : n < l.length := by
    simp only [Region.lexTailB, Bool.and_eq_true, decide_eq_true_eq] at hB
    simpa using hB.1.1.1.2
  have htl : (l.take n).length = n := by simp; omega
  have H := lex_of_kinds (P := P) (ops := l.toArray) (C := C) (kind := kind) (l.take n) 0 a (fun j hj => by
    have hj' : j < n := by rw [htl] at hj; exact hj
    simp [hj']) h
  rw [htl] at H
  exact wp_region_tailK n (ways_kinds ⟨_, hC⟩) hbad hC hm hB H
theorem wpKinds_nil {Q : Act → Prop} {a : Act} {k : Nat} (h : Q a) : wpKinds P ops C kind Q [] k a := h
theorem wpKinds_skip {Q : Act → Prop} {a : Act} {k : Nat} {o : Oper} {rest : List Oper} (hw : Region.wanted o (yielded ops a.tmps) = false) (h : wpKinds P ops C kind Q rest (k + 1) (a.put o.dst undef)) : wpKinds P ops C kind Q (o :: rest) k a := by
  unfold wpKinds
  rw [if_neg (by rw [hw]; exact Bool.false_ne_true)]
  exact h
/-- An operation that reads no memory. -/
theorem wpKinds_plain {Q : Act → Prop} {a : Act} {k : Nat} {o : Oper} {rest : List Oper} (hw : Region.wanted o (yielded ops a.tmps) = true) (hk : kind k = 0) (ho : plainOp o = true)
    (h : ∀ K : Act → Prop, (∀ a, wpKinds P ops C kind Q rest (k + 1) a → K a) → o.quiet P a C K) : wpKinds P ops C kind Q (o :: rest) k a := by
  unfold wpKinds
  rw [if_pos hw, hk]
  obtain ⟨v, h1, h2⟩ := plain_of_quiet ho (h _ fun _ h => h)
  refine ⟨v, fun w hC => ?_, h2⟩
  have h3 := h1 w hC
  generalize (execOp a.eval o).run P w = r at *
  cases r with
  | ok n w' =>
    cases n <;> simp only [plainUpon] at h3 <;> simp only [fixedUpon]
    case value u => exact ⟨by rw [h3.1]; exact hC, h3.2⟩
    case skip => exact ⟨by rw [h3.1]; exact hC, h3.2⟩
  | halt x w' => simp only [plainUpon] at h3
/-- One whose run is told. -/
theorem wpKinds_run {Q : Act → Prop} {a : Act} {k : Nat} {o : Oper} {rest : List Oper} (v : Value) (hw : Region.wanted o (yielded ops a.tmps) = true) (hk : kind k = 0) (hr : ∀ w, C w → (execOp a.eval o).run P w = .ok (.value v) w)
    (h : wpKinds P ops C kind Q rest (k + 1) (a.put o.dst v)) : wpKinds P ops C kind Q (o :: rest) k a := by
  unfold wpKinds
  rw [if_pos hw, hk]
  exact ⟨v, fun w hC => by rw [hr w hC]; exact ⟨hC, rfl⟩, h⟩
/-- A call of one value. -/
theorem wpKinds_call {Q : Act → Prop} {a : Act} {k : Nat} {o : Oper} {rest : List Oper} {f : FuncId} {args : Array Value} (v : Value) (hw : Region.wanted o (yielded ops a.tmps) = true) (hk : kind k = 0) (hr : ∀ w, (execOp a.eval o).run P w = .ok (.enter f args) w) (hi : P.inits.idxOf? f = none)
    (hc : ∀ w, C w → Calls P f args w (fun e w'' => e = .returned v ∧ C w'')) (h : wpKinds P ops C kind Q rest (k + 1) (a.put o.dst v)) : wpKinds P ops C kind Q (o :: rest) k a := by
  unfold wpKinds
  rw [if_pos hw, hk]
  exact ⟨v, fun w hC => by rw [hr w]; exact ⟨hi, hc w hC⟩, h⟩
/-- A call whose value hangs on the world. -/
theorem wpKinds_noisy {Q : Act → Prop} {a : Act} {k : Nat} {o : Oper} {rest : List Oper} {f : FuncId} {args : Array Value} (R : Value → Prop) (hw : Region.wanted o (yielded ops a.tmps) = true) (hk : kind k = 2) (hr : ∀ w, (execOp a.eval o).run P w = .ok (.enter f args) w)
    (hc : ∀ w, C w → Calls P f args w (fun e w'' => ∃ u, e = .returned u ∧ C w'' ∧ R u)) (h : ∀ u, R u → wpKinds P ops C kind Q rest (k + 1) (a.put o.dst u)) : wpKinds P ops C kind Q (o :: rest) k a := by
  unfold wpKinds
  rw [if_pos hw, hk]
  intro w hC
  rw [hr w]
  exact (hc w hC).mono fun e w'' ⟨u, he, h1, h2⟩ => ⟨u, he, h1, h u h2⟩
/-- A float's arithmetic. -/
theorem wpKinds_farith {Q : Act → Prop} {a : Act} {k : Nat} {o : Oper} {rest : List Oper} (hCd : ∀ w m, C w → C (w.drewN m)) (hw : Region.wanted o (yielded ops a.tmps) = true) (hk : kind k = 1)
    (op : BinOp) (t u : TypeId) (x y : Operand) (ho : o.op = .binOp op t x y u) (ha : arith op = true) (kd : FloatKind) (vx vy : Nat) (hx : a.eval x = .float kd vx) (hy : a.eval y = .float kd vy)
    {X Y : Option Nat} (fx : FV kd vx X) (fy : FV kd vy Y)
    (h : ∀ r, FV kd r (fop op kd X Y) → wpKinds P ops C kind Q rest (k + 1) (a.put o.dst (.float kd r))) : wpKinds P ops C kind Q (o :: rest) k a := by
  unfold wpKinds
  rw [if_pos hw, hk]
  intro w hC
  obtain ⟨r, m, hr, hv⟩ := run_farith (P := P) w op t kd vx vy ha
  rw [fx.1, fy.1] at hv
  have hg : ∀ W, (eqGuard op t x y (.float kd vx) (.float kd vy)).run P W = .ok () W := by
    intro W
    cases op <;> first | (cases ha; done) | rfl
  unfold execOp
  simp only [ho, hx, hy, Sem.run_bind, hg, Result.andThen_ok, hr, Sem.run_pure]
  exact ⟨hCd w m hC, h r hv⟩
end
end Go.Proofs.Ytcibjkadlndejaa
