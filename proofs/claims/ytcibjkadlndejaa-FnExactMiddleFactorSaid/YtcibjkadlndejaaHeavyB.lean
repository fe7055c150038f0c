/- Helper: regions that draw their order, in which operations that change the world (an append among them) follow one another while all others have one value in a wide class of worlds. Conditions: none. -/
import Derived.Test.YtcibjkadlndejaaKindSteps
set_option linter.unusedVariables false
set_option linter.unusedSimpArgs false
namespace Go.Proofs.Ytcibjkadlndejaa.HB
open Go.Proofs.Ytcibjkadlndejaa Go.RowKit

section
variable {P : Program} {ops : Array Oper} {md : Region.Mode} {C : World → Prop} {op : Nat → (Act → Prop) → Act → Prop} {bad : Nat → Nat → Bool}
theorem wpAnyH_first (S : WaysB P ops C op bad) {n i : Nat} (hbad : ∀ listed, HeadInv md ops n listed → ∀ i j, i ∈ Region.ready md ops listed → j ∈ Region.ready md ops listed → i ≠ j → bad i j = false) {oi : Oper} {L : Array Bool → Act → Prop} (hi : ops[i]? = some oi) (hsel : ∀ (j : Nat) (o : Oper) cs b, ops[j]? = some o → o.op ≠ .select cs b)
    (hs : Region.sinkB md ops n = true) (hc : Region.chainB md ops n = true) (hn : n < ops.size) (hin : i < n)
    (hdone : ∀ listed a, L listed a → ∀ j ∈ Region.ready md ops listed, n ≤ j) :
    ∀ (f : Nat) (listed : Array Bool) (a : Act), HeadInv md ops n listed →
      (∀ j oj, ops[j]? = some oj → j ≠ i → listed.getD j true = false → (∀ e ∈ oj.after, Region.binds md e = true → e.on ≠ i) → oi.apart ops oj = true) →
      i ∈ Region.ready md ops listed → op i (wpAnyT md ops op n L f (listed.setIfInBounds i true)) a → wpAnyT md ops op n L (f + 1) listed a := by
  intro f
  induction f with
  | zero =>
    intro listed a inv _ hr H
    have hun := (mem_ready.1 hr).1
    refine ⟨fun h => (by rw [h] at hr; cases hr), fun j hj => ?_⟩
    have hjn : j < n := by
      rcases Nat.lt_or_ge j n with h | h
      · exact h
      · exact absurd hj (tail_waits hs hc hn inv _ i rfl hin hun j h)
    refine ⟨hjn, ?_⟩
    by_cases hji : j = i
    · subst hji; exact H
    · obtain ⟨a', ha⟩ := S.inhab H
      have := hdone _ _ ha j (ready_mono hj hji)
      omega
  | succ f ih =>
    intro listed a inv hfree hr H
    have hun := (mem_ready.1 hr).1
    refine ⟨fun h => (by rw [h] at hr; cases hr), fun j hj => ?_⟩
    have hjn : j < n := by
      rcases Nat.lt_or_ge j n with h | h
      · exact h
      · exact absurd hj (tail_waits hs hc hn inv _ i rfl hin hun j h)
    refine ⟨hjn, ?_⟩
    by_cases hji : j = i
    · subst hji; exact H
    · have hnb := hbad listed inv i j hr hj (fun e => hji e.symm)
      obtain ⟨hjun, oj, hoj, hall⟩ := mem_ready.1 hj
      have hnot : ∀ e ∈ oj.after, Region.binds md e = true → e.on ≠ i := fun e he hb heq => by
        have h1 := hall e he hb
        rw [heq, getD_both hun] at h1
        cases h1
      have h1 : op i (op j (wpAnyT md ops op n L f ((listed.setIfInBounds i true).setIfInBounds j true))) a := S.mono (fun a' h => (h.2 j (ready_mono hj hji)).2) H
      have h2 := S.comm hi hoj hnb (hfree j oj hoj hji hjun hnot) (fun cs b => hsel i oi cs b hi) (fun cs b => hsel j oj cs b hoj) h1
      have hfree' : ∀ k ok, ops[k]? = some ok → k ≠ i → (listed.setIfInBounds j true).getD k true = false →
          (∀ e ∈ ok.after, Region.binds md e = true → e.on ≠ i) → oi.apart ops ok = true := fun k ok hk hki hun hno => by
        refine hfree k ok hk hki ?_ hno
        by_cases hjk : j = k
        · subst hjk; exact hjun
        · rw [getD_set_ne true hjk] at hun; exact hun
      rw [Array.setIfInBounds_comm _ _ (Ne.symm hji)] at h2
      exact S.mono (fun a' h3 => ih (listed.setIfInBounds j true) a' (inv.set hj hjn) hfree' (ready_mono hr (Ne.symm hji)) h3) h2

theorem wpAnyH_lex (S : WaysB P ops C op bad) {n g : Nat} (hbad : ∀ listed, HeadInv md ops n listed → ∀ i j, i ∈ Region.ready md ops listed → j ∈ Region.ready md ops listed → i ≠ j → bad i j = false) {Lq : Act → Prop} (hsel : Region.noSelect ops = true) (hs : Region.sinkB md ops n = true) (hc : Region.chainB md ops n = true) (hn : n < ops.size) :
    ∀ (l k : Nat) (listed : Array Bool) (a : Act), k + l = n → HeadInv md ops n listed → Region.lexHead md ops g l k listed = true → wpLex op Lq l k a →
    wpAnyT md ops op n (fun listed' a' => Region.seqB md ops g n listed' = true ∧ Lq a') l listed a
  | 0, k, listed, a, hk, _, hB, h => by
    have : k = n := by simpa using hk
    subst this
    exact ⟨by simpa [Region.lexHead] using hB, h⟩
  | l + 1, k, listed, a, hk, inv, hB, h => by
    have hkn : k < n := by omega
    have h0 : ops[k]? = some (ops[k]'(by omega)) := Array.getElem?_eq_getElem (by omega)
    simp only [Region.lexHead, Bool.and_eq_true] at hB
    obtain ⟨⟨hr, hf⟩, hB'⟩ := hB
    have hr' : k ∈ Region.ready md ops listed := by simpa using hr
    exact wpAnyH_first S hbad h0 (Region.noSelect_spec hsel) hs hc hn hkn (fun listed' a' hL => seqB_ready hL.1) l listed a inv (Region.free_spec h0 hf) hr'
      (S.mono (fun a' ha => wpAnyH_lex S hbad hsel hs hc hn l (k + 1) _ a' (by omega) (inv.set hr' hkn) hB' ha) h)

end
section
variable {P : Program} {ops : Array Oper} {D : World → Prop} {C : Nat → Act → World → Prop} {hv : Nat → Option Nat}

/-- D holds of every world meanwhile; C s tells the world once s heavy operations have come up. -/
structure HClass (ops : Array Oper) (D : World → Prop) (C : Nat → Act → World → Prop) (hv : Nat → Option Nat) : Prop where
  wide : ∀ {s : Nat} {a : Act} {w : World}, C s a w → D w
  put : ∀ {s i : Nat} {o : Oper} (a : Act) (v : Value) (w : World), ops[i]? = some o → hv i = none → (C s (a.put o.dst v) w ↔ C s a w)
  drew : ∀ {s : Nat} {a : Act} {w w' : World}, Below w.heap.size w w' → C s a w → C s a w'
def stillUpon (P : Program) (v : Value) (w : World) : Result Next → Prop
  | .ok (.value u) w' => Below w.heap.size w w' ∧ u = v
  | .ok .skip w' => Below w.heap.size w w' ∧ v = undef
  | .ok (.enter f args) w' => P.inits.idxOf? f = none ∧ Calls P f args w' (fun e w'' => e = .returned v ∧ Below w.heap.size w w'')
  | _ => False
theorem stillUpon_same {u v : Value} {w : World} {r : Result Next} (h1 : stillUpon P u w r) (h2 : stillUpon P v w r) : u = v := by
  cases r with
  | ok n w' =>
    cases n <;> simp only [stillUpon] at h1 h2
    case value x => exact h1.2.symm.trans h2.2
    case skip => exact h1.2.trans h2.2.symm
    case enter f args => exact calls_same h1.1 h1.2 h2.2
  | halt x w' => simp only [stillUpon] at h1
def heavyUpon (C : Act → World → Prop) (A : Value → Act) (K : Act → Prop) : Result Next → Prop
  | .ok (.value u) w' => C (A u) w' ∧ K (A u)
  | .ok .skip w' => C (A undef) w' ∧ K (A undef)
  | _ => False
theorem heavyUpon_mono {C : Act → World → Prop} {A : Value → Act} {K K' : Act → Prop} {r : Result Next} (h : ∀ a, K a → K' a) (hh : heavyUpon C A K r) : heavyUpon C A K' r := by
  cases r with
  | ok n w' =>
    cases n <;> simp only [heavyUpon] at hh ⊢
    case value u => exact ⟨hh.1, h _ hh.2⟩
    case skip => exact ⟨hh.1, h _ hh.2⟩
  | halt x w' => simp only [heavyUpon] at hh
/-- Operation number i comes up. -/
def hOp (P : Program) (ops : Array Oper) (D : World → Prop) (C : Nat → Act → World → Prop) (hv : Nat → Option Nat) (i : Nat) (K : Act → Prop) (a : Act) : Prop :=
  match ops[i]? with
  | none => K a
  | some o => match hv i with
    | some s => Region.wanted o (yielded ops a.tmps) = true ∧ (∃ w, C s a w) ∧ ∀ w, C s a w → heavyUpon (C (s + 1)) (fun u => a.put o.dst u) K ((execOp a.eval o).run P w)
    | none => if Region.wanted o (yielded ops a.tmps) then ∃ v, (∀ w, D w → stillUpon P v w ((execOp a.eval o).run P w)) ∧ K (a.put o.dst v) else K (a.put o.dst undef)
theorem hOp_mono {i : Nat} {a : Act} {K K' : Act → Prop} (h : ∀ a, K a → K' a) (hh : hOp P ops D C hv i K a) : hOp P ops D C hv i K' a := by
  unfold hOp at *
  split
  · rename_i ho; simp only [ho] at hh; exact h _ hh
  · rename_i o ho
    simp only [ho] at hh
    cases hk : hv i <;> simp only [hk] at hh ⊢
    · split
      · rename_i hw
        simp only [hw, if_true] at hh
        obtain ⟨v, h1, h2⟩ := hh
        exact ⟨v, h1, h _ h2⟩
      · rename_i hw; simp only [hw] at hh; exact h _ hh
    · exact ⟨hh.1, hh.2.1, fun w hw => heavyUpon_mono h (hh.2.2 w hw)⟩
theorem hOp_some {i : Nat} {a : Act} {K : Act → Prop} (hh : hOp P ops D C hv i K a) : ∃ a, K a := by
  unfold hOp at hh
  split at hh
  · exact ⟨_, hh⟩
  · rename_i o ho
    cases hk : hv i <;> simp only [hk] at hh
    · split at hh
      · obtain ⟨v, _, h⟩ := hh; exact ⟨_, h⟩
      · exact ⟨_, hh⟩
    · obtain ⟨_, ⟨w, hw⟩, h⟩ := hh
      have h0 := h w hw
      generalize (execOp a.eval o).run P w = r at h0
      cases r with
      | ok n w' =>
        cases n <;> simp only [heavyUpon] at h0
        case value u => exact ⟨_, h0.2⟩
        case skip => exact ⟨_, h0.2⟩
      | halt x w' => simp only [heavyUpon] at h0
theorem hOp_comm (S : HClass ops D C hv) {i j : Nat} {oi oj : Oper} (hi : ops[i]? = some oi) (hj : ops[j]? = some oj) (hbad : ((hv i).isSome && (hv j).isSome) = false) (hap : oi.apart ops oj = true) (hsi : ∀ cs b, oi.op ≠ .select cs b) (hsj : ∀ cs b, oj.op ≠ .select cs b)
    {K : Act → Prop} {a : Act} (h : hOp P ops D C hv i (hOp P ops D C hv j K) a) : hOp P ops D C hv j (hOp P ops D C hv i K) a := by
  obtain ⟨h1, h2, h3⟩ := Oper.apart_spec hap
  have e1 : ∀ v, Region.wanted oj (yielded ops (a.put oi.dst v).tmps) = Region.wanted oj (yielded ops a.tmps) := fun v => wanted_put oj a oi.dst v h1
  have e2 : ∀ u, Region.wanted oi (yielded ops (a.put oj.dst u).tmps) = Region.wanted oi (yielded ops a.tmps) := fun u => wanted_put oi a oj.dst u h3
  have e3 : ∀ v, execOp (a.put oi.dst v).eval oj = execOp a.eval oj := fun v => execOp_put oj hsj a oi.dst v h1
  have e4 : ∀ u, execOp (a.put oj.dst u).eval oi = execOp a.eval oi := fun u => execOp_put oi hsi a oj.dst u h3
  have e5 : ∀ v u, (a.put oi.dst v).put oj.dst u = (a.put oj.dst u).put oi.dst v := fun v u => Act.put_comm a v u h2
  simp only [hOp, hi, hj, e1, e2, e3, e4] at h ⊢
  cases hki : hv i <;> cases hkj : hv j <;> simp only [hki, hkj] at h hbad ⊢
  · by_cases wi : Region.wanted oi (yielded ops a.tmps) = true
    · by_cases wj : Region.wanted oj (yielded ops a.tmps) = true
      · simp only [wi, wj, if_true] at h ⊢
        obtain ⟨v, hv1, u, hu, hk⟩ := h
        exact ⟨u, hu, v, hv1, by rw [← e5]; exact hk⟩
      · simp only [wi, wj, if_true] at h ⊢
        obtain ⟨v, hv1, hk⟩ := h
        exact ⟨v, hv1, by rw [← e5]; exact hk⟩
    · by_cases wj : Region.wanted oj (yielded ops a.tmps) = true
      · simp only [wi, wj, if_true] at h ⊢
        obtain ⟨v, hv1, hk⟩ := h
        exact ⟨v, hv1, by rw [← e5]; exact hk⟩
      · simp only [wi, wj] at h ⊢
        rw [← e5]; exact h
  · rename_i s
    have aux : ∀ v, (Region.wanted oj (yielded ops a.tmps) = true ∧ (∃ w, C s (a.put oi.dst v) w) ∧ ∀ w, C s (a.put oi.dst v) w → heavyUpon (C (s + 1)) (fun u => (a.put oi.dst v).put oj.dst u) K ((execOp a.eval oj).run P w)) →
        ∀ (G : Act → Prop), (∀ u, K ((a.put oj.dst u).put oi.dst v) → G (a.put oj.dst u)) →
        (Region.wanted oj (yielded ops a.tmps) = true ∧ (∃ w, C s a w) ∧ ∀ w, C s a w → heavyUpon (C (s + 1)) (fun u => a.put oj.dst u) G ((execOp a.eval oj).run P w)) := by
      intro v hh G hG
      refine ⟨hh.1, ?_, fun w hw => ?_⟩
      · obtain ⟨w, hw⟩ := hh.2.1
        exact ⟨w, (S.put a v w hi hki).1 hw⟩
      · have h0 := hh.2.2 w ((S.put a v w hi hki).2 hw)
        generalize (execOp a.eval oj).run P w = r at h0 ⊢
        cases r with
        | ok n w' =>
          cases n <;> simp only [heavyUpon] at h0 ⊢
          case value u =>
            rw [e5] at h0
            exact ⟨(S.put _ v w' hi hki).1 h0.1, hG u h0.2⟩
          case skip =>
            rw [e5] at h0
            exact ⟨(S.put _ v w' hi hki).1 h0.1, hG undef h0.2⟩
        | halt x w' => simp only [heavyUpon] at h0
    by_cases wi : Region.wanted oi (yielded ops a.tmps) = true
    · simp only [wi, if_true] at h ⊢
      obtain ⟨v, hv1, hk⟩ := h
      exact aux v hk _ fun u hu => by
        simp only [hOp, hi, hki, e2, e4, wi, if_true]
        exact ⟨v, hv1, hu⟩
    · simp only [wi] at h ⊢
      exact aux undef h _ fun u hu => by
        simp only [hOp, hi, hki, e2, wi]
        exact hu
  · rename_i s
    obtain ⟨wi, ⟨w0, hw0⟩, hall⟩ := h
    have fin : ∀ v, (∀ w, C s a w → heavyUpon (C (s + 1)) (fun u => a.put oi.dst u) (fun b => ∀ u, b = a.put oi.dst u → K ((a.put oi.dst u).put oj.dst v)) ((execOp a.eval oi).run P w)) →
        (Region.wanted oi (yielded ops a.tmps) = true ∧ (∃ w, C s (a.put oj.dst v) w) ∧ ∀ w, C s (a.put oj.dst v) w → heavyUpon (C (s + 1)) (fun u => (a.put oj.dst v).put oi.dst u) K ((execOp a.eval oi).run P w)) := by
      intro v hh
      refine ⟨wi, ⟨w0, (S.put a v w0 hj hkj).2 hw0⟩, fun w hw => ?_⟩
      have h0 := hh w ((S.put a v w hj hkj).1 hw)
      generalize (execOp a.eval oi).run P w = r at h0 ⊢
      cases r with
      | ok n w' =>
        cases n <;> simp only [heavyUpon] at h0 ⊢
        case value u =>
          obtain ⟨hc, hk⟩ := h0
          rw [← e5]
          exact ⟨(S.put (a.put oi.dst u) v w' hj hkj).2 hc, hk u rfl⟩
        case skip =>
          obtain ⟨hc, hk⟩ := h0
          rw [← e5]
          exact ⟨(S.put (a.put oi.dst undef) v w' hj hkj).2 hc, hk undef rfl⟩
      | halt x w' => simp only [heavyUpon] at h0
    by_cases wj : Region.wanted oj (yielded ops a.tmps) = true
    · rw [if_pos wj]
      have hne : ∃ v0, ∀ w, D w → stillUpon P v0 w ((execOp a.eval oj).run P w) := by
        have h0 := hall w0 hw0
        generalize (execOp a.eval oi).run P w0 = r at h0
        cases r with
        | ok n w' =>
          cases n <;> simp only [heavyUpon] at h0
          case value u =>
            have h1 := h0.2
            simp only [hOp, hj, hkj, e1, e3, wj, if_true] at h1
            obtain ⟨v0, hv0, _⟩ := h1
            exact ⟨v0, hv0⟩
          case skip =>
            have h1 := h0.2
            simp only [hOp, hj, hkj, e1, e3, wj, if_true] at h1
            obtain ⟨v0, hv0, _⟩ := h1
            exact ⟨v0, hv0⟩
        | halt x w' => simp only [heavyUpon] at h0
      obtain ⟨v0, hv0⟩ := hne
      refine ⟨v0, hv0, fin v0 fun w hw => heavyUpon_mono (fun b hb u hbu => ?_) (hall w hw)⟩
      subst hbu
      simp only [hOp, hj, hkj, e1, e3, wj, if_true] at hb
      obtain ⟨v, hv1, hk⟩ := hb
      have hs := stillUpon_same (hv1 w0 (S.wide hw0)) (hv0 w0 (S.wide hw0))
      rw [← hs]; exact hk
    · rw [if_neg wj]
      refine fin undef fun w hw => heavyUpon_mono (fun b hb u hbu => ?_) (hall w hw)
      subst hbu
      simp only [hOp, hj, hkj, e1, wj] at hb
      exact hb
  · simp at hbad
theorem hOp_down (S : HClass ops D C hv) {i : Nat} {a : Act} {K : Act → Prop} {K' : Act → World → Prop} {Q' : Exit → Act → World → Prop} {w : World} {s : Nat} (hC : C s a w) (hno : ops[i]? = none → False) (hs : ∀ q, hv i = some q → q = s) (h : ∀ a w', C (match hv i with | some _ => s + 1 | none => s) a w' → K a → K' a w') (hh : hOp P ops D C hv i K a) : wpOp P ops Q' i K' a w := by
  unfold hOp at hh
  unfold wpOp
  split
  · rename_i ho
    simp only [ho] at hh
    exact (hno ho).elim
  · rename_i o ho
    simp only [ho] at hh
    cases hk : hv i <;> simp only [hk] at hh h
    · split
      · rename_i hw
        simp only [hw, if_true] at hh
        left
        unfold Oper.wp
        obtain ⟨v, h1, h2⟩ := hh
        have h3 := h1 w (S.wide hC)
        have hput : ∀ w', Below w.heap.size w w' → C s (a.put o.dst v) w' := fun w' hb => (S.put a v _ ho hk).2 (S.drew hb hC)
        generalize (execOp a.eval o).run P w = r at *
        cases r with
        | ok n w' =>
          cases n <;> simp only [stillUpon] at h3 <;> simp only [Oper.upon]
          case value u => obtain ⟨hb, rfl⟩ := h3; exact h _ _ (hput _ hb) h2
          case skip => obtain ⟨hb, rfl⟩ := h3; exact h _ _ (hput _ hb) h2
          case enter f args => exact h3.2.mono fun e w'' ⟨he, hb⟩ => by subst he; exact h _ _ (hput _ hb) h2
        | halt x w' => simp only [stillUpon] at h3
      · rename_i hw
        simp only [hw] at hh
        exact h _ _ ((S.put a undef w ho hk).2 hC) hh
    · obtain rfl := hs _ hk
      rw [if_pos hh.1]
      left
      unfold Oper.wp
      have h3 := hh.2.2 w hC
      generalize (execOp a.eval o).run P w = r at *
      cases r with
      | ok n w' =>
        cases n <;> simp only [heavyUpon] at h3 <;> simp only [Oper.upon]
        case value u => exact h _ _ h3.1 h3.2
        case skip => exact h _ _ h3.1 h3.2
      | halt x w' => simp only [heavyUpon] at h3
def badH (hv : Nat → Option Nat) (i j : Nat) : Bool := (hv i).isSome && (hv j).isSome
theorem ways_heavy (S : HClass ops D C hv) : WaysB P ops (fun _ => False) (hOp P ops D C hv) (badH hv) :=
  ⟨fun h hh => hOp_mono h hh, fun hh => hOp_some hh, fun hi hj hb hap hsi hsj => fun h => hOp_comm S hi hj hb hap hsi hsj h, fun hw => hw.elim⟩
/-- The heavy operations have numbers, each waits for those before it, and all lie in the head. -/
def rankB (md : Region.Mode) (ops : Array Oper) (hv : Nat → Option Nat) (n N : Nat) : Bool :=
  (List.range ops.size).all fun i => match hv i with
    | none => true
    | some r => decide (i < n) && (decide (r < N) && ((List.range r).all (fun q => decide (q + 1 < r) || (List.range ops.size).any fun k => hv k == some q && Region.waitsFor md ops i k) && (List.range ops.size).all fun k => decide (k = i) || !(hv k == some r)))
def allB (ops : Array Oper) (hv : Nat → Option Nat) (N : Nat) : Bool := (List.range N).all fun q => (List.range ops.size).any fun k => hv k == some q
structure Staged (ops : Array Oper) (hv : Nat → Option Nat) (N s : Nat) (listed : Array Bool) : Prop where
  le : s ≤ N
  iff : ∀ i r, i < ops.size → hv i = some r → (listed.getD i true = true ↔ r < s)
theorem getD_set_self {listed : Array Bool} {i : Nat} : (listed.setIfInBounds i true).getD i true = true := by
  rcases Nat.lt_or_ge i listed.size with h | h
  · simp [h]
  · simp [Array.getElem?_eq_none h]
theorem rank_parts {md : Region.Mode} {n N i r : Nat} (hR : rankB md ops hv n N = true) (hi : i < ops.size) (hr : hv i = some r) : i < n ∧ r < N ∧ (∀ q, q + 1 = r → ∃ k, k < ops.size ∧ hv k = some q ∧ Region.waitsFor md ops i k = true) ∧ ∀ k, k < ops.size → hv k = some r → k = i := by
  have h := List.all_eq_true.1 hR i (List.mem_range.2 hi)
  simp only [hr, Bool.and_eq_true, decide_eq_true_eq] at h
  obtain ⟨h1, h2, h3, h4⟩ := h
  refine ⟨h1, h2, fun q hq => ?_, fun k hk he => ?_⟩
  · have h5 := List.all_eq_true.1 h3 q (List.mem_range.2 (by omega))
    rw [decide_eq_false (by omega), Bool.false_or] at h5
    obtain ⟨k, hk, h6⟩ := List.any_eq_true.1 h5
    simp only [Bool.and_eq_true, beq_iff_eq] at h6
    exact ⟨k, List.mem_range.1 hk, h6.1, h6.2⟩
  · have h5 := List.all_eq_true.1 h4 k (List.mem_range.2 hk)
    simp only [Bool.or_eq_true, decide_eq_true_eq, Bool.not_eq_true', beq_eq_false_iff_ne] at h5
    rcases h5 with h5 | h5
    · exact h5
    · exact absurd he h5
theorem Staged.now {md : Region.Mode} {n N s i r : Nat} {listed : Array Bool} (st : Staged ops hv N s listed) (hR : rankB md ops hv n N = true) (hi : i ∈ Region.ready md ops listed) (hr : hv i = some r) : r = s := by
  obtain ⟨hun, o, ho, hall⟩ := mem_ready.1 hi
  have hlt : i < ops.size := (Array.getElem?_eq_some_iff.1 ho).1
  obtain ⟨_, _, h3, _⟩ := rank_parts hR hlt hr
  have h4 := st.iff i r hlt hr
  rw [hun] at h4
  have hge : ¬ r < s := fun h => by have := h4.2 h; cases this
  rcases Nat.lt_or_ge s r with h | h
  · obtain ⟨k, hk, hks, hw⟩ := h3 (r - 1) (by omega)
    have h5 := st.iff k (r - 1) hk hks
    obtain ⟨oj, hoj, e, he, hb, hon⟩ := Region.waitsFor_spec hw
    have : o = oj := Option.some.inj (ho.symm.trans hoj)
    subst this
    have h7 := hall e he hb
    rw [hon] at h7
    cases h6 : listed.getD k true with
    | false => rw [getD_both h6] at h7; cases h7
    | true => have := h5.1 h6; omega
  · omega
theorem chain_listed {md : Region.Mode} {n N : Nat} {listed : Array Bool} (hR : rankB md ops hv n N = true) (inv : HeadInv md ops n listed) : ∀ (r i : Nat), i < ops.size → hv i = some r → listed.getD i false = true → ∀ q k, q ≤ r → k < ops.size → hv k = some q → listed.getD k false = true
  | 0, i, hi, hr, hl, q, k, hq, hk, hkq => by
    obtain rfl : q = 0 := by omega
    rw [(rank_parts hR hi hr).2.2.2 k hk hkq]; exact hl
  | r + 1, i, hi, hr, hl, q, k, hq, hk, hkq => by
    obtain ⟨_, _, h3, h4⟩ := rank_parts hR hi hr
    by_cases hqr : q = r + 1
    · subst hqr
      rw [h4 k hk hkq]; exact hl
    · obtain ⟨k', hk', hks, hw⟩ := h3 r rfl
      obtain ⟨oj, hoj, e, he, hb, hon⟩ := Region.waitsFor_spec hw
      have h7 := inv.closed i oj hoj hl e he hb
      rw [hon] at h7
      exact chain_listed hR inv r k' hk' hks h7 q k (by omega) hk hkq
theorem ready_below {md : Region.Mode} {n N : Nat} {listed : Array Bool} (hR : rankB md ops hv n N = true) (inv : HeadInv md ops n listed) {i j ri rj : Nat} (hi : i ∈ Region.ready md ops listed) (hj : j ∈ Region.ready md ops listed) (hri : hv i = some ri) (hrj : hv j = some rj) : ¬ ri < rj := by
  intro hlt
  obtain ⟨hun, oi, hoi, _⟩ := mem_ready.1 hi
  obtain ⟨_, o, ho, hall⟩ := mem_ready.1 hj
  have hil := (Array.getElem?_eq_some_iff.1 hoi).1
  have hjl := (Array.getElem?_eq_some_iff.1 ho).1
  obtain ⟨k, hk, hks, hw⟩ := (rank_parts hR hjl hrj).2.2.1 (rj - 1) (by omega)
  obtain ⟨oj, hoj, e, he, hb, hon⟩ := Region.waitsFor_spec hw
  have : o = oj := Option.some.inj (ho.symm.trans hoj)
  subst this
  have h7 := hall e he hb
  rw [hon] at h7
  have h8 := chain_listed hR inv (rj - 1) k hk hks h7 ri i (by omega) hil hri
  rw [getD_both hun] at h8
  cases h8
theorem heavy_alone {md : Region.Mode} {n N : Nat} (hR : rankB md ops hv n N = true) : ∀ listed, HeadInv md ops n listed → ∀ i j, i ∈ Region.ready md ops listed → j ∈ Region.ready md ops listed → i ≠ j → badH hv i j = false := by
  intro listed inv i j hi hj hne
  unfold badH
  cases hri : hv i with
  | none => rfl
  | some ri =>
    cases hrj : hv j with
    | none => rfl
    | some rj =>
      exfalso
      have h1 := ready_below hR inv hi hj hri hrj
      have h2 := ready_below hR inv hj hi hrj hri
      obtain rfl : ri = rj := by omega
      have hil : i < ops.size := by obtain ⟨_, o, ho, _⟩ := mem_ready.1 hi; exact (Array.getElem?_eq_some_iff.1 ho).1
      have hjl : j < ops.size := by obtain ⟨_, o, ho, _⟩ := mem_ready.1 hj; exact (Array.getElem?_eq_some_iff.1 ho).1
      exact hne ((rank_parts hR hjl hrj).2.2.2 i hil hri)
theorem Staged.set {md : Region.Mode} {n N s i : Nat} {listed : Array Bool} (st : Staged ops hv N s listed) (hR : rankB md ops hv n N = true) (hi : i ∈ Region.ready md ops listed) :
    Staged ops hv N (match hv i with | some _ => s + 1 | none => s) (listed.setIfInBounds i true) := by
  have hlt : i < ops.size := by obtain ⟨_, o, ho, _⟩ := mem_ready.1 hi; exact (Array.getElem?_eq_some_iff.1 ho).1
  cases hr : hv i with
  | none =>
    refine ⟨st.le, fun k r hk hkr => ?_⟩
    have hne : i ≠ k := fun e => by subst e; rw [hr] at hkr; cases hkr
    rw [getD_set_ne true hne]
    exact st.iff k r hk hkr
  | some q =>
    obtain rfl := st.now hR hi hr
    obtain ⟨_, h2, _, h4⟩ := rank_parts hR hlt hr
    refine ⟨h2, fun k r hk hkr => ?_⟩
    by_cases hne : i = k
    · subst hne
      have : r = q := Option.some.inj (hkr.symm.trans hr)
      subst this
      rw [getD_set_self]
      simp
    · rw [getD_set_ne true hne, st.iff k r hk hkr]
      have : r ≠ q := fun e => hne (h4 k hk (by rw [← e]; exact hkr)).symm
      show r < q ↔ r < q + 1
      omega
theorem wpAny_of_headH (S : HClass ops D C hv) {md : Region.Mode} {n N g : Nat} (hR : rankB md ops hv n N = true) {L : Array Bool → Act → Prop} {Q' : Exit → Act → World → Prop}
    (hL : ∀ listed a w s, C s a w → Staged ops hv N s listed → HeadInv md ops n listed → L listed a → wpAny P md ops Q' g listed a w) :
    ∀ (f : Nat) (listed : Array Bool) (a : Act) (w : World) (s : Nat), C s a w → Staged ops hv N s listed → HeadInv md ops n listed → wpAnyT md ops (hOp P ops D C hv) n L f listed a → wpAny P md ops Q' (f + g) listed a w
  | 0, listed, a, w, s, hw, st, inv, h => by rw [Nat.zero_add]; exact hL _ _ _ _ hw st inv h
  | f + 1, listed, a, w, s, hw, st, inv, h => by
    rw [show f + 1 + g = (f + g) + 1 by omega]
    exact ⟨fun h0 => absurd h0 h.1, fun i hi => hOp_down S hw (fun hno => by obtain ⟨_, o, ho, _⟩ := mem_ready.1 hi; rw [hno] at ho; cases ho) (fun q hq => st.now hR hi hq)
      (fun a' w' hw' h' => wpAny_of_headH S hR hL f _ a' w' _ hw' (st.set hR hi) (inv.set hi (h.2 i hi).1) h') (h.2 i hi).2⟩
end
section
variable {P : Program} {D : World → Prop} {C : Nat → Act → World → Prop} {hv : Nat → Option Nat}
theorem wp_region_heavyT {id : Nat} {Q : Exit → Act → World → Prop} {a : Act} {w : World} {l : List Oper} (n N : Nat) (S : HClass l.toArray D C hv) (hC : C 0 a (w.drewN 1)) (hm : P.follows .mixedOrders = true) (hB : Region.lexTailB .any l.toArray n = true)
    (hR : rankB .any l.toArray hv n N = true) (hA : allB l.toArray hv N = true) (h : wpLex (hOp P l.toArray D C hv) (fun a' => ∀ w', C N a' w' → wpList P l.toArray Q (l.drop n) a' w') n 0 a) : (Code.region id l.toArray true).wp P Q a w := by
  simp only [Region.lexTailB, Bool.and_eq_true, decide_eq_true_eq] at hB
  obtain ⟨⟨⟨⟨hsel, hn⟩, hs⟩, hc⟩, hlex⟩ := hB
  have hn' : n < l.length := by simpa using hn
  have hdl : (l.drop n).length = l.toArray.size - n := by simp
  have inv0 : HeadInv .any l.toArray n (Array.replicate l.toArray.size false) :=
    ⟨by simp, fun j oj _ hl => (by rw [getD_replicate_false] at hl; cases hl), fun t _ ht => getD_in (by simpa using ht) (getD_replicate_false _ _)⟩
  have H := wpAnyH_lex (ways_heavy S) (md := .any) (heavy_alone hR) (g := l.toArray.size - n) hsel hs hc hn n 0 _ a (by omega) inv0 hlex h
  refine wp_region_any hm ?_
  have := wpAny_of_headH S (md := .any) (Q' := Q) (g := l.toArray.size - n) hR (fun listed a' w' s hw' st inv hL => by
    have hsN : s = N := by
      rcases Nat.lt_or_ge s N with hlt | hge
      · obtain ⟨k, hk, h6⟩ := List.any_eq_true.1 (List.all_eq_true.1 hA s (List.mem_range.2 hlt))
        have hk' := List.mem_range.1 hk
        have hks : hv k = some s := by simpa using h6
        have h7 := st.iff k s hk' hks
        have hun : listed.getD k true = false := by
          cases h8 : listed.getD k true with
          | false => rfl
          | true => have := h7.1 h8; omega
        have h9 := tail_waits hs hc hn inv _ k rfl (rank_parts hR hk' hks).1 hun n (Nat.le_refl _)
        have h10 := hL.1
        obtain ⟨g', hg'⟩ : ∃ g', l.toArray.size - n = g' + 1 := ⟨l.toArray.size - n - 1, by omega⟩
        rw [hg'] at h10
        simp only [Region.seqB, Bool.and_eq_true, decide_eq_true_eq] at h10
        exact (h9 (by rw [h10.1]; simp)).elim
      · have := st.le; omega
    subst hsN
    have := wpAny_of_seq (md := .any) (Q' := Q) (l.drop n) n listed a' w' (fun j => by simp [List.getElem?_drop]) (by rw [hdl]; exact hL.1) (hL.2 w' hw')
    rwa [hdl] at this) _ _ _ (w.drewN 1) 0 hC ⟨Nat.zero_le _, fun i r hi hr => by rw [getD_in (by simpa using hi) (getD_replicate_false _ _)]; simp⟩ inv0 H
  rw [show n + (l.toArray.size - n) = l.toArray.size by omega] at this
  exact this
/-! ### The walk, a step each -/
variable {ops : Array Oper}
def wpHeavy (P : Program) (ops : Array Oper) (D : World → Prop) (C : Nat → Act → World → Prop) (hv : Nat → Option Nat) (Q : Act → Prop) : List Oper → Nat → Act → Prop
  | [], _, a => Q a
  | o :: rest, k, a => match hv k with
    | some s => Region.wanted o (yielded ops a.tmps) = true ∧ (∃ w, C s a w) ∧ ∀ w, C s a w → heavyUpon (C (s + 1)) (fun u => a.put o.dst u) (wpHeavy P ops D C hv Q rest (k + 1)) ((execOp a.eval o).run P w)
    | none => if Region.wanted o (yielded ops a.tmps) then ∃ v, (∀ w, D w → stillUpon P v w ((execOp a.eval o).run P w)) ∧ wpHeavy P ops D C hv Q rest (k + 1) (a.put o.dst v) else wpHeavy P ops D C hv Q rest (k + 1) (a.put o.dst undef)
theorem lex_of_heavy {Q : Act → Prop} : ∀ (l : List Oper) (k : Nat) (a : Act), (∀ j, j < l.length → l[j]? = ops[k + j]?) → wpHeavy P ops D C hv Q l k a → wpLex (hOp P ops D C hv) Q l.length k a
  | [], _, _, _, h => h
  | o :: l, k, a, hl, h => by
    have h0 : ops[k]? = some o := by simpa using (hl 0 (by simp)).symm
    have hst : hOp P ops D C hv k (wpHeavy P ops D C hv Q l (k + 1)) a := by unfold hOp; simp only [h0]; exact h
    exact hOp_mono (fun a' ha => lex_of_heavy l (k + 1) a' (fun j hj => by have := hl (j + 1) (by simp; omega); simpa [Nat.add_assoc, Nat.add_comm 1 j] using this) ha) hst
theorem wp_region_heavy {id : Nat} {Q : Exit → Act → World → Prop} {a : Act} {w : World} {l : List Oper} (D : World → Prop) (C : Nat → Act → World → Prop) (hv : Nat → Option Nat) (n N : Nat) (S : HClass l.toArray D C hv) (hC : C 0 a (w.drewN 1)) (hm : P.follows .mixedOrders = true) (hB : Region.lexTailB .any l.toArray n = true)
    (hR : rankB .any l.toArray hv n N = true) (hA : allB l.toArray hv N = true) (h : wpHeavy P l.toArray D C hv (fun a' => ∀ w', C N a' w' → wpList P l.toArray Q (l.drop n) a' w') (l.take n) 0 a) : (Code.region id l.toArray true).wp P Q a w := by
  have hn : n < l.length := by
    simp only [Region.lexTailB, Bool.and_eq_true, decide_eq_true_eq] at hB
    simpa using hB.1.1.1.2
  have htl : (l.take n).length = n := by simp; omega
  have H := lex_of_heavy (P := P) (ops := l.toArray) (D := D) (C := C) (hv := hv) (l.take n) 0 a (fun j hj => by
    have hj' : j < n := by rw [htl] at hj; exact hj
    simp [hj']) h
  rw [htl] at H
  exact wp_region_heavyT n N S hC hm hB hR hA H
theorem wpHeavy_nil {Q : Act → Prop} {a : Act} {k : Nat} (h : Q a) : wpHeavy P ops D C hv Q [] k a := h
/-- An operation of one value, that changes nothing. -/
theorem wpHeavy_run {Q : Act → Prop} {a : Act} {k : Nat} {o : Oper} {rest : List Oper} (v : Value) (hw : Region.wanted o (yielded ops a.tmps) = true) (hk : hv k = none) (hr : ∀ w, D w → (execOp a.eval o).run P w = .ok (.value v) w)
    (h : wpHeavy P ops D C hv Q rest (k + 1) (a.put o.dst v)) : wpHeavy P ops D C hv Q (o :: rest) k a := by
  unfold wpHeavy
  rw [hk]
  simp only [hw, if_true]
  exact ⟨v, fun w hD => by rw [hr w hD]; exact ⟨Below.refl _ _, rfl⟩, h⟩
/-- An operation that reads no memory. -/
theorem wpHeavy_plain {Q : Act → Prop} {a : Act} {k : Nat} {o : Oper} {rest : List Oper} (hw : Region.wanted o (yielded ops a.tmps) = true) (hk : hv k = none) (ho : plainOp o = true)
    (h : ∀ K : Act → Prop, (∀ a, wpHeavy P ops D C hv Q rest (k + 1) a → K a) → o.quiet P a D K) : wpHeavy P ops D C hv Q (o :: rest) k a := by
  unfold wpHeavy
  rw [hk]
  simp only [hw, if_true]
  obtain ⟨v, h1, h2⟩ := plain_of_quiet ho (h _ fun _ h => h)
  refine ⟨v, fun w hC => ?_, h2⟩
  have h3 := h1 w hC
  generalize (execOp a.eval o).run P w = r at *
  cases r with
  | ok n w' =>
    cases n <;> simp only [plainUpon] at h3 <;> simp only [stillUpon]
    case value u => exact ⟨by rw [h3.1]; exact Below.refl _ _, h3.2⟩
    case skip => exact ⟨by rw [h3.1]; exact Below.refl _ _, h3.2⟩
  | halt x w' => simp only [plainUpon] at h3
/-- Slots that still operations do not write. -/
def stillB (ops : Array Oper) (hv : Nat → Option Nat) (slots : List Nat) : Bool :=
  (List.range ops.size).all fun i => (hv i).isSome || (match ops[i]? with
    | none => true
    | some o => slots.all fun d => !(o.dst == some d))
theorem put_getD (a : Act) (x : Option Tmp) (v : Value) {d : Nat} (h : x ≠ some d) : (a.put x v).tmps.getD d undef = a.tmps.getD d undef := by
  cases x with
  | none => rfl
  | some e =>
    have hne : e ≠ d := fun he => h (by rw [he])
    show (a.tmps.setIfInBounds e v).getD d undef = a.tmps.getD d undef
    simp [Array.getElem?_setIfInBounds_ne hne]
/-- A class told by the values of some slots. -/
theorem HClass.of {slots : List Nat} {F : Nat → List Value → World → Prop} (hs : stillB ops hv slots = true) (hw : ∀ s l w, F s l w → D w) (hd : ∀ s l w w', Below w.heap.size w w' → F s l w → F s l w') :
    HClass ops D (fun s a w => F s (slots.map fun d => a.tmps.getD d undef) w) hv := by
  refine ⟨fun h => hw _ _ _ h, fun {s i o} a v w ho hi => ?_, fun hb h => hd _ _ _ _ hb h⟩
  have hlt : i < ops.size := (Array.getElem?_eq_some_iff.1 ho).1
  have h1 := List.all_eq_true.1 hs i (List.mem_range.2 hlt)
  simp only [hi, ho, Option.isSome_none, Bool.false_or, List.all_eq_true] at h1
  have e : (slots.map fun d => (a.put o.dst v).tmps.getD d undef) = slots.map fun d => a.tmps.getD d undef := by
    refine List.map_congr_left fun d hd => put_getD a o.dst v ?_
    have h2 := h1 d hd
    simpa using h2
  simp only [e]
/-- A call of one value, that draws only. -/
theorem wpHeavy_call {Q : Act → Prop} {a : Act} {k : Nat} {o : Oper} {rest : List Oper} {f : FuncId} {args : Array Value} (v : Value) (hw : Region.wanted o (yielded ops a.tmps) = true) (hk : hv k = none) (hr : ∀ w, (execOp a.eval o).run P w = .ok (.enter f args) w) (hi : P.inits.idxOf? f = none)
    (hc : ∀ w, D w → Calls P f args w (fun e w'' => e = .returned v ∧ Below w.heap.size w w'')) (h : wpHeavy P ops D C hv Q rest (k + 1) (a.put o.dst v)) : wpHeavy P ops D C hv Q (o :: rest) k a := by
  unfold wpHeavy
  rw [hk]
  simp only [hw, if_true]
  exact ⟨v, fun w hD => by rw [hr w]; exact ⟨hi, hc w hD⟩, h⟩
/-- A heavy one: its step as a list's of one. -/
theorem wpHeavy_step {Q : Act → Prop} {a : Act} {k : Nat} {o : Oper} {rest : List Oper} (hw : Region.wanted o (yielded ops a.tmps) = true) {s : Nat} (hk : hv k = some s) (hne : ∃ w, C s a w)
    (h : ∀ w, C s a w → heavyUpon (C (s + 1)) (fun u => a.put o.dst u) (wpHeavy P ops D C hv Q rest (k + 1)) ((execOp a.eval o).run P w)) : wpHeavy P ops D C hv Q (o :: rest) k a := by
  unfold wpHeavy
  rw [hk]
  exact ⟨hw, hne, h⟩
/-- A float's arithmetic. -/
theorem wpHeavy_farith {Q : Act → Prop} {a : Act} {k : Nat} {o : Oper} {rest : List Oper} (hw : Region.wanted o (yielded ops a.tmps) = true) {s : Nat} (hk : hv k = some s) (hne : ∃ w, C s a w)
    (op : BinOp) (t u : TypeId) (x y : Operand) (ho : o.op = .binOp op t x y u) (ha : arith op = true) (kd : FloatKind) (vx vy : Nat) (hx : a.eval x = .float kd vx) (hy : a.eval y = .float kd vy)
    {X Y : Option Nat} (fx : FV kd vx X) (fy : FV kd vy Y)
    (h : ∀ r, FV kd r (fop op kd X Y) → (∀ w m, C s a w → C (s + 1) (a.put o.dst (.float kd r)) (w.drewN m)) ∧ wpHeavy P ops D C hv Q rest (k + 1) (a.put o.dst (.float kd r))) : wpHeavy P ops D C hv Q (o :: rest) k a := by
  refine wpHeavy_step hw hk hne fun w hC => ?_
  obtain ⟨r, m, hr, hv1⟩ := run_farith (P := P) w op t kd vx vy ha
  rw [fx.1, fy.1] at hv1
  have hg : ∀ W, (eqGuard op t x y (.float kd vx) (.float kd vy)).run P W = .ok () W := by
    intro W
    cases op <;> first | (cases ha; done) | rfl
  unfold execOp
  simp only [ho, hx, hy, Sem.run_bind, hg, Result.andThen_ok, hr, Sem.run_pure]
  exact ⟨(h r hv1).1 w m hC, (h r hv1).2⟩
end
end Go.Proofs.Ytcibjkadlndejaa.HB
