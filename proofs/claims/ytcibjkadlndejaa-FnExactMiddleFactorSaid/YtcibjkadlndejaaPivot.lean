/- Helper: regions that draw their order, end in stores, and hold one operation whose value hangs on the world, or many that do but call nothing. Conditions: none. -/
import Derived.Test.YtcibjkadlndejaaLoose
import Derived.StillTail
import Derived.Deep.QuietTactic
import Derived.BigQuiet
set_option linter.unusedVariables false
set_option linter.unusedSimpArgs false
namespace Go.Proofs.Ytcibjkadlndejaa

section
variable {P : Program} {ops : Array Oper} {md : Region.Mode} {C : World → Prop} {op : Nat → (Act → Prop) → Act → Prop}

/-- What a way of taking operations must keep, so that the order of the text serves every order. -/
structure Ways (P : Program) (ops : Array Oper) (C : World → Prop) (op : Nat → (Act → Prop) → Act → Prop) : Prop where
  mono : ∀ {i : Nat} {a : Act} {K K' : Act → Prop}, (∀ a, K a → K' a) → op i K a → op i K' a
  inhab : ∀ {i : Nat} {a : Act} {K : Act → Prop}, op i K a → ∃ a, K a
  comm : ∀ {i j : Nat} {oi oj : Oper}, ops[i]? = some oi → ops[j]? = some oj → i ≠ j → oi.apart ops oj = true → (∀ cs b, oi.op ≠ .select cs b) → (∀ cs b, oj.op ≠ .select cs b) →
    ∀ {K : Act → Prop} {a : Act}, op i (op j K) a → op j (op i K) a
  down : ∀ {i : Nat} {a : Act} {K : Act → Prop} {K' : Act → World → Prop} {Q' : Exit → Act → World → Prop} {w : World}, C w → (∀ a w', C w' → K a → K' a w') → op i K a → wpOp P ops Q' i K' a w

/-- Whatever order is picked from here on, as far as operation n. -/
def wpAnyT (md : Region.Mode) (ops : Array Oper) (op : Nat → (Act → Prop) → Act → Prop) (n : Nat) (L : Array Bool → Act → Prop) : Nat → Array Bool → Act → Prop
  | 0, listed, a => L listed a
  | f + 1, listed, a => Region.ready md ops listed ≠ [] ∧ ∀ i ∈ Region.ready md ops listed, i < n ∧ op i (wpAnyT md ops op n L f (listed.setIfInBounds i true)) a

theorem wpAny_of_headT (S : Ways P ops C op) {n g : Nat} {L : Array Bool → Act → Prop} {Q' : Exit → Act → World → Prop} (hL : ∀ listed a w, C w → L listed a → wpAny P md ops Q' g listed a w) :
    ∀ (f : Nat) (listed : Array Bool) (a : Act) (w : World), C w → wpAnyT md ops op n L f listed a → wpAny P md ops Q' (f + g) listed a w
  | 0, listed, a, w, hw, h => by rw [Nat.zero_add]; exact hL _ _ _ hw h
  | f + 1, listed, a, w, hw, h => by
    rw [show f + 1 + g = (f + g) + 1 by omega]
    exact ⟨fun h0 => absurd h0 h.1, fun i hi => S.down hw (fun a' w' hw' h' => wpAny_of_headT S hL f _ a' w' hw' h') (h.2 i hi).2⟩

theorem wpAnyT_first (S : Ways P ops C op) {n i : Nat} {oi : Oper} {L : Array Bool → Act → Prop} (hi : ops[i]? = some oi) (hsel : ∀ (j : Nat) (o : Oper) cs b, ops[j]? = some o → o.op ≠ .select cs b)
    (hs : Region.sinkB md ops n = true) (hc : Region.chainB md ops n = true) (hn : n < ops.size) (hin : i < n)
    (hdone : ∀ listed a, L listed a → ∀ j ∈ Region.ready md ops listed, n ≤ j) :
    ∀ (f : Nat) (listed : Array Bool) (a : Act), HeadInv md ops n listed →
      (∀ j oj, ops[j]? = some oj → j ≠ i → listed.getD j true = false → (∀ e ∈ oj.after, Region.binds md e = true → e.on ≠ i) → oi.apart ops oj = true) →
      i ∈ Region.ready md ops listed → op i (wpAnyT md ops op n L f (listed.setIfInBounds i true)) a → wpAnyT md ops op n L (f + 1) listed a := by
  intro f
  induction f with
  | zero =>
    intro listed a inv _ hr H
    have hun := (mem_ready.1 hr).1
    refine ⟨fun h => (by rw [h] at hr; cases hr), fun j hj => ?_⟩
    have hjn : j < n := by
      rcases Nat.lt_or_ge j n with h | h
      · exact h
      · exact absurd hj (tail_waits hs hc hn inv _ i rfl hin hun j h)
    refine ⟨hjn, ?_⟩
    by_cases hji : j = i
    · subst hji; exact H
    · obtain ⟨a', ha⟩ := S.inhab H
      have := hdone _ _ ha j (ready_mono hj hji)
      omega
  | succ f ih =>
    intro listed a inv hfree hr H
    have hun := (mem_ready.1 hr).1
    refine ⟨fun h => (by rw [h] at hr; cases hr), fun j hj => ?_⟩
    have hjn : j < n := by
      rcases Nat.lt_or_ge j n with h | h
      · exact h
      · exact absurd hj (tail_waits hs hc hn inv _ i rfl hin hun j h)
    refine ⟨hjn, ?_⟩
    by_cases hji : j = i
    · subst hji; exact H
    · obtain ⟨hjun, oj, hoj, hall⟩ := mem_ready.1 hj
      have hnot : ∀ e ∈ oj.after, Region.binds md e = true → e.on ≠ i := fun e he hb heq => by
        have h1 := hall e he hb
        rw [heq, getD_both hun] at h1
        cases h1
      have h1 : op i (op j (wpAnyT md ops op n L f ((listed.setIfInBounds i true).setIfInBounds j true))) a := S.mono (fun a' h => (h.2 j (ready_mono hj hji)).2) H
      have h2 := S.comm hi hoj (fun e => hji e.symm) (hfree j oj hoj hji hjun hnot) (fun cs b => hsel i oi cs b hi) (fun cs b => hsel j oj cs b hoj) h1
      have hfree' : ∀ k ok, ops[k]? = some ok → k ≠ i → (listed.setIfInBounds j true).getD k true = false →
          (∀ e ∈ ok.after, Region.binds md e = true → e.on ≠ i) → oi.apart ops ok = true := fun k ok hk hki hun hno => by
        refine hfree k ok hk hki ?_ hno
        by_cases hjk : j = k
        · subst hjk; exact hjun
        · rw [getD_set_ne true hjk] at hun; exact hun
      rw [Array.setIfInBounds_comm _ _ (Ne.symm hji)] at h2
      exact S.mono (fun a' h3 => ih (listed.setIfInBounds j true) a' (inv.set hj hjn) hfree' (ready_mono hr (Ne.symm hji)) h3) h2

/-- The walk in the order of the text. -/
def wpLex (op : Nat → (Act → Prop) → Act → Prop) (Q : Act → Prop) : Nat → Nat → Act → Prop
  | 0, _, a => Q a
  | l + 1, k, a => op k (wpLex op Q l (k + 1)) a

theorem wpAnyT_lex (S : Ways P ops C op) {n g : Nat} {Lq : Act → Prop} (hsel : Region.noSelect ops = true) (hs : Region.sinkB md ops n = true) (hc : Region.chainB md ops n = true) (hn : n < ops.size) :
    ∀ (l k : Nat) (listed : Array Bool) (a : Act), k + l = n → HeadInv md ops n listed → Region.lexHead md ops g l k listed = true → wpLex op Lq l k a →
    wpAnyT md ops op n (fun listed' a' => Region.seqB md ops g n listed' = true ∧ Lq a') l listed a
  | 0, k, listed, a, hk, _, hB, h => by
    have : k = n := by simpa using hk
    subst this
    exact ⟨by simpa [Region.lexHead] using hB, h⟩
  | l + 1, k, listed, a, hk, inv, hB, h => by
    have hkn : k < n := by omega
    have h0 : ops[k]? = some (ops[k]'(by omega)) := Array.getElem?_eq_getElem (by omega)
    simp only [Region.lexHead, Bool.and_eq_true] at hB
    obtain ⟨⟨hr, hf⟩, hB'⟩ := hB
    have hr' : k ∈ Region.ready md ops listed := by simpa using hr
    exact wpAnyT_first S h0 (Region.noSelect_spec hsel) hs hc hn hkn (fun listed' a' hL => seqB_ready hL.1) l listed a inv (Region.free_spec h0 hf) hr'
      (S.mono (fun a' ha => wpAnyT_lex S hsel hs hc hn l (k + 1) _ a' (by omega) (inv.set hr' hkn) hB' ha) h)

theorem wp_region_tail {id : Nat} {Q : Exit → Act → World → Prop} {a : Act} {w : World} {l : List Oper} (n : Nat) (S : Ways P l.toArray (fun w' => ∃ m, w' = w.drewN m) op) (hm : P.follows .mixedOrders = true) (hB : Region.lexTailB .any l.toArray n = true)
    (h : wpLex op (fun a' => ∀ w', (∃ m, w' = w.drewN m) → wpList P l.toArray Q (l.drop n) a' w') n 0 a) : (Code.region id l.toArray true).wp P Q a w := by
  simp only [Region.lexTailB, Bool.and_eq_true, decide_eq_true_eq] at hB
  obtain ⟨⟨⟨⟨hsel, hn⟩, hs⟩, hc⟩, hlex⟩ := hB
  have hn' : n < l.length := by simpa using hn
  have hdl : (l.drop n).length = l.toArray.size - n := by simp
  have inv0 : HeadInv .any l.toArray n (Array.replicate l.toArray.size false) :=
    ⟨by simp, fun j oj _ hl => (by rw [getD_replicate_false] at hl; cases hl), fun t _ ht => getD_in (by simpa using ht) (getD_replicate_false _ _)⟩
  have H := wpAnyT_lex S (md := .any) (g := l.toArray.size - n) hsel hs hc hn n 0 _ a (by omega) inv0 hlex h
  refine wp_region_any hm ?_
  have := wpAny_of_headT S (md := .any) (Q' := Q) (g := l.toArray.size - n) (fun listed a' w' hw' hL => by
    have := wpAny_of_seq (md := .any) (Q' := Q) (l.drop n) n listed a' w' (fun j => by simp [List.getElem?_drop]) (by rw [hdl]; exact hL.1) (hL.2 w' hw')
    rwa [hdl] at this) _ _ _ (w.drewN 1) ⟨1, rfl⟩ H
  rw [show n + (l.toArray.size - n) = l.toArray.size by omega] at this
  exact this
end

/-! ### Many values that hang on the world, no call among them that does -/
section
variable {P : Program} {ops : Array Oper} {C : World → Prop}
theorem ways_loose (hC : ∃ w, C w) : Ways P ops C (lOp P ops C) :=
  ⟨fun h hh => lOp_mono h hh, fun hh => lOp_some hC hh, fun hi hj _ hap hsi hsj => fun h => lOp_comm hi hj hap hsi hsj hC h, fun hw h hh => wpOp_of_lOp hw h hh⟩
theorem lex_of_loose {Q : Act → Prop} : ∀ (l : List Oper) (k : Nat) (a : Act), (∀ j, j < l.length → l[j]? = ops[k + j]?) → wpLoose P ops C Q l a → wpLex (lOp P ops C) Q l.length k a
  | [], _, _, _, h => h
  | o :: l, k, a, hl, h => by
    have h0 : ops[k]? = some o := by simpa using (hl 0 (by simp)).symm
    have hst : lOp P ops C k (wpLoose P ops C Q l) a := by unfold lOp; simp only [h0]; exact h
    exact lOp_mono (fun a' ha => lex_of_loose l (k + 1) a' (fun j hj => by have := hl (j + 1) (by simp; omega); simpa [Nat.add_assoc, Nat.add_comm 1 j] using this) ha) hst
theorem wp_region_loose_tail {id : Nat} {Q : Exit → Act → World → Prop} {a : Act} {w : World} {l : List Oper} (n : Nat) (hm : P.follows .mixedOrders = true) (hB : Region.lexTailB .any l.toArray n = true)
    (h : wpLoose P l.toArray (fun w' => ∃ m, w' = w.drewN m) (fun a' => ∀ w', (∃ m, w' = w.drewN m) → wpList P l.toArray Q (l.drop n) a' w') (l.take n) a) : (Code.region id l.toArray true).wp P Q a w := by
  have hn : n < l.length := by
    simp only [Region.lexTailB, Bool.and_eq_true, decide_eq_true_eq] at hB
    simpa using hB.1.1.1.2
  have htl : (l.take n).length = n := by simp; omega
  have H := lex_of_loose (P := P) (ops := l.toArray) (C := fun w' => ∃ m, w' = w.drewN m) (l.take n) 0 a (fun j hj => by
    have hj' : j < n := by rw [htl] at hj; exact hj
    simp [hj']) h
  rw [htl] at H
  exact wp_region_tail n (ways_loose ⟨w, 0, rfl⟩) hm hB H
end

/-! ### One operation whose value hangs on the world -/
section
variable {P : Program} {ops : Array Oper} {C : World → Prop} {p : Nat}
def noisyUpon (P : Program) (C : World → Prop) (K : Value → Prop) : Result Next → Prop
  | .ok (.value u) w' => C w' ∧ K u
  | .ok .skip w' => C w' ∧ K undef
  | .ok (.enter f args) w' => Calls P f args w' (fun e w'' => ∃ u, e = .returned u ∧ C w'' ∧ K u)
  | _ => False
def noisy (P : Program) (C : World → Prop) (s : Sem Next) (K : Value → Prop) : Prop := ∀ w, C w → noisyUpon P C K (s.run P w)
theorem noisyUpon_mono {K K' : Value → Prop} (h : ∀ v, K v → K' v) {r : Result Next} (hh : noisyUpon P C K r) : noisyUpon P C K' r := by
  cases r with
  | ok n w' =>
    cases n <;> simp only [noisyUpon] at hh ⊢
    case value u => exact ⟨hh.1, h _ hh.2⟩
    case skip => exact ⟨hh.1, h _ hh.2⟩
    case enter f args => exact hh.mono fun e w'' ⟨u, he, hc, hk⟩ => ⟨u, he, hc, h _ hk⟩
  | halt x w' => simp only [noisyUpon] at hh
theorem noisy_mono {K K' : Value → Prop} (h : ∀ v, K v → K' v) {s : Sem Next} (hh : noisy P C s K) : noisy P C s K' := fun w hw => noisyUpon_mono h (hh w hw)
theorem noisy_some {s : Sem Next} {K : Value → Prop} (hC : ∃ w, C w) (h : noisy P C s K) : ∃ v, K v := by
  obtain ⟨w, hw⟩ := hC
  have h0 := h w hw
  generalize s.run P w = r at *
  cases r with
  | ok n w' =>
    cases n <;> simp only [noisyUpon] at h0
    case value u => exact ⟨_, h0.2⟩
    case skip => exact ⟨_, h0.2⟩
    case enter f args =>
      obtain ⟨e, w', fr, ⟨u, _, _, hk⟩, _⟩ := h0 []
      exact ⟨u, hk⟩
  | halt x w' => simp only [noisyUpon] at h0

/-- One value, in every world of the class, and no call of a function. -/
def plainUpon (w : World) (v : Value) : Result Next → Prop
  | .ok (.value u) w' => w' = w ∧ u = v
  | .ok .skip w' => w' = w ∧ v = undef
  | _ => False
def plain (P : Program) (o : Oper) (a : Act) (C : World → Prop) (K : Act → Prop) : Prop := ∃ v, (∀ w, C w → plainUpon w v ((execOp a.eval o).run P w)) ∧ K (a.put o.dst v)
theorem plainUpon_same {w : World} {u v : Value} {r : Result Next} (h1 : plainUpon w u r) (h2 : plainUpon w v r) : u = v := by
  cases r with
  | ok n w' =>
    cases n <;> simp only [plainUpon] at h1 h2
    case value x => exact h1.2.symm.trans h2.2
    case skip => exact h1.2.trans h2.2.symm
  | halt x w' => simp only [plainUpon] at h1
theorem plain_mono {o : Oper} {a : Act} {K K' : Act → Prop} (h : ∀ a, K a → K' a) (hh : plain P o a C K) : plain P o a C K' := by
  obtain ⟨v, h1, h2⟩ := hh
  exact ⟨v, h1, h _ h2⟩
theorem plain_of_quiet {o : Oper} {a : Act} {K : Act → Prop} (ho : plainOp o = true) (h : o.quiet P a C K) : plain P o a C K := by
  obtain ⟨v, h1, h2⟩ := h
  refine ⟨v, fun w hw => ?_, h2⟩
  have h3 := h1 w hw
  unfold Oper.quietAt at h3
  have hne := fun w' f args => plain_not_enter (P := P) ho (ev := a.eval) (w := w) (w' := w') (f := f) (args := args)
  generalize (execOp a.eval o).run P w = r at *
  cases r with
  | ok n w' =>
    cases n <;> simp only [Oper.quietUpon] at h3 <;> simp only [plainUpon]
    case value u => exact h3
    case skip => exact h3
    case enter f args => exact absurd rfl (hne _ _ _)
  | halt x w' => simp only [Oper.quietUpon] at h3

/-- Operation number i comes up. -/
def pOp (P : Program) (ops : Array Oper) (C : World → Prop) (p i : Nat) (K : Act → Prop) (a : Act) : Prop :=
  match ops[i]? with
  | none => K a
  | some o => if Region.wanted o (yielded ops a.tmps) then (if i = p then noisy P C (execOp a.eval o) (fun v => K (a.put o.dst v)) else plain P o a C K) else K (a.put o.dst undef)
theorem pOp_mono {i : Nat} {a : Act} {K K' : Act → Prop} (h : ∀ a, K a → K' a) (hh : pOp P ops C p i K a) : pOp P ops C p i K' a := by
  unfold pOp at *
  split
  · rename_i ho; simp only [ho] at hh; exact h _ hh
  · rename_i o ho
    simp only [ho] at hh
    split
    · rename_i hw
      simp only [hw, if_true] at hh
      split
      · rename_i hp; simp only [hp, if_true] at hh; exact noisy_mono (fun v => h _) hh
      · rename_i hp; simp only [hp, if_false] at hh; exact plain_mono h hh
    · rename_i hw; simp only [hw] at hh; exact h _ hh
theorem pOp_some {i : Nat} {a : Act} {K : Act → Prop} (hC : ∃ w, C w) (hh : pOp P ops C p i K a) : ∃ a, K a := by
  unfold pOp at hh
  split at hh
  · exact ⟨_, hh⟩
  · split at hh
    · split at hh
      · obtain ⟨v, hv⟩ := noisy_some hC hh; exact ⟨_, hv⟩
      · obtain ⟨v, _, hv⟩ := hh; exact ⟨_, hv⟩
    · exact ⟨_, hh⟩
theorem pOp_comm {i j : Nat} {oi oj : Oper} (hi : ops[i]? = some oi) (hj : ops[j]? = some oj) (hij : i ≠ j) (hap : oi.apart ops oj = true) (hsi : ∀ cs b, oi.op ≠ .select cs b) (hsj : ∀ cs b, oj.op ≠ .select cs b)
    (hC : ∃ w, C w) {K : Act → Prop} {a : Act} (h : pOp P ops C p i (pOp P ops C p j K) a) : pOp P ops C p j (pOp P ops C p i K) a := by
  obtain ⟨h1, h2, h3⟩ := Oper.apart_spec hap
  have e1 : ∀ v, Region.wanted oj (yielded ops (a.put oi.dst v).tmps) = Region.wanted oj (yielded ops a.tmps) := fun v => wanted_put oj a oi.dst v h1
  have e2 : ∀ u, Region.wanted oi (yielded ops (a.put oj.dst u).tmps) = Region.wanted oi (yielded ops a.tmps) := fun u => wanted_put oi a oj.dst u h3
  have e3 : ∀ v, execOp (a.put oi.dst v).eval oj = execOp a.eval oj := fun v => execOp_put oj hsj a oi.dst v h1
  have e4 : ∀ u, execOp (a.put oj.dst u).eval oi = execOp a.eval oi := fun u => execOp_put oi hsi a oj.dst u h3
  have e5 : ∀ v u, (a.put oi.dst v).put oj.dst u = (a.put oj.dst u).put oi.dst v := fun v u => Act.put_comm a v u h2
  simp only [pOp, hi, hj, plain, e1, e2, e3, e4, e5] at h ⊢
  by_cases wi : Region.wanted oi (yielded ops a.tmps) = true
  · by_cases wj : Region.wanted oj (yielded ops a.tmps) = true
    · simp only [wi, wj, if_true] at h ⊢
      by_cases pi : i = p
      · have pj : ¬ j = p := fun e => hij (pi.trans e.symm)
        simp only [pi, pj, if_true, if_false] at h ⊢
        obtain ⟨v0, u0, hu0, _⟩ := noisy_some hC h
        refine ⟨u0, hu0, noisy_mono (fun v hv => ?_) h⟩
        obtain ⟨u, hu, hk⟩ := hv
        have e : u = u0 := by
          obtain ⟨w, hw⟩ := hC
          exact plainUpon_same (hu w hw) (hu0 w hw)
        rw [e] at hk
        exact hk
      · by_cases pj : j = p
        · simp only [pi, pj, if_true, if_false] at h ⊢
          obtain ⟨v, hv, hk⟩ := h
          exact noisy_mono (fun u hu => ⟨v, hv, hu⟩) hk
        · simp only [pi, pj, if_false] at h ⊢
          obtain ⟨v, hv, u, hu, hk⟩ := h
          exact ⟨u, hu, v, hv, hk⟩
    · simp only [wi, wj, if_true] at h ⊢; exact h
  · by_cases wj : Region.wanted oj (yielded ops a.tmps) = true
    · simp only [wi, wj, if_true] at h ⊢; exact h
    · simp only [wi, wj] at h ⊢; exact h
theorem pOp_down {i : Nat} {a : Act} {K : Act → Prop} {K' : Act → World → Prop} {Q' : Exit → Act → World → Prop} {w : World} (hC : C w) (h : ∀ a w', C w' → K a → K' a w') (hh : pOp P ops C p i K a) : wpOp P ops Q' i K' a w := by
  unfold pOp at hh
  unfold wpOp
  split
  · rename_i ho; simp only [ho] at hh; exact h _ _ hC hh
  · rename_i o ho
    simp only [ho] at hh
    split
    · rename_i hw
      simp only [hw, if_true] at hh
      left
      unfold Oper.wp
      split at hh
      · have h3 := hh w hC
        generalize (execOp a.eval o).run P w = r at *
        cases r with
        | ok n w' =>
          cases n <;> simp only [noisyUpon] at h3 <;> simp only [Oper.upon]
          case value u => exact h _ _ h3.1 h3.2
          case skip => exact h _ _ h3.1 h3.2
          case enter f args => exact h3.mono fun e w'' ⟨u, he, hw'', hk⟩ => by subst he; exact h _ _ hw'' hk
        | halt x w' => simp only [noisyUpon] at h3
      · obtain ⟨v, h1, h2⟩ := hh
        have h3 := h1 w hC
        generalize (execOp a.eval o).run P w = r at *
        cases r with
        | ok n w' =>
          cases n <;> simp only [plainUpon] at h3 <;> simp only [Oper.upon]
          case value u => obtain ⟨rfl, rfl⟩ := h3; exact h _ _ hC h2
          case skip => obtain ⟨rfl, rfl⟩ := h3; exact h _ _ hC h2
        | halt x w' => simp only [plainUpon] at h3
    · rename_i hw; simp only [hw] at hh; exact h _ _ hC hh
theorem ways_pivot (hC : ∃ w, C w) : Ways P ops C (pOp P ops C p) :=
  ⟨fun h hh => pOp_mono h hh, fun hh => pOp_some hC hh, fun hi hj hij hap hsi hsj => fun h => pOp_comm hi hj hij hap hsi hsj hC h, fun hw h hh => pOp_down hw h hh⟩

/-- The walk in the order of the text. -/
def wpPivot (P : Program) (ops : Array Oper) (C : World → Prop) (p : Nat) (Q : Act → Prop) : List Oper → Nat → Act → Prop
  | [], _, a => Q a
  | o :: rest, k, a => if Region.wanted o (yielded ops a.tmps) then (if k = p then noisy P C (execOp a.eval o) (fun v => wpPivot P ops C p Q rest (k + 1) (a.put o.dst v)) else plain P o a C (wpPivot P ops C p Q rest (k + 1))) else wpPivot P ops C p Q rest (k + 1) (a.put o.dst undef)
theorem lex_of_pivot {Q : Act → Prop} : ∀ (l : List Oper) (k : Nat) (a : Act), (∀ j, j < l.length → l[j]? = ops[k + j]?) → wpPivot P ops C p Q l k a → wpLex (pOp P ops C p) Q l.length k a
  | [], _, _, _, h => h
  | o :: l, k, a, hl, h => by
    have h0 : ops[k]? = some o := by simpa using (hl 0 (by simp)).symm
    have hst : pOp P ops C p k (wpPivot P ops C p Q l (k + 1)) a := by unfold pOp; simp only [h0]; exact h
    exact pOp_mono (fun a' ha => lex_of_pivot l (k + 1) a' (fun j hj => by have := hl (j + 1) (by simp; omega); simpa [Nat.add_assoc, Nat.add_comm 1 j] using this) ha) hst
theorem wp_region_pivot_tail {id : Nat} {Q : Exit → Act → World → Prop} {a : Act} {w : World} {l : List Oper} (p n : Nat) (hm : P.follows .mixedOrders = true) (hB : Region.lexTailB .any l.toArray n = true)
    (h : wpPivot P l.toArray (fun w' => ∃ m, w' = w.drewN m) p (fun a' => ∀ w', (∃ m, w' = w.drewN m) → wpList P l.toArray Q (l.drop n) a' w') (l.take n) 0 a) : (Code.region id l.toArray true).wp P Q a w := by
  have hn : n < l.length := by
    simp only [Region.lexTailB, Bool.and_eq_true, decide_eq_true_eq] at hB
    simpa using hB.1.1.1.2
  have htl : (l.take n).length = n := by simp; omega
  have H := lex_of_pivot (P := P) (ops := l.toArray) (C := fun w' => ∃ m, w' = w.drewN m) (p := p) (l.take n) 0 a (fun j hj => by
    have hj' : j < n := by rw [htl] at hj; exact hj
    simp [hj']) h
  rw [htl] at H
  exact wp_region_tail n (ways_pivot ⟨w, 0, rfl⟩) hm hB H
theorem wpPivot_nil {Q : Act → Prop} {a : Act} {k : Nat} (h : Q a) : wpPivot P ops C p Q [] k a := h
theorem wpPivot_plain {Q : Act → Prop} {a : Act} {k : Nat} {o : Oper} {rest : List Oper} (hw : Region.wanted o (yielded ops a.tmps) = true) (hk : (k == p) = false) (ho : plainOp o = true)
    (h : ∀ K : Act → Prop, (∀ a, wpPivot P ops C p Q rest (k + 1) a → K a) → o.quiet P a C K) : wpPivot P ops C p Q (o :: rest) k a := by
  unfold wpPivot
  rw [if_pos hw, if_neg (by simpa using hk)]
  exact plain_of_quiet ho (h _ fun _ h => h)
theorem wpPivot_noisy {Q : Act → Prop} {a : Act} {k : Nat} {o : Oper} {rest : List Oper} (hw : Region.wanted o (yielded ops a.tmps) = true) (hk : (k == p) = true)
    (h : ∀ K : Act → Prop, (∀ a, wpPivot P ops C p Q rest (k + 1) a → K a) → noisy P C (execOp a.eval o) (fun v => K (a.put o.dst v))) : wpPivot P ops C p Q (o :: rest) k a := by
  unfold wpPivot
  rw [if_pos hw, if_pos (by simpa using hk)]
  exact h _ fun _ h => h
theorem noisy_of_call {o : Oper} {a : Act} {K : Act → Prop} {f : FuncId} {args : Array Value} (R : Value → Prop) (hr : ∀ w, (execOp a.eval o).run P w = .ok (.enter f args) w)
    (hc : ∀ w, C w → Calls P f args w (fun e w'' => ∃ u, e = .returned u ∧ C w'' ∧ R u)) (hk : ∀ u, R u → K (a.put o.dst u)) : noisy P C (execOp a.eval o) (fun v => K (a.put o.dst v)) := by
  intro w hw
  rw [hr w]
  exact (hc w hw).mono fun e w'' ⟨u, he, h1, h2⟩ => ⟨u, he, h1, hk u h2⟩
end
end Go.Proofs.Ytcibjkadlndejaa
