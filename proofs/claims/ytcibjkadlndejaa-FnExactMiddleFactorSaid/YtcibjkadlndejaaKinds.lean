/- Helper: regions that draw their order over a class of worlds: operations of one value, floats whose value hangs on the world, one call whose value does. Conditions: none. -/
import Derived.Test.YtcibjkadlndejaaPivot
import Derived.Below
set_option linter.unusedVariables false
set_option linter.unusedSimpArgs false
namespace Go.Proofs.Ytcibjkadlndejaa

section
variable {P : Program} {ops : Array Oper} {md : Region.Mode} {C : World → Prop} {op : Nat → (Act → Prop) → Act → Prop} {bad : Nat → Nat → Bool}

/-- As Ways, but for the pairs that are never ready together. -/
structure WaysB (P : Program) (ops : Array Oper) (C : World → Prop) (op : Nat → (Act → Prop) → Act → Prop) (bad : Nat → Nat → Bool) : Prop where
  mono : ∀ {i : Nat} {a : Act} {K K' : Act → Prop}, (∀ a, K a → K' a) → op i K a → op i K' a
  inhab : ∀ {i : Nat} {a : Act} {K : Act → Prop}, op i K a → ∃ a, K a
  comm : ∀ {i j : Nat} {oi oj : Oper}, ops[i]? = some oi → ops[j]? = some oj → bad i j = false → oi.apart ops oj = true → (∀ cs b, oi.op ≠ .select cs b) → (∀ cs b, oj.op ≠ .select cs b) →
    ∀ {K : Act → Prop} {a : Act}, op i (op j K) a → op j (op i K) a
  down : ∀ {i : Nat} {a : Act} {K : Act → Prop} {K' : Act → World → Prop} {Q' : Exit → Act → World → Prop} {w : World}, C w → (∀ a w', C w' → K a → K' a w') → op i K a → wpOp P ops Q' i K' a w
/-- Of a bad pair one waits for the other. -/
def badB (md : Region.Mode) (ops : Array Oper) (bad : Nat → Nat → Bool) : Bool :=
  (List.range ops.size).all fun i => (List.range ops.size).all fun j => !bad i j || i == j || Region.waitsFor md ops j i || Region.waitsFor md ops i j
theorem not_both {listed : Array Bool} {i j : Nat} (hi : i ∈ Region.ready md ops listed) (hj : j ∈ Region.ready md ops listed) (hw : Region.waitsFor md ops j i = true) : False := by
  obtain ⟨oj, hoj, e, he, hb, hon⟩ := Region.waitsFor_spec hw
  obtain ⟨_, o, ho, hall⟩ := mem_ready.1 hj
  have : o = oj := Option.some.inj (ho.symm.trans hoj)
  subst this
  have h1 := hall e he hb
  rw [hon, getD_both (mem_ready.1 hi).1] at h1
  cases h1
theorem bad_ready {listed : Array Bool} {i j : Nat} (hB : badB md ops bad = true) (hi : i ∈ Region.ready md ops listed) (hj : j ∈ Region.ready md ops listed) (hne : i ≠ j) : bad i j = false := by
  obtain ⟨_, oi, hoi, _⟩ := mem_ready.1 hi
  obtain ⟨_, oj, hoj, _⟩ := mem_ready.1 hj
  have h1 := List.all_eq_true.1 (List.all_eq_true.1 hB i (List.mem_range.2 (Array.getElem?_eq_some_iff.1 hoi).1)) j (List.mem_range.2 (Array.getElem?_eq_some_iff.1 hoj).1)
  simp only [Bool.or_eq_true, Bool.not_eq_true', beq_iff_eq] at h1
  rcases h1 with ((h | h) | h) | h
  · exact h
  · exact absurd h hne
  · exact (not_both hi hj h).elim
  · exact (not_both hj hi h).elim

theorem wpAny_of_headK (S : WaysB P ops C op bad) {n g : Nat} {L : Array Bool → Act → Prop} {Q' : Exit → Act → World → Prop} (hL : ∀ listed a w, C w → L listed a → wpAny P md ops Q' g listed a w) :
    ∀ (f : Nat) (listed : Array Bool) (a : Act) (w : World), C w → wpAnyT md ops op n L f listed a → wpAny P md ops Q' (f + g) listed a w
  | 0, listed, a, w, hw, h => by rw [Nat.zero_add]; exact hL _ _ _ hw h
  | f + 1, listed, a, w, hw, h => by
    rw [show f + 1 + g = (f + g) + 1 by omega]
    exact ⟨fun h0 => absurd h0 h.1, fun i hi => S.down hw (fun a' w' hw' h' => wpAny_of_headK S hL f _ a' w' hw' h') (h.2 i hi).2⟩

theorem wpAnyK_first (S : WaysB P ops C op bad) (hbad : badB md ops bad = true) {n i : Nat} {oi : Oper} {L : Array Bool → Act → Prop} (hi : ops[i]? = some oi) (hsel : ∀ (j : Nat) (o : Oper) cs b, ops[j]? = some o → o.op ≠ .select cs b)
    (hs : Region.sinkB md ops n = true) (hc : Region.chainB md ops n = true) (hn : n < ops.size) (hin : i < n)
    (hdone : ∀ listed a, L listed a → ∀ j ∈ Region.ready md ops listed, n ≤ j) :
    ∀ (f : Nat) (listed : Array Bool) (a : Act), HeadInv md ops n listed →
      (∀ j oj, ops[j]? = some oj → j ≠ i → listed.getD j true = false → (∀ e ∈ oj.after, Region.binds md e = true → e.on ≠ i) → oi.apart ops oj = true) →
      i ∈ Region.ready md ops listed → op i (wpAnyT md ops op n L f (listed.setIfInBounds i true)) a → wpAnyT md ops op n L (f + 1) listed a := by
  intro f
  induction f with
  | zero =>
    intro listed a inv _ hr H
    have hun := (mem_ready.1 hr).1
    refine ⟨fun h => (by rw [h] at hr; cases hr), fun j hj => ?_⟩
    have hjn : j < n := by
      rcases Nat.lt_or_ge j n with h | h
      · exact h
      · exact absurd hj (tail_waits hs hc hn inv _ i rfl hin hun j h)
    refine ⟨hjn, ?_⟩
    by_cases hji : j = i
    · subst hji; exact H
    · obtain ⟨a', ha⟩ := S.inhab H
      have := hdone _ _ ha j (ready_mono hj hji)
      omega
  | succ f ih =>
    intro listed a inv hfree hr H
    have hun := (mem_ready.1 hr).1
    refine ⟨fun h => (by rw [h] at hr; cases hr), fun j hj => ?_⟩
    have hjn : j < n := by
      rcases Nat.lt_or_ge j n with h | h
      · exact h
      · exact absurd hj (tail_waits hs hc hn inv _ i rfl hin hun j h)
    refine ⟨hjn, ?_⟩
    by_cases hji : j = i
    · subst hji; exact H
    · have hnb := bad_ready hbad hr hj (fun e => hji e.symm)
      obtain ⟨hjun, oj, hoj, hall⟩ := mem_ready.1 hj
      have hnot : ∀ e ∈ oj.after, Region.binds md e = true → e.on ≠ i := fun e he hb heq => by
        have h1 := hall e he hb
        rw [heq, getD_both hun] at h1
        cases h1
      have h1 : op i (op j (wpAnyT md ops op n L f ((listed.setIfInBounds i true).setIfInBounds j true))) a := S.mono (fun a' h => (h.2 j (ready_mono hj hji)).2) H
      have h2 := S.comm hi hoj hnb (hfree j oj hoj hji hjun hnot) (fun cs b => hsel i oi cs b hi) (fun cs b => hsel j oj cs b hoj) h1
      have hfree' : ∀ k ok, ops[k]? = some ok → k ≠ i → (listed.setIfInBounds j true).getD k true = false →
          (∀ e ∈ ok.after, Region.binds md e = true → e.on ≠ i) → oi.apart ops ok = true := fun k ok hk hki hun hno => by
        refine hfree k ok hk hki ?_ hno
        by_cases hjk : j = k
        · subst hjk; exact hjun
        · rw [getD_set_ne true hjk] at hun; exact hun
      rw [Array.setIfInBounds_comm _ _ (Ne.symm hji)] at h2
      exact S.mono (fun a' h3 => ih (listed.setIfInBounds j true) a' (inv.set hj hjn) hfree' (ready_mono hr (Ne.symm hji)) h3) h2

theorem wpAnyK_lex (S : WaysB P ops C op bad) (hbad : badB md ops bad = true) {n g : Nat} {Lq : Act → Prop} (hsel : Region.noSelect ops = true) (hs : Region.sinkB md ops n = true) (hc : Region.chainB md ops n = true) (hn : n < ops.size) :
    ∀ (l k : Nat) (listed : Array Bool) (a : Act), k + l = n → HeadInv md ops n listed → Region.lexHead md ops g l k listed = true → wpLex op Lq l k a →
    wpAnyT md ops op n (fun listed' a' => Region.seqB md ops g n listed' = true ∧ Lq a') l listed a
  | 0, k, listed, a, hk, _, hB, h => by
    have : k = n := by simpa using hk
    subst this
    exact ⟨by simpa [Region.lexHead] using hB, h⟩
  | l + 1, k, listed, a, hk, inv, hB, h => by
    have hkn : k < n := by omega
    have h0 : ops[k]? = some (ops[k]'(by omega)) := Array.getElem?_eq_getElem (by omega)
    simp only [Region.lexHead, Bool.and_eq_true] at hB
    obtain ⟨⟨hr, hf⟩, hB'⟩ := hB
    have hr' : k ∈ Region.ready md ops listed := by simpa using hr
    exact wpAnyK_first S hbad h0 (Region.noSelect_spec hsel) hs hc hn hkn (fun listed' a' hL => seqB_ready hL.1) l listed a inv (Region.free_spec h0 hf) hr'
      (S.mono (fun a' ha => wpAnyK_lex S hbad hsel hs hc hn l (k + 1) _ a' (by omega) (inv.set hr' hkn) hB' ha) h)

theorem wp_region_tailK {id : Nat} {Q : Exit → Act → World → Prop} {a : Act} {w : World} {l : List Oper} (n : Nat) (S : WaysB P l.toArray C op bad) (hbad : badB .any l.toArray bad = true) (hC : C (w.drewN 1)) (hm : P.follows .mixedOrders = true) (hB : Region.lexTailB .any l.toArray n = true)
    (h : wpLex op (fun a' => ∀ w', C w' → wpList P l.toArray Q (l.drop n) a' w') n 0 a) : (Code.region id l.toArray true).wp P Q a w := by
  simp only [Region.lexTailB, Bool.and_eq_true, decide_eq_true_eq] at hB
  obtain ⟨⟨⟨⟨hsel, hn⟩, hs⟩, hc⟩, hlex⟩ := hB
  have hn' : n < l.length := by simpa using hn
  have hdl : (l.drop n).length = l.toArray.size - n := by simp
  have inv0 : HeadInv .any l.toArray n (Array.replicate l.toArray.size false) :=
    ⟨by simp, fun j oj _ hl => (by rw [getD_replicate_false] at hl; cases hl), fun t _ ht => getD_in (by simpa using ht) (getD_replicate_false _ _)⟩
  have H := wpAnyK_lex S hbad (md := .any) (g := l.toArray.size - n) hsel hs hc hn n 0 _ a (by omega) inv0 hlex h
  refine wp_region_any hm ?_
  have := wpAny_of_headK S (md := .any) (Q' := Q) (g := l.toArray.size - n) (fun listed a' w' hw' hL => by
    have := wpAny_of_seq (md := .any) (Q' := Q) (l.drop n) n listed a' w' (fun j => by simp [List.getElem?_drop]) (by rw [hdl]; exact hL.1) (hL.2 w' hw')
    rwa [hdl] at this) _ _ _ (w.drewN 1) hC H
  rw [show n + (l.toArray.size - n) = l.toArray.size by omega] at this
  exact this
end

/-! ### Kinds of operations -/
section
variable {P : Program} {ops : Array Oper} {C : World → Prop} {kind : Nat → Nat}
/-- One value (a call's, too), and a world of the class. -/
def fixedUpon (P : Program) (C : World → Prop) (v : Value) : Result Next → Prop
  | .ok (.value u) w' => C w' ∧ u = v
  | .ok .skip w' => C w' ∧ v = undef
  | .ok (.enter f args) w' => P.inits.idxOf? f = none ∧ Calls P f args w' (fun e w'' => e = .returned v ∧ C w'')
  | _ => False
def fixed (P : Program) (o : Oper) (a : Act) (C : World → Prop) (K : Act → Prop) : Prop := ∃ v, (∀ w, C w → fixedUpon P C v ((execOp a.eval o).run P w)) ∧ K (a.put o.dst v)
theorem fixedUpon_same {u v : Value} {r : Result Next} (h1 : fixedUpon P C u r) (h2 : fixedUpon P C v r) : u = v := by
  cases r with
  | ok n w' =>
    cases n <;> simp only [fixedUpon] at h1 h2
    case value x => exact h1.2.symm.trans h2.2
    case skip => exact h1.2.trans h2.2.symm
    case enter f args => exact calls_same h1.1 h1.2 h2.2
  | halt x w' => simp only [fixedUpon] at h1
theorem fixed_mono {o : Oper} {a : Act} {K K' : Act → Prop} (h : ∀ a, K a → K' a) (hh : fixed P o a C K) : fixed P o a C K' := by
  obtain ⟨v, h1, h2⟩ := hh
  exact ⟨v, h1, h _ h2⟩
/-- A value that hangs on the world, of no call. -/
def openUpon (C : World → Prop) (K : Value → Prop) : Result Next → Prop
  | .ok (.value u) w' => C w' ∧ K u
  | .ok .skip w' => C w' ∧ K undef
  | _ => False
def openV (P : Program) (C : World → Prop) (s : Sem Next) (K : Value → Prop) : Prop := ∀ w, C w → openUpon C K (s.run P w)
theorem openUpon_mono {K K' : Value → Prop} (h : ∀ v, K v → K' v) {r : Result Next} (hh : openUpon C K r) : openUpon C K' r := by
  cases r with
  | ok n w' =>
    cases n <;> simp only [openUpon] at hh ⊢
    case value u => exact ⟨hh.1, h _ hh.2⟩
    case skip => exact ⟨hh.1, h _ hh.2⟩
  | halt x w' => simp only [openUpon] at hh
theorem open_mono {K K' : Value → Prop} (h : ∀ v, K v → K' v) {s : Sem Next} (hh : openV P C s K) : openV P C s K' := fun w hw => openUpon_mono h (hh w hw)
theorem open_some {s : Sem Next} {K : Value → Prop} (hC : ∃ w, C w) (h : openV P C s K) : ∃ v, K v := by
  obtain ⟨w, hw⟩ := hC
  have h0 := h w hw
  generalize s.run P w = r at *
  cases r with
  | ok n w' =>
    cases n <;> simp only [openUpon] at h0
    case value u => exact ⟨_, h0.2⟩
    case skip => exact ⟨_, h0.2⟩
  | halt x w' => simp only [openUpon] at h0
theorem open_comm {si sj : Sem Next} {K : Value → Value → Prop} (hC : ∃ w, C w) (h : openV P C si (fun v => openV P C sj (fun u => K v u))) : openV P C sj (fun u => openV P C si (fun v => K v u)) := by
  intro w2 h2
  obtain ⟨v0, h0⟩ := open_some hC h
  have h0' := h0 w2 h2
  have all : ∀ w1, C w1 → openUpon C (fun v => openUpon C (K v) (sj.run P w2)) (si.run P w1) := fun w1 h1 => openUpon_mono (fun v hv => hv w2 h2) (h w1 h1)
  generalize sj.run P w2 = r at *
  cases r with
  | ok n w' =>
    cases n <;> simp only [openUpon] at h0' ⊢
    case value u => exact ⟨h0'.1, fun w1 h1 => openUpon_mono (fun v hv => hv.2) (all w1 h1)⟩
    case skip => exact ⟨h0'.1, fun w1 h1 => openUpon_mono (fun v hv => hv.2) (all w1 h1)⟩
  | halt x w' => simp only [openUpon] at h0'

/-- Operation number i comes up. -/
def kOp (P : Program) (ops : Array Oper) (C : World → Prop) (kind : Nat → Nat) (i : Nat) (K : Act → Prop) (a : Act) : Prop :=
  match ops[i]? with
  | none => K a
  | some o => if Region.wanted o (yielded ops a.tmps) then (match kind i with
      | 0 => fixed P o a C K
      | 1 => openV P C (execOp a.eval o) (fun v => K (a.put o.dst v))
      | _ => noisy P C (execOp a.eval o) (fun v => K (a.put o.dst v))) else K (a.put o.dst undef)
def badK (kind : Nat → Nat) (i j : Nat) : Bool := (decide (1 ≤ kind i) && decide (1 ≤ kind j)) && (decide (2 ≤ kind i) || decide (2 ≤ kind j))
theorem kOp_mono {i : Nat} {a : Act} {K K' : Act → Prop} (h : ∀ a, K a → K' a) (hh : kOp P ops C kind i K a) : kOp P ops C kind i K' a := by
  unfold kOp at *
  split
  · rename_i ho; simp only [ho] at hh; exact h _ hh
  · rename_i o ho
    simp only [ho] at hh
    split
    · rename_i hw
      simp only [hw, if_true] at hh
      split
      · rename_i hk; rw [hk] at hh; exact fixed_mono h hh
      · rename_i hk; rw [hk] at hh; exact open_mono (fun v => h _) hh
      · rename_i k hk1 hk2
        split at hh
        · rename_i e; exact absurd e hk1
        · rename_i e; exact absurd e hk2
        · exact noisy_mono (fun v => h _) hh
    · rename_i hw; simp only [hw] at hh; exact h _ hh
theorem kOp_some {i : Nat} {a : Act} {K : Act → Prop} (hC : ∃ w, C w) (hh : kOp P ops C kind i K a) : ∃ a, K a := by
  unfold kOp at hh
  split at hh
  · exact ⟨_, hh⟩
  · split at hh
    · split at hh
      · obtain ⟨v, _, hv⟩ := hh; exact ⟨_, hv⟩
      · obtain ⟨v, hv⟩ := open_some hC hh; exact ⟨_, hv⟩
      · obtain ⟨v, hv⟩ := noisy_some hC hh; exact ⟨_, hv⟩
    · exact ⟨_, hh⟩
theorem fixed_first {si : Sem Next} {oj : Oper} {f : (Value → Prop) → Prop} {A B : Value → Value → Act} {K : Act → Prop} {R : World → Result Next}
    (hmono : ∀ {K K' : Value → Prop}, (∀ v, K v → K' v) → f K → f K') (hsome : ∀ {K : Value → Prop}, f K → ∃ v, K v) (hC : ∃ w, C w)
    (h : f fun v => ∃ u, (∀ w, C w → fixedUpon P C u (R w)) ∧ K (A v u)) : ∃ u, (∀ w, C w → fixedUpon P C u (R w)) ∧ f fun v => K (A v u) := by
  obtain ⟨v0, u0, hu0, _⟩ := hsome h
  refine ⟨u0, hu0, hmono (fun v hv => ?_) h⟩
  obtain ⟨u, hu, hk⟩ := hv
  have e : u = u0 := by
    obtain ⟨w, hw⟩ := hC
    exact fixedUpon_same (hu w hw) (hu0 w hw)
  rw [e] at hk
  exact hk
theorem kOp_comm {i j : Nat} {oi oj : Oper} (hi : ops[i]? = some oi) (hj : ops[j]? = some oj) (hbad : badK kind i j = false) (hap : oi.apart ops oj = true) (hsi : ∀ cs b, oi.op ≠ .select cs b) (hsj : ∀ cs b, oj.op ≠ .select cs b)
    (hC : ∃ w, C w) {K : Act → Prop} {a : Act} (h : kOp P ops C kind i (kOp P ops C kind j K) a) : kOp P ops C kind j (kOp P ops C kind i K) a := by
  obtain ⟨h1, h2, h3⟩ := Oper.apart_spec hap
  have e1 : ∀ v, Region.wanted oj (yielded ops (a.put oi.dst v).tmps) = Region.wanted oj (yielded ops a.tmps) := fun v => wanted_put oj a oi.dst v h1
  have e2 : ∀ u, Region.wanted oi (yielded ops (a.put oj.dst u).tmps) = Region.wanted oi (yielded ops a.tmps) := fun u => wanted_put oi a oj.dst u h3
  have e3 : ∀ v, execOp (a.put oi.dst v).eval oj = execOp a.eval oj := fun v => execOp_put oj hsj a oi.dst v h1
  have e4 : ∀ u, execOp (a.put oj.dst u).eval oi = execOp a.eval oi := fun u => execOp_put oi hsi a oj.dst u h3
  have e5 : ∀ v u, (a.put oi.dst v).put oj.dst u = (a.put oj.dst u).put oi.dst v := fun v u => Act.put_comm a v u h2
  simp only [kOp, hi, hj, fixed, e1, e2, e3, e4, e5] at h ⊢
  by_cases wi : Region.wanted oi (yielded ops a.tmps) = true
  · by_cases wj : Region.wanted oj (yielded ops a.tmps) = true
    · simp only [wi, wj, if_true] at h ⊢
      unfold badK at hbad
      rcases hki : kind i with _ | _ | ki <;> rcases hkj : kind j with _ | _ | kj <;> simp only [hki, hkj] at h hbad ⊢
      · obtain ⟨v, hv, u, hu, hk⟩ := h
        exact ⟨u, hu, v, hv, hk⟩
      · obtain ⟨v, hv, hk⟩ := h
        exact open_mono (fun u hu => ⟨v, hv, hu⟩) hk
      · obtain ⟨v, hv, hk⟩ := h
        exact noisy_mono (fun u hu => ⟨v, hv, hu⟩) hk
      · exact fixed_first (si := execOp a.eval oi) (oj := oj) (A := fun v u => (a.put oj.dst u).put oi.dst v) (B := fun _ _ => a) (f := fun K => openV P C (execOp a.eval oi) K) (fun h hh => open_mono h hh) (fun hh => open_some hC hh) hC h
      · exact open_comm hC h
      · simp at hbad
      · exact fixed_first (si := execOp a.eval oi) (oj := oj) (A := fun v u => (a.put oj.dst u).put oi.dst v) (B := fun _ _ => a) (f := fun K => noisy P C (execOp a.eval oi) K) (fun h hh => noisy_mono h hh) (fun hh => noisy_some hC hh) hC h
      · simp at hbad
      · simp at hbad
    · simp only [wi, wj, if_true] at h ⊢; exact h
  · by_cases wj : Region.wanted oj (yielded ops a.tmps) = true
    · simp only [wi, wj, if_true] at h ⊢; exact h
    · simp only [wi, wj] at h ⊢; exact h
theorem kOp_down {i : Nat} {a : Act} {K : Act → Prop} {K' : Act → World → Prop} {Q' : Exit → Act → World → Prop} {w : World} (hC : C w) (h : ∀ a w', C w' → K a → K' a w') (hh : kOp P ops C kind i K a) : wpOp P ops Q' i K' a w := by
  unfold kOp at hh
  unfold wpOp
  split
  · rename_i ho; simp only [ho] at hh; exact h _ _ hC hh
  · rename_i o ho
    simp only [ho] at hh
    split
    · rename_i hw
      simp only [hw, if_true] at hh
      left
      unfold Oper.wp
      split at hh
      · obtain ⟨v, h1, h2⟩ := hh
        have h3 := h1 w hC
        generalize (execOp a.eval o).run P w = r at *
        cases r with
        | ok n w' =>
          cases n <;> simp only [fixedUpon] at h3 <;> simp only [Oper.upon]
          case value u => obtain ⟨h3, rfl⟩ := h3; exact h _ _ h3 h2
          case skip => obtain ⟨h3, rfl⟩ := h3; exact h _ _ h3 h2
          case enter f args => exact h3.2.mono fun e w'' ⟨he, hw''⟩ => by subst he; exact h _ _ hw'' h2
        | halt x w' => simp only [fixedUpon] at h3
      · have h3 := hh w hC
        generalize (execOp a.eval o).run P w = r at *
        cases r with
        | ok n w' =>
          cases n <;> simp only [openUpon] at h3 <;> simp only [Oper.upon]
          case value u => exact h _ _ h3.1 h3.2
          case skip => exact h _ _ h3.1 h3.2
        | halt x w' => simp only [openUpon] at h3
      · have h3 := hh w hC
        generalize (execOp a.eval o).run P w = r at *
        cases r with
        | ok n w' =>
          cases n <;> simp only [noisyUpon] at h3 <;> simp only [Oper.upon]
          case value u => exact h _ _ h3.1 h3.2
          case skip => exact h _ _ h3.1 h3.2
          case enter f args => exact h3.mono fun e w'' ⟨u, he, hw'', hk⟩ => by subst he; exact h _ _ hw'' hk
        | halt x w' => simp only [noisyUpon] at h3
    · rename_i hw; simp only [hw] at hh; exact h _ _ hC hh
theorem ways_kinds (hC : ∃ w, C w) : WaysB P ops C (kOp P ops C kind) (badK kind) :=
  ⟨fun h hh => kOp_mono h hh, fun hh => kOp_some hC hh, fun hi hj hb hap hsi hsj => fun h => kOp_comm hi hj hb hap hsi hsj hC h, fun hw h hh => kOp_down hw h hh⟩
end
end Go.Proofs.Ytcibjkadlndejaa
