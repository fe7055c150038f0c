/- Helper: a range over a function, told with the blocks that its body keeps and those that its body owns. Conditions: none. -/
import Derived.RangeFuncNested
import Derived.RangeFuncBound
import Derived.RangeFuncCalls
import Derived.RangeFuncLeaves
import Derived.RangeFuncBox
import Derived.WalkKit
import Derived.Below
set_option linter.unusedVariables false
set_option linter.unusedSimpArgs false
namespace Go.Proofs.Ytmjlhmbnaifhaab
open Go.RowKit

/-- B comes behind A, and the blocks of M are as they were. -/
structure Frm (M : Nat → Prop) (A B : World) : Prop where
  os : B.os = A.os
  tape : B.tape = A.tape
  output : B.output = A.output
  size : A.heap.size ≤ B.heap.size
  same : ∀ k, k < A.heap.size → M k → B.heap[k]? = A.heap[k]?

theorem Frm.refl (M : Nat → Prop) (A : World) : Frm M A A := ⟨rfl, rfl, rfl, Nat.le_refl _, fun _ _ _ => rfl⟩
theorem Frm.trans {M : Nat → Prop} {A B C : World} (h : Frm M A B) (k : Frm M B C) : Frm M A C :=
  ⟨k.os.trans h.os, k.tape.trans h.tape, k.output.trans h.output, Nat.le_trans h.size k.size, fun i hi hm => (k.same i (Nat.lt_of_lt_of_le hi h.size) hm).trans (h.same i hi hm)⟩
theorem Frm.mono {M M' : Nat → Prop} {A B : World} (h : Frm M A B) (hm : ∀ k, k < A.heap.size → M' k → M k) : Frm M' A B :=
  ⟨h.os, h.tape, h.output, h.size, fun k hk h' => h.same k hk (hm k hk h')⟩
theorem Frm.of_below {A B : World} (h : Below A.heap.size A B) (M : Nat → Prop) : Frm M A B := ⟨h.os, h.tape, h.output, h.size, fun k hk _ => h.block k hk⟩
theorem Frm.of_grown {A B : World} {row : Option Nat} (h : A.grownBy B row) {M : Nat → Prop} (hr : ∀ g, row = some g → ¬ M g) : Frm M A B :=
  ⟨h.os, h.tape, h.output, h.size, fun k hk hm => h.block k hk (fun e => hr k e.symm hm)⟩
theorem Frm.alloc (M : Nat → Prop) (A : World) (o : Obj) : Frm M A (A.alloc o) := Frm.of_grown (World.grownBy_alloc A o none) (fun g e => by cases e)
theorem Frm.put {M : Nat → Prop} (A : World) {l : Nat} (o : Obj) (hm : ¬ M l) : Frm M A (A.putObj l o) :=
  ⟨rfl, rfl, rfl, by simp, fun k _ hk => World.putObj_heap_other (fun e => hm (e ▸ hk))⟩
theorem Frm.set {M : Nat → Prop} (A : World) {b o : Nat} (v : Value) (hm : ¬ M b) : Frm M A (A.setCell ⟨b, o, none⟩ v) :=
  ⟨rfl, rfl, rfl, by show A.heap.size ≤ (A.heap.modify _ _).size; rw [Array.size_modify]; exact Nat.le_refl _, fun k _ hk => Below.heap_setCell _ _ _ _ (fun e => hm (by have e' : k = b := e; rw [← e']; exact hk))⟩
theorem Frm.below {M : Nat → Prop} {A B : World} {n : Nat} (h : Frm M A B) (hn : n ≤ A.heap.size) (hm : ∀ k, k < n → M k) : Below n A B :=
  ⟨h.os, h.tape, h.output, h.size, fun k hk => h.same k (by omega) (hm k hk)⟩

/-- What a body keeps: the blocks of Pr, and those from B on that are not its own; of the blocks that were there it owns no more than before. -/
structure Kept (Pr : Nat → Prop) (B : Nat) (X X' : Nat → Prop) (A W : World) : Prop where
  frm : Frm (fun k => Pr k ∨ (B ≤ k ∧ ¬ X k)) A W
  new : ∀ k, k < A.heap.size → X' k → X k

/-- The contract of a function that is ranged over. -/
def SeqF {α : Type} (n : Nat) (P : Program) (g : Nat) (lb : Array Value) (encs : α → Array Value) (Pr : Nat → Prop) (S Sp : List α → Prop) (T : List α → α → Prop) (w : World) : Prop :=
  ∀ (l : Nat) (J Jx : List α → (Nat → Prop) → World → Prop) (X0 : Nat → Prop) (W : World), Below w.heap.size w W →
    (∀ pre X A B, J pre X A → Frm (fun k => k < W.heap.size ∨ X k) A B → J pre X B) →
    (∀ pre X A B, Jx pre X A → Frm (fun k => k < W.heap.size ∨ X k) A B → Jx pre X B) →
    (∀ pre X A k, J pre X A → X k → k < A.heap.size) →
    (∀ pre x X W1, J pre X W1 → T pre x → W.heap.size ≤ W1.heap.size → YieldAt Fence.wide (n - 1) P l (encs x) W1 fun e W' =>
      (e = .returned (.bool true) ∧ ∃ X', J (pre ++ [x]) X' W' ∧ Kept Pr W.heap.size X X' W1 W') ∨ (e = .returned (.bool false) ∧ ∃ X', Jx (pre ++ [x]) X' W' ∧ Kept Pr W.heap.size X X' W1 W')) →
    J [] X0 W →
    CallsIn Fence.wide n P g (#[.func (.yield l) #[] #[]] ++ lb) W fun e W' => (∃ v, e = .returned v) ∧ ((∃ xs X, S xs ∧ J xs X W') ∨ (∃ pre X, Sp pre ∧ Jx pre X W'))

/-- How the body of a round is left. -/
def postF {α : Type} (Pr : Nat → Prop) (B : Nat) (I : List α → (Nat → Prop) → World → Prop) (Ix : Code → List α → (Nat → Prop) → World → Prop) (X : Nat → Prop) (xs : List α) (W : World) : Exit → Act → World → Prop
  | .normal, _, W' => ∃ X', I xs X' W' ∧ Kept Pr B X X' W W'
  | .ret, _, W' => ∃ X', Ix .ret xs X' W' ∧ Kept Pr B X X' W W'
  | .exit id, _, W' => ∃ X', Ix (.exit id) xs X' W' ∧ Kept Pr B X X' W W'
  | .goto t, _, W' => ∃ X', Ix (.goto t) xs X' W' ∧ Kept Pr B X X' W W'
  | .panic _, _, _ => False
  | .outgrown, _, _ => False

variable {n : Nat} {P : Program}

theorem roundIn_any {m m' l l' : Nat} {fn : FuncId} {tmps : Array Value} {assign body : Code} {W : World} {R : Ending → World → Prop} (h : RoundIn Fence.wide m P l fn tmps assign body W R) : RoundIn (Fence.wide.inRound l') m' P l fn tmps assign body W R :=
  ⟨trivial, fun c cs _ => h.2 c cs (room_wide _)⟩
theorem roundIn_wide {m m' l : Nat} {fn : FuncId} {tmps : Array Value} {assign body : Code} {W : World} {R : Ending → World → Prop} (h : RoundIn Fence.wide m P l fn tmps assign body W R) : RoundIn Fence.wide m' P l fn tmps assign body W R :=
  ⟨trivial, fun c cs _ => h.2 c cs (room_wide _)⟩

/-- The loop 'for .. := range g' of a function. -/
theorem wpIn_rangeF {α : Type} {g : Operand} {ps : Array Tmp} {assign body : Code} {Q : Exit → Act → World → Prop} {a : Act} {w : World}
    {gf : Nat} {lb : Array Value} (hg : a.eval g = .func (.func gf) #[] lb) (eg : ∀ args w, (callFunc gf args).run P w = .ok (.enter gf args) w)
    {encs : α → Array Value} {Pr : Nat → Prop} {S Sp : List α → Prop} {T : List α → α → Prop} {w0 : World} (hseq : SeqF (n - 1) P gf lb encs Pr S Sp T w0) (hb0 : Below w0.heap.size w0 w) (hPr : ∀ k, Pr k → k < w.heap.size) (hps : ∀ x, (encs x).size = ps.size)
    (I : List α → (Nat → Prop) → World → Prop) (Ix : Code → List α → (Nat → Prop) → World → Prop)
    (hI : ∀ pre X A B, I pre X A → Frm (fun k => k < w.heap.size ∨ X k) A B → I pre X B)
    (hIx : ∀ c pre X A B, Ix c pre X A → Frm (fun k => k < w.heap.size ∨ X k) A B → Ix c pre X B)
    (hX : ∀ pre X A k, I pre X A → X k → k < A.heap.size) (X0 : Nat → Prop) (h0 : I [] X0 w)
    (hround : ∀ (l : Nat) (pre : List α) (x : α) (X : Nat → Prop) (W : World), w.heap.size < l → I pre X W → T pre x → l < W.heap.size → ¬ X l →
      ∀ K : Act → World → Prop, (∀ a₁ w₁, Frm (fun _ => True) W w₁ → (∀ w₂, Frm (fun k => k ≠ l) w₁ w₂ → body.wpIn (Fence.wide.inRound l) (n - 1 - 1) P (postF Pr w.heap.size I Ix X (pre ++ [x]) w₂) a₁ w₂) → K a₁ w₁) →
      assign.wpIn (Fence.wide.inRound l) (n - 1 - 1) P (Exit.then K (fun _ _ _ => False)) { tmps := (ps.zip (encs x)).foldl (fun t (p, v) => t.setIfInBounds p v) a.tmps, defers := [] } W)
    (hdone : ∀ (xs : List α) (X : Nat → Prop) (W : World), S xs → I xs X W → ¬ X w.heap.size → W.heap[w.heap.size]? = some (.deferred (some [])) → Q .normal { a with defers := { target := .collected w.heap.size, args := #[] } :: a.defers } W)
    (hstop : ∀ (c : Code) (pre : List α) (X : Nat → Prop) (W : World), Sp pre → Ix c pre X W → ¬ X w.heap.size → W.heap[w.heap.size]? = some (.deferred (some [])) → c.wpIn Fence.wide n P Q { a with defers := { target := .collected w.heap.size, args := #[] } :: a.defers } W) :
    (Code.rangeFunc g ps assign body).wpIn Fence.wide n P Q a w := by
  refine wpIn_rangeFunc ?_
  intro fn hfn
  obtain ⟨D, hD⟩ : ∃ D, D = w.heap.size := ⟨_, rfl⟩
  obtain ⟨L, hL⟩ : ∃ L, L = w.heap.size + 1 := ⟨_, rfl⟩
  obtain ⟨rc, hrc⟩ : ∃ rc : LoopState → Option Code → Loop, rc = fun st pe => { state := st, pending := pe, fn, tmps := a.tmps, params := ps, assign, body, defers := D } := ⟨_, rfl⟩
  obtain ⟨W1, hW1⟩ : ∃ W1, (w.alloc (.deferred (some []))).alloc (.loop (rc .ready none)) = W1 := ⟨_, rfl⟩
  have s1 : W1.heap.size = w.heap.size + 2 := by rw [← hW1]; simp
  have g1 : ∀ M : Nat → Prop, Frm M w W1 := fun M => by rw [← hW1]; exact (Frm.alloc M w _).trans (Frm.alloc M _ _)
  have hL1 : W1.heap[L]? = some (.loop (rc .ready none)) := by
    rw [← hW1, hL]; have := World.alloc_heap_new (w.alloc (.deferred (some []))) (.loop (rc .ready none)); rwa [World.size_alloc] at this
  have hK1 : W1.heap[D]? = some (.deferred (some [])) := by
    rw [← hW1, hD]; exact (Below.heap_alloc _ _ _ (by simp)).trans (World.alloc_heap_new w _)
  have hI1 : I [] X0 W1 := hI _ _ _ _ h0 (g1 _)
  have hb1 : Below w0.heap.size w0 W1 := hb0.trans ((g1 (fun _ => True)).below hb0.size (fun _ _ => trivial))
  have hX0 : ∀ k, X0 k → k < w.heap.size := fun k hk => hX _ _ _ _ h0 hk
  refine ⟨L, [{ target := .collected D, args := #[] }], W1, { target := .fn (.func gf) lb, args := #[.func (.yield L) #[] #[]] }, W1, gf, #[.func (.yield L) #[] #[]] ++ lb, W1, ?_, ?_, fun _ _ => trivial, ?_, fun h => (by cases h), ?_⟩
  · rw [← hW1, hrc, hL, hD]; exact run_enterLoop_outer _ _ _ _ _
  · simp only [resolve, hg]
    simp [go_sem]
  · simp [invoke, go_sem, eg]
  -- the iterator, at the caller's invariant and the two blocks of the loop
  have keep : ∀ {X : Nat → Prop} {A B : World}, Frm (fun k => k < W1.heap.size ∨ X k) A B → L < A.heap.size → B.heap[L]? = A.heap[L]? ∧ B.heap[D]? = A.heap[D]? := fun h hl =>
    ⟨h.same L hl (.inl (by omega)), h.same D (by omega) (.inl (by omega))⟩
  have lt_of : ∀ {A : World} {o : Obj}, A.heap[L]? = some o → L < A.heap.size := fun h => (Array.getElem?_eq_some_iff.1 h).1
  refine (hseq L
    (fun pre X W => I pre X W ∧ (W.heap[L]? = some (.loop (rc .ready none)) ∧ W.heap[D]? = some (.deferred (some []))) ∧ ¬ X L ∧ ¬ X D)
    (fun pre X W => ∃ c, Ix c pre X W ∧ W.heap[L]? = some (.loop (rc .done (some c))) ∧ W.heap[D]? = some (.deferred (some [])) ∧ ¬ X L ∧ ¬ X D)
    X0 W1 hb1
    (fun pre X A B h hf => ⟨hI _ _ _ _ h.1 (hf.mono fun k _ hk => hk.elim (fun q => .inl (by omega)) .inr), ⟨(keep hf (lt_of h.2.1.1)).1.trans h.2.1.1, (keep hf (lt_of h.2.1.1)).2.trans h.2.1.2⟩, h.2.2⟩)
    (fun pre X A B h hf => by
      obtain ⟨c, hc, hl, hk, hx⟩ := h
      exact ⟨c, hIx _ _ _ _ _ hc (hf.mono fun k _ hk => hk.elim (fun q => .inl (by omega)) .inr), (keep hf (lt_of hl)).1.trans hl, (keep hf (lt_of hl)).2.trans hk, hx⟩)
    (fun pre X A k h hk => hX _ _ _ _ h.1 hk)
    ?_ ⟨hI1, ⟨hL1, hK1⟩, fun h => by have := hX0 _ h; omega, fun h => by have := hX0 _ h; omega⟩).mono ?_
  · rintro pre x X W ⟨hi, ⟨hl, hk⟩, hxl, hxd⟩ hlen hWs
    have hlt := lt_of hl
    have hy := run_yield (P := P) (args := encs x) hl (by rw [hrc]; exact hps x)
    rw [hrc] at hy
    refine ⟨fn, _, assign, body, hy, roundIn_of_wpIn trivial ?_⟩
    refine wpIn_mono (hround L pre x X W (by omega) hi hlen hlt hxl (fun a₁ w₁ => Frm (fun _ => True) W w₁ ∧ ∀ w₂, Frm (fun k => k ≠ L) w₁ w₂ → body.wpIn (Fence.wide.inRound L) (n - 1 - 1) P (postF Pr w.heap.size I Ix X (pre ++ [x]) w₂) a₁ w₂) (fun a₁ w₁ h1 h2 => ⟨h1, h2⟩)) ?_
    rintro e a1 w1 hp
    cases e with
    | normal =>
      obtain ⟨f1, hbody⟩ := hp
      have hlA := (f1.same L hlt trivial).trans hl
      have hkA := (f1.same D (by omega) trivial).trans hk
      have hltA := lt_of hlA
      obtain ⟨w2, hw2⟩ : ∃ w2, w2 = w1.putObj L (.loop { rc .ready none with state := .busy }) := ⟨_, rfl⟩
      have f2 : Frm (fun k => k ≠ L) w1 w2 := by rw [hw2]; exact Frm.put w1 _ (fun h => h rfl)
      have hl2 : w2.heap[L]? = some (.loop { rc .ready none with state := .busy }) := by rw [hw2]; exact World.putObj_heap_same hltA
      have hk2 : w2.heap[D]? = some (.deferred (some [])) := (f2.same D (by omega) (by omega)).trans hkA
      have f12 : Frm (fun k => k ≠ L) W w2 := (f1.mono fun _ _ _ => trivial).trans f2
      refine ⟨w2, by rw [hw2]; exact run_beginRound hlA (by rw [hrc]), ?_⟩
      refine wpIn_mono (hbody w2 f2) ?_
      have fin : ∀ (jump : Option Code) (X' : Nat → Prop) (W3 : World), Kept Pr w.heap.size X X' w2 W3 → ∃ W4,
          (Instr.endRound L jump).run P W3 = .ok (.bool jump.isNone) W4 ∧ Frm (fun k => k ≠ L) W3 W4 ∧ W4.heap[L]? = some (.loop (rc (if jump.isNone then .ready else .done) jump)) ∧ W4.heap[D]? = some (.deferred (some [])) ∧
          ¬ X' L ∧ ¬ X' D ∧ Kept Pr W1.heap.size X X' W W4 := fun jump X' W3 hkp => by
        have hs2 := f12.size
        have hl3 : W3.heap[L]? = some (.loop { rc .ready none with state := .busy }) := (hkp.frm.same L (by omega) (.inr ⟨by omega, hxl⟩)).trans hl2
        have hk3 : W3.heap[D]? = some (.deferred (some [])) := (hkp.frm.same D (by omega) (.inr ⟨by omega, hxd⟩)).trans hk2
        have hr := run_endRound (P := P) jump hl3
        have f4 : Frm (fun k => k ≠ L) W3 (W3.putObj L (.loop (rc (if jump.isNone then .ready else .done) jump))) := Frm.put W3 _ (fun h => h rfl)
        refine ⟨_, by rw [hrc] at hr ⊢; exact hr, f4, World.putObj_heap_same (lt_of hl3), (f4.same D (by have := lt_of hl3; omega) (by omega)).trans hk3, fun h => hxl (hkp.new L (by omega) h), fun h => hxd (hkp.new D (by omega) h), ?_, fun k hk hx => hkp.new k (by omega) hx⟩
        refine ((f12.mono fun k _ hk => ?_).trans (hkp.frm.mono fun k _ hk => ?_)).trans (f4.mono fun k _ hk => ?_)
        · rcases hk with h | ⟨h, _⟩
          · have := hPr k h; omega
          · omega
        · rcases hk with h | ⟨h, h'⟩
          · exact .inl h
          · exact .inr ⟨by omega, h'⟩
        · rcases hk with h | ⟨h, _⟩
          · have := hPr k h; omega
          · omega
      have carry : ∀ {X' : Nat → Prop} {W3 W4 : World}, (∀ k, X' k → k ≠ L) → Frm (fun k => k ≠ L) W3 W4 → Frm (fun k => k < w.heap.size ∨ X' k) W3 W4 := fun hx h => h.mono fun k _ hk => hk.elim (fun q => by omega) (hx k)
      rintro e a3 W3 hp
      cases e with
      | normal =>
        obtain ⟨X', hi3, hkp⟩ := hp
        obtain ⟨W4, hr, f4, hl4, hk4, nl, nd, hK⟩ := fin none X' W3 hkp
        exact ⟨_, _, hr, .inl ⟨rfl, X', ⟨hI _ _ _ _ hi3 (carry (fun k hx e => nl (e ▸ hx)) f4), ⟨hl4, hk4⟩, nl, nd⟩, hK⟩⟩
      | ret =>
        obtain ⟨X', hi3, hkp⟩ := hp
        obtain ⟨W4, hr, f4, hl4, hk4, nl, nd, hK⟩ := fin (some .ret) X' W3 hkp
        exact ⟨_, _, hr, .inr ⟨rfl, X', ⟨.ret, hIx _ _ _ _ _ hi3 (carry (fun k hx e => nl (e ▸ hx)) f4), hl4, hk4, nl, nd⟩, hK⟩⟩
      | exit id =>
        obtain ⟨X', hi3, hkp⟩ := hp
        obtain ⟨W4, hr, f4, hl4, hk4, nl, nd, hK⟩ := fin (some (.exit id)) X' W3 hkp
        exact ⟨_, _, hr, .inr ⟨rfl, X', ⟨.exit id, hIx _ _ _ _ _ hi3 (carry (fun k hx e => nl (e ▸ hx)) f4), hl4, hk4, nl, nd⟩, hK⟩⟩
      | goto t =>
        obtain ⟨X', hi3, hkp⟩ := hp
        obtain ⟨W4, hr, f4, hl4, hk4, nl, nd, hK⟩ := fin (some (.goto t)) X' W3 hkp
        exact ⟨_, _, hr, .inr ⟨rfl, X', ⟨.goto t, hIx _ _ _ _ _ hi3 (carry (fun k hx e => nl (e ▸ hx)) f4), hl4, hk4, nl, nd⟩, hK⟩⟩
      | panic ch => exact hp.elim
      | outgrown => exact hp.elim
    | exit id => exact hp.elim
    | goto t => exact hp.elim
    | ret => exact hp.elim
    | panic chain => exact hp.elim
    | outgrown => exact hp.elim
  · rintro e W2 ⟨⟨v, rfl⟩, (⟨xs, X, hS, hi, ⟨hl, hk⟩, nl, nd⟩ | ⟨pre, X, hSp, c, hi, hl, hk, nl, nd⟩)⟩
    · have hr := run_endLoop (P := P) hl (by rw [hrc]; simp)
      have f4 : Frm (fun k => k ≠ L) W2 (W2.putObj L (.loop { rc .ready none with state := .exhausted })) := Frm.put W2 _ (fun h => h rfl)
      refine ⟨none, W2.putObj L (.loop { rc .ready none with state := .exhausted }), by rw [hrc] at hr ⊢; exact hr, ?_⟩
      have hh := hdone xs X _ hS (hI _ _ _ _ hi (f4.mono fun k _ hk => hk.elim (fun q => by omega) (fun q e => nl (e ▸ q)))) (by rw [← hD]; exact nd) (by rw [← hD]; exact (f4.same D (by have := lt_of hl; omega) (by omega)).trans hk)

      rw [hD]
      exact hh
    · have hr := run_endLoop (P := P) hl (by rw [hrc]; simp)
      have f4 : Frm (fun k => k ≠ L) W2 (W2.putObj L (.loop { rc .done (some c) with state := .exhausted })) := Frm.put W2 _ (fun h => h rfl)
      refine ⟨some c, W2.putObj L (.loop { rc .done (some c) with state := .exhausted }), by rw [hrc] at hr ⊢; exact hr, ?_⟩
      have hh := hstop c pre X _ hSp (hIx _ _ _ _ _ hi (f4.mono fun k _ hk => hk.elim (fun q => by omega) (fun q e => nl (e ▸ q)))) (by rw [← hD]; exact nd) (by rw [← hD]; exact (f4.same D (by have := lt_of hl; omega) (by omega)).trans hk)

      rw [hD]
      exact hh
end Go.Proofs.Ytmjlhmbnaifhaab
