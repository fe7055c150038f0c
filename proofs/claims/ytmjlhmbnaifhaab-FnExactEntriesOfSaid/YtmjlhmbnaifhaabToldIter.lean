/- Helper: the numbers that a sparse square tells, with their places, one after another, of the program. Conditions: none. -/
import Derived.Test.YtmjlhmbnaifhaabRowIter
import Derived.Test.YtmjlhmbnaifhaabTimesRow
set_option linter.unusedVariables false
set_option linter.unusedSimpArgs false
namespace Go.Proofs.Ytmjlhmbnaifhaab
open Go.RowKit Go.Shelf

attribute [local go_sem] Oper.semAt_some

/-- The row of a told number. -/
def rowAt (O : Nat → Int) (t : Nat) : Nat → Nat
  | 0 => 0
  | i + 1 => if O (i + 1) ≤ (t : Int) then i + 1 else rowAt O t i
theorem rowAt_of {O : Nat → Int} {t i : Nat} (h1 : O i ≤ (t : Int)) : ∀ {s : Nat}, i ≤ s → (∀ j, i < j → j ≤ s → (t : Int) < O j) → rowAt O t s = i
  | 0, hi, _ => by show 0 = i; omega
  | s + 1, hi, h => by
    show (if O (s + 1) ≤ (t : Int) then s + 1 else rowAt O t s) = i
    by_cases e : i = s + 1
    · rw [if_pos (by rw [← e]; exact h1)]; exact e.symm
    · rw [if_neg (by have := h (s + 1) (by omega) (Nat.le_refl _); omega)]
      exact rowAt_of h1 (by omega) (fun j h1 h2 => h j h1 (by omega))
/-- The row of a told number, and its column. -/
theorem told_at {s j A m : Nat} {O : Nat → Int} (hso : sortB O s = true) (hj : j < s) (hA : O j = (A : Int)) (hAm : O (j + 1) = ((A + m : Nat) : Int)) {t : Nat} (ht : t < m) : rowAt O (A + t) s = j :=
  rowAt_of (by rw [hA]; omega) (by omega) (fun q h1 h2 => by
    have := sortB_le hso (i := j + 1) (d := q - (j + 1)) (by omega)
    rw [show j + 1 + (q - (j + 1)) = q by omega, hAm] at this
    omega)
/-- Told number t with its place. -/
def toldEnc (O K : Nat → Int) (Z : Nat → Nat) (s t : Nat) : Array Value := #[.agg #[.int .i64 ((rowAt O t s : Nat) : Int), .int .i64 (K t)], .float .f32 (Z t)]
theorem range_split (A x : Nat) : List.range A ++ (List.range x).map (fun t => A + t) = List.range (A + x) := (List.range_add ..).symm
/-- The marks of loops over functions that have ended. -/
def marks (ds : List Nat) : List Deferred := ds.map fun d => { target := .collected d, args := #[] }
theorem leaves_marks {P : Program} {n : Nat} {fn : Func} {tmps : Array Value} {R : Ending → World → Prop} : ∀ (ds : List Nat) (W : World), ds.Nodup → (∀ d, d ∈ ds → W.heap[d]? = some (.deferred (some []))) →
    (∀ W', Frm (fun k => k ∉ ds) W W' → LeavesIn Fence.wide n P fn tmps R [] .returning W') → LeavesInM Fence.wide n P fn tmps R (marks ds) .returning W
  | [], W, _, _, h => h W (Frm.refl _ _)
  | d :: ds, W, hn, hd, h => by
    have hd0 := hd d (List.mem_cons_self ..)
    have hn' := List.nodup_cons.1 hn
    have f : Frm (fun k => k ≠ d) W (W.putObj d (.deferred none)) := Frm.put W _ (fun h => h rfl)
    refine ⟨by simp, .inl ⟨d, _, rfl, run_takeDeferred hd0, leaves_marks ds _ hn'.2 (fun q hq => (f.same q (Array.getElem?_eq_some_iff.1 (hd q (List.mem_cons_of_mem _ hq))).1 (fun e => hn'.1 (e ▸ hq))).trans (hd q (List.mem_cons_of_mem _ hq))) (fun W' f' => h W' ((f.mono fun k _ hk => ?_).trans (f'.mono fun k _ hk => ?_)))⟩⟩
    · intro e; exact hk (e ▸ List.mem_cons_self ..)
    · intro e; exact hk (List.mem_cons_of_mem _ e)

/-- What an iterator over all numbers wants kept: all that lay below n, and one box. -/
def PrT (n Ba k : Nat) : Prop := k < n ∨ k = Ba

/-- Between two rows. -/
def ToldInv (l Ba Yb s n₀ : Nat) (O : Nat → Int) (J : List Nat → (Nat → Prop) → World → Prop) (W : World) (a : Act) (wr : World) : Prop :=
  ∃ (i : Nat) (X : Nat → Prop) (ds : List Nat) (u3 u4 u5 u9 u10 u11 u12 u13 u14 u15 u16 u17 u18 u19 u20 u21 u22 u23 : Value), i ≤ s ∧ a = { tmps := #[.func (.yield l) #[] #[], .pointer (some ⟨Ba, 0, none⟩), .pointer (some ⟨Yb, 0, none⟩), u3, u4, u5, .pointer (some ⟨Ba, 0, none⟩), .int .i64 (s : Int), .int .i64 (i : Int), u9, u10, u11, u12, u13, u14, u15, u16, u17, u18, u19, u20, u21, u22, u23], defers := marks ds } ∧
    J (List.range (O i).toNat) X wr ∧ Frm (PrT n₀ Ba) W wr ∧ Boxed wr Yb 105 (.func (.yield l) #[] #[]) ∧ ¬ X Yb ∧ ds.Nodup ∧ ∀ d, d ∈ ds → wr.heap[d]? = some (.deferred (some [])) ∧ Yb ≤ d ∧ ¬ X d
def toldMu (s : Nat) (a : Act) : Nat := s - (intOf (a.tmps.getD 8 undef)).toNat
set_option maxRecDepth 100000 in
set_option maxHeartbeats 4000000 in
theorem told1_in (n l Ba n₀ s n1 n2 b1 o1 c1 c2 c3 : Nat) (a2 a3 : Option Addr) (O K : Nat → Int) (Z : Nat → Nat) (hn : 4 ≤ n) (hn1 : n1 = s + 1) (hs32 : s ≤ 32) (hn2 : n2 ≤ 512) (h00 : O 0 = 0) (hOs : O s = (n2 : Int)) (hso : sortB O s = true) (hro : rowsB O K s s = true)
    (X0 : Nat → Prop) (J Jx : List Nat → (Nat → Prop) → World → Prop) (W : World)
    (hJ : ∀ pre X A B, J pre X A → Frm (fun k => k < W.heap.size ∨ X k) A B → J pre X B)
    (hJx : ∀ pre X A B, Jx pre X A → Frm (fun k => k < W.heap.size ∨ X k) A B → Jx pre X B)
    (hJX : ∀ pre X A k, J pre X A → X k → k < A.heap.size)
    (hY : ∀ pre x X W1, J pre X W1 → nextR n2 pre x → W.heap.size ≤ W1.heap.size → YieldAt Fence.wide (n - 1) Try.prog l (toldEnc O K Z s x) W1 fun e W' =>
      (e = .returned (.bool true) ∧ ∃ X', J (pre ++ [x]) X' W' ∧ Kept (PrT n₀ Ba) W.heap.size X X' W1 W') ∨ (e = .returned (.bool false) ∧ ∃ X', Jx (pre ++ [x]) X' W' ∧ Kept (PrT n₀ Ba) W.heap.size X X' W1 W'))
    (hn0 : n₀ ≤ W.heap.size) (hla : Ba < W.heap.size) (hBa : BoxL W Ba [.int .i64 (s : Int), .slice (some ⟨b1, o1, none⟩) n1 c1, .slice a2 n2 c2, .slice a3 n2 c3])
    (F1 : ∀ W', Below n₀ W W' → IS .i64 W' (some ⟨b1, o1, none⟩) n1 c1 O) (F2 : ∀ W', Below n₀ W W' → IS .i64 W' a2 n2 c2 K) (F3 : ∀ W', Below n₀ W W' → FS .f32 W' a3 n2 c3 Z) (h0 : J [] X0 W) :
    CallsIn Fence.wide n Try.prog 72 #[.func (.yield l) #[] #[], .pointer (some ⟨Ba, 0, none⟩)] W fun e W' => (∃ v, e = .returned v) ∧
      ((∃ ys X, ys = List.range n2 ∧ J ys X W') ∨ (∃ pre X, (∃ k, k ≤ n2 ∧ pre = List.range k) ∧ Jx pre X W')) := by
  have HR := Lib.hid (fun (i : Nat) (hi : i < s) => sp_row h00 hOs hso hro hi)
  have HSO := Lib.hid hso
  have HOS := Lib.hid hOs
  have HN1 := Lib.hid hn1
  have HY := Lib.hid hY
  have HJ := Lib.hid hJ
  have HJx := Lib.hid hJx
  have HJX := Lib.hid hJX
  have HBa := Lib.hid hBa
  have HF1 := Lib.hid F1
  have HF2 := Lib.hid F2
  have HF3 := Lib.hid F3
  have Hh0 := Lib.hid h0
  have H00 := Lib.hid h00
  have y0 := hBa 0 _ rfl
  clear h00 hOs hso hro hn1 hY hJ hJx hJX hBa F1 F2 F3 h0
  refine callsIn_of_wp_marks Try.func72 rfl trivial ?_ rfl
  simp only [Try.ntmps72, List.size_toArray, List.length_cons, List.length_nil, Nat.reduceAdd, Nat.reduceSub, Array.replicate_succ, Array.replicate_zero, List.push_toArray, List.append_toArray, List.nil_append, List.cons_append]
  gi_wp2
  have HY0 := Boxed.new W 105 (.func (.yield l) #[] #[])
  refine wpIn_loop (ToldInv l Ba W.heap.size s n₀ O J W) (fun a _ => toldMu s a) ⟨0, X0, [], _, _, _, _, _, _, _, _, _, _, _, _, _, _, _, _, _, _, Nat.zero_le _, rfl, ?h0, Frm.alloc _ _ _, HY0, fun h => Nat.lt_irrefl _ (HJX.out _ _ _ _ Hh0.out h), List.nodup_nil, fun d hd => by cases hd⟩ ?round
  case h0 =>
    rw [H00.out]
    exact HJ.out _ _ _ _ Hh0.out (Frm.alloc _ _ _)
  case round =>
    rintro a wr ⟨i, X, ds, u3, u4, u5, u9, u10, u11, u12, u13, u14, u15, u16, u17, u18, u19, u20, u21, u22, u23, hi, rfl, hj, hf, hy, hxy, hnd, hds⟩
    have hbl : Below n₀ W wr := hf.below hn0 (fun k hk => .inl hk)
    have hbx := hf.boxL hla (.inr rfl) HBa.out
    have HBX := Lib.hid hbx
    have HJ1 := Lib.hid hj
    have Hf := Lib.hid hf
    have HYB := Lib.hid hy
    have HDS := Lib.hid hds
    have HXY := Lib.hid hxy
    have q0 := hbx 0 _ rfl
    have q1 := hbx 1 _ rfl
    have q2 := hbx 2 _ rfl
    have q3 := hbx 3 _ rfl
    clear hbx hj hf hy hds y0 HY0 hxy
    by_cases hlt : i < s
    · obtain ⟨A, m, hA, hAm, hAn, hcol⟩ := HR.out i hlt
      have hlaw : Ba < wr.heap.size := Nat.lt_of_lt_of_le hla Hf.out.size
      have hYB := HYB.out.lt
      have h1n : 1 ≤ n := by omega
      have HA := Lib.hid hA
      have HAM := Lib.hid hAm
      have HRA := Lib.hid (fun (x : Nat) (hx : x < m) => told_at HSO.out hlt hA hAm hx)
      clear hA hAm hcol
      gi_wp2_with fail
      refine ⟨trivial, ?_⟩
      have fa : Frm (fun _ => True) wr (wr.alloc (.cells #[.int .i64 (i : Int)] 2)) := Frm.alloc _ _ _
      have sa : (wr.alloc (.cells #[.int .i64 (i : Int)] 2)).heap.size = wr.heap.size + 1 := by simp
      have ra := Boxed.new wr 2 (.int .i64 (i : Int))
      generalize wr.alloc (.cells #[.int .i64 (i : Int)] 2) = w0 at fa sa ra ⊢
      gi_at_call 45
      refine (callsIn_wide.2 (inRow_any _ _ _ _ _ _ rfl rfl rfl rfl)).mono ?_
      rintro e w1 ⟨rfl, X1, R1, S1, b1'⟩
      gi_wp2_with fail
      rw [sa] at X1 R1 S1
      have f01 : Frm (fun _ => True) w0 w1 := Frm.of_below b1' _
      have fr1 : Frm (fun _ => True) wr w1 := fa.trans f01
      have RB : Boxed w1 wr.heap.size 2 (.int .i64 (i : Int)) := (f01.same _ ra.lt trivial).trans ra
      have YB : Boxed w1 W.heap.size 105 (.func (.yield l) #[] #[]) := (fr1.same _ HYB.out.lt trivial).trans HYB.out
      have fW1 : Frm (PrT n₀ Ba) W w1 := Hf.out.trans (fr1.mono fun _ _ _ => trivial)
      have bW1 : Below n₀ W w1 := fW1.below hn0 (fun k hk => .inl hk)
      have J1 : J (List.range A) X w1 := by
        have := HJ.out _ _ _ _ HJ1.out (fr1.mono fun _ _ _ => trivial)
        rwa [HA.out, Int.toNat_natCast] at this
      have XB1 : ∀ k, X k → k < wr.heap.size := fun k hk => HJX.out _ _ _ _ HJ1.out hk
      have MK : ∀ d, d ∈ ds → w1.heap[d]? = some (.deferred (some [])) ∧ W.heap.size ≤ d ∧ ¬ X d ∧ d < w1.heap.size := fun d hd => by
        obtain ⟨g1, g2, g3⟩ := HDS.out d hd
        have g4 := (Array.getElem?_eq_some_iff.1 g1).1
        exact ⟨(fr1.same d g4 trivial).trans g1, g2, g3, by omega⟩
      have HMK := Lib.hid MK
      have HJ1' := Lib.hid J1
      clear b1' ra fa f01 hbl q0 q1 q2 q3 MK J1
      refine wpIn_rangeF (n := n) rfl (enters_of Try.func69 (by kernel_rfl) rfl)
        (inRow_seqF (n - 1) (wr.heap.size + 1) (wr.heap.size + 1 + 1) n₀ s A m n1 n2 b1 o1 c1 c2 c3 i a2 a3 O K Z (by omega) (by have := HN1.out; omega) (by have := HN1.out; omega) HA.out HAM.out hAn hn2 w1 (by omega) (by omega) (by omega) X1 R1 (fun W' hb => HF1.out W' (bW1.trans hb)) (fun W' hb => HF2.out W' (bW1.trans hb)) (fun W' hb => HF3.out W' (bW1.trans hb)))
        (Below.refl _ _) (fun k hk => by have := Hf.out.size; rcases hk with h | h | h <;> omega) (fun _ => rfl)
        (fun pre X2 W2 => J (List.range A ++ pre.map (fun t => A + t)) X2 W2 ∧ Frm (fun k => PrT n₀ Ba k ∨ (W.heap.size ≤ k ∧ k < w1.heap.size ∧ ¬ X k)) w1 W2 ∧ ∀ k, k < w1.heap.size → X2 k → X k)
        (fun c pre X2 W2 => c = .ret ∧ Jx (List.range A ++ pre.map (fun t => A + t)) X2 W2 ∧ Frm (fun k => PrT n₀ Ba k ∨ (W.heap.size ≤ k ∧ k < w1.heap.size ∧ ¬ X k)) w1 W2 ∧ ∀ k, k < w1.heap.size → X2 k → X k)
        ?hI ?hIx (fun pre X2 A2 k h hk => HJX.out _ _ _ _ h.1 hk) X ⟨by rw [List.map_nil, List.append_nil]; exact HJ1'.out, Frm.refl _ _, fun _ _ h => h⟩ ?round ?done ?stop
      case hI =>
        rintro pre X2 A2 B2 ⟨g1, g2, g3⟩ hfr
        refine ⟨HJ.out _ _ _ _ g1 (hfr.mono fun k _ hk => ?_), g2.trans (hfr.mono fun k _ hk => ?_), g3⟩
        · rcases hk with h | h
          · exact .inl (by have := fW1.size; omega)
          · exact .inr h
        · have := fW1.size
          rcases hk with (h | h) | ⟨_, h, _⟩
          · exact .inl (by omega)
          · exact .inl (by omega)
          · exact .inl h
      case hIx =>
        rintro c pre X2 A2 B2 ⟨g0, g1, g2, g3⟩ hfr
        refine ⟨g0, HJx.out _ _ _ _ g1 (hfr.mono fun k _ hk => ?_), g2.trans (hfr.mono fun k _ hk => ?_), g3⟩
        · rcases hk with h | h
          · exact .inl (by have := fW1.size; omega)
          · exact .inr h
        · have := fW1.size
          rcases hk with (h | h) | ⟨_, h, _⟩
          · exact .inl (by omega)
          · exact .inl (by omega)
          · exact .inl h
      case round =>
        rintro l2 pre x X2 W2 hl2 ⟨g1, g2, g3⟩ ⟨hpre, hxm⟩ hlW hnl K' hK
        simp only [rowEnc]
        have G1 := Lib.hid g1
        have G2 := Lib.hid g2
        have G3 := Lib.hid g3
        have HPRE := Lib.hid hpre
        clear g1 g2 g3 hpre
        gi_wp2
        refine hK _ _ (Frm.refl _ _) (fun w₂ f₂ => ?_)
        clear hK
        have sW := fW1.size
        have f12 : Frm (fun k => PrT n₀ Ba k ∨ (W.heap.size ≤ k ∧ k < w1.heap.size ∧ ¬ X k)) w1 w₂ := G2.out.trans (f₂.mono fun k _ hk => by
          rcases hk with (h | h) | ⟨_, h, _⟩ <;> omega)
        have J2 : J (List.range A ++ pre.map (fun t => A + t)) X2 w₂ := HJ.out _ _ _ _ G1.out (f₂.mono fun k _ hk => by
          rcases hk with h | h
          · omega
          · intro e; exact hnl (e ▸ h))
        have hnY : ¬ X W.heap.size := HXY.out
        have hnR : ¬ X wr.heap.size := fun h => by have := XB1 _ h; omega
        have BY : Boxed w₂ W.heap.size 105 (.func (.yield l) #[] #[]) := (f12.same _ YB.lt (.inr ⟨Nat.le_refl _, YB.lt, hnY⟩)).trans YB
        have BR : Boxed w₂ wr.heap.size 2 (.int .i64 (i : Int)) := (f12.same _ RB.lt (.inr ⟨by have := Hf.out.size; omega, RB.lt, hnR⟩)).trans RB
        have cy := BY.cell
        have cr := BR.cell
        obtain ⟨fn, tmps, assign, body, hy, hR⟩ := HY.out _ (A + x) X2 w₂ J2 ⟨by rw [HPRE.out, range_split], by omega⟩ (by have := f12.size; omega)
        have hT : toldEnc O K Z s (A + x) = #[.agg #[.int .i64 (i : Int), .int .i64 (K (A + x))], .float .f32 (Z (A + x))] := by unfold toldEnc; rw [HRA.out x hxm]
        rw [hT] at hy
        have HRR := Lib.hid (roundIn_any (m' := n - 1 - 1 - 1) (l' := l2) (hR.mono (R' := fun e W' => ∃ b : Bool, e = .returned (.bool b) ∧ RowYN (PrT n₀ Ba) W.heap.size J Jx X2 (List.range A ++ pre.map (fun t => A + t) ++ [A + x]) w₂ b W') fun e W' hh => by
          rcases hh with ⟨rfl, h⟩ | ⟨rfl, h⟩
          · exact ⟨true, rfl, .inl ⟨rfl, h⟩⟩
          · exact ⟨false, rfl, .inr ⟨rfl, h⟩⟩))
        generalize K (A + x) = kq at hy ⊢
        generalize Z (A + x) = zq at hy ⊢
        have hd1 : 1 ≤ n - 1 - 1 := by omega
        clear hT hR J2
        gi_wp2
        refine HRR.out.mono ?_
        rintro e W3 ⟨bq, rfl, hYN⟩
        rcases hYN with ⟨rfl, X3, hJ3, hk3⟩ | ⟨rfl, X3, hJx3, hk3⟩
        · have KP : Kept (PrS n₀ (wr.heap.size + 1) (wr.heap.size + 1 + 1)) w1.heap.size X2 X3 w₂ W3 := ⟨hk3.frm.mono fun k _ hk => (by
              have := Hf.out.size
              rcases hk with (h | h | h) | ⟨h, h'⟩
              · exact .inl (.inl h)
              · exact .inr ⟨by omega, fun q => by have := XB1 k (G3.out k (by omega) q); omega⟩
              · exact .inr ⟨by omega, fun q => by have := XB1 k (G3.out k (by omega) q); omega⟩
              · exact .inr ⟨by omega, h'⟩), hk3.new⟩
          have I1 : Hid (J (List.range A ++ (pre ++ [x]).map (fun t => A + t)) X3 W3) := Lib.hid (by rw [List.map_append, ← List.append_assoc]; exact hJ3)
          have I2 : Hid (Frm (fun k => PrT n₀ Ba k ∨ (W.heap.size ≤ k ∧ k < w1.heap.size ∧ ¬ X k)) w1 W3) := Lib.hid (f12.trans (hk3.frm.mono fun k _ hk => (by
              rcases hk with h | ⟨h, h1, h2⟩
              · exact .inl h
              · exact .inr ⟨h, fun q => h2 (G3.out k h1 q)⟩)))
          have I3 : Hid (∀ k, k < w1.heap.size → X3 k → X k) := Lib.hid fun k hk h => G3.out k hk (hk3.new k (by have := f12.size; omega) h)
          have HKP := Lib.hid KP
          clear KP hJ3 hk3
          gi_wp2
          exact ⟨X3, ⟨I1.out, I2.out, I3.out⟩, HKP.out⟩
        · have KP : Kept (PrS n₀ (wr.heap.size + 1) (wr.heap.size + 1 + 1)) w1.heap.size X2 X3 w₂ W3 := ⟨hk3.frm.mono fun k _ hk => (by
              have := Hf.out.size
              rcases hk with (h | h | h) | ⟨h, h'⟩
              · exact .inl (.inl h)
              · exact .inr ⟨by omega, fun q => by have := XB1 k (G3.out k (by omega) q); omega⟩
              · exact .inr ⟨by omega, fun q => by have := XB1 k (G3.out k (by omega) q); omega⟩
              · exact .inr ⟨by omega, h'⟩), hk3.new⟩
          have I1 : Hid (Jx (List.range A ++ (pre ++ [x]).map (fun t => A + t)) X3 W3) := Lib.hid (by rw [List.map_append, ← List.append_assoc]; exact hJx3)
          have I2 : Hid (Frm (fun k => PrT n₀ Ba k ∨ (W.heap.size ≤ k ∧ k < w1.heap.size ∧ ¬ X k)) w1 W3) := Lib.hid (f12.trans (hk3.frm.mono fun k _ hk => (by
              rcases hk with h | ⟨h, h1, h2⟩
              · exact .inl h
              · exact .inr ⟨h, fun q => h2 (G3.out k h1 q)⟩)))
          have I3 : Hid (∀ k, k < w1.heap.size → X3 k → X k) := Lib.hid fun k hk h => G3.out k hk (hk3.new k (by have := f12.size; omega) h)
          have HKP := Lib.hid KP
          clear KP hJx3 hk3
          gi_wp2
          exact ⟨X3, ⟨rfl, I1.out, I2.out, I3.out⟩, HKP.out⟩
      case done =>
        rintro xs X2 W2 rfl ⟨g1, g2, g3⟩ hnX hD
        have sW := fW1.size
        have K1 : Hid (J (List.range (O (i + 1)).toNat) X2 W2) := Lib.hid (by rw [range_split] at g1; rw [HAM.out, Int.toNat_natCast]; exact g1)
        have K2 : Hid (Frm (PrT n₀ Ba) W W2) := Lib.hid (fW1.trans (g2.mono fun k _ hk => .inl hk))
        have K3 : Hid (Boxed W2 W.heap.size 105 (.func (.yield l) #[] #[])) := Lib.hid ((g2.same _ YB.lt (.inr ⟨Nat.le_refl _, YB.lt, HXY.out⟩)).trans YB)
        have K4 : Hid (¬ X2 W.heap.size) := Lib.hid fun h => HXY.out (g3 _ YB.lt h)
        have K5 : Hid ((w1.heap.size :: ds).Nodup) := Lib.hid (List.nodup_cons.2 ⟨fun h => by have := (HMK.out _ h).2.2.2; omega, hnd⟩)
        have K6 : Hid (∀ d, d ∈ w1.heap.size :: ds → W2.heap[d]? = some (.deferred (some [])) ∧ W.heap.size ≤ d ∧ ¬ X2 d) := Lib.hid fun d hd => by
          rcases List.mem_cons.1 hd with e | e
          · subst e; exact ⟨hD, sW, hnX⟩
          · obtain ⟨m1, m2, m3, m4⟩ := HMK.out d e
            exact ⟨(g2.same d m4 (.inr ⟨m2, m4, m3⟩)).trans m1, m2, fun h => m3 (g3 d m4 h)⟩
        have HD := Lib.hid hD
        clear g1 g2 g3 hnX hD
        gi_wp2
        refine ⟨⟨i + 1, X2, w1.heap.size :: ds, _, _, _, _, _, _, _, _, _, _, _, _, _, _, _, _, _, _, by omega, rfl, K1.out, K2.out, K3.out, K4.out, K5.out, K6.out⟩, ?_⟩
        unfold toldMu
        simp [intOf]
        omega
      case stop =>
        rintro c pre X2 W2 ⟨k, hk, rfl⟩ ⟨rfl, g1, g2, g3⟩ g4 hD
        have sW := fW1.size
        have K1 : Hid (Jx (List.range (A + k)) X2 W2) := Lib.hid (by rw [range_split] at g1; exact g1)
        have K5 : Hid ((w1.heap.size :: ds).Nodup) := Lib.hid (List.nodup_cons.2 ⟨fun h => by have := (HMK.out _ h).2.2.2; omega, hnd⟩)
        have K6 : Hid (∀ d, d ∈ w1.heap.size :: ds → W2.heap[d]? = some (.deferred (some [])) ∧ W.heap.size ≤ d ∧ ¬ X2 d) := Lib.hid fun d hd => by
          rcases List.mem_cons.1 hd with e | e
          · subst e; exact ⟨hD, sW, g4⟩
          · obtain ⟨m1, m2, m3, m4⟩ := HMK.out d e
            exact ⟨(g2.same d m4 (.inr ⟨m2, m4, m3⟩)).trans m1, m2, fun h => m3 (g3 d m4 h)⟩
        clear g1 g2 g3 g4 hD
        gi_wp2
        refine leaves_marks (w1.heap.size :: ds) W2 K5.out (fun d hd => (K6.out d hd).1) (fun W' f' => ⟨_, results_none rfl _ _ _, ⟨_, rfl⟩, .inr ⟨_, X2, ⟨A + k, by omega, rfl⟩, HJx.out _ _ _ _ K1.out (f'.mono fun q _ hq hm => ?_)⟩⟩)
        obtain ⟨_, m2, m3⟩ := K6.out q hm
        rcases hq with h | h
        · omega
        · exact m3 h
    · obtain rfl : i = s := by omega
      gi_wp2_with fail
      refine leaves_marks ds wr hnd (fun d hd => (HDS.out d hd).1) (fun W' f' => ⟨_, results_none rfl _ _ _, ⟨_, rfl⟩, .inl ⟨_, X, rfl, ?_⟩⟩)
      have hj := HJ1.out
      rw [HOS.out, Int.toNat_natCast] at hj
      refine HJ.out _ _ _ _ hj (f'.mono fun q _ hq hm => ?_)
      obtain ⟨_, m2, m3⟩ := HDS.out q hm
      rcases hq with h | h
      · omega
      · exact m3 h
/-- What toldNumbers hands back tells all numbers, one after another. -/
theorem told_seqF (n Ba n₀ s n1 n2 b1 o1 c1 c2 c3 : Nat) (a2 a3 : Option Addr) (O K : Nat → Int) (Z : Nat → Nat) (hn : 4 ≤ n) (hn1 : n1 = s + 1) (hs32 : s ≤ 32) (hn2 : n2 ≤ 512) (h00 : O 0 = 0) (hOs : O s = (n2 : Int)) (hso : sortB O s = true) (hro : rowsB O K s s = true)
    (w : World) (hn0 : n₀ ≤ w.heap.size) (hla : Ba < w.heap.size) (hBa : BoxL w Ba [.int .i64 (s : Int), .slice (some ⟨b1, o1, none⟩) n1 c1, .slice a2 n2 c2, .slice a3 n2 c3])
    (F1 : ∀ W', Below n₀ w W' → IS .i64 W' (some ⟨b1, o1, none⟩) n1 c1 O) (F2 : ∀ W', Below n₀ w W' → IS .i64 W' a2 n2 c2 K) (F3 : ∀ W', Below n₀ w W' → FS .f32 W' a3 n2 c3 Z) :
    SeqF n Try.prog 72 #[.pointer (some ⟨Ba, 0, none⟩)] (toldEnc O K Z s) (PrT n₀ Ba) (fun ys => ys = List.range n2) (fun pre => ∃ k, k ≤ n2 ∧ pre = List.range k) (nextR n2) w :=
  fun l J Jx X0 W hW hJ hJx hJX hY h0 =>
    told1_in n l Ba n₀ s n1 n2 b1 o1 c1 c2 c3 a2 a3 O K Z hn hn1 hs32 hn2 h00 hOs hso hro X0 J Jx W hJ hJx hJX hY (Nat.le_trans hn0 hW.size) (Nat.lt_of_lt_of_le hla hW.size)
      (hBa.below hW hla) (fun W' hb => F1 W' ((hW.mono hn0).trans hb)) (fun W' hb => F2 W' ((hW.mono hn0).trans hb)) (fun W' hb => F3 W' ((hW.mono hn0).trans hb)) h0
theorem toldNumbers_any (v0 v1 v2 v3 : Value) (w : World) (o0 : v0.oneCell' = true) (o1 : v1.oneCell' = true) (o2 : v2.oneCell' = true) (o3 : v3.oneCell' = true) :
    Calls Try.prog 57 #[.agg #[v0, v1, v2, v3]] w fun e w' => e = .returned (.func (.func 72) #[] #[.pointer (some ⟨w.heap.size, 0, none⟩)]) ∧
      BoxL w' w.heap.size [v0, v1, v2, v3] ∧ w'.heap.size = w.heap.size + 1 ∧ Below w.heap.size w w' := by
  go_enter Try.func57, Try.ntmps57
  go_wp2
  go_ret
  exact ⟨rfl, BoxL.four (by simp [go_sem]) (by simp [go_sem]) (by simp [go_sem]) (by simp [go_sem]), by simp, (by repeat first | (with_reducible exact Below.refl _ _) | (with_reducible refine Below.setCell ?_ (by first | exact Nat.le_refl _ | (simp; done) | (simp; omega) | omega) _) | (with_reducible refine Below.alloc ?_ (by first | exact Nat.le_refl _ | (simp; done) | (simp; omega) | omega) _) | (with_reducible refine below_drewN ?_ _) | (with_reducible refine Below.drew ?_))⟩
end Go.Proofs.Ytmjlhmbnaifhaab
