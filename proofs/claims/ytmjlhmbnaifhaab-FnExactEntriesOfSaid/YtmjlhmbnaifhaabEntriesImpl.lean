/- Helper: all numbers of a sparse square as entries, of the program. Conditions: none. -/
import Derived.Test.YtmjlhmbnaifhaabToldIter
import Derived.Test.YtmjlhmbnaifhaabEntries
import Derived.Deep.AppendLies
set_option linter.unusedVariables false
set_option linter.unusedSimpArgs false
namespace Go.Proofs.Ytmjlhmbnaifhaab
open Go.RowKit Go.Shelf

attribute [local go_sem] Oper.semAt_some

theorem wpListIn_append_lies {F : Fence} {n : Nat} {P : Program} (w : World) {ops : Array Oper} {rest : List Oper} {o : Oper} {a : Act} {Q : Exit → Act → World → Prop}
    (hg : o.guard = none) (s x : Operand) (t : TypeId) (hop : o.op = Op.call { callee := Callee.builtin Builtin.append, args := #[s, x], argTypes := #[t, t] })
    (base : Nat) (e : TypeId) (i : TypeInfo) (z : Value) (size bytes : Nat) (h1 : P.underlying t = some (.slice e)) (h2 : P.info? e = some i) (h3 : i.zero = some z) (h4 : i.size = size) (h5 : i.bytes = bytes) (h6 : z.cells.size = size) (h7 : 0 < size)
    (v : Value) (k : Nat) (xs : List Value) (hs : a.eval s = v) (hown : w.ownsRow base e size v k xs) (ad : Addr) (m c : Nat) (news : List Value) (hx : a.eval x = .slice (some ad) m c) (hn : news.length = m * size)
    (hc : ∀ j u, news[j]? = some u → w.cell? (ad.add j) = some u) (h1c : ∀ u ∈ news, u.oneCell' = true) (b1 : k + m ≤ maxLen) (b2 : (k + m) * bytes ≤ 140737488355328) (b3 : base ≤ w.heap.size)
    (hK : ∀ v' w', w'.ownsRow base e size v' (k + m) (xs ++ news) → w.grownBy w' v.ownBlock → (v'.ownBlock = v.ownBlock ∨ v'.ownBlock = some w.heap.size) → wpListIn F n P ops Q rest (a.put o.dst v') w') :
    wpListIn F n P ops Q (o :: rest) a w := by
  refine wpListIn_plain hg fun K hK' => ?_
  obtain ⟨v', w', hrun, r1, r2, _, r3⟩ := run_append_own_at (P := P) w base t o.type e i z size bytes h1 h2 h3 h4 h5 h6 h7 v k xs hown ad m c news hn hc h1c b1 b2 b3
  unfold Oper.wpIn
  refine ⟨?_, ?_⟩
  · simp [Oper.about, hop, resolve, Target.leads, Sem.run_pure]
  · rw [Oper.semAt_plain F _ _ (by rw [hop]; intro c hc'; cases hc')]
    simp [execOp, hop, resolve, invoke, builtin, hs, hx, hrun, Result.andThen]
    exact hK' _ _ (hK v' w' r1 r2 r3)
/-- The cells of so many entries. -/
def flatE (R C : Nat → Int) (Z : Nat → Nat) : Nat → List Value
  | 0 => []
  | t + 1 => flatE R C Z t ++ [.int .i64 (R t), .int .i64 (C t), .float .f32 (Z t)]
theorem flatE_len (R C : Nat → Int) (Z : Nat → Nat) : ∀ n, (flatE R C Z n).length = n * 3
  | 0 => rfl
  | n + 1 => by
    show (flatE R C Z n ++ _).length = _
    rw [List.length_append, flatE_len R C Z n]
    show n * 3 + 3 = _
    omega
theorem flatE_at (R C : Nat → Int) (Z : Nat → Nat) : ∀ {n j : Nat}, j < n * 3 → (flatE R C Z n)[j]? = some (entX R C Z j)
  | 0, j, h => by omega
  | n + 1, j, h => by
    show (flatE R C Z n ++ _)[j]? = _
    have hl := flatE_len R C Z n
    by_cases h1 : j < n * 3
    · rw [List.getElem?_append_left (by omega)]
      exact flatE_at R C Z h1
    · rw [List.getElem?_append_right (by omega), hl]
      obtain e | e | e : j = n * 3 ∨ j = n * 3 + 1 ∨ j = n * 3 + 2 := by omega
      · subst e; rw [entX_0, Nat.sub_self]; rfl
      · subst e; rw [entX_1, show n * 3 + 1 - n * 3 = 1 by omega]; rfl
      · subst e; rw [entX_2, show n * 3 + 2 - n * 3 = 2 by omega]; rfl
theorem ownE_of {T : TypeId} {B : Nat} {w : World} {v : Value} {n : Nat} {R C : Nat → Int} {Z : Nat → Nat} (h : w.ownsRow B T 3 v n (flatE R C Z n)) : ∃ a c, v = .slice a n c ∧ OwnE T B w.heap.size w a n c (entX R C Z) := by
  have h0 := h
  rcases h.2 with ⟨rfl, rfl⟩ | ⟨g, cap, cur, rfl, hb, hgg, h1, h2, _⟩
  · exact ⟨none, 0, rfl, .inl ⟨rfl, rfl, rfl⟩⟩
  · exact ⟨_, cap, rfl, .inr ⟨g, _, rfl, h1, h2, hb, (Array.getElem?_eq_some_iff.1 hgg).1, Nat.le_refl _, h0, fun j hj => flatE_at R C Z hj⟩⟩
/-- A row of entries in memory of its own, and whether it is told. -/
def EntBel (ok : Bool) (n : Nat) (X : Nat → Value) (w : World) (e : Ending) (w' : World) : Prop :=
  ∃ a c, e = .returned (.tuple #[.slice a n c, .bool ok]) ∧ OwnE 89 w.heap.size w'.heap.size w' a n c X ∧ Below w.heap.size w w'
theorem infoEnt : (Try.prog.info? 89).map (fun i => (i.zero, i.size, i.bytes)) = some (some (.agg #[.int .i64 0, .int .i64 0, .float .f32 0]), 3, 24) := by kernel_rfl
theorem implEntries_no (S : Int) (a1 a2 a3 : Option Addr) (n1 c1 n2 c2 n3 c3 : Nat) (O K : Nat → Int) (Z : Nat → Nat) (X : Nat → Value) (w : World) (hn1 : n1 ≤ 1048576) (hn2 : n2 ≤ 1048576) (hn3 : n3 ≤ 1048576) (h1 : IS .i64 w a1 n1 c1 O) (h2 : IS .i64 w a2 n2 c2 K) (h3 : FS .f32 w a3 n3 c3 Z) (hno : spB S n1 n2 n3 O K (vals Z) = false) :
    Calls Try.prog 30 #[.agg #[.int .i64 S, .slice a1 n1 c1, .slice a2 n2 c2, .slice a3 n3 c3]] w (EntBel false 0 X w) := by
  have B0 : Below w.heap.size w (w.alloc (.cells #[.int .i64 S, .slice a1 n1 c1, .slice a2 n2 c2, .slice a3 n3 c3] 30)) := (by repeat first | (with_reducible exact Below.refl _ _) | (with_reducible refine Below.setCell ?_ (by first | exact Nat.le_refl _ | (simp; done) | (simp; omega) | omega) _) | (with_reducible refine Below.alloc ?_ (by first | exact Nat.le_refl _ | (simp; done) | (simp; omega) | omega) _) | (with_reducible refine below_drewN ?_ _) | (with_reducible refine Below.drew ?_))
  have HNO := Lib.hid hno
  clear hno
  go_enter Try.func30, Try.ntmps30
  go_wp2_with fail
  go_at_call 43
  refine (implSp_any S a1 a2 a3 n1 c1 n2 c2 n3 c3 O K Z _ hn1 hn2 hn3 (h1.below B0 (Nat.le_refl _)) (h2.below B0 (Nat.le_refl _)) (h3.below B0 (Nat.le_refl _))).mono ?_
  rw [HNO.out]
  rintro e w1 ⟨rfl, b1⟩
  have B1 := B0.trans (b1.mono B0.size)
  go_wp2_with fail
  go_ret2
  exact ⟨none, 0, rfl, .inl ⟨rfl, rfl, rfl⟩, B1⟩
set_option maxRecDepth 100000 in
set_option maxHeartbeats 4000000 in
theorem implEntries_any (s n1 n2 b1 o1 c1 c2 c3 : Nat) (a2 a3 : Option Addr) (O K : Nat → Int) (Z : Nat → Nat) (w : World) (hs1 : 1 ≤ s) (hs : s ≤ 32) (hn1 : n1 = s + 1) (hn2 : n2 ≤ 512) (h00 : O 0 = 0) (hOs : O s = (n2 : Int)) (hso : sortB O s = true) (hro : rowsB O K s s = true) (hok : spB s n1 n2 n2 O K (vals Z) = true)
    (h1 : IS .i64 w (some ⟨b1, o1, none⟩) n1 c1 O) (h2 : IS .i64 w a2 n2 c2 K) (h3 : FS .f32 w a3 n2 c3 Z) :
    Calls Try.prog 30 #[.agg #[.int .i64 (s : Int), .slice (some ⟨b1, o1, none⟩) n1 c1, .slice a2 n2 c2, .slice a3 n2 c3]] w (EntBel true n2 (entX (fun t => (rowAt O t s : Int)) K Z) w) := by
  obtain ⟨i0, hi, hz0, hz1, hz2⟩ := info_parts infoEnt
  have H00 := Lib.hid h00
  have HOS := Lib.hid hOs
  have HSO := Lib.hid hso
  have HRO := Lib.hid hro
  have HN1 := Lib.hid hn1
  have HOK := Lib.hid hok
  have hn1b : n1 ≤ 1048576 := by omega
  have B0 : Below w.heap.size w (w.alloc (.cells #[.int .i64 (s : Int), .slice (some ⟨b1, o1, none⟩) n1 c1, .slice a2 n2 c2, .slice a3 n2 c3] 30)) := (by repeat first | (with_reducible exact Below.refl _ _) | (with_reducible refine Below.setCell ?_ (by first | exact Nat.le_refl _ | (simp; done) | (simp; omega) | omega) _) | (with_reducible refine Below.alloc ?_ (by first | exact Nat.le_refl _ | (simp; done) | (simp; omega) | omega) _) | (with_reducible refine below_drewN ?_ _) | (with_reducible refine Below.drew ?_))
  have X0 : BoxL (w.alloc (.cells #[.int .i64 (s : Int), .slice (some ⟨b1, o1, none⟩) n1 c1, .slice a2 n2 c2, .slice a3 n2 c3] 30)) w.heap.size [.int .i64 (s : Int), .slice (some ⟨b1, o1, none⟩) n1 c1, .slice a2 n2 c2, .slice a3 n2 c3] := BoxL.four (by simp [go_sem]) (by simp [go_sem]) (by simp [go_sem]) (by simp [go_sem])
  clear h00 hOs hso hro hn1 hok
  refine (callsIn_wide (n := 9)).1 ?_
  refine callsIn_of_wp_marks Try.func30 rfl trivial ?_ rfl
  simp only [Try.ntmps30, List.size_toArray, List.length_cons, List.length_nil, Nat.reduceAdd, Nat.reduceSub, Array.replicate_succ, Array.replicate_zero, List.push_toArray, List.append_toArray, List.nil_append, List.cons_append]
  gi_wp2_with fail
  refine ⟨trivial, ?_⟩
  gi_at_call 43
  refine (callsIn_wide.2 (implSp_any s _ a2 a3 n1 c1 n2 c2 n2 c3 O K Z _ hn1b (by omega) (by omega) (h1.below B0 (Nat.le_refl _)) (h2.below B0 (Nat.le_refl _)) (h3.below B0 (Nat.le_refl _)))).mono ?_
  rw [HOK.out]
  rintro e w1 ⟨rfl, b1'⟩
  have B1 := B0.trans (b1'.mono B0.size)
  have X1 := X0.below b1' (by simp)
  have s1 : w.heap.size < w1.heap.size := by have := b1'.size; simp at this; omega
  have x0 := X1 0 _ rfl
  have x1 := X1 1 _ rfl
  have x2 := X1 2 _ rfl
  have x3 := X1 3 _ rfl
  clear X0 B0 b1'
  gi_wp2_with fail
  refine ⟨trivial, ?_⟩
  have f2 : Below w1.heap.size w1 (w1.alloc (.cells #[.slice none 0 0] 50)) := (by repeat first | (with_reducible exact Below.refl _ _) | (with_reducible refine Below.setCell ?_ (by first | exact Nat.le_refl _ | (simp; done) | (simp; omega) | omega) _) | (with_reducible refine Below.alloc ?_ (by first | exact Nat.le_refl _ | (simp; done) | (simp; omega) | omega) _) | (with_reducible refine below_drewN ?_ _) | (with_reducible refine Below.drew ?_))
  have s2 : (w1.alloc (.cells #[.slice none 0 0] 50)).heap.size = w1.heap.size + 1 := by simp
  have T2 := Boxed.new w1 50 (.slice none 0 0)
  generalize w1.alloc (.cells #[.slice none 0 0] 50) = w2 at f2 s2 T2 ⊢
  gi_at_call 57
  refine (callsIn_wide.2 (toldNumbers_any _ _ _ _ _ rfl rfl rfl rfl)).mono ?_
  rintro e w3 ⟨rfl, X3, S3, b3⟩
  gi_wp2_with fail
  rw [s2] at X3 S3
  have B3 := (B1.trans (f2.mono B1.size)).trans (b3.mono (by have := B1.size; omega))
  have T3 : Boxed w3 w1.heap.size 50 (.slice none 0 0) := T2.kept (below_grew b3) (fun h => by cases h)
  clear x0 x1 x2 x3 X1 T2 f2 b3 B1
  have sB := B3.size
  have s13 : w1.heap.size + 1 < w3.heap.size := by omega
  clear S3
  refine wpIn_rangeF (n := 9) rfl (enters_of Try.func72 (by kernel_rfl) rfl)
    (told_seqF 8 (w1.heap.size + 1) w.heap.size s n1 n2 b1 o1 c1 c2 c3 a2 a3 O K Z (by omega) HN1.out hs hn2 H00.out HOS.out HSO.out HRO.out w3 (by omega) (by omega) X3 (fun W' hb => h1.below (B3.trans hb) (Nat.le_refl _)) (fun W' hb => h2.below (B3.trans hb) (Nat.le_refl _)) (fun W' hb => h3.below (B3.trans hb) (Nat.le_refl _)))
    (Below.refl _ _) (fun k hk => by rcases hk with h | h <;> omega) (fun _ => rfl)
    (fun pre X W => ∃ v, Boxed W w1.heap.size 50 v ∧ W.ownsRow w3.heap.size 89 3 v pre.length (flatE (fun t => (rowAt O t s : Int)) K Z pre.length) ∧ (∀ k, X k ↔ v.ownBlock = some k) ∧ Frm (fun k => k < w3.heap.size ∧ k ≠ w1.heap.size) w3 W)
    (fun _ _ _ _ => False)
    (fun pre X A B h hf => by
      obtain ⟨v, hq, ho, hx, hw⟩ := h
      exact ⟨v, (hf.same _ hq.lt (.inl (by omega))).trans hq, ownsRow_blk ho (fun g hg => hf.same g (ho.lt g hg).2 (.inr ((hx g).2 hg))), hx, hw.trans (hf.mono fun k _ hk => .inl hk.1)⟩)
    (fun _ _ _ _ _ h _ => h)
    (fun pre X A k h hk => by
      obtain ⟨v, hq, ho, hx, hw⟩ := h
      exact (ho.lt k ((hx k).1 hk)).2) (fun _ => False) ⟨_, T3, World.ownsRow_nil _ _ _ _, fun k => ⟨fun h => h.elim, fun h => by cases h⟩, Frm.refl _ _⟩ ?round ?done ?stop
  case round =>
    rintro l pre x X W hl ⟨v, hq, ho, hX, hf⟩ ⟨hpre, hxm⟩ hlW hnl K' hK
    simp only [toldEnc]
    have HQ := Lib.hid hq
    have HO := Lib.hid ho
    have HF := Lib.hid hf
    have HX := Lib.hid hX
    have HPRE := Lib.hid hpre
    have HFL : Hid (flatE (fun t => (rowAt O t s : Int)) K Z (x + 1) = flatE (fun t => (rowAt O t s : Int)) K Z x ++ [.int .i64 ((rowAt O x s : Nat) : Int), .int .i64 (K x), .float .f32 (Z x)]) := Lib.hid rfl
    clear hq ho hf hX hpre
    generalize rowAt O x s = rw at HFL ⊢
    generalize K x = kq at HFL ⊢
    generalize Z x = zq at HFL ⊢
    gi_wp2
    refine hK _ _ (Frm.alloc _ _ _) (fun w₂ f₂ => ?_)
    clear hK
    have fA : Frm (fun k => k ≠ l) W w₂ := (Frm.alloc _ _ _).trans f₂
    have hv : Boxed w₂ w1.heap.size 50 v := (fA.same _ HQ.out.lt (by omega)).trans HQ.out
    have hrow : w₂.ownsRow w3.heap.size 89 3 v x (flatE (fun t => (rowAt O t s : Int)) K Z x) := by
      have := ownsRow_blk HO.out (fun g hg => fA.same g (HO.out.lt g hg).2 (fun e => hnl (e ▸ (HX.out g).2 hg)))
      rw [HPRE.out, List.length_range] at this
      exact this
    have f12 : Frm (fun k => k < w3.heap.size ∧ k ≠ w1.heap.size) w3 w₂ := HF.out.trans (fA.mono fun k _ hk => by omega)
    have cq := hv.cell
    have fz := hv.frozen
    have sW := HF.out.size
    have sW2 := fA.size
    have p0 : w₂.cell? ⟨W.heap.size, 0, none⟩ = some (.int .i64 (rw : Int)) := f₂.cell (p := ⟨W.heap.size, 0, none⟩) (by simp) (by show W.heap.size ≠ l; omega) (by simp [go_sem])
    have p1 : w₂.cell? ⟨W.heap.size, 1, none⟩ = some (.int .i64 kq) := f₂.cell (p := ⟨W.heap.size, 1, none⟩) (by simp) (by show W.heap.size ≠ l; omega) (by simp [go_sem])
    have e1 : Hid ((pre ++ [x]).length = x + 1) := Lib.hid (by rw [HPRE.out]; simp)
    have HROW := Lib.hid hrow
    have HV := Lib.hid hv
    clear hv
    gi_wp2_with (gi_at_builtin; refine wpListIn_append_lies _ rfl _ _ 50 rfl w3.heap.size 89 i0 (.agg #[.int .i64 0, .int .i64 0, .float .f32 0]) 3 24 Try.underlying50 hi hz0 hz1 hz2 rfl (by decide) _ _ _ rfl (hrow.alloc _) ⟨w₂.heap.size, 0, none⟩ 1 1 [.int .i64 (rw : Int), .int .i64 kq, .float .f32 zq] rfl rfl (World.news_of_block (cs := #[.int .i64 (rw : Int), .int .i64 kq, .float .f32 zq]) (t := 89) (fr := (0, 0)) (World.alloc_heap_new _ _)) (by simp [Value.oneCell']) (by unfold maxLen; omega) (by omega) (by simp; omega) ?_; intro v' w5 hown' hgrow hat; have hv1 : Boxed w5 w1.heap.size 50 v := (HV.out.alloc _).kept hgrow (fun e => by have := (hrow.lt _ e.symm).1; omega); have hc1 := hv1.cell; have hf1 := hv1.frozen; obtain ⟨g', cap', rfl⟩ := ownsRow_succ hown')
    have w5s : w₂.heap.size + 1 ≤ w5.heap.size := by have := hgrow.size; simp at this; omega
    have hne : (Value.slice (some ⟨g', 0, none⟩) (x + 1) cap').ownBlock ≠ some w1.heap.size := fun e => by have := (hown'.lt _ e).1; omega
    have hr6 := hown'.kept (grownBy_setCell' w5 w1.heap.size (.slice (some ⟨g', 0, none⟩) (x + 1) cap')) (.inr hne)
    refine ⟨fun k => (Value.slice (some ⟨g', 0, none⟩) (x + 1) cap').ownBlock = some k, ⟨_, hv1.set _, ?_, fun k => Iff.rfl, ?_⟩, ⟨?_, fun k hk hx' => ?_⟩⟩
    · rw [e1.out, HFL.out]; exact hr6
    · refine (f12.trans (Frm.alloc _ _ _)).trans ((Frm.of_grown hgrow (fun g hg => ?_)).trans (Frm.set _ _ (fun h => h.2 rfl)))
      have := (HROW.out.lt g hg).1
      intro h; have := h.1; omega
    · refine (Frm.alloc _ _ _).trans ((Frm.of_grown hgrow (fun g hg => ?_)).trans (Frm.set _ _ (fun h => ?_)))
      · have := (HROW.out.lt g hg).1
        rintro (h | ⟨_, h⟩)
        · rcases h with h | h <;> omega
        · exact h ((HX.out g).2 hg)
      · rcases h with (h | h) | ⟨h, _⟩ <;> omega
    · rcases hat with h | h
      · exact (HX.out k).2 (h.symm.trans hx')
      · rw [h] at hx'
        have e2 : (w₂.alloc (.cells #[.int .i64 (rw : Int), .int .i64 kq, .float .f32 zq] 89)).heap.size = k := by simpa using hx'
        simp at e2
        omega
  case done =>
    rintro xs X W rfl ⟨v, hq, ho, hX, hf⟩ hnX hD
    rw [List.length_range] at ho
    have cq := hq.cell
    have HB : Hid (Below w.heap.size w W) := Lib.hid (B3.trans (hf.below (by omega) (fun k hk => by omega)))
    have HO := Lib.hid ho
    clear hf hq ho
    gi_wp2
    refine ⟨by simp, .inl ⟨_, _, rfl, run_takeDeferred hD, ?_⟩⟩
    have f4 : Frm (fun k => k ≠ w3.heap.size) W (W.putObj w3.heap.size (.deferred none)) := Frm.put W _ (fun h => h rfl)
    have ho4 := ownsRow_blk HO.out (fun g hg => f4.same g (HO.out.lt g hg).2 (fun e => hnX (e ▸ (hX g).2 hg)))
    obtain ⟨a, c, rfl, hE⟩ := ownE_of ho4
    exact ⟨_, results_tmp2 rfl _ _ _, a, c, rfl, hE.mono (by omega) (Nat.le_refl _) (Nat.le_refl _), HB.out.trans ((Frm.put (M := fun k => k < w.heap.size) W _ (by omega)).below HB.out.size (fun k hk => hk))⟩
  case stop =>
    rintro c pre X W _ h _ _
    exact h.elim
end Go.Proofs.Ytmjlhmbnaifhaab
