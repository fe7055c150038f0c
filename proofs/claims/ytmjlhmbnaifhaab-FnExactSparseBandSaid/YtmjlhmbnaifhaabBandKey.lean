/- Helper: how far from the middle a sparse square tells numbers, of the program, and of both. Conditions: none. -/
import Derived.Test.YtmjlhmbnaifhaabBandSpec
set_option linter.unusedVariables false
set_option linter.unusedSimpArgs false
namespace Go.Proofs.Ytmjlhmbnaifhaab
open Go.RowKit Go.Shelf

attribute [local go_sem] Oper.semAt_some

theorem boxed_int {W : World} {B : Nat} {t : TypeId} {a b : Int} (h : Boxed W B t (.int .i64 a)) (e : a = b) : Boxed W B t (.int .i64 b) := e ▸ h
theorem rowAt_le {O : Nat → Int} {t : Nat} : ∀ {s : Nat}, rowAt O t s ≤ s
  | 0 => Nat.le_refl _
  | s + 1 => by
    show (if O (s + 1) ≤ (t : Int) then s + 1 else rowAt O t s) ≤ s + 1
    split
    · exact Nat.le_refl _
    · exact Nat.le_trans rowAt_le (Nat.le_succ s)
/-- The columns of all told numbers. -/
theorem cols_in {s n2 : Nat} {O K : Nat → Int} (h00 : O 0 = 0) (hOs : O s = (n2 : Int)) (hso : sortB O s = true) (hro : rowsB O K s s = true) : ∀ {j : Nat}, j ≤ s → ∀ t, t < (O j).toNat → 0 ≤ K t ∧ K t < (s : Int)
  | 0, _, t, ht => by rw [h00] at ht; exact absurd ht (Nat.not_lt_zero _)
  | j + 1, hj, t, ht => by
    obtain ⟨A, m, hA, hAm, hAn, hcol⟩ := sp_row h00 hOs hso hro (i := j) (by omega)
    by_cases e : t < A
    · exact cols_in h00 hOs hso hro (j := j) (by omega) t (by rw [hA, Int.toNat_natCast]; exact e)
    · rw [hAm, Int.toNat_natCast] at ht
      have := col_in (K := fun t => K (A + t)) hcol (t := t - A) (by omega)
      simp only [show A + (t - A) = t by omega] at this
      exact this
set_option maxRecDepth 100000 in
set_option maxHeartbeats 4000000 in
theorem implBand_any (s n1 n2 b1 o1 c1 c2 c3 : Nat) (a2 a3 : Option Addr) (O K : Nat → Int) (Z : Nat → Nat) (w : World) (hs1 : 1 ≤ s) (hs : s ≤ 32) (hn1 : n1 = s + 1) (hn2 : n2 ≤ 512) (h00 : O 0 = 0) (hOs : O s = (n2 : Int)) (hso : sortB O s = true) (hro : rowsB O K s s = true) (hok : spB s n1 n2 n2 O K (vals Z) = true)
    (h1 : IS .i64 w (some ⟨b1, o1, none⟩) n1 c1 O) (h2 : IS .i64 w a2 n2 c2 K) (h3 : FS .f32 w a3 n2 c3 Z) :
    Calls Try.prog 28 #[.agg #[.int .i64 (s : Int), .slice (some ⟨b1, o1, none⟩) n1 c1, .slice a2 n2 c2, .slice a3 n2 c3]] w (fun e w' => e = .returned (.tuple #[.int .i64 (bandV O K s n2), .bool true]) ∧ Below w.heap.size w w') := by
  have HCO := Lib.hid (fun (t : Nat) (ht : t < n2) => cols_in h00 hOs hso hro (j := s) (Nat.le_refl _) t (by rw [hOs, Int.toNat_natCast]; exact ht))
  have H00 := Lib.hid h00
  have HOS := Lib.hid hOs
  have HSO := Lib.hid hso
  have HRO := Lib.hid hro
  have HN1 := Lib.hid hn1
  have HOK := Lib.hid hok
  have hn1b : n1 ≤ 1048576 := by omega
  have B0 : Below w.heap.size w (w.alloc (.cells #[.int .i64 (s : Int), .slice (some ⟨b1, o1, none⟩) n1 c1, .slice a2 n2 c2, .slice a3 n2 c3] 30)) := (by repeat first | (with_reducible exact Below.refl _ _) | (with_reducible refine Below.setCell ?_ (by first | exact Nat.le_refl _ | (simp; done) | (simp; omega) | omega) _) | (with_reducible refine Below.alloc ?_ (by first | exact Nat.le_refl _ | (simp; done) | (simp; omega) | omega) _) | (with_reducible refine below_drewN ?_ _) | (with_reducible refine Below.drew ?_))
  have X0 : BoxL (w.alloc (.cells #[.int .i64 (s : Int), .slice (some ⟨b1, o1, none⟩) n1 c1, .slice a2 n2 c2, .slice a3 n2 c3] 30)) w.heap.size [.int .i64 (s : Int), .slice (some ⟨b1, o1, none⟩) n1 c1, .slice a2 n2 c2, .slice a3 n2 c3] := BoxL.four (by simp [go_sem]) (by simp [go_sem]) (by simp [go_sem]) (by simp [go_sem])
  clear h00 hOs hso hro hn1 hok
  refine (callsIn_wide (n := 9)).1 ?_
  refine callsIn_of_wp_marks Try.func28 rfl trivial ?_ rfl
  simp only [Try.ntmps28, List.size_toArray, List.length_cons, List.length_nil, Nat.reduceAdd, Nat.reduceSub, Array.replicate_succ, Array.replicate_zero, List.push_toArray, List.append_toArray, List.nil_append, List.cons_append]
  gi_wp2_with fail
  refine ⟨trivial, ?_⟩
  gi_at_call 43
  refine (callsIn_wide.2 (implSp_any s _ a2 a3 n1 c1 n2 c2 n2 c3 O K Z _ hn1b (by omega) (by omega) (h1.below B0 (Nat.le_refl _)) (h2.below B0 (Nat.le_refl _)) (h3.below B0 (Nat.le_refl _)))).mono ?_
  rw [HOK.out]
  rintro e w1 ⟨rfl, b1'⟩
  have B1 := B0.trans (b1'.mono B0.size)
  have X1 := X0.below b1' (by simp)
  have s1 : w.heap.size < w1.heap.size := by have := b1'.size; simp at this; omega
  have x0 := X1 0 _ rfl
  have x1 := X1 1 _ rfl
  have x2 := X1 2 _ rfl
  have x3 := X1 3 _ rfl
  clear X0 B0 b1'
  gi_wp2_with fail
  refine ⟨trivial, ?_⟩
  have f2 : Below w1.heap.size w1 (w1.alloc (.cells #[.int .i64 0] 2)) := (by repeat first | (with_reducible exact Below.refl _ _) | (with_reducible refine Below.setCell ?_ (by first | exact Nat.le_refl _ | (simp; done) | (simp; omega) | omega) _) | (with_reducible refine Below.alloc ?_ (by first | exact Nat.le_refl _ | (simp; done) | (simp; omega) | omega) _) | (with_reducible refine below_drewN ?_ _) | (with_reducible refine Below.drew ?_))
  have s2 : (w1.alloc (.cells #[.int .i64 0] 2)).heap.size = w1.heap.size + 1 := by simp
  have T2 := Boxed.new w1 2 (.int .i64 0)
  generalize w1.alloc (.cells #[.int .i64 0] 2) = w2 at f2 s2 T2 ⊢
  gi_at_call 57
  refine (callsIn_wide.2 (toldNumbers_any _ _ _ _ _ rfl rfl rfl rfl)).mono ?_
  rintro e w3 ⟨rfl, X3, S3, b3⟩
  gi_wp2_with fail
  rw [s2] at X3 S3
  have B3 := (B1.trans (f2.mono B1.size)).trans (b3.mono (by have := B1.size; omega))
  have T3 : Boxed w3 w1.heap.size 2 (.int .i64 0) := T2.kept (below_grew b3) (fun h => by cases h)
  clear x0 x1 x2 x3 X1 T2 f2 b3 B1
  have sB := B3.size
  have s13 : w1.heap.size + 1 < w3.heap.size := by omega
  clear S3
  refine wpIn_rangeF (n := 9) rfl (enters_of Try.func72 (by kernel_rfl) rfl)
    (told_seqF 8 (w1.heap.size + 1) w.heap.size s n1 n2 b1 o1 c1 c2 c3 a2 a3 O K Z (by omega) HN1.out hs hn2 H00.out HOS.out HSO.out HRO.out w3 (by omega) (by omega) X3 (fun W' hb => h1.below (B3.trans hb) (Nat.le_refl _)) (fun W' hb => h2.below (B3.trans hb) (Nat.le_refl _)) (fun W' hb => h3.below (B3.trans hb) (Nat.le_refl _)))
    (Below.refl _ _) (fun k hk => by rcases hk with h | h <;> omega) (fun _ => rfl)
    (fun pre X W => Boxed W w1.heap.size 2 (.int .i64 (bandV O K s pre.length)) ∧ (∀ k, ¬ X k) ∧ Frm (fun k => k < w3.heap.size ∧ k ≠ w1.heap.size) w3 W)
    (fun _ _ _ _ => False)
    (fun pre X A B h hf => by
      obtain ⟨hq, hx, hw⟩ := h
      exact ⟨(hf.same _ hq.lt (.inl (by omega))).trans hq, hx, hw.trans (hf.mono fun k _ hk => .inl hk.1)⟩)
    (fun _ _ _ _ _ h _ => h)
    (fun pre X A k h hk => absurd hk (h.2.1 k)) (fun _ => False) ⟨T3, fun _ h => h, Frm.refl _ _⟩ ?round ?done ?stop
  case round =>
    rintro l pre x X W hl ⟨hq, hX, hf⟩ ⟨hpre, hxm⟩ hlW hnl K' hK
    simp only [toldEnc]
    have HQ := Lib.hid hq
    have HF := Lib.hid hf
    have HX := Lib.hid hX
    have HPRE := Lib.hid hpre
    have hr := rowAt_le (O := O) (t := x) (s := s)
    obtain ⟨k1, k2⟩ := HCO.out x hxm
    have HN : Hid (bandV O K s (x + 1) = max (bandV O K s x) (max ((rowAt O x s : Int) - K x) (K x - (rowAt O x s : Int)))) := Lib.hid rfl
    clear hq hf hX hpre
    generalize rowAt O x s = rw at hr HN ⊢
    generalize K x = kq at k1 k2 HN ⊢
    gi_wp2
    refine hK _ _ (Frm.alloc _ _ _) (fun w₂ f₂ => ?_)
    clear hK
    have fA : Frm (fun k => k ≠ l) W w₂ := (Frm.alloc _ _ _).trans f₂
    have hq2 : Boxed w₂ w1.heap.size 2 (.int .i64 (bandV O K s x)) := by
      have := (fA.same _ HQ.out.lt (by omega)).trans HQ.out
      rw [HPRE.out, List.length_range] at this
      exact this
    have f12 : Frm (fun k => k < w3.heap.size ∧ k ≠ w1.heap.size) w3 w₂ := HF.out.trans (fA.mono fun k _ hk => by omega)
    have cq := hq2.cell
    have fz := hq2.frozen
    have sW := HF.out.size
    have p0 : w₂.cell? ⟨W.heap.size, 0, none⟩ = some (.int .i64 (rw : Int)) := f₂.cell (p := ⟨W.heap.size, 0, none⟩) (by simp) (by show W.heap.size ≠ l; omega) (by simp [go_sem])
    have p1 : w₂.cell? ⟨W.heap.size, 1, none⟩ = some (.int .i64 kq) := f₂.cell (p := ⟨W.heap.size, 1, none⟩) (by simp) (by show W.heap.size ≠ l; omega) (by simp [go_sem])
    generalize bandV O K s x = bv at cq hq2 HN
    have e1 : Hid ((pre ++ [x]).length = x + 1) := Lib.hid (by rw [HPRE.out]; simp)
    gi_wp2
    all_goals
      refine ⟨X, ⟨?_, HX.out, f12.trans (Frm.set _ _ (fun h => h.2 rfl))⟩, ⟨Frm.set _ _ (fun h => ?_), fun k _ h => h⟩⟩
      · rw [e1.out, HN.out]
        exact boxed_int (hq2.set _) (by omega)
      · rcases h with (h | h) | ⟨h, _⟩ <;> omega
  case done =>
    rintro xs X W rfl ⟨hq, hX, hf⟩ hnX hD
    rw [List.length_range] at hq
    have cq := hq.cell
    have HB : Hid (Below w.heap.size w W) := Lib.hid (B3.trans (hf.below (by omega) (fun k hk => by omega)))
    clear hf hq
    gi_wp2
    refine ⟨by simp, .inl ⟨_, _, rfl, run_takeDeferred hD, ?_⟩⟩
    exact ⟨_, results_tmp2 rfl _ _ _, rfl, HB.out.trans ((Frm.put (M := fun k => k < w.heap.size) W _ (by omega)).below HB.out.size (fun k hk => hk))⟩
  case stop =>
    rintro c pre X W _ h _ _
    exact h.elim
theorem implBand_no (S : Int) (a1 a2 a3 : Option Addr) (n1 c1 n2 c2 n3 c3 : Nat) (O K : Nat → Int) (Z : Nat → Nat) (w : World) (hn1 : n1 ≤ 1048576) (hn2 : n2 ≤ 1048576) (hn3 : n3 ≤ 1048576) (h1 : IS .i64 w a1 n1 c1 O) (h2 : IS .i64 w a2 n2 c2 K) (h3 : FS .f32 w a3 n3 c3 Z) (hno : spB S n1 n2 n3 O K (vals Z) = false) :
    Calls Try.prog 28 #[.agg #[.int .i64 S, .slice a1 n1 c1, .slice a2 n2 c2, .slice a3 n3 c3]] w (fun e w' => e = .returned (.tuple #[.int .i64 0, .bool false]) ∧ Below w.heap.size w w') := by
  have B0 : Below w.heap.size w (w.alloc (.cells #[.int .i64 S, .slice a1 n1 c1, .slice a2 n2 c2, .slice a3 n3 c3] 30)) := (by repeat first | (with_reducible exact Below.refl _ _) | (with_reducible refine Below.setCell ?_ (by first | exact Nat.le_refl _ | (simp; done) | (simp; omega) | omega) _) | (with_reducible refine Below.alloc ?_ (by first | exact Nat.le_refl _ | (simp; done) | (simp; omega) | omega) _) | (with_reducible refine below_drewN ?_ _) | (with_reducible refine Below.drew ?_))
  have HNO := Lib.hid hno
  clear hno
  go_enter Try.func28, Try.ntmps28
  go_wp2_with fail
  go_at_call 43
  refine (implSp_any S a1 a2 a3 n1 c1 n2 c2 n3 c3 O K Z _ hn1 hn2 hn3 (h1.below B0 (Nat.le_refl _)) (h2.below B0 (Nat.le_refl _)) (h3.below B0 (Nat.le_refl _))).mono ?_
  rw [HNO.out]
  rintro e w1 ⟨rfl, b1⟩
  have B1 := B0.trans (b1.mono B0.size)
  go_wp2_with fail
  go_ret2
  exact ⟨rfl, B1⟩
theorem specBand_no (S : Int) (a1 a2 a3 : Option Addr) (n1 c1 n2 c2 n3 c3 : Nat) (O K : Nat → Int) (Z : Nat → Nat) (w : World) (hn1 : n1 ≤ 1048576) (hn2 : n2 ≤ 1048576) (hn3 : n3 ≤ 1048576) (h1 : IS .i64 w a1 n1 c1 O) (h2 : IS .i64 w a2 n2 c2 K) (h3 : FS .f32 w a3 n3 c3 Z) (hno : spB S n1 n2 n3 O K (vals Z) = false) :
    Calls Try.prog 27 #[.agg #[.int .i64 S, .slice a1 n1 c1, .slice a2 n2 c2, .slice a3 n3 c3]] w (fun e w' => e = .returned (.tuple #[.int .i64 0, .bool false]) ∧ Below w.heap.size w w') := by
  have B0 : Below w.heap.size w (w.alloc (.cells #[.int .i64 S, .slice a1 n1 c1, .slice a2 n2 c2, .slice a3 n3 c3] 30)) := (by repeat first | (with_reducible exact Below.refl _ _) | (with_reducible refine Below.setCell ?_ (by first | exact Nat.le_refl _ | (simp; done) | (simp; omega) | omega) _) | (with_reducible refine Below.alloc ?_ (by first | exact Nat.le_refl _ | (simp; done) | (simp; omega) | omega) _) | (with_reducible refine below_drewN ?_ _) | (with_reducible refine Below.drew ?_))
  have X0 : BoxL (w.alloc (.cells #[.int .i64 S, .slice a1 n1 c1, .slice a2 n2 c2, .slice a3 n3 c3] 30)) w.heap.size [.int .i64 S, .slice a1 n1 c1, .slice a2 n2 c2, .slice a3 n3 c3] := BoxL.four (by simp [go_sem]) (by simp [go_sem]) (by simp [go_sem]) (by simp [go_sem])
  have HNO := Lib.hid hno
  clear hno
  go_enter Try.func27, Try.ntmps27
  go_wp2_with fail
  go_at_call 39
  refine (specSp_any _ S a1 a2 a3 n1 c1 n2 c2 n3 c3 O K Z _ hn1 hn2 hn3 (by simp) X0 (h1.below B0 (Nat.le_refl _)) (h2.below B0 (Nat.le_refl _)) (h3.below B0 (Nat.le_refl _))).mono ?_
  rw [HNO.out]
  rintro e w1 ⟨rfl, b1⟩
  have B1 := B0.trans (b1.mono B0.size)
  clear X0
  go_wp2_with fail
  go_ret2
  exact ⟨rfl, B1⟩
/-- An integer, and whether it is told. -/
def IntSp (ok : Bool) (X : Int) (w : World) (e : Ending) (w' : World) : Prop := e = .returned (.tuple #[.int .i64 X, .bool ok]) ∧ Below w.heap.size w w'
theorem keySparseBand (S : Int) (n1 : Nat) (O : Nat → Int) (n2 : Nat) (K : Nat → Int) (n3 : Nat) (Z : Nat → Nat) (wS : (Lit.int .i64 S).wf = true) (hn1 : n1 ≤ 1048576) (hn2 : n2 ≤ 1048576) (hn3 : n3 ≤ 1048576) : ∃ (ok : Bool) (X : Int),
    (∀ a1 c1 a2 c2 a3 c3 W, IS .i64 W a1 n1 c1 O → IS .i64 W a2 n2 c2 K → FS .f32 W a3 n3 c3 Z → Calls Try.prog 27 #[.agg #[.int .i64 S, .slice a1 n1 c1, .slice a2 n2 c2, .slice a3 n3 c3]] W (IntSp ok X W)) ∧
    (∀ a1 c1 a2 c2 a3 c3 W, IS .i64 W a1 n1 c1 O → IS .i64 W a2 n2 c2 K → FS .f32 W a3 n3 c3 Z → Calls Try.prog 28 #[.agg #[.int .i64 S, .slice a1 n1 c1, .slice a2 n2 c2, .slice a3 n3 c3]] W (IntSp ok X W)) := by
  cases hh : spB S n1 n2 n3 O K (vals Z) with
  | false => exact ⟨false, 0, fun a1 c1 a2 c2 a3 c3 W h1 h2 h3 => specBand_no S a1 a2 a3 n1 c1 n2 c2 n3 c3 O K Z W hn1 hn2 hn3 h1 h2 h3 hh, fun a1 c1 a2 c2 a3 c3 W h1 h2 h3 => implBand_no S a1 a2 a3 n1 c1 n2 c2 n3 c3 O K Z W hn1 hn2 hn3 h1 h2 h3 hh⟩
  | true =>
    obtain ⟨s, rfl, q1, q2, q3, q4, rfl, _, q7, q8, q9, q10⟩ := sp_nat hh
    refine ⟨true, bandV O K s n3, fun a1 c1 a2 c2 a3 c3 W h1 h2 h3 => ?_, fun a1 c1 a2 c2 a3 c3 W h1 h2 h3 => ?_⟩
    · obtain ⟨b1, o1, rfl, _⟩ := h1.at (show 0 < n1 by omega)
      exact l05Band_any s n1 n3 b1 o1 c1 c2 c3 a2 a3 O K Z W q1 q2 q3 q4 q7 q8 q9 q10 hh h1 h2 h3
    · obtain ⟨b1, o1, rfl, _⟩ := h1.at (show 0 < n1 by omega)
      exact implBand_any s n1 n3 b1 o1 c1 c2 c3 a2 a3 O K Z W q1 q2 q3 q4 q7 q8 q9 q10 hh h1 h2 h3
end Go.Proofs.Ytmjlhmbnaifhaab
