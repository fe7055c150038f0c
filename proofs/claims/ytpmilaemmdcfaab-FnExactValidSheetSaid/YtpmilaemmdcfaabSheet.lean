/- Helper: the structure Sheet: walks of the laws' own functions on it: copies, sizes, comparisons. Conditions: none. -/
import Derived.Test.YtpmilaemmdcfaabMatCopy
import Derived.Test.YtpmilaemmdcfaabKeys
import Derived.Test.YtpmilaemmdcfaabMarkMore
import Derived.Test.YtpmilaemmdcfaabBoxes
import Derived.Lib.SmallJoins
import Derived.ChangeArms
set_option linter.unusedVariables false
set_option linter.unusedSimpArgs false
namespace Go.Proofs.Ytpmilaemmdcfaab
open Go.ChangeShapes Go.WideShapes Go.RowKit Go.Deep

section
variable {H : Type} {enc : TypeId × Value → H} {P : Program} {w : World} {base : Nat} {spare : Nat → Bool} {held : Bool}
theorem four_ofS {cs : Array Value} (h : cs.size = 4) : ∃ c0 c1 c2 c3, cs = #[c0, c1, c2, c3] := by
  obtain ⟨l⟩ := cs
  simp at h
  match l, h with
  | [a, b, c, d], _ => exact ⟨a, b, c, d, rfl⟩
theorem open_sheet {r : Reach} {b0 : Nat} {t eF : TypeId} {f0 f1 m0 m1 m2 : Field} {v : Value} {d : DataW H} {p : List MemPlace} (hs : P.underlying t = some (.struct #[f0, f1])) (hC : P.cellsOf t = 4) (hm : P.underlying f1.type = some (.struct #[m0, m1, m2]))
    (hoff : (f0.offset, f1.offset, m0.offset, m1.offset, m2.offset) = (0, 1, 0, 1, 2)) (hsz : (P.cellsOf f0.type, P.cellsOf f1.type, P.cellsOf m0.type, P.cellsOf m1.type, P.cellsOf m2.type) = (1, 3, 1, 1, 1))
    (hS : P.underlying f0.type = some .string) (h0 : P.underlying m0.type = some (.int .i64)) (h1 : P.underlying m1.type = some (.int .i64)) (h2 : P.underlying m2.type = some (.slice eF))
    (heF : P.underlying eF = some (.float .f32)) (hcF : P.cellsOf eF = 1)
    (hv : Value.okWide P w r b0 t v) (h : DataW.Trod enc P w base spare held t v d p) :
    ∃ (xa : ByteArray) (xb : Int) (xc : Int) (ad : Option Addr) (nd cd : Nat) (Zd : Nat → Nat), v = .agg #[.string xa, .int .i64 xb, .int .i64 xc, .slice ad nd cd] ∧ xa.size ≤ maxLen ∧ (Lit.int .i64 xb).wf = true ∧ (Lit.int .i64 xc).wf = true ∧ FS .f32 w ad nd cd Zd := by
  obtain ⟨cs, rfl, hcs⟩ := okWide_struct hs hv
  obtain ⟨c0, c1, c2, c3, rfl⟩ := four_ofS (hcs.trans hC)
  obtain ⟨fuel, hf⟩ := h
  obtain ⟨y0, y1, m, _, _, g0, g1⟩ := trod_struct2 hs hf
  simp only [Prod.mk.injEq] at hoff hsz
  obtain ⟨o0, o1, p0, p1, p2⟩ := hoff
  obtain ⟨s0, s1, q0, q1, q2⟩ := hsz
  have g0' : DataW.trod enc P w base spare held m f0.type [c0] = some y0 := by simpa [Value.cells, o0, s0] using g0
  have g1' : DataW.trod enc P w base spare held m f1.type [c1, c2, c3] = some y1 := by simpa [Value.cells, o1, s1] using g1
  obtain ⟨z0, z1, z2, n, _, _, u0, u1, u2⟩ := trod_struct3 hm g1'
  have u0' : DataW.trod enc P w base spare held n m0.type [c1] = some z0 := by simpa [p0, q0] using u0
  have u1' : DataW.trod enc P w base spare held n m1.type [c2] = some z1 := by simpa [p1, q1] using u1
  have u2' : DataW.trod enc P w base spare held n m2.type [c3] = some z2 := by simpa [p2, q2] using u2
  obtain ⟨xa, e0, _, w0⟩ := DataW.trod_string hS g0'
  obtain ⟨xb, e1, _, w1⟩ := DataW.trod_int h0 u0'
  obtain ⟨xc, e2, _, w2⟩ := DataW.trod_int h1 u1'
  obtain ⟨ad, nd, cd, e3⟩ := Joins.slice_form h2 u2'
  simp only [List.cons.injEq, and_true] at e0 e1 e2 e3
  subst e0 e1 e2 e3
  obtain ⟨Zd, hZd⟩ := open_floats (k := .f32) h2 heF hcF ⟨n, u2'⟩
  exact ⟨xa, xb, xc, ad, nd, cd, Zd, rfl, w0, w1, w2, hZd⟩
end
theorem BoxL.set {w : World} {b i : Nat} {vs : List Value} {v : Value} (h : BoxL w b vs) (hi : i < vs.length) : BoxL (w.setCell ⟨b, i, none⟩ v) b (vs.set i v) := by
  intro j u hj
  by_cases e : j = i
  · subst e
    rw [List.getElem?_set_self hi] at hj
    cases hj
    exact World.cell?_setCell_same _ _ _ (h j _ (List.getElem?_eq_getElem hi))
  · rw [List.getElem?_set_ne (Ne.symm e)] at hj
    rw [World.cell?_setCell_other _ _ _ _ (by simp <;> omega)]
    exact h j u hj
theorem BoxL.other {w : World} {b g i : Nat} {vs : List Value} {v : Value} (h : BoxL w b vs) (hne : b ≠ g) : BoxL (w.setCell ⟨g, i, none⟩ v) b vs := by
  intro j u hj
  rw [World.cell?_setCell_other _ _ _ _ (by simp <;> omega)]
  exact h j u hj
theorem Own.setOut {T : TypeId} {k : FloatKind} {B U g i : Nat} {w : World} {a : Option Addr} {n c : Nat} {Z : Nat → Nat} {v : Value} (h : Own T k B U w a n c Z) (hg : g < B ∨ U ≤ g) : Own T k B U (w.setCell ⟨g, i, none⟩ v) a n c Z :=
  h.kept (row := some g) ⟨rfl, rfl, rfl, by simp [World.setCell], fun k _ hk => Below.heap_setCell _ _ _ _ (fun e => hk (by simp [e]))⟩ (fun q hq => by cases hq; exact hg)
theorem szSheet_yes (xa : ByteArray) (xb xc : Int) (ad : Option Addr) (nd cd : Nat) (L : Nat) (w : World) (hL : L ≤ 1048576) (hla : xa.size ≤ L) (hld : nd ≤ L - xa.size) :
    Calls Try.prog 27 #[.agg #[.string xa, .int .i64 xb, .int .i64 xc, .slice ad nd cd], .int .i64 L] w fun e w' => e = .returned (.int .i64 ((L - xa.size - nd : Nat) : Int)) ∧ Below w.heap.size w w' := by
  have e0 : (L : Int) - xa.size = ((L - xa.size : Nat) : Int) := by omega
  have hd0 : decide (((L - xa.size : Nat) : Int) < 0) = false := decide_eq_false (by omega)
  have hd1 : decide (((L - xa.size - nd : Nat) : Int) < 0) = false := decide_eq_false (by omega)
  go_enter Try.func27, Try.ntmps27
  go_wp2_with fail
  go_at_call 53
  refine (szMatrix_yes _ _ _ _ _ (L - xa.size) _ (by omega) hld).mono ?_
  rintro e w1 ⟨rfl, b1⟩
  have B1 : Below w.heap.size w w1 := Below.trans (by repeat first | (with_reducible exact Below.refl _ _) | (with_reducible refine Below.setCell ?_ (by first | exact Nat.le_refl _ | (simp; done) | (simp; omega) | omega) _) | (with_reducible refine Below.alloc ?_ (by first | exact Nat.le_refl _ | (simp; done) | (simp; omega) | omega) _) | (with_reducible refine below_drewN ?_ _) | (with_reducible refine Below.drew ?_)) (b1.mono (by simp))
  go_wp2_with fail
  go_ret
  exact ⟨rfl, B1⟩
theorem szSheet_no (xa : ByteArray) (xb xc : Int) (ad : Option Addr) (nd cd : Nat) (L : Nat) (w : World) (hL : L ≤ 1048576) (hma : xa.size ≤ 9223372036854775807) (hmd : nd ≤ 9223372036854775807) (hl : ¬ (xa.size ≤ L ∧ nd ≤ L - xa.size)) :
    Calls Try.prog 27 #[.agg #[.string xa, .int .i64 xb, .int .i64 xc, .slice ad nd cd], .int .i64 L] w fun e w' => e = .returned (.int .i64 (-1)) ∧ Below w.heap.size w w' := by
  by_cases hc0 : xa.size ≤ L
  case neg =>
    have hd0 : decide ((L : Int) - xa.size < 0) = true := decide_eq_true (by omega)
    go_enter Try.func27, Try.ntmps27
    go_wp2_with fail
    go_ret
    exact ⟨rfl, (by repeat first | (with_reducible exact Below.refl _ _) | (with_reducible refine Below.setCell ?_ (by first | exact Nat.le_refl _ | (simp; done) | (simp; omega) | omega) _) | (with_reducible refine Below.alloc ?_ (by first | exact Nat.le_refl _ | (simp; done) | (simp; omega) | omega) _) | (with_reducible refine below_drewN ?_ _) | (with_reducible refine Below.drew ?_))⟩
  have e0 : (L : Int) - xa.size = ((L - xa.size : Nat) : Int) := by omega
  have hd0 : decide (((L - xa.size : Nat) : Int) < 0) = false := decide_eq_false (by omega)
  go_enter Try.func27, Try.ntmps27
  go_wp2_with fail
  go_at_call 53
  refine (szMatrix_no _ _ _ _ _ (L - xa.size) _ (by omega) hmd (by omega)).mono ?_
  rintro e w1 ⟨rfl, b1⟩
  have B1 : Below w.heap.size w w1 := Below.trans (by repeat first | (with_reducible exact Below.refl _ _) | (with_reducible refine Below.setCell ?_ (by first | exact Nat.le_refl _ | (simp; done) | (simp; omega) | omega) _) | (with_reducible refine Below.alloc ?_ (by first | exact Nat.le_refl _ | (simp; done) | (simp; omega) | omega) _) | (with_reducible refine below_drewN ?_ _) | (with_reducible refine Below.drew ?_)) (b1.mono (by simp))
  go_wp2_with fail
  go_ret
  exact ⟨rfl, B1⟩
set_option maxRecDepth 20000 in
set_option maxHeartbeats 4000000 in
theorem toSheet_any (xa : ByteArray) (xb xc : Int) (ad : Option Addr) (nd cd : Nat) (Zd : Nat → Nat) (w : World) (hnd : nd ≤ 1048576) (hd : FS .f32 w ad nd cd Zd) :
    Calls Try.prog 29 #[.agg #[.string xa, .int .i64 xb, .int .i64 xc, .slice ad nd cd]] w fun e w' => ∃ p q, e = .returned (.agg #[.string xa, .int .i64 xb, .int .i64 xc, .slice p nd q]) ∧ Own 38 .f32 w.heap.size w'.heap.size w' p nd q Zd ∧ Below w.heap.size w w' := by
  go_enter Try.func29, Try.ntmps29
  go_wp2_with fail
  go_at_call 55
  refine (toMatrix_any xb xc ad nd cd Zd _ hnd (hd.below (by repeat first | (with_reducible exact Below.refl _ _) | (with_reducible refine Below.setCell ?_ (by first | exact Nat.le_refl _ | (simp; done) | (simp; omega) | omega) _) | (with_reducible refine Below.alloc ?_ (by first | exact Nat.le_refl _ | (simp; done) | (simp; omega) | omega) _) | (with_reducible refine below_drewN ?_ _) | (with_reducible refine Below.drew ?_)) (Nat.le_refl _))).mono ?_
  rintro e w1 ⟨pd, qd, rfl, od, b1⟩
  have hz : w.heap.size + 1 + 1 + 1 ≤ w1.heap.size := by have := b1.size; simp [World.setCell] at this; omega
  have B1 : Below w.heap.size w w1 := (Below.trans (by repeat first | (with_reducible exact Below.refl _ _) | (with_reducible refine Below.setCell ?_ (by first | exact Nat.le_refl _ | (simp; done) | (simp; omega) | omega) _) | (with_reducible refine Below.alloc ?_ (by first | exact Nat.le_refl _ | (simp; done) | (simp; omega) | omega) _) | (with_reducible refine below_drewN ?_ _) | (with_reducible refine Below.drew ?_)) (b1.mono (by simp [World.setCell] <;> omega)))
  have XR : BoxL w1 (w.heap.size + 1) [.string ⟨#[]⟩, .int .i64 0, .int .i64 0, .slice none 0 0] := BoxL.below (BoxL.four (by simp [go_sem]) (by simp [go_sem]) (by simp [go_sem]) (by simp [go_sem])) b1 (by simp <;> omega)
  have XO : BoxL w1 (w.heap.size + 1 + 1) [.string xa, .int .i64 0, .int .i64 0, .slice none 0 0] := BoxL.below (BoxL.four (by simp [go_sem]) (by simp [go_sem]) (by simp [go_sem]) (by simp [go_sem])) b1 (by simp <;> omega)
  obtain ⟨_, hf⟩ := bcell b1
  have iR : ∀ i, w1.frozen? ⟨w.heap.size + 1, i, none⟩ = false := fun i => by rw [hf _ _ (by simp <;> omega)]; simp [go_sem]
  have iO : ∀ i, w1.frozen? ⟨w.heap.size + 1 + 1, i, none⟩ = false := fun i => by rw [hf _ _ (by simp <;> omega)]; simp [go_sem]
  have od1 := Own.mono (B' := w.heap.size + 1 + 1 + 1) od (by simp <;> omega) (Nat.le_refl _) (Nat.le_refl _)
  have r0 := XR 0 _ rfl
  have r1 := XR 1 _ rfl
  have r2 := XR 2 _ rfl
  have r3 := XR 3 _ rfl
  have q0 := XO 0 _ rfl
  have q1 := XO 1 _ rfl
  have q2 := XO 2 _ rfl
  have q3 := XO 3 _ rfl
  have xR := Lib.hid XR
  have oD := Lib.hid od1
  have bB := Lib.hid B1
  clear b1 hf od XR XO od1 B1
  go_wp2_with fail
  have XR := xR.out
  have od1 := oD.out
  have B1 := bB.out
  clear xR oD bB iR iO r0 r1 r2 r3 q0 q1 q2 q3
  have X2 : BoxL (((((((w1.setCell ⟨w.heap.size + 1 + 1, 1, none⟩ (.int .i64 xb)).setCell ⟨w.heap.size + 1 + 1, 2, none⟩ (.int .i64 xc)).setCell ⟨w.heap.size + 1 + 1, 3, none⟩ (.slice pd nd qd)).setCell ⟨w.heap.size + 1, 0, none⟩ (.string xa)).setCell ⟨w.heap.size + 1, 1, none⟩ (.int .i64 xb)).setCell ⟨w.heap.size + 1, 2, none⟩ (.int .i64 xc)).setCell ⟨w.heap.size + 1, 3, none⟩ (.slice pd nd qd)) (w.heap.size + 1) [.string xa, .int .i64 xb, .int .i64 xc, .slice pd nd qd] := (((((((XR.other (i := 1) (v := .int .i64 xb) (show w.heap.size + 1 ≠ w.heap.size + 1 + 1 by omega)).other (i := 2) (v := .int .i64 xc) (show w.heap.size + 1 ≠ w.heap.size + 1 + 1 by omega)).other (i := 3) (v := .slice pd nd qd) (show w.heap.size + 1 ≠ w.heap.size + 1 + 1 by omega)).set (i := 0) (v := .string xa) (by simp)).set (i := 1) (v := .int .i64 xb) (by simp)).set (i := 2) (v := .int .i64 xc) (by simp)).set (i := 3) (v := .slice pd nd qd) (by simp))
  have o2 := (((((((od1.setOut (i := 1) (v := .int .i64 xb) (.inl (show w.heap.size + 1 + 1 < w.heap.size + 1 + 1 + 1 by omega))).setOut (i := 2) (v := .int .i64 xc) (.inl (show w.heap.size + 1 + 1 < w.heap.size + 1 + 1 + 1 by omega))).setOut (i := 3) (v := .slice pd nd qd) (.inl (show w.heap.size + 1 + 1 < w.heap.size + 1 + 1 + 1 by omega))).setOut (i := 0) (v := .string xa) (.inl (show w.heap.size + 1 < w.heap.size + 1 + 1 + 1 by omega))).setOut (i := 1) (v := .int .i64 xb) (.inl (show w.heap.size + 1 < w.heap.size + 1 + 1 + 1 by omega))).setOut (i := 2) (v := .int .i64 xc) (.inl (show w.heap.size + 1 < w.heap.size + 1 + 1 + 1 by omega))).setOut (i := 3) (v := .slice pd nd qd) (.inl (show w.heap.size + 1 < w.heap.size + 1 + 1 + 1 by omega)))
  have B2 : Below w.heap.size w (((((((w1.setCell ⟨w.heap.size + 1 + 1, 1, none⟩ (.int .i64 xb)).setCell ⟨w.heap.size + 1 + 1, 2, none⟩ (.int .i64 xc)).setCell ⟨w.heap.size + 1 + 1, 3, none⟩ (.slice pd nd qd)).setCell ⟨w.heap.size + 1, 0, none⟩ (.string xa)).setCell ⟨w.heap.size + 1, 1, none⟩ (.int .i64 xb)).setCell ⟨w.heap.size + 1, 2, none⟩ (.int .i64 xc)).setCell ⟨w.heap.size + 1, 3, none⟩ (.slice pd nd qd)) := (((((((B1.setCell (p := ⟨w.heap.size + 1 + 1, 1, none⟩) (by show w.heap.size ≤ w.heap.size + 1 + 1; omega) (.int .i64 xb)).setCell (p := ⟨w.heap.size + 1 + 1, 2, none⟩) (by show w.heap.size ≤ w.heap.size + 1 + 1; omega) (.int .i64 xc)).setCell (p := ⟨w.heap.size + 1 + 1, 3, none⟩) (by show w.heap.size ≤ w.heap.size + 1 + 1; omega) (.slice pd nd qd)).setCell (p := ⟨w.heap.size + 1, 0, none⟩) (by show w.heap.size ≤ w.heap.size + 1; omega) (.string xa)).setCell (p := ⟨w.heap.size + 1, 1, none⟩) (by show w.heap.size ≤ w.heap.size + 1; omega) (.int .i64 xb)).setCell (p := ⟨w.heap.size + 1, 2, none⟩) (by show w.heap.size ≤ w.heap.size + 1; omega) (.int .i64 xc)).setCell (p := ⟨w.heap.size + 1, 3, none⟩) (by show w.heap.size ≤ w.heap.size + 1; omega) (.slice pd nd qd))
  have hs2 : w1.heap.size = (((((((w1.setCell ⟨w.heap.size + 1 + 1, 1, none⟩ (.int .i64 xb)).setCell ⟨w.heap.size + 1 + 1, 2, none⟩ (.int .i64 xc)).setCell ⟨w.heap.size + 1 + 1, 3, none⟩ (.slice pd nd qd)).setCell ⟨w.heap.size + 1, 0, none⟩ (.string xa)).setCell ⟨w.heap.size + 1, 1, none⟩ (.int .i64 xb)).setCell ⟨w.heap.size + 1, 2, none⟩ (.int .i64 xc)).setCell ⟨w.heap.size + 1, 3, none⟩ (.slice pd nd qd)).heap.size := by simp [World.setCell]
  rw [hs2] at o2
  clear XR od1 B1 hs2
  generalize (((((((w1.setCell ⟨w.heap.size + 1 + 1, 1, none⟩ (.int .i64 xb)).setCell ⟨w.heap.size + 1 + 1, 2, none⟩ (.int .i64 xc)).setCell ⟨w.heap.size + 1 + 1, 3, none⟩ (.slice pd nd qd)).setCell ⟨w.heap.size + 1, 0, none⟩ (.string xa)).setCell ⟨w.heap.size + 1, 1, none⟩ (.int .i64 xb)).setCell ⟨w.heap.size + 1, 2, none⟩ (.int .i64 xc)).setCell ⟨w.heap.size + 1, 3, none⟩ (.slice pd nd qd)) = w7 at X2 o2 B2 ⊢
  have r0 := X2 0 _ rfl
  have r1 := X2 1 _ rfl
  have r2 := X2 2 _ rfl
  have r3 := X2 3 _ rfl
  refine bodyPost_ret (v := .agg #[.string xa, .int .i64 xb, .int .i64 xc, .slice pd nd qd]) (by simp [results, Try.results29, go_sem, r0, r1, r2, r3]) rfl ?_
  exact ⟨pd, qd, rfl, Own.mono o2 (by omega) (Nat.le_refl _) (Nat.le_refl _), B2⟩
set_option maxRecDepth 100000 in
theorem eqSheet_any (xa : ByteArray) (xb xc : Int) (ad bd : Option Addr) (nd cd dd : Nat) (Zd Yd : Nat → Nat) (w : World) (hnd : nd ≤ 1048576) (hd : FS .f32 w ad nd cd Zd) (kd : FS .f32 w bd nd dd Yd) (ed : ∀ i, i < nd → cn .f32 (Zd i) = cn .f32 (Yd i)) :
    Calls Try.prog 31 #[.agg #[.string xa, .int .i64 xb, .int .i64 xc, .slice ad nd cd], .agg #[.string xa, .int .i64 xb, .int .i64 xc, .slice bd nd dd]] w fun e w' => e = .returned (.bool true) ∧ Below w.heap.size w w' := by
  go_enter Try.func31, Try.ntmps31
  go_wp2_with fail
  go_at_call 58
  refine (eqMatrix_any xb xc _ _ nd _ _ Zd Yd _ hnd (hd.below (by repeat first | (with_reducible exact Below.refl _ _) | (with_reducible refine Below.setCell ?_ (by first | exact Nat.le_refl _ | (simp; done) | (simp; omega) | omega) _) | (with_reducible refine Below.alloc ?_ (by first | exact Nat.le_refl _ | (simp; done) | (simp; omega) | omega) _) | (with_reducible refine below_drewN ?_ _) | (with_reducible refine Below.drew ?_)) (Nat.le_refl _)) (kd.below (by repeat first | (with_reducible exact Below.refl _ _) | (with_reducible refine Below.setCell ?_ (by first | exact Nat.le_refl _ | (simp; done) | (simp; omega) | omega) _) | (with_reducible refine Below.alloc ?_ (by first | exact Nat.le_refl _ | (simp; done) | (simp; omega) | omega) _) | (with_reducible refine below_drewN ?_ _) | (with_reducible refine Below.drew ?_)) (Nat.le_refl _)) ed).mono ?_
  rintro e w1 ⟨rfl, b1⟩
  have B1 : Below w.heap.size w w1 := Below.trans (by repeat first | (with_reducible exact Below.refl _ _) | (with_reducible refine Below.setCell ?_ (by first | exact Nat.le_refl _ | (simp; done) | (simp; omega) | omega) _) | (with_reducible refine Below.alloc ?_ (by first | exact Nat.le_refl _ | (simp; done) | (simp; omega) | omega) _) | (with_reducible refine below_drewN ?_ _) | (with_reducible refine Below.drew ?_)) (b1.mono (by simp <;> omega))
  go_wp2_with fail
  go_ret
  exact ⟨rfl, B1⟩
end Go.Proofs.Ytpmilaemmdcfaab
