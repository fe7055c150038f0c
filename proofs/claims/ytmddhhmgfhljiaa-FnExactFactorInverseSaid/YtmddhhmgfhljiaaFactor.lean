/- Helper: the structure Factor: walks of the laws' own functions on it: copies, sizes, comparisons, marks. Conditions: none. -/
import Derived.Test.YtmddhhmgfhljiaaMatCopy
import Derived.Test.YtmddhhmgfhljiaaKeys
import Derived.Test.YtmddhhmgfhljiaaMarkMore
import Derived.Test.YtmddhhmgfhljiaaBoxes
import Derived.Lib.SmallJoins
set_option linter.unusedVariables false
set_option linter.unusedSimpArgs false
namespace Go.Proofs.Ytmddhhmgfhljiaa
open Go.ChangeShapes Go.WideShapes Go.RowKit Go.Deep

section
variable {H : Type} {enc : TypeId × Value → H} {P : Program} {w : World} {base : Nat} {spare : Nat → Bool} {held : Bool}
theorem four_of {cs : Array Value} (h : cs.size = 4) : ∃ c0 c1 c2 c3, cs = #[c0, c1, c2, c3] := by
  obtain ⟨l⟩ := cs
  simp at h
  match l, h with
  | [a, b, c, d], _ => exact ⟨a, b, c, d, rfl⟩
theorem open_factor {r : Reach} {b0 : Nat} {t eF eI : TypeId} {f0 f1 m0 m1 m2 : Field} {v : Value} {d : DataW H} {p : List MemPlace} (hs : P.underlying t = some (.struct #[f0, f1])) (hC : P.cellsOf t = 4) (hm : P.underlying f0.type = some (.struct #[m0, m1, m2]))
    (hoff : (f0.offset, f1.offset, m0.offset, m1.offset, m2.offset) = (0, 3, 0, 1, 2)) (hsz : (P.cellsOf f0.type, P.cellsOf f1.type, P.cellsOf m0.type, P.cellsOf m1.type, P.cellsOf m2.type) = (3, 1, 1, 1, 1))
    (h0 : P.underlying m0.type = some (.int .i64)) (h1 : P.underlying m1.type = some (.int .i64)) (h2 : P.underlying m2.type = some (.slice eF)) (h3 : P.underlying f1.type = some (.slice eI))
    (heF : P.underlying eF = some (.float .f32)) (hcF : P.cellsOf eF = 1) (heI : P.underlying eI = some (.int .i64)) (hcI : P.cellsOf eI = 1)
    (hv : Value.okWide P w r b0 t v) (h : DataW.Trod enc P w base spare held t v d p) :
    ∃ (xa : Int) (xb : Int) (ac : Option Addr) (nc cc : Nat) (Zc : Nat → Nat) (ad : Option Addr) (nd cd : Nat) (Zd : Nat → Int), v = .agg #[.int .i64 xa, .int .i64 xb, .slice ac nc cc, .slice ad nd cd] ∧ (Lit.int .i64 xa).wf = true ∧ (Lit.int .i64 xb).wf = true ∧ FS .f32 w ac nc cc Zc ∧ IS .i64 w ad nd cd Zd := by
  obtain ⟨cs, rfl, hcs⟩ := okWide_struct hs hv
  obtain ⟨c0, c1, c2, c3, rfl⟩ := four_of (hcs.trans hC)
  obtain ⟨fuel, hf⟩ := h
  obtain ⟨y0, y1, m, _, _, g0, g1⟩ := trod_struct2 hs hf
  simp only [Prod.mk.injEq] at hoff hsz
  obtain ⟨o0, o1, p0, p1, p2⟩ := hoff
  obtain ⟨s0, s1, q0, q1, q2⟩ := hsz
  have g0' : DataW.trod enc P w base spare held m f0.type [c0, c1, c2] = some y0 := by simpa [Value.cells, o0, s0] using g0
  have g1' : DataW.trod enc P w base spare held m f1.type [c3] = some y1 := by simpa [Value.cells, o1, s1] using g1
  obtain ⟨z0, z1, z2, n, _, _, u0, u1, u2⟩ := trod_struct3 hm g0'
  have u0' : DataW.trod enc P w base spare held n m0.type [c0] = some z0 := by simpa [p0, q0] using u0
  have u1' : DataW.trod enc P w base spare held n m1.type [c1] = some z1 := by simpa [p1, q1] using u1
  have u2' : DataW.trod enc P w base spare held n m2.type [c2] = some z2 := by simpa [p2, q2] using u2
  obtain ⟨xa, e0, _, w0⟩ := DataW.trod_int h0 u0'
  obtain ⟨xb, e1, _, w1⟩ := DataW.trod_int h1 u1'
  obtain ⟨ac, nc, cc, e2⟩ := Joins.slice_form h2 u2'
  obtain ⟨ad, nd, cd, e3⟩ := Joins.slice_form h3 g1'
  simp only [List.cons.injEq, and_true] at e0 e1 e2 e3
  subst e0 e1 e2 e3
  obtain ⟨Zc, hZc⟩ := open_floats (k := .f32) h2 heF hcF ⟨n, u2'⟩
  obtain ⟨Zd, hZd⟩ := open_ints1 (k := .i64) h3 heI hcI ⟨m, g1'⟩
  exact ⟨xa, xb, ac, nc, cc, Zc, ad, nd, cd, Zd, rfl, w0, w1, hZc, hZd⟩
end
theorem BoxL.set {w : World} {b i : Nat} {vs : List Value} {v : Value} (h : BoxL w b vs) (hi : i < vs.length) : BoxL (w.setCell ⟨b, i, none⟩ v) b (vs.set i v) := by
  intro j u hj
  by_cases e : j = i
  · subst e
    rw [List.getElem?_set_self hi] at hj
    cases hj
    exact World.cell?_setCell_same _ _ _ (h j _ (List.getElem?_eq_getElem hi))
  · rw [List.getElem?_set_ne (Ne.symm e)] at hj
    rw [World.cell?_setCell_other _ _ _ _ (by simp <;> omega)]
    exact h j u hj
theorem BoxL.other {w : World} {b g i : Nat} {vs : List Value} {v : Value} (h : BoxL w b vs) (hne : b ≠ g) : BoxL (w.setCell ⟨g, i, none⟩ v) b vs := by
  intro j u hj
  rw [World.cell?_setCell_other _ _ _ _ (by simp <;> omega)]
  exact h j u hj
theorem Own.setOut {T : TypeId} {k : FloatKind} {B U g i : Nat} {w : World} {a : Option Addr} {n c : Nat} {Z : Nat → Nat} {v : Value} (h : Own T k B U w a n c Z) (hg : g < B ∨ U ≤ g) : Own T k B U (w.setCell ⟨g, i, none⟩ v) a n c Z :=
  h.kept (row := some g) ⟨rfl, rfl, rfl, by simp [World.setCell], fun k _ hk => Below.heap_setCell _ _ _ _ (fun e => hk (by simp [e]))⟩ (fun q hq => by cases hq; exact hg)
theorem szInt64S_yesFactor (a : Option Addr) (n c : Nat) (L : Nat) (w : World) (hL : L ≤ 1048576) (hn : n ≤ L) :
    Calls Try.prog 35 #[.slice a n c, .int .i64 L] w fun e w' => e = .returned (.int .i64 ((L - n : Nat) : Int)) ∧ w = w' := by
  have e : ((L - n : Nat) : Int) = (L : Int) - n := by omega
  rw [e]
  clear e
  have hd : decide ((L : Int) - n < 0) = false := decide_eq_false (by omega)
  go_enter Try.func35, Try.ntmps35
  go_wp2
  go_ret
  exact ⟨rfl, rfl⟩
theorem szInt64S_noFactor (a : Option Addr) (n c : Nat) (L : Nat) (w : World) (hL : L ≤ 1048576) (hm : n ≤ 9223372036854775807) (hn : L < n) :
    Calls Try.prog 35 #[.slice a n c, .int .i64 L] w fun e w' => e = .returned (.int .i64 (-1)) ∧ w = w' := by
  have hd : decide ((L : Int) - n < 0) = true := decide_eq_true (by omega)
  go_enter Try.func35, Try.ntmps35
  go_wp2
  go_ret
  exact ⟨rfl, rfl⟩
theorem szFactor_yes (xa : Int) (xb : Int) (ac : Option Addr) (nc cc : Nat) (ad : Option Addr) (nd cd : Nat) (L : Nat) (w : World) (hL : L ≤ 1048576) (hlc : nc ≤ L) (hld : nd ≤ L - nc) :
    Calls Try.prog 9 #[.agg #[.int .i64 xa, .int .i64 xb, .slice ac nc cc, .slice ad nd cd], .int .i64 L] w fun e w' => e = .returned (.int .i64 ((L - nc - nd : Nat) : Int)) ∧ Below w.heap.size w w' := by
  have hd0 : decide (((L - nc : Nat) : Int) < 0) = false := decide_eq_false (by omega)
  have hd1 : decide (((L - nc - nd : Nat) : Int) < 0) = false := decide_eq_false (by omega)
  go_enter Try.func9, Try.ntmps9
  go_wp2_with fail
  go_at_call 21
  refine (szMatrix_yes _ _ _ _ _ (L) _ (by omega) hlc).mono ?_
  rintro e w1 ⟨rfl, b1⟩
  have B1 : Below w.heap.size w w1 := Below.trans (by repeat first | (with_reducible exact Below.refl _ _) | (with_reducible refine Below.setCell ?_ (by first | exact Nat.le_refl _ | (simp; done) | (simp; omega) | omega) _) | (with_reducible refine Below.alloc ?_ (by first | exact Nat.le_refl _ | (simp; done) | (simp; omega) | omega) _) | (with_reducible refine below_drewN ?_ _) | (with_reducible refine Below.drew ?_)) (b1.mono (by simp))
  have X1 : BoxL w1 w.heap.size [.int .i64 xa, .int .i64 xb, .slice ac nc cc, .slice ad nd cd] := BoxL.below (BoxL.four (by simp [go_sem]) (by simp [go_sem]) (by simp [go_sem]) (by simp [go_sem])) b1 (by simp)
  have x3 := X1 3 _ rfl
  have l1 : w.heap.size < w1.heap.size := by have := b1.size; simp at this; omega
  clear b1 X1
  go_wp2_with fail
  go_at_call 35
  refine (szInt64S_yesFactor _ _ _ (L - nc) _ (by omega) hld).mono ?_
  rintro e w' ⟨rfl, rfl⟩
  go_wp2_with fail
  go_ret
  exact ⟨rfl, (by repeat first | (with_reducible exact B1) | (with_reducible refine Below.setCell ?_ (by first | exact Nat.le_refl _ | (simp; done) | (simp; omega) | omega) _) | (with_reducible refine Below.alloc ?_ (by first | exact Nat.le_refl _ | (simp; done) | (simp; omega) | omega) _) | (with_reducible refine below_drewN ?_ _) | (with_reducible refine Below.drew ?_))⟩
theorem szFactor_no (xa : Int) (xb : Int) (ac : Option Addr) (nc cc : Nat) (ad : Option Addr) (nd cd : Nat) (L : Nat) (w : World) (hL : L ≤ 1048576) (hmc : nc ≤ 9223372036854775807) (hmd : nd ≤ 9223372036854775807) (hl : ¬ (nc ≤ L ∧ nd ≤ L - nc)) :
    Calls Try.prog 9 #[.agg #[.int .i64 xa, .int .i64 xb, .slice ac nc cc, .slice ad nd cd], .int .i64 L] w fun e w' => e = .returned (.int .i64 (-1)) ∧ Below w.heap.size w w' := by
  by_cases hc0 : nc ≤ L
  case neg =>
    go_enter Try.func9, Try.ntmps9
    go_wp2_with fail
    go_at_call 21
    refine (szMatrix_no _ _ _ _ _ (L) _ (by omega) hmc (by omega)).mono ?_
    rintro e w1 ⟨rfl, b1⟩
    have B1 : Below w.heap.size w w1 := Below.trans (by repeat first | (with_reducible exact Below.refl _ _) | (with_reducible refine Below.setCell ?_ (by first | exact Nat.le_refl _ | (simp; done) | (simp; omega) | omega) _) | (with_reducible refine Below.alloc ?_ (by first | exact Nat.le_refl _ | (simp; done) | (simp; omega) | omega) _) | (with_reducible refine below_drewN ?_ _) | (with_reducible refine Below.drew ?_)) (b1.mono (by simp))
    go_wp2_with fail
    go_ret
    exact ⟨rfl, B1⟩
  have hd0 : decide (((L - nc : Nat) : Int) < 0) = false := decide_eq_false (by omega)
  go_enter Try.func9, Try.ntmps9
  go_wp2_with fail
  go_at_call 21
  refine (szMatrix_yes _ _ _ _ _ (L) _ (by omega) hc0).mono ?_
  rintro e w1 ⟨rfl, b1⟩
  have B1 : Below w.heap.size w w1 := Below.trans (by repeat first | (with_reducible exact Below.refl _ _) | (with_reducible refine Below.setCell ?_ (by first | exact Nat.le_refl _ | (simp; done) | (simp; omega) | omega) _) | (with_reducible refine Below.alloc ?_ (by first | exact Nat.le_refl _ | (simp; done) | (simp; omega) | omega) _) | (with_reducible refine below_drewN ?_ _) | (with_reducible refine Below.drew ?_)) (b1.mono (by simp))
  have X1 : BoxL w1 w.heap.size [.int .i64 xa, .int .i64 xb, .slice ac nc cc, .slice ad nd cd] := BoxL.below (BoxL.four (by simp [go_sem]) (by simp [go_sem]) (by simp [go_sem]) (by simp [go_sem])) b1 (by simp)
  have x3 := X1 3 _ rfl
  have l1 : w.heap.size < w1.heap.size := by have := b1.size; simp at this; omega
  clear b1 X1
  go_wp2_with fail
  go_at_call 35
  refine (szInt64S_noFactor _ _ _ (L - nc) _ (by omega) hmd (by omega)).mono ?_
  rintro e w' ⟨rfl, rfl⟩
  go_wp2_with fail
  go_ret
  exact ⟨rfl, (by repeat first | (with_reducible exact B1) | (with_reducible refine Below.setCell ?_ (by first | exact Nat.le_refl _ | (simp; done) | (simp; omega) | omega) _) | (with_reducible refine Below.alloc ?_ (by first | exact Nat.le_refl _ | (simp; done) | (simp; omega) | omega) _) | (with_reducible refine below_drewN ?_ _) | (with_reducible refine Below.drew ?_))⟩
/-- A new one in memory of its own, its lists apart. -/
def SepFactor (w : World) (xa : Int) (xb : Int) (nc : Nat) (Zc : Nat → Nat) (nd : Nat) (Zd : Nat → Int) (e : Ending) (w' : World) : Prop :=
  ∃ (ac : Option Addr) (cc : Nat) (ad : Option Addr) (cd : Nat) (Mc : Nat), e = .returned (.agg #[.int .i64 xa, .int .i64 xb, .slice ac nc cc, .slice ad nd cd]) ∧ w.heap.size ≤ Mc ∧ Mc ≤ w'.heap.size ∧ Own 44 .f32 w.heap.size Mc w' ac nc cc Zc ∧ OwnI 2 .i64 Mc w'.heap.size w' ad nd cd Zd ∧ Below w.heap.size w w'
set_option maxRecDepth 20000 in
set_option maxHeartbeats 4000000 in
theorem toFactor_sep (xa : Int) (xb : Int) (ac : Option Addr) (nc cc : Nat) (Zc : Nat → Nat) (ad : Option Addr) (nd cd : Nat) (Zd : Nat → Int) (w : World) (hnc : nc ≤ 1048576) (hnd : nd ≤ 1048576) (hc : FS .f32 w ac nc cc Zc) (hd : IS .i64 w ad nd cd Zd) :
    Calls Try.prog 11 #[.agg #[.int .i64 xa, .int .i64 xb, .slice ac nc cc, .slice ad nd cd]] w (SepFactor w xa xb nc Zc nd Zd) := by
  go_enter Try.func11, Try.ntmps11
  go_wp2_with fail
  go_at_call 23
  refine (toMatrix_any xa xb ac nc cc Zc _ hnc (hc.below (by repeat first | (with_reducible exact Below.refl _ _) | (with_reducible refine Below.setCell ?_ (by first | exact Nat.le_refl _ | (simp; done) | (simp; omega) | omega) _) | (with_reducible refine Below.alloc ?_ (by first | exact Nat.le_refl _ | (simp; done) | (simp; omega) | omega) _) | (with_reducible refine below_drewN ?_ _) | (with_reducible refine Below.drew ?_)) (Nat.le_refl _))).mono ?_
  rintro e w1 ⟨pc, qc, rfl, oc, b1⟩
  have hz : w.heap.size + 1 + 1 + 1 ≤ w1.heap.size := by have := b1.size; simp [World.setCell] at this; omega
  have B1 : Below w.heap.size w w1 := (Below.trans (by repeat first | (with_reducible exact Below.refl _ _) | (with_reducible refine Below.setCell ?_ (by first | exact Nat.le_refl _ | (simp; done) | (simp; omega) | omega) _) | (with_reducible refine Below.alloc ?_ (by first | exact Nat.le_refl _ | (simp; done) | (simp; omega) | omega) _) | (with_reducible refine below_drewN ?_ _) | (with_reducible refine Below.drew ?_)) (b1.mono (by simp [World.setCell] <;> omega)))
  have XA : BoxL w1 w.heap.size [.int .i64 xa, .int .i64 xb, .slice ac nc cc, .slice ad nd cd] := BoxL.below (BoxL.four (by simp [go_sem]) (by simp [go_sem]) (by simp [go_sem]) (by simp [go_sem])) b1 (by simp <;> omega)
  have XR : BoxL w1 (w.heap.size + 1) [.int .i64 0, .int .i64 0, .slice none 0 0, .slice none 0 0] := BoxL.below (BoxL.four (by simp [go_sem]) (by simp [go_sem]) (by simp [go_sem]) (by simp [go_sem])) b1 (by simp <;> omega)
  have XO : BoxL w1 (w.heap.size + 1 + 1) [.int .i64 0, .int .i64 0, .slice none 0 0, .slice none 0 0] := BoxL.below (BoxL.four (by simp [go_sem]) (by simp [go_sem]) (by simp [go_sem]) (by simp [go_sem])) b1 (by simp <;> omega)
  obtain ⟨_, hf⟩ := bcell b1
  have iR : ∀ i, w1.frozen? ⟨w.heap.size + 1, i, none⟩ = false := fun i => by rw [hf _ _ (by simp <;> omega)]; simp [go_sem]
  have iO : ∀ i, w1.frozen? ⟨w.heap.size + 1 + 1, i, none⟩ = false := fun i => by rw [hf _ _ (by simp <;> omega)]; simp [go_sem]
  have oc1 := Own.mono (B' := w.heap.size + 1 + 1 + 1) oc (by simp <;> omega) (Nat.le_refl _) (Nat.le_refl _)
  have y0 := XO 0 _ rfl
  have y1 := XO 1 _ rfl
  have y2 := XO 2 _ rfl
  have x3 := XA 3 _ rfl
  clear b1 hf oc
  have XA2 := Lib.hid (((XA.other (i := 0) (v := .int .i64 xa) (show w.heap.size ≠ w.heap.size + 1 + 1 by omega)).other (i := 1) (v := .int .i64 xb) (show w.heap.size ≠ w.heap.size + 1 + 1 by omega)).other (i := 2) (v := .slice pc nc qc) (show w.heap.size ≠ w.heap.size + 1 + 1 by omega))
  have XR2 := Lib.hid (((XR.other (i := 0) (v := .int .i64 xa) (show w.heap.size + 1 ≠ w.heap.size + 1 + 1 by omega)).other (i := 1) (v := .int .i64 xb) (show w.heap.size + 1 ≠ w.heap.size + 1 + 1 by omega)).other (i := 2) (v := .slice pc nc qc) (show w.heap.size + 1 ≠ w.heap.size + 1 + 1 by omega))
  have XO2 := Lib.hid (((XO.set (i := 0) (v := .int .i64 xa) (by simp)).set (i := 1) (v := .int .i64 xb) (by simp)).set (i := 2) (v := .slice pc nc qc) (by simp))
  have oc2 := Lib.hid (((oc1.setOut (i := 0) (v := .int .i64 xa) (.inl (show w.heap.size + 1 + 1 < w.heap.size + 1 + 1 + 1 by omega))).setOut (i := 1) (v := .int .i64 xb) (.inl (show w.heap.size + 1 + 1 < w.heap.size + 1 + 1 + 1 by omega))).setOut (i := 2) (v := .slice pc nc qc) (.inl (show w.heap.size + 1 + 1 < w.heap.size + 1 + 1 + 1 by omega)))
  have B2 := Lib.hid (((B1.setCell (p := ⟨w.heap.size + 1 + 1, 0, none⟩) (by show w.heap.size ≤ w.heap.size + 1 + 1; omega) (.int .i64 xa)).setCell (p := ⟨w.heap.size + 1 + 1, 1, none⟩) (by show w.heap.size ≤ w.heap.size + 1 + 1; omega) (.int .i64 xb)).setCell (p := ⟨w.heap.size + 1 + 1, 2, none⟩) (by show w.heap.size ≤ w.heap.size + 1 + 1; omega) (.slice pc nc qc))
  clear XA XR XO oc1
  go_wp2_with fail
  have xa2 := XA2.out
  have xr2 := XR2.out
  have xo2 := XO2.out
  have oc3 := oc2.out
  have b2 := B2.out
  have ir2 : ∀ i, (((w1.setCell ⟨w.heap.size + 1 + 1, 0, none⟩ (.int .i64 xa)).setCell ⟨w.heap.size + 1 + 1, 1, none⟩ (.int .i64 xb)).setCell ⟨w.heap.size + 1 + 1, 2, none⟩ (.slice pc nc qc)).frozen? ⟨w.heap.size + 1, i, none⟩ = false := fun i => by rw [World.frozen?_setCell, World.frozen?_setCell, World.frozen?_setCell]; exact iR i
  have io2 : ∀ i, (((w1.setCell ⟨w.heap.size + 1 + 1, 0, none⟩ (.int .i64 xa)).setCell ⟨w.heap.size + 1 + 1, 1, none⟩ (.int .i64 xb)).setCell ⟨w.heap.size + 1 + 1, 2, none⟩ (.slice pc nc qc)).frozen? ⟨w.heap.size + 1 + 1, i, none⟩ = false := fun i => by rw [World.frozen?_setCell, World.frozen?_setCell, World.frozen?_setCell]; exact iO i
  have hs2 : w1.heap.size = (((w1.setCell ⟨w.heap.size + 1 + 1, 0, none⟩ (.int .i64 xa)).setCell ⟨w.heap.size + 1 + 1, 1, none⟩ (.int .i64 xb)).setCell ⟨w.heap.size + 1 + 1, 2, none⟩ (.slice pc nc qc)).heap.size := by simp [World.setCell]
  rw [hs2] at oc3 hz
  clear XA2 XR2 XO2 oc2 B2 y0 y1 y2 x3 B1 iR iO hs2
  generalize ((w1.setCell ⟨w.heap.size + 1 + 1, 0, none⟩ (.int .i64 xa)).setCell ⟨w.heap.size + 1 + 1, 1, none⟩ (.int .i64 xb)).setCell ⟨w.heap.size + 1 + 1, 2, none⟩ (.slice pc nc qc) = ws at *
  go_at_call 39
  refine (toInt64S_own ad nd cd Zd _ hnd (hd.below b2 (Nat.le_refl _))).mono ?_
  rintro e w2 ⟨pd, qd, rfl, od, b3⟩
  have hs3 := b3.size
  have B3 := b2.trans (b3.mono b2.size)
  have oc4 := oc3.kept (below_grew b3) (fun g hg => by cases hg)
  have xr3 := xr2.below b3 (by omega)
  have xo3 := xo2.below b3 (by omega)
  obtain ⟨_, hf3⟩ := bcell b3
  have ir3 : ∀ i, w2.frozen? ⟨w.heap.size + 1, i, none⟩ = false := fun i => (hf3 _ _ (by omega)).trans (ir2 i)
  have io3 : ∀ i, w2.frozen? ⟨w.heap.size + 1 + 1, i, none⟩ = false := fun i => (hf3 _ _ (by omega)).trans (io2 i)
  have r0 := xr3 0 _ rfl
  have r1 := xr3 1 _ rfl
  have r2 := xr3 2 _ rfl
  have r3 := xr3 3 _ rfl
  have q0 := xo3 0 _ rfl
  have q1 := xo3 1 _ rfl
  have q2 := xo3 2 _ rfl
  have q3 := xo3 3 _ rfl
  clear xa2 xr2 xo2 oc3 b2 ir2 io2 b3 xr3 xo3 hf3
  go_wp2_with fail
  refine bodyPost_ret (v := .agg #[.int .i64 xa, .int .i64 xb, .slice pc nc qc, .slice pd nd qd]) (by simp [results, Try.results11, go_sem, r0, r1, r2, r3, q0, q1, q2, q3]) rfl ?_
  refine ⟨pc, qc, pd, qd, ws.heap.size, rfl, by omega, (by first | omega | (simp [World.setCell]; omega)), ?_, ?_, ?_⟩
  · exact (by refine Own.to oc4 (hk := fun g hg1 hg2 => by (try simp at hg1 hg2); repeat (first | rw [Below.heap_setCell _ _ _ _ (by simp; omega)] | rw [Below.heap_alloc _ _ _ (by simp [World.setCell]; omega)])) ?_ ?_ ?_ ?_ <;> (first | exact Nat.le_refl _ | omega | (simp [World.setCell]; done) | (simp [World.setCell]; omega)))
  · exact (by refine OwnI.to od (hk := fun g hg1 hg2 => by (try simp at hg1 hg2); repeat (first | rw [Below.heap_setCell _ _ _ _ (by simp; omega)] | rw [Below.heap_alloc _ _ _ (by simp [World.setCell]; omega)])) ?_ ?_ ?_ ?_ <;> (first | exact Nat.le_refl _ | omega | (simp [World.setCell]; done) | (simp [World.setCell]; omega)))
  · exact (by repeat first | (with_reducible exact B3) | (with_reducible refine Below.setCell ?_ (by first | exact Nat.le_refl _ | (simp; done) | (simp; omega) | omega) _) | (with_reducible refine Below.alloc ?_ (by first | exact Nat.le_refl _ | (simp; done) | (simp; omega) | omega) _) | (with_reducible refine below_drewN ?_ _) | (with_reducible refine Below.drew ?_))
set_option maxRecDepth 100000 in
theorem eqFactor_any (xa : Int) (xb : Int) (ac bc : Option Addr) (nc cc dc : Nat) (Zc Yc : Nat → Nat) (ad bd : Option Addr) (nd cd dd : Nat) (Zd Yd : Nat → Int) (w : World) (hnc : nc ≤ 1048576) (hnd : nd ≤ 1048576) (hc : FS .f32 w ac nc cc Zc) (kc : FS .f32 w bc nc dc Yc) (hd : IS .i64 w ad nd cd Zd) (kd : IS .i64 w bd nd dd Yd) (ec : ∀ i, i < nc → cn .f32 (Zc i) = cn .f32 (Yc i)) (ed : ∀ i, i < nd → Zd i = Yd i) :
    Calls Try.prog 15 #[.agg #[.int .i64 xa, .int .i64 xb, .slice ac nc cc, .slice ad nd cd], .agg #[.int .i64 xa, .int .i64 xb, .slice bc nc dc, .slice bd nd dd]] w fun e w' => e = .returned (.bool true) ∧ Below w.heap.size w w' := by
  go_enter Try.func15, Try.ntmps15
  go_wp2_with fail
  go_at_call 26
  refine (eqMatrix_any xa xb _ _ nc _ _ Zc Yc _ hnc (hc.below (by repeat first | (with_reducible exact Below.refl _ _) | (with_reducible refine Below.setCell ?_ (by first | exact Nat.le_refl _ | (simp; done) | (simp; omega) | omega) _) | (with_reducible refine Below.alloc ?_ (by first | exact Nat.le_refl _ | (simp; done) | (simp; omega) | omega) _) | (with_reducible refine below_drewN ?_ _) | (with_reducible refine Below.drew ?_)) (Nat.le_refl _)) (kc.below (by repeat first | (with_reducible exact Below.refl _ _) | (with_reducible refine Below.setCell ?_ (by first | exact Nat.le_refl _ | (simp; done) | (simp; omega) | omega) _) | (with_reducible refine Below.alloc ?_ (by first | exact Nat.le_refl _ | (simp; done) | (simp; omega) | omega) _) | (with_reducible refine below_drewN ?_ _) | (with_reducible refine Below.drew ?_)) (Nat.le_refl _)) ec).mono ?_
  rintro e w1 ⟨rfl, b1⟩
  have B1 : Below w.heap.size w w1 := Below.trans (by repeat first | (with_reducible exact Below.refl _ _) | (with_reducible refine Below.setCell ?_ (by first | exact Nat.le_refl _ | (simp; done) | (simp; omega) | omega) _) | (with_reducible refine Below.alloc ?_ (by first | exact Nat.le_refl _ | (simp; done) | (simp; omega) | omega) _) | (with_reducible refine below_drewN ?_ _) | (with_reducible refine Below.drew ?_)) (b1.mono (by simp <;> omega))
  have XA : BoxL w1 w.heap.size [.int .i64 xa, .int .i64 xb, .slice ac nc cc, .slice ad nd cd] := BoxL.below (BoxL.four (by simp [go_sem]) (by simp [go_sem]) (by simp [go_sem]) (by simp [go_sem])) b1 (by simp <;> omega)
  have XB : BoxL w1 (w.heap.size + 1) [.int .i64 xa, .int .i64 xb, .slice bc nc dc, .slice bd nd dd] := BoxL.below (BoxL.four (by simp [go_sem]) (by simp [go_sem]) (by simp [go_sem]) (by simp [go_sem])) b1 (by simp <;> omega)
  have x3 := XA 3 _ rfl
  have y3 := XB 3 _ rfl
  have l1 : w.heap.size + 1 < w1.heap.size := by have := b1.size; simp at this; omega
  clear b1 XA XB
  go_wp2_with fail
  go_at_call 47
  refine (eqInt64S_any _ _ nd _ _ Zd Yd _ hnd (hd.below B1 (Nat.le_refl _)) (kd.below B1 (Nat.le_refl _)) ed).mono ?_
  rintro e w' ⟨rfl, m1, rfl⟩
  go_wp2_with fail
  go_ret
  exact ⟨rfl, (by repeat first | (with_reducible exact B1) | (with_reducible refine Below.setCell ?_ (by first | exact Nat.le_refl _ | (simp; done) | (simp; omega) | omega) _) | (with_reducible refine Below.alloc ?_ (by first | exact Nat.le_refl _ | (simp; done) | (simp; omega) | omega) _) | (with_reducible refine below_drewN ?_ _) | (with_reducible refine Below.drew ?_))⟩
theorem markFactor_sep (B Mc U : Nat) (xa : Int) (xb : Int) (ac : Option Addr) (nc cc : Nat) (Zc : Nat → Nat) (ad : Option Addr) (nd cd : Nat) (Zd : Nat → Int) (k : Nat) (w : World) (hnc : nc ≤ 1048576) (hnd : nd ≤ 1048576) (hk : k ≤ 1048577) (hb0 : B ≤ Mc) (hb1 : Mc ≤ U) (hUw : U ≤ w.heap.size) (hc : Own 44 .f32 B Mc w ac nc cc Zc) (hd : OwnI 2 .i64 Mc U w ad nd cd Zd) :
    Calls Try.prog 16 #[.agg #[.int .i64 xa, .int .i64 xb, .slice ac nc cc, .slice ad nd cd], .int .i64 k] w fun e w' => e = .returned (.int .i64 ((k + nc + nd : Nat) : Int)) ∧ Own 44 .f32 B Mc w' ac nc cc (fun j => floatOfInt .f32 ((k + j : Nat) : Int)) ∧ OwnI 2 .i64 Mc U w' ad nd cd (fun j => ((k + nc + j : Nat) : Int)) ∧ Grew B U w w' := by
  go_enter Try.func16, Try.ntmps16
  go_wp2_with fail
  go_at_call 29
  refine (markMatrix_more xa xb B Mc _ _ _ (k) Zc _ hnc (by omega) (hc.kept (World.grownBy_alloc w _ none) (fun g h => by cases h))).mono ?_
  rintro e w1 ⟨rfl, oc, r1⟩
  have G1 : Grew B U w w1 := (Grew.ofBelow (by repeat first | (with_reducible exact Below.refl _ _) | (with_reducible refine Below.setCell ?_ (by first | exact Nat.le_refl _ | (simp; done) | (simp; omega) | omega) _) | (with_reducible refine Below.alloc ?_ (by first | exact Nat.le_refl _ | (simp; done) | (simp; omega) | omega) _) | (with_reducible refine below_drewN ?_ _) | (with_reducible refine Below.drew ?_))).trans ((Marked.grew r1).wide (Nat.le_refl _) (by omega))
  replace hd := (hd.over (Grew.ofBelow (B := B) (U := Mc) (by repeat first | (with_reducible exact Below.refl _ _) | (with_reducible refine Below.setCell ?_ (by first | exact Nat.le_refl _ | (simp; done) | (simp; omega) | omega) _) | (with_reducible refine Below.alloc ?_ (by first | exact Nat.le_refl _ | (simp; done) | (simp; omega) | omega) _) | (with_reducible refine below_drewN ?_ _) | (with_reducible refine Below.drew ?_))) (.inr (by omega))).over (Marked.grew r1) (.inr (by omega))
  have X1 : BoxL w1 w.heap.size [.int .i64 xa, .int .i64 xb, .slice ac nc cc, .slice ad nd cd] := BoxL.over (BoxL.four (by simp [go_sem]) (by simp [go_sem]) (by simp [go_sem]) (by simp [go_sem])) (Marked.grew r1) (by simp) (.inr (by omega))
  have L1 : w.heap.size < w1.heap.size := by have := (Marked.grew r1).size; simp at this; omega
  clear r1
  have c1_0 := X1 0 _ rfl
  have c1_1 := X1 1 _ rfl
  have c1_2 := X1 2 _ rfl
  have c1_3 := X1 3 _ rfl
  go_wp2_with fail
  go_at_call 48
  refine (markInt64S_any Mc U _ _ _ (k + nc) Zd _ hnd (by omega) hd).mono ?_
  rintro e w2 ⟨rfl, od, r2⟩
  have G2 : Grew B U w w2 := G1.trans ((Marked.grew r2).wide (by omega) (by omega))
  replace oc := oc.over (Marked.grew r2) (.inl (by omega))
  clear r2 G1 X1 L1 c1_0 c1_1 c1_2 c1_3
  go_wp2_with fail
  go_ret
  exact ⟨rfl, oc, od, G2⟩
end Go.Proofs.Ytmddhhmgfhljiaa
