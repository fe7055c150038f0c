/- Helper: the structure Desk: walks of the laws' own functions on it: copies, sizes, comparisons. Conditions: none. -/
import Derived.Test.YtmddhhmgfhljiabMatCopy
import Derived.Test.YtmddhhmgfhljiabKeys
import Derived.Test.YtmddhhmgfhljiabMarkMore
import Derived.Test.YtmddhhmgfhljiabBoxes
import Derived.Test.YtmddhhmgfhljiabChainMore
import Derived.Test.YtmddhhmgfhljiabWhole
import Derived.Lib.SmallJoins
import Derived.ChangeArms
set_option linter.unusedVariables false
set_option linter.unusedSimpArgs false
namespace Go.Proofs.Ytmddhhmgfhljiab
open Go.ChangeShapes Go.WideShapes Go.RowKit Go.Deep

theorem BoxL.nine {w : World} {b : Nat} {v0 v1 v2 v3 v4 v5 v6 v7 v8 : Value} (h0 : w.cell? ⟨b, 0, none⟩ = some v0) (h1 : w.cell? ⟨b, 1, none⟩ = some v1) (h2 : w.cell? ⟨b, 2, none⟩ = some v2) (h3 : w.cell? ⟨b, 3, none⟩ = some v3) (h4 : w.cell? ⟨b, 4, none⟩ = some v4) (h5 : w.cell? ⟨b, 5, none⟩ = some v5) (h6 : w.cell? ⟨b, 6, none⟩ = some v6) (h7 : w.cell? ⟨b, 7, none⟩ = some v7) (h8 : w.cell? ⟨b, 8, none⟩ = some v8) : BoxL w b [v0, v1, v2, v3, v4, v5, v6, v7, v8] := by
  intro i v hv
  rcases i with _ | _ | _ | _ | _ | _ | _ | _ | _ | i
  · cases hv; exact h0
  · cases hv; exact h1
  · cases hv; exact h2
  · cases hv; exact h3
  · cases hv; exact h4
  · cases hv; exact h5
  · cases hv; exact h6
  · cases hv; exact h7
  · cases hv; exact h8
  · simp at hv
theorem BoxL.setB {w : World} {b i : Nat} {vs : List Value} {v : Value} (h : BoxL w b vs) (hi : i < vs.length) : BoxL (w.setCell ⟨b, i, none⟩ v) b (vs.set i v) := by
  intro j u hj
  by_cases e : j = i
  · subst e
    rw [List.getElem?_set_self hi] at hj
    cases hj
    exact World.cell?_setCell_same _ _ _ (h j _ (List.getElem?_eq_getElem hi))
  · rw [List.getElem?_set_ne (Ne.symm e)] at hj
    rw [World.cell?_setCell_other _ _ _ _ (by simp <;> omega)]
    exact h j u hj
theorem BoxL.otherB {w : World} {b g i : Nat} {vs : List Value} {v : Value} (h : BoxL w b vs) (hne : b ≠ g) : BoxL (w.setCell ⟨g, i, none⟩ v) b vs := by
  intro j u hj
  rw [World.cell?_setCell_other _ _ _ _ (by simp <;> omega)]
  exact h j u hj
theorem Own.setOutB {T : TypeId} {k : FloatKind} {B U g i : Nat} {w : World} {a : Option Addr} {n c : Nat} {Z : Nat → Nat} {v : Value} (h : Own T k B U w a n c Z) (hg : g < B ∨ U ≤ g) : Own T k B U (w.setCell ⟨g, i, none⟩ v) a n c Z :=
  h.kept (row := some g) ⟨rfl, rfl, rfl, by simp [World.setCell], fun k _ hk => Below.heap_setCell _ _ _ _ (fun e => hk (by simp [e]))⟩ (fun q hq => by cases hq; exact hg)
theorem OwnI.setOutB {T : TypeId} {k : IntKind} {B U g i : Nat} {w : World} {a : Option Addr} {n c : Nat} {Z : Nat → Int} {v : Value} (h : OwnI T k B U w a n c Z) (hg : g < B ∨ U ≤ g) : OwnI T k B U (w.setCell ⟨g, i, none⟩ v) a n c Z :=
  h.kept (row := some g) ⟨rfl, rfl, rfl, by simp [World.setCell], fun k _ hk => Below.heap_setCell _ _ _ _ (fun e => hk (by simp [e]))⟩ (fun q hq => by cases hq; exact hg)
section
variable {H : Type} {enc : TypeId × Value → H} {P : Program} {w : World} {base : Nat} {spare : Nat → Bool} {held : Bool}
theorem nine_of {cs : Array Value} (h : cs.size = 9) : ∃ c0 c1 c2 c3 c4 c5 c6 c7 c8, cs = #[c0, c1, c2, c3, c4, c5, c6, c7, c8] := by
  obtain ⟨l⟩ := cs
  simp at h
  match l, h with
  | [a, b, c, d, e, f, g, i, j], _ => exact ⟨a, b, c, d, e, f, g, i, j, rfl⟩
theorem open_desk {r : Reach} {b0 : Nat} {t eF eI : TypeId} {f0 f1 f2 f3 m0 m1 m2 k0 k1 n0 n1 n2 : Field} {v : Value} {d : DataW H} {p : List MemPlace} (hs : P.underlying t = some (.struct #[f0, f1, f2, f3])) (hC : P.cellsOf t = 9)
    (hm : P.underlying f0.type = some (.struct #[m0, m1, m2])) (hk : P.underlying f2.type = some (.struct #[k0, k1])) (hw : P.underlying f3.type = some (.struct #[n0, n1, n2]))
    (hoff : (f0.offset, f1.offset, f2.offset, f3.offset) = (0, 3, 4, 6)) (hoffs : (m0.offset, m1.offset, m2.offset, k0.offset, k1.offset, n0.offset, n1.offset, n2.offset) = (0, 1, 2, 0, 1, 0, 1, 2))
    (hsz : (P.cellsOf f0.type, P.cellsOf f1.type, P.cellsOf f2.type, P.cellsOf f3.type) = (3, 1, 2, 3)) (hszs : (P.cellsOf m0.type, P.cellsOf m1.type, P.cellsOf m2.type, P.cellsOf k0.type, P.cellsOf k1.type, P.cellsOf n0.type, P.cellsOf n1.type, P.cellsOf n2.type) = (1, 1, 1, 1, 1, 1, 1, 1))
    (hA : P.underlying m0.type = some (.int .i64)) (hB : P.underlying m1.type = some (.int .i64)) (hc : P.underlying m2.type = some (.slice eF)) (hd : P.underlying f1.type = some (.slice eF)) (he : P.underlying k0.type = some (.slice eF)) (hf : P.underlying k1.type = some (.slice eF))
    (hG : P.underlying n0.type = some (.int .i64)) (hH : P.underlying n1.type = some (.int .i64)) (hi : P.underlying n2.type = some (.slice eI))
    (heF : P.underlying eF = some (.float .f32)) (hcF : P.cellsOf eF = 1) (heI : P.underlying eI = some (.int .i64)) (hcI : P.cellsOf eI = 1)
    (hv : Value.okWide P w r b0 t v) (h : DataW.Trod enc P w base spare held t v d p) :
    ∃ (xa : Int) (xb : Int) (ac : Option Addr) (nc cc : Nat) (Zc : Nat → Nat) (ad : Option Addr) (nd cd : Nat) (Zd : Nat → Nat) (ae : Option Addr) (ne ce : Nat) (Ze : Nat → Nat) (af : Option Addr) (nf cf : Nat) (Zf : Nat → Nat) (xg : Int) (xh : Int) (ai : Option Addr) (ni ci : Nat) (Zi : Nat → Int), v = .agg #[.int .i64 xa, .int .i64 xb, .slice ac nc cc, .slice ad nd cd, .slice ae ne ce, .slice af nf cf, .int .i64 xg, .int .i64 xh, .slice ai ni ci] ∧ (Lit.int .i64 xa).wf = true ∧ (Lit.int .i64 xb).wf = true ∧ (Lit.int .i64 xg).wf = true ∧ (Lit.int .i64 xh).wf = true ∧ FS .f32 w ac nc cc Zc ∧ FS .f32 w ad nd cd Zd ∧ FS .f32 w ae ne ce Ze ∧ FS .f32 w af nf cf Zf ∧ IS .i64 w ai ni ci Zi := by
  obtain ⟨cs, rfl, hcs⟩ := okWide_struct hs hv
  obtain ⟨c0, c1, c2, c3, c4, c5, c6, c7, c8, rfl⟩ := nine_of (hcs.trans hC)
  obtain ⟨fuel, hfu⟩ := h
  obtain ⟨y0, y1, y2, y3, m, _, _, g0, g1, g2, g3⟩ := Joins.trod_struct4 hs hfu
  simp only [Prod.mk.injEq] at hoff hsz hoffs hszs
  obtain ⟨o0, o1, o2, o3⟩ := hoff
  obtain ⟨s0, s1, s2, s3⟩ := hsz
  obtain ⟨p0, p1, p2, p3, p4, p5, p6, p7⟩ := hoffs
  obtain ⟨q0, q1, q2, q3, q4, q5, q6, q7⟩ := hszs
  have g0' : DataW.trod enc P w base spare held m f0.type [c0, c1, c2] = some y0 := by simpa [Value.cells, o0, s0] using g0
  have g1' : DataW.trod enc P w base spare held m f1.type [c3] = some y1 := by simpa [Value.cells, o1, s1] using g1
  have g2' : DataW.trod enc P w base spare held m f2.type [c4, c5] = some y2 := by simpa [Value.cells, o2, s2] using g2
  have g3' : DataW.trod enc P w base spare held m f3.type [c6, c7, c8] = some y3 := by simpa [Value.cells, o3, s3] using g3
  obtain ⟨z0, z1, z2, mm, _, _, u0, u1, u2⟩ := trod_struct3 hm g0'
  obtain ⟨z3, z4, mk, _, _, u3, u4⟩ := trod_struct2 hk g2'
  obtain ⟨z5, z6, z7, mw, _, _, u5, u6, u7⟩ := trod_struct3 hw g3'
  have u0' : DataW.trod enc P w base spare held mm m0.type [c0] = some z0 := by simpa [p0, q0] using u0
  have u1' : DataW.trod enc P w base spare held mm m1.type [c1] = some z1 := by simpa [p1, q1] using u1
  have u2' : DataW.trod enc P w base spare held mm m2.type [c2] = some z2 := by simpa [p2, q2] using u2
  have u3' : DataW.trod enc P w base spare held mk k0.type [c4] = some z3 := by simpa [p3, q3] using u3
  have u4' : DataW.trod enc P w base spare held mk k1.type [c5] = some z4 := by simpa [p4, q4] using u4
  have u5' : DataW.trod enc P w base spare held mw n0.type [c6] = some z5 := by simpa [p5, q5] using u5
  have u6' : DataW.trod enc P w base spare held mw n1.type [c7] = some z6 := by simpa [p6, q6] using u6
  have u7' : DataW.trod enc P w base spare held mw n2.type [c8] = some z7 := by simpa [p7, q7] using u7
  obtain ⟨xa, e0, _, w0⟩ := DataW.trod_int hA u0'
  obtain ⟨xb, e1, _, w1⟩ := DataW.trod_int hB u1'
  obtain ⟨ac, nc, cc, e2⟩ := Joins.slice_form hc u2'
  obtain ⟨ad, nd, cd, e3⟩ := Joins.slice_form hd g1'
  obtain ⟨ae, ne, ce, e4⟩ := Joins.slice_form he u3'
  obtain ⟨af, nf, cf, e5⟩ := Joins.slice_form hf u4'
  obtain ⟨xg, e6, _, w6⟩ := DataW.trod_int hG u5'
  obtain ⟨xh, e7, _, w7⟩ := DataW.trod_int hH u6'
  obtain ⟨ai, ni, ci, e8⟩ := Joins.slice_form hi u7'
  simp only [List.cons.injEq, and_true] at e0 e1 e2 e3 e4 e5 e6 e7 e8
  subst e0 e1 e2 e3 e4 e5 e6 e7 e8
  obtain ⟨Zc, hZc⟩ := open_floats (k := .f32) hc heF hcF ⟨mm, u2'⟩
  obtain ⟨Zd, hZd⟩ := open_floats (k := .f32) hd heF hcF ⟨m, g1'⟩
  obtain ⟨Ze, hZe⟩ := open_floats (k := .f32) he heF hcF ⟨mk, u3'⟩
  obtain ⟨Zf, hZf⟩ := open_floats (k := .f32) hf heF hcF ⟨mk, u4'⟩
  obtain ⟨Zi, hZi⟩ := open_ints1 (k := .i64) hi heI hcI ⟨mw, u7'⟩
  exact ⟨xa, xb, ac, nc, cc, Zc, ad, nd, cd, Zd, ae, ne, ce, Ze, af, nf, cf, Zf, xg, xh, ai, ni, ci, Zi, rfl, w0, w1, w6, w7, hZc, hZd, hZe, hZf, hZi⟩
end
theorem szDesk_yes (xa : Int) (xb : Int) (ac : Option Addr) (nc cc : Nat) (ad : Option Addr) (nd cd : Nat) (ae : Option Addr) (ne ce : Nat) (af : Option Addr) (nf cf : Nat) (xg : Int) (xh : Int) (ai : Option Addr) (ni ci : Nat) (L : Nat) (w : World) (hL : L ≤ 1048576) (hlc : nc ≤ L) (hld : nd ≤ L - nc) (hle : ne ≤ L - nc - nd) (hlf : nf ≤ L - nc - nd - ne) (hli : ni ≤ L - nc - nd - ne - nf) :
    Calls Try.prog 7 #[.agg #[.int .i64 xa, .int .i64 xb, .slice ac nc cc, .slice ad nd cd, .slice ae ne ce, .slice af nf cf, .int .i64 xg, .int .i64 xh, .slice ai ni ci], .int .i64 L] w fun e w' => e = .returned (.int .i64 ((L - nc - nd - ne - nf - ni : Nat) : Int)) ∧ Below w.heap.size w w' := by
  have hd1 : decide (((L - nc : Nat) : Int) < 0) = false := decide_eq_false (by omega)
  have hd2 : decide (((L - nc - nd : Nat) : Int) < 0) = false := decide_eq_false (by omega)
  have hd4 : decide (((L - nc - nd - ne - nf : Nat) : Int) < 0) = false := decide_eq_false (by omega)
  have hd5 : decide (((L - nc - nd - ne - nf - ni : Nat) : Int) < 0) = false := decide_eq_false (by omega)
  go_enter Try.func7, Try.ntmps7
  go_wp2_with fail
  go_at_call 23
  refine (szMatrix_yes _ _ _ _ _ (L) _ (by omega) hlc).mono ?_
  rintro e w1 ⟨rfl, b1⟩
  have B1 : Below w.heap.size w w1 := Below.trans (by repeat first | (with_reducible exact Below.refl _ _) | (with_reducible refine Below.setCell ?_ (by first | exact Nat.le_refl _ | (simp; done) | (simp; omega) | omega) _) | (with_reducible refine Below.alloc ?_ (by first | exact Nat.le_refl _ | (simp; done) | (simp; omega) | omega) _) | (with_reducible refine below_drewN ?_ _) | (with_reducible refine Below.drew ?_)) (b1.mono (by simp))
  have X1 : BoxL w1 w.heap.size [.int .i64 xa, .int .i64 xb, .slice ac nc cc, .slice ad nd cd, .slice ae ne ce, .slice af nf cf, .int .i64 xg, .int .i64 xh, .slice ai ni ci] := BoxL.below (BoxL.nine (by simp [go_sem]) (by simp [go_sem]) (by simp [go_sem]) (by simp [go_sem]) (by simp [go_sem]) (by simp [go_sem]) (by simp [go_sem]) (by simp [go_sem]) (by simp [go_sem])) b1 (by simp)
  have x3 := X1 3 _ rfl
  have x4 := X1 4 _ rfl
  have x5 := X1 5 _ rfl
  have x6 := X1 6 _ rfl
  have x7 := X1 7 _ rfl
  have x8 := X1 8 _ rfl
  have l1 : w.heap.size < w1.heap.size := by have := b1.size; simp at this; omega
  clear b1
  go_wp2_with fail
  go_at_call 24
  refine (szFloat32S_yes _ _ _ (L - nc) _ (by omega) hld).mono ?_
  rintro e w' ⟨rfl, rfl⟩
  go_wp2_with fail
  go_at_call 25
  refine (szChain_yes _ _ _ _ _ _ (L - nc - nd) _ (by omega) hle hlf).mono ?_
  rintro e w2 ⟨rfl, b2⟩
  have B2 := B1.trans (b2.mono B1.size)
  have X2 := X1.below b2 l1
  have l2 : w.heap.size < w2.heap.size := Nat.lt_of_lt_of_le l1 b2.size
  clear b2 x3 x4 x5 x6 x7 x8 X1 l1 B1
  have x6 := X2 6 _ rfl
  have x7 := X2 7 _ rfl
  have x8 := X2 8 _ rfl
  go_wp2_with fail
  go_at_call 26
  refine (szWhole_yes _ _ _ _ _ (L - nc - nd - ne - nf) _ (by omega) hli).mono ?_
  rintro e w3 ⟨rfl, b3⟩
  have B3 := B2.trans (b3.mono B2.size)
  go_wp2_with fail
  go_ret
  exact ⟨rfl, (by repeat first | (with_reducible exact B3) | (with_reducible refine Below.setCell ?_ (by first | exact Nat.le_refl _ | (simp; done) | (simp; omega) | omega) _) | (with_reducible refine Below.alloc ?_ (by first | exact Nat.le_refl _ | (simp; done) | (simp; omega) | omega) _) | (with_reducible refine below_drewN ?_ _) | (with_reducible refine Below.drew ?_))⟩
theorem szDesk_no (xa : Int) (xb : Int) (ac : Option Addr) (nc cc : Nat) (ad : Option Addr) (nd cd : Nat) (ae : Option Addr) (ne ce : Nat) (af : Option Addr) (nf cf : Nat) (xg : Int) (xh : Int) (ai : Option Addr) (ni ci : Nat) (L : Nat) (w : World) (hL : L ≤ 1048576) (hmc : nc ≤ 9223372036854775807) (hmd : nd ≤ 9223372036854775807) (hme : ne ≤ 9223372036854775807) (hmf : nf ≤ 9223372036854775807) (hmi : ni ≤ 9223372036854775807) (hl : ¬ (nc ≤ L ∧ nd ≤ L - nc ∧ ne ≤ L - nc - nd ∧ nf ≤ L - nc - nd - ne ∧ ni ≤ L - nc - nd - ne - nf)) :
    Calls Try.prog 7 #[.agg #[.int .i64 xa, .int .i64 xb, .slice ac nc cc, .slice ad nd cd, .slice ae ne ce, .slice af nf cf, .int .i64 xg, .int .i64 xh, .slice ai ni ci], .int .i64 L] w fun e w' => e = .returned (.int .i64 (-1)) ∧ Below w.heap.size w w' := by
  by_cases hq0 : nc ≤ L
  case neg =>
    go_enter Try.func7, Try.ntmps7
    go_wp2_with fail
    go_at_call 23
    refine (szMatrix_no _ _ _ _ _ (L) _ (by omega) hmc (by omega)).mono ?_
    rintro e w1 ⟨rfl, b1⟩
    have B1 : Below w.heap.size w w1 := Below.trans (by repeat first | (with_reducible exact Below.refl _ _) | (with_reducible refine Below.setCell ?_ (by first | exact Nat.le_refl _ | (simp; done) | (simp; omega) | omega) _) | (with_reducible refine Below.alloc ?_ (by first | exact Nat.le_refl _ | (simp; done) | (simp; omega) | omega) _) | (with_reducible refine below_drewN ?_ _) | (with_reducible refine Below.drew ?_)) (b1.mono (by simp))
    go_wp2_with fail
    go_ret
    exact ⟨rfl, (by repeat first | (with_reducible exact B1) | (with_reducible refine Below.setCell ?_ (by first | exact Nat.le_refl _ | (simp; done) | (simp; omega) | omega) _) | (with_reducible refine Below.alloc ?_ (by first | exact Nat.le_refl _ | (simp; done) | (simp; omega) | omega) _) | (with_reducible refine below_drewN ?_ _) | (with_reducible refine Below.drew ?_))⟩
  by_cases hq1 : nd ≤ L - nc
  case neg =>
    have hd1 : decide (((L - nc : Nat) : Int) < 0) = false := decide_eq_false (by omega)
    go_enter Try.func7, Try.ntmps7
    go_wp2_with fail
    go_at_call 23
    refine (szMatrix_yes _ _ _ _ _ (L) _ (by omega) hq0).mono ?_
    rintro e w1 ⟨rfl, b1⟩
    have B1 : Below w.heap.size w w1 := Below.trans (by repeat first | (with_reducible exact Below.refl _ _) | (with_reducible refine Below.setCell ?_ (by first | exact Nat.le_refl _ | (simp; done) | (simp; omega) | omega) _) | (with_reducible refine Below.alloc ?_ (by first | exact Nat.le_refl _ | (simp; done) | (simp; omega) | omega) _) | (with_reducible refine below_drewN ?_ _) | (with_reducible refine Below.drew ?_)) (b1.mono (by simp))
    have X1 : BoxL w1 w.heap.size [.int .i64 xa, .int .i64 xb, .slice ac nc cc, .slice ad nd cd, .slice ae ne ce, .slice af nf cf, .int .i64 xg, .int .i64 xh, .slice ai ni ci] := BoxL.below (BoxL.nine (by simp [go_sem]) (by simp [go_sem]) (by simp [go_sem]) (by simp [go_sem]) (by simp [go_sem]) (by simp [go_sem]) (by simp [go_sem]) (by simp [go_sem]) (by simp [go_sem])) b1 (by simp)
    have x3 := X1 3 _ rfl
    have x4 := X1 4 _ rfl
    have x5 := X1 5 _ rfl
    have x6 := X1 6 _ rfl
    have x7 := X1 7 _ rfl
    have x8 := X1 8 _ rfl
    have l1 : w.heap.size < w1.heap.size := by have := b1.size; simp at this; omega
    clear b1
    go_wp2_with fail
    go_at_call 24
    refine (szFloat32S_no _ _ _ (L - nc) _ (by omega) hmd (by omega)).mono ?_
    rintro e w' ⟨rfl, rfl⟩
    go_wp2_with fail
    go_ret
    exact ⟨rfl, (by repeat first | (with_reducible exact B1) | (with_reducible refine Below.setCell ?_ (by first | exact Nat.le_refl _ | (simp; done) | (simp; omega) | omega) _) | (with_reducible refine Below.alloc ?_ (by first | exact Nat.le_refl _ | (simp; done) | (simp; omega) | omega) _) | (with_reducible refine below_drewN ?_ _) | (with_reducible refine Below.drew ?_))⟩
  by_cases hq2 : ne ≤ L - nc - nd ∧ nf ≤ L - nc - nd - ne
  case neg =>
    have hd1 : decide (((L - nc : Nat) : Int) < 0) = false := decide_eq_false (by omega)
    have hd2 : decide (((L - nc - nd : Nat) : Int) < 0) = false := decide_eq_false (by omega)
    go_enter Try.func7, Try.ntmps7
    go_wp2_with fail
    go_at_call 23
    refine (szMatrix_yes _ _ _ _ _ (L) _ (by omega) hq0).mono ?_
    rintro e w1 ⟨rfl, b1⟩
    have B1 : Below w.heap.size w w1 := Below.trans (by repeat first | (with_reducible exact Below.refl _ _) | (with_reducible refine Below.setCell ?_ (by first | exact Nat.le_refl _ | (simp; done) | (simp; omega) | omega) _) | (with_reducible refine Below.alloc ?_ (by first | exact Nat.le_refl _ | (simp; done) | (simp; omega) | omega) _) | (with_reducible refine below_drewN ?_ _) | (with_reducible refine Below.drew ?_)) (b1.mono (by simp))
    have X1 : BoxL w1 w.heap.size [.int .i64 xa, .int .i64 xb, .slice ac nc cc, .slice ad nd cd, .slice ae ne ce, .slice af nf cf, .int .i64 xg, .int .i64 xh, .slice ai ni ci] := BoxL.below (BoxL.nine (by simp [go_sem]) (by simp [go_sem]) (by simp [go_sem]) (by simp [go_sem]) (by simp [go_sem]) (by simp [go_sem]) (by simp [go_sem]) (by simp [go_sem]) (by simp [go_sem])) b1 (by simp)
    have x3 := X1 3 _ rfl
    have x4 := X1 4 _ rfl
    have x5 := X1 5 _ rfl
    have x6 := X1 6 _ rfl
    have x7 := X1 7 _ rfl
    have x8 := X1 8 _ rfl
    have l1 : w.heap.size < w1.heap.size := by have := b1.size; simp at this; omega
    clear b1
    go_wp2_with fail
    go_at_call 24
    refine (szFloat32S_yes _ _ _ (L - nc) _ (by omega) hq1).mono ?_
    rintro e w' ⟨rfl, rfl⟩
    go_wp2_with fail
    go_at_call 25
    refine (szChain_no _ _ _ _ _ _ (L - nc - nd) _ (by omega) hme hmf (by omega)).mono ?_
    rintro e w2 ⟨rfl, b2⟩
    have B2 := B1.trans (b2.mono B1.size)
    go_wp2_with fail
    go_ret
    exact ⟨rfl, (by repeat first | (with_reducible exact B2) | (with_reducible refine Below.setCell ?_ (by first | exact Nat.le_refl _ | (simp; done) | (simp; omega) | omega) _) | (with_reducible refine Below.alloc ?_ (by first | exact Nat.le_refl _ | (simp; done) | (simp; omega) | omega) _) | (with_reducible refine below_drewN ?_ _) | (with_reducible refine Below.drew ?_))⟩
  obtain ⟨hq2, hq3⟩ := hq2
  have hd1 : decide (((L - nc : Nat) : Int) < 0) = false := decide_eq_false (by omega)
  have hd2 : decide (((L - nc - nd : Nat) : Int) < 0) = false := decide_eq_false (by omega)
  have hd4 : decide (((L - nc - nd - ne - nf : Nat) : Int) < 0) = false := decide_eq_false (by omega)
  go_enter Try.func7, Try.ntmps7
  go_wp2_with fail
  go_at_call 23
  refine (szMatrix_yes _ _ _ _ _ (L) _ (by omega) hq0).mono ?_
  rintro e w1 ⟨rfl, b1⟩
  have B1 : Below w.heap.size w w1 := Below.trans (by repeat first | (with_reducible exact Below.refl _ _) | (with_reducible refine Below.setCell ?_ (by first | exact Nat.le_refl _ | (simp; done) | (simp; omega) | omega) _) | (with_reducible refine Below.alloc ?_ (by first | exact Nat.le_refl _ | (simp; done) | (simp; omega) | omega) _) | (with_reducible refine below_drewN ?_ _) | (with_reducible refine Below.drew ?_)) (b1.mono (by simp))
  have X1 : BoxL w1 w.heap.size [.int .i64 xa, .int .i64 xb, .slice ac nc cc, .slice ad nd cd, .slice ae ne ce, .slice af nf cf, .int .i64 xg, .int .i64 xh, .slice ai ni ci] := BoxL.below (BoxL.nine (by simp [go_sem]) (by simp [go_sem]) (by simp [go_sem]) (by simp [go_sem]) (by simp [go_sem]) (by simp [go_sem]) (by simp [go_sem]) (by simp [go_sem]) (by simp [go_sem])) b1 (by simp)
  have x3 := X1 3 _ rfl
  have x4 := X1 4 _ rfl
  have x5 := X1 5 _ rfl
  have x6 := X1 6 _ rfl
  have x7 := X1 7 _ rfl
  have x8 := X1 8 _ rfl
  have l1 : w.heap.size < w1.heap.size := by have := b1.size; simp at this; omega
  clear b1
  go_wp2_with fail
  go_at_call 24
  refine (szFloat32S_yes _ _ _ (L - nc) _ (by omega) hq1).mono ?_
  rintro e w' ⟨rfl, rfl⟩
  go_wp2_with fail
  go_at_call 25
  refine (szChain_yes _ _ _ _ _ _ (L - nc - nd) _ (by omega) hq2 hq3).mono ?_
  rintro e w2 ⟨rfl, b2⟩
  have B2 := B1.trans (b2.mono B1.size)
  have X2 := X1.below b2 l1
  have l2 : w.heap.size < w2.heap.size := Nat.lt_of_lt_of_le l1 b2.size
  clear b2 x3 x4 x5 x6 x7 x8 X1 l1 B1
  have x6 := X2 6 _ rfl
  have x7 := X2 7 _ rfl
  have x8 := X2 8 _ rfl
  go_wp2_with fail
  go_at_call 26
  refine (szWhole_no _ _ _ _ _ (L - nc - nd - ne - nf) _ (by omega) hmi (by omega)).mono ?_
  rintro e w3 ⟨rfl, b3⟩
  have B3 := B2.trans (b3.mono B2.size)
  go_wp2_with fail
  go_ret
  exact ⟨rfl, (by repeat first | (with_reducible exact B3) | (with_reducible refine Below.setCell ?_ (by first | exact Nat.le_refl _ | (simp; done) | (simp; omega) | omega) _) | (with_reducible refine Below.alloc ?_ (by first | exact Nat.le_refl _ | (simp; done) | (simp; omega) | omega) _) | (with_reducible refine below_drewN ?_ _) | (with_reducible refine Below.drew ?_))⟩
/-- A new one in memory of its own, its lists apart. -/
def SepDesk (w : World) (xa : Int) (xb : Int) (nc : Nat) (Zc : Nat → Nat) (nd : Nat) (Zd : Nat → Nat) (ne : Nat) (Ze : Nat → Nat) (nf : Nat) (Zf : Nat → Nat) (xg : Int) (xh : Int) (ni : Nat) (Zi : Nat → Int) (e : Ending) (w' : World) : Prop :=
  ∃ (ac : Option Addr) (cc : Nat) (ad : Option Addr) (cd : Nat) (ae : Option Addr) (ce : Nat) (af : Option Addr) (cf : Nat) (ai : Option Addr) (ci : Nat) (Mc Md Me Mf : Nat), e = .returned (.agg #[.int .i64 xa, .int .i64 xb, .slice ac nc cc, .slice ad nd cd, .slice ae ne ce, .slice af nf cf, .int .i64 xg, .int .i64 xh, .slice ai ni ci]) ∧ w.heap.size ≤ Mc ∧ Mc ≤ Md ∧ Md ≤ Me ∧ Me ≤ Mf ∧ Mf ≤ w'.heap.size ∧ Own 77 .f32 w.heap.size Mc w' ac nc cc Zc ∧ Own 77 .f32 Mc Md w' ad nd cd Zd ∧ Own 77 .f32 Md Me w' ae ne ce Ze ∧ Own 77 .f32 Me Mf w' af nf cf Zf ∧ OwnI 2 .i64 Mf w'.heap.size w' ai ni ci Zi ∧ Below w.heap.size w w'
set_option maxRecDepth 20000 in
set_option maxHeartbeats 4000000 in
theorem toDesk_sep (xa : Int) (xb : Int) (ac : Option Addr) (nc cc : Nat) (Zc : Nat → Nat) (ad : Option Addr) (nd cd : Nat) (Zd : Nat → Nat) (ae : Option Addr) (ne ce : Nat) (Ze : Nat → Nat) (af : Option Addr) (nf cf : Nat) (Zf : Nat → Nat) (xg : Int) (xh : Int) (ai : Option Addr) (ni ci : Nat) (Zi : Nat → Int) (w : World) (hnc : nc ≤ 1048576) (hnd : nd ≤ 1048576) (hne : ne ≤ 1048576) (hnf : nf ≤ 1048576) (hni : ni ≤ 1048576) (hc : FS .f32 w ac nc cc Zc) (hd : FS .f32 w ad nd cd Zd) (he : FS .f32 w ae ne ce Ze) (hf : FS .f32 w af nf cf Zf) (hi : IS .i64 w ai ni ci Zi) :
    Calls Try.prog 9 #[.agg #[.int .i64 xa, .int .i64 xb, .slice ac nc cc, .slice ad nd cd, .slice ae ne ce, .slice af nf cf, .int .i64 xg, .int .i64 xh, .slice ai ni ci]] w (SepDesk w xa xb nc Zc nd Zd ne Ze nf Zf xg xh ni Zi) := by
  go_enter Try.func9, Try.ntmps9
  go_wp2_with fail
  go_at_call 28
  refine (toMatrix_any xa xb ac nc cc Zc _ hnc (hc.below (by repeat first | (with_reducible exact Below.refl _ _) | (with_reducible refine Below.setCell ?_ (by first | exact Nat.le_refl _ | (simp; done) | (simp; omega) | omega) _) | (with_reducible refine Below.alloc ?_ (by first | exact Nat.le_refl _ | (simp; done) | (simp; omega) | omega) _) | (with_reducible refine below_drewN ?_ _) | (with_reducible refine Below.drew ?_)) (Nat.le_refl _))).mono ?_
  rintro e w1 ⟨pc, qc, rfl, oc, b1⟩
  have hz : w.heap.size + 1 + 1 + 1 ≤ w1.heap.size := by have := b1.size; simp [World.setCell] at this; omega
  have B1 : Below w.heap.size w w1 := (Below.trans (by repeat first | (with_reducible exact Below.refl _ _) | (with_reducible refine Below.setCell ?_ (by first | exact Nat.le_refl _ | (simp; done) | (simp; omega) | omega) _) | (with_reducible refine Below.alloc ?_ (by first | exact Nat.le_refl _ | (simp; done) | (simp; omega) | omega) _) | (with_reducible refine below_drewN ?_ _) | (with_reducible refine Below.drew ?_)) (b1.mono (by simp [World.setCell] <;> omega)))
  have XA : BoxL w1 w.heap.size [.int .i64 xa, .int .i64 xb, .slice ac nc cc, .slice ad nd cd, .slice ae ne ce, .slice af nf cf, .int .i64 xg, .int .i64 xh, .slice ai ni ci] := BoxL.below (BoxL.nine (by simp [go_sem]) (by simp [go_sem]) (by simp [go_sem]) (by simp [go_sem]) (by simp [go_sem]) (by simp [go_sem]) (by simp [go_sem]) (by simp [go_sem]) (by simp [go_sem])) b1 (by simp <;> omega)
  have XR : BoxL w1 (w.heap.size + 1) [.int .i64 0, .int .i64 0, .slice none 0 0, .slice none 0 0, .slice none 0 0, .slice none 0 0, .int .i64 0, .int .i64 0, .slice none 0 0] := BoxL.below (BoxL.nine (by simp [go_sem]) (by simp [go_sem]) (by simp [go_sem]) (by simp [go_sem]) (by simp [go_sem]) (by simp [go_sem]) (by simp [go_sem]) (by simp [go_sem]) (by simp [go_sem])) b1 (by simp <;> omega)
  have XO : BoxL w1 (w.heap.size + 1 + 1) [.int .i64 0, .int .i64 0, .slice none 0 0, .slice none 0 0, .slice none 0 0, .slice none 0 0, .int .i64 0, .int .i64 0, .slice none 0 0] := BoxL.below (BoxL.nine (by simp [go_sem]) (by simp [go_sem]) (by simp [go_sem]) (by simp [go_sem]) (by simp [go_sem]) (by simp [go_sem]) (by simp [go_sem]) (by simp [go_sem]) (by simp [go_sem])) b1 (by simp <;> omega)
  obtain ⟨_, hfz⟩ := bcell b1
  have iR : ∀ i, w1.frozen? ⟨w.heap.size + 1, i, none⟩ = false := fun i => by rw [hfz _ _ (by simp <;> omega)]; simp [go_sem]
  have iO : ∀ i, w1.frozen? ⟨w.heap.size + 1 + 1, i, none⟩ = false := fun i => by rw [hfz _ _ (by simp <;> omega)]; simp [go_sem]
  have oc1 := Own.mono (B' := w.heap.size + 1 + 1 + 1) oc (by simp <;> omega) (Nat.le_refl _) (Nat.le_refl _)
  clear b1 hfz oc
  have y0 := XO 0 _ rfl
  have y1 := XO 1 _ rfl
  have y2 := XO 2 _ rfl
  have x3 := XA 3 _ rfl
  have XA2 := Lib.hid (((XA.otherB (i := 0) (v := .int .i64 xa) (show w.heap.size ≠ w.heap.size + 1 + 1 by omega)).otherB (i := 1) (v := .int .i64 xb) (show w.heap.size ≠ w.heap.size + 1 + 1 by omega)).otherB (i := 2) (v := .slice pc nc qc) (show w.heap.size ≠ w.heap.size + 1 + 1 by omega))
  have XR2 := Lib.hid (((XR.otherB (i := 0) (v := .int .i64 xa) (show w.heap.size + 1 ≠ w.heap.size + 1 + 1 by omega)).otherB (i := 1) (v := .int .i64 xb) (show w.heap.size + 1 ≠ w.heap.size + 1 + 1 by omega)).otherB (i := 2) (v := .slice pc nc qc) (show w.heap.size + 1 ≠ w.heap.size + 1 + 1 by omega))
  have XO2 := Lib.hid (((XO.setB (i := 0) (v := .int .i64 xa) (by simp)).setB (i := 1) (v := .int .i64 xb) (by simp)).setB (i := 2) (v := .slice pc nc qc) (by simp))
  have oc2 := Lib.hid (((oc1.setOutB (i := 0) (v := .int .i64 xa) (.inl (show w.heap.size + 1 + 1 < w.heap.size + 1 + 1 + 1 by omega))).setOutB (i := 1) (v := .int .i64 xb) (.inl (show w.heap.size + 1 + 1 < w.heap.size + 1 + 1 + 1 by omega))).setOutB (i := 2) (v := .slice pc nc qc) (.inl (show w.heap.size + 1 + 1 < w.heap.size + 1 + 1 + 1 by omega)))
  have B2 := Lib.hid (((B1.setCell (p := ⟨w.heap.size + 1 + 1, 0, none⟩) (by show w.heap.size ≤ w.heap.size + 1 + 1; omega) (.int .i64 xa)).setCell (p := ⟨w.heap.size + 1 + 1, 1, none⟩) (by show w.heap.size ≤ w.heap.size + 1 + 1; omega) (.int .i64 xb)).setCell (p := ⟨w.heap.size + 1 + 1, 2, none⟩) (by show w.heap.size ≤ w.heap.size + 1 + 1; omega) (.slice pc nc qc))
  clear XA XR XO oc1
  go_wp2_with fail
  have xa2 := XA2.out
  have xr2 := XR2.out
  have xo2 := XO2.out
  have b2 := B2.out
  have oc3 := oc2.out
  have ir2 : ∀ i, (((w1.setCell ⟨w.heap.size + 1 + 1, 0, none⟩ (.int .i64 xa)).setCell ⟨w.heap.size + 1 + 1, 1, none⟩ (.int .i64 xb)).setCell ⟨w.heap.size + 1 + 1, 2, none⟩ (.slice pc nc qc)).frozen? ⟨w.heap.size + 1, i, none⟩ = false := fun i => by rw [World.frozen?_setCell, World.frozen?_setCell, World.frozen?_setCell]; exact iR i
  have io2 : ∀ i, (((w1.setCell ⟨w.heap.size + 1 + 1, 0, none⟩ (.int .i64 xa)).setCell ⟨w.heap.size + 1 + 1, 1, none⟩ (.int .i64 xb)).setCell ⟨w.heap.size + 1 + 1, 2, none⟩ (.slice pc nc qc)).frozen? ⟨w.heap.size + 1 + 1, i, none⟩ = false := fun i => by rw [World.frozen?_setCell, World.frozen?_setCell, World.frozen?_setCell]; exact iO i
  have hs2 : w1.heap.size = (((w1.setCell ⟨w.heap.size + 1 + 1, 0, none⟩ (.int .i64 xa)).setCell ⟨w.heap.size + 1 + 1, 1, none⟩ (.int .i64 xb)).setCell ⟨w.heap.size + 1 + 1, 2, none⟩ (.slice pc nc qc)).heap.size := by simp [World.setCell]
  have hq1 : w1.heap.size ≤ (((w1.setCell ⟨w.heap.size + 1 + 1, 0, none⟩ (.int .i64 xa)).setCell ⟨w.heap.size + 1 + 1, 1, none⟩ (.int .i64 xb)).setCell ⟨w.heap.size + 1 + 1, 2, none⟩ (.slice pc nc qc)).heap.size := Nat.le_of_eq hs2
  rw [hs2] at hz oc3
  clear XA2 XR2 XO2 B2 oc2 y0 y1 y2 x3 B1 iR iO hs2
  generalize ((w1.setCell ⟨w.heap.size + 1 + 1, 0, none⟩ (.int .i64 xa)).setCell ⟨w.heap.size + 1 + 1, 1, none⟩ (.int .i64 xb)).setCell ⟨w.heap.size + 1 + 1, 2, none⟩ (.slice pc nc qc) = ws1 at *
  go_at_call 29
  refine (toFloat32S_own ad nd cd Zd _ hnd (hd.below b2 (Nat.le_refl _))).mono ?_
  rintro e w2 ⟨pd, qd, rfl, od, b3⟩
  have hs3 := b3.size
  have BB := b2.trans (b3.mono b2.size)
  have oc1 := oc3.kept (below_grew b3) (fun g hg => by cases hg)
  have od1 := od
  have XA := xa2.below b3 (by omega)
  have XR := xr2.below b3 (by omega)
  have XO := xo2.below b3 (by omega)
  obtain ⟨_, hf3⟩ := bcell b3
  have iR : ∀ i, w2.frozen? ⟨w.heap.size + 1, i, none⟩ = false := fun i => (hf3 _ _ (by omega)).trans (ir2 i)
  have iO : ∀ i, w2.frozen? ⟨w.heap.size + 1 + 1, i, none⟩ = false := fun i => (hf3 _ _ (by omega)).trans (io2 i)
  have hz1 := hz
  have hzn : w.heap.size + 1 + 1 + 1 ≤ w2.heap.size := by omega
  clear hz
  have hz := hzn
  clear hzn
  have hh1 := hs3
  clear xa2 xr2 xo2 oc3 b2 ir2 io2 b3 hf3 hs3 od
  have y3 := XO 3 _ rfl
  have x4 := XA 4 _ rfl
  have x5 := XA 5 _ rfl
  have XA2 := Lib.hid (XA.otherB (i := 3) (v := .slice pd nd qd) (show w.heap.size ≠ w.heap.size + 1 + 1 by omega))
  have XR2 := Lib.hid (XR.otherB (i := 3) (v := .slice pd nd qd) (show w.heap.size + 1 ≠ w.heap.size + 1 + 1 by omega))
  have XO2 := Lib.hid (XO.setB (i := 3) (v := .slice pd nd qd) (by simp))
  have oc2 := Lib.hid (oc1.setOutB (i := 3) (v := .slice pd nd qd) (.inl (show w.heap.size + 1 + 1 < w.heap.size + 1 + 1 + 1 by omega)))
  have od2 := Lib.hid (od1.setOutB (i := 3) (v := .slice pd nd qd) (.inl (show w.heap.size + 1 + 1 < ws1.heap.size by omega)))
  have B2 := Lib.hid (BB.setCell (p := ⟨w.heap.size + 1 + 1, 3, none⟩) (by show w.heap.size ≤ w.heap.size + 1 + 1; omega) (.slice pd nd qd))
  clear XA XR XO oc1 od1
  go_wp2_with fail
  have xa2 := XA2.out
  have xr2 := XR2.out
  have xo2 := XO2.out
  have b2 := B2.out
  have oc3 := oc2.out
  have od3 := od2.out
  have ir2 : ∀ i, (w2.setCell ⟨w.heap.size + 1 + 1, 3, none⟩ (.slice pd nd qd)).frozen? ⟨w.heap.size + 1, i, none⟩ = false := fun i => by rw [World.frozen?_setCell]; exact iR i
  have io2 : ∀ i, (w2.setCell ⟨w.heap.size + 1 + 1, 3, none⟩ (.slice pd nd qd)).frozen? ⟨w.heap.size + 1 + 1, i, none⟩ = false := fun i => by rw [World.frozen?_setCell]; exact iO i
  have hs2 : w2.heap.size = (w2.setCell ⟨w.heap.size + 1 + 1, 3, none⟩ (.slice pd nd qd)).heap.size := by simp [World.setCell]
  have hq2 : w2.heap.size ≤ (w2.setCell ⟨w.heap.size + 1 + 1, 3, none⟩ (.slice pd nd qd)).heap.size := Nat.le_of_eq hs2
  rw [hs2] at hz od3
  clear XA2 XR2 XO2 B2 oc2 od2 y3 x4 x5 BB iR iO hs2
  generalize w2.setCell ⟨w.heap.size + 1 + 1, 3, none⟩ (.slice pd nd qd) = ws2 at *
  go_at_call 30
  refine (toChain_sep ae ne ce Ze af nf cf Zf _ hne hnf (he.below b2 (Nat.le_refl _)) (hf.below b2 (Nat.le_refl _))).mono ?_
  rintro e w3 ⟨pe, qe, pf, qf, Me, rfl, me1, me2, oe, of, b3⟩
  have hs3 := b3.size
  have BB := b2.trans (b3.mono b2.size)
  have oc1 := oc3.kept (below_grew b3) (fun g hg => by cases hg)
  have od1 := od3.kept (below_grew b3) (fun g hg => by cases hg)
  have oe1 := oe
  have of1 := of
  have XA := xa2.below b3 (by omega)
  have XR := xr2.below b3 (by omega)
  have XO := xo2.below b3 (by omega)
  obtain ⟨_, hf3⟩ := bcell b3
  have iR : ∀ i, w3.frozen? ⟨w.heap.size + 1, i, none⟩ = false := fun i => (hf3 _ _ (by omega)).trans (ir2 i)
  have iO : ∀ i, w3.frozen? ⟨w.heap.size + 1 + 1, i, none⟩ = false := fun i => (hf3 _ _ (by omega)).trans (io2 i)
  have hz2 := hz
  have hzn : w.heap.size + 1 + 1 + 1 ≤ w3.heap.size := by omega
  clear hz
  have hz := hzn
  clear hzn
  have hh2 := hs3
  clear xa2 xr2 xo2 oc3 od3 b2 ir2 io2 b3 hf3 hs3 oe of
  have y4 := XO 4 _ rfl
  have y5 := XO 5 _ rfl
  have x6 := XA 6 _ rfl
  have x7 := XA 7 _ rfl
  have x8 := XA 8 _ rfl
  have XA2 := Lib.hid ((XA.otherB (i := 4) (v := .slice pe ne qe) (show w.heap.size ≠ w.heap.size + 1 + 1 by omega)).otherB (i := 5) (v := .slice pf nf qf) (show w.heap.size ≠ w.heap.size + 1 + 1 by omega))
  have XR2 := Lib.hid ((XR.otherB (i := 4) (v := .slice pe ne qe) (show w.heap.size + 1 ≠ w.heap.size + 1 + 1 by omega)).otherB (i := 5) (v := .slice pf nf qf) (show w.heap.size + 1 ≠ w.heap.size + 1 + 1 by omega))
  have XO2 := Lib.hid ((XO.setB (i := 4) (v := .slice pe ne qe) (by simp)).setB (i := 5) (v := .slice pf nf qf) (by simp))
  have oc2 := Lib.hid ((oc1.setOutB (i := 4) (v := .slice pe ne qe) (.inl (show w.heap.size + 1 + 1 < w.heap.size + 1 + 1 + 1 by omega))).setOutB (i := 5) (v := .slice pf nf qf) (.inl (show w.heap.size + 1 + 1 < w.heap.size + 1 + 1 + 1 by omega)))
  have od2 := Lib.hid ((od1.setOutB (i := 4) (v := .slice pe ne qe) (.inl (show w.heap.size + 1 + 1 < ws1.heap.size by omega))).setOutB (i := 5) (v := .slice pf nf qf) (.inl (show w.heap.size + 1 + 1 < ws1.heap.size by omega)))
  have oe2 := Lib.hid ((oe1.setOutB (i := 4) (v := .slice pe ne qe) (.inl (show w.heap.size + 1 + 1 < ws2.heap.size by omega))).setOutB (i := 5) (v := .slice pf nf qf) (.inl (show w.heap.size + 1 + 1 < ws2.heap.size by omega)))
  have of2 := Lib.hid ((of1.setOutB (i := 4) (v := .slice pe ne qe) (.inl (show w.heap.size + 1 + 1 < Me by omega))).setOutB (i := 5) (v := .slice pf nf qf) (.inl (show w.heap.size + 1 + 1 < Me by omega)))
  have B2 := Lib.hid ((BB.setCell (p := ⟨w.heap.size + 1 + 1, 4, none⟩) (by show w.heap.size ≤ w.heap.size + 1 + 1; omega) (.slice pe ne qe)).setCell (p := ⟨w.heap.size + 1 + 1, 5, none⟩) (by show w.heap.size ≤ w.heap.size + 1 + 1; omega) (.slice pf nf qf))
  clear XA XR XO oc1 od1 oe1 of1
  go_wp2_with fail
  have xa2 := XA2.out
  have xr2 := XR2.out
  have xo2 := XO2.out
  have b2 := B2.out
  have oc3 := oc2.out
  have od3 := od2.out
  have oe3 := oe2.out
  have of3 := of2.out
  have ir2 : ∀ i, ((w3.setCell ⟨w.heap.size + 1 + 1, 4, none⟩ (.slice pe ne qe)).setCell ⟨w.heap.size + 1 + 1, 5, none⟩ (.slice pf nf qf)).frozen? ⟨w.heap.size + 1, i, none⟩ = false := fun i => by rw [World.frozen?_setCell, World.frozen?_setCell]; exact iR i
  have io2 : ∀ i, ((w3.setCell ⟨w.heap.size + 1 + 1, 4, none⟩ (.slice pe ne qe)).setCell ⟨w.heap.size + 1 + 1, 5, none⟩ (.slice pf nf qf)).frozen? ⟨w.heap.size + 1 + 1, i, none⟩ = false := fun i => by rw [World.frozen?_setCell, World.frozen?_setCell]; exact iO i
  have hs2 : w3.heap.size = ((w3.setCell ⟨w.heap.size + 1 + 1, 4, none⟩ (.slice pe ne qe)).setCell ⟨w.heap.size + 1 + 1, 5, none⟩ (.slice pf nf qf)).heap.size := by simp [World.setCell]
  have hq3 : w3.heap.size ≤ ((w3.setCell ⟨w.heap.size + 1 + 1, 4, none⟩ (.slice pe ne qe)).setCell ⟨w.heap.size + 1 + 1, 5, none⟩ (.slice pf nf qf)).heap.size := Nat.le_of_eq hs2
  rw [hs2] at hz of3
  clear XA2 XR2 XO2 B2 oc2 od2 oe2 of2 y4 y5 x6 x7 x8 BB iR iO hs2
  generalize (w3.setCell ⟨w.heap.size + 1 + 1, 4, none⟩ (.slice pe ne qe)).setCell ⟨w.heap.size + 1 + 1, 5, none⟩ (.slice pf nf qf) = ws3 at *
  go_at_call 31
  refine (toWhole_any xg xh ai ni ci Zi _ hni (hi.below b2 (Nat.le_refl _))).mono ?_
  rintro e w4 ⟨pi, qi, rfl, oi, b3⟩
  have hs3 := b3.size
  have BB := b2.trans (b3.mono b2.size)
  have oc1 := oc3.kept (below_grew b3) (fun g hg => by cases hg)
  have od1 := od3.kept (below_grew b3) (fun g hg => by cases hg)
  have oe1 := oe3.kept (below_grew b3) (fun g hg => by cases hg)
  have of1 := of3.kept (below_grew b3) (fun g hg => by cases hg)
  have oi1 := oi
  have XA := xa2.below b3 (by omega)
  have XR := xr2.below b3 (by omega)
  have XO := xo2.below b3 (by omega)
  obtain ⟨_, hf3⟩ := bcell b3
  have iR : ∀ i, w4.frozen? ⟨w.heap.size + 1, i, none⟩ = false := fun i => (hf3 _ _ (by omega)).trans (ir2 i)
  have iO : ∀ i, w4.frozen? ⟨w.heap.size + 1 + 1, i, none⟩ = false := fun i => (hf3 _ _ (by omega)).trans (io2 i)
  have hz3 := hz
  have hzn : w.heap.size + 1 + 1 + 1 ≤ w4.heap.size := by omega
  clear hz
  have hz := hzn
  clear hzn
  have hh3 := hs3
  clear xa2 xr2 xo2 oc3 od3 oe3 of3 b2 ir2 io2 b3 hf3 hs3 oi
  have r0 := XR 0 _ rfl
  have q0 := XO 0 _ rfl
  have r1 := XR 1 _ rfl
  have q1 := XO 1 _ rfl
  have r2 := XR 2 _ rfl
  have q2 := XO 2 _ rfl
  have r3 := XR 3 _ rfl
  have q3 := XO 3 _ rfl
  have r4 := XR 4 _ rfl
  have q4 := XO 4 _ rfl
  have r5 := XR 5 _ rfl
  have q5 := XO 5 _ rfl
  have r6 := XR 6 _ rfl
  have q6 := XO 6 _ rfl
  have r7 := XR 7 _ rfl
  have q7 := XO 7 _ rfl
  have r8 := XR 8 _ rfl
  have q8 := XO 8 _ rfl
  have xR := Lib.hid XR
  have ocH := Lib.hid oc1
  have odH := Lib.hid od1
  have oeH := Lib.hid oe1
  have ofH := Lib.hid of1
  have oiH := Lib.hid oi1
  have bB := Lib.hid BB
  clear XA XO XR BB oc1 od1 oe1 of1 oi1
  go_wp2_with fail
  have XR := xR.out
  have BB := bB.out
  have oc1 := ocH.out
  have od1 := odH.out
  have oe1 := oeH.out
  have of1 := ofH.out
  have oi1 := oiH.out
  clear xR bB iR iO ocH odH oeH ofH oiH r0 q0 r1 q1 r2 q2 r3 q3 r4 q4 r5 q5 r6 q6 r7 q7 r8 q8
  have X2 : BoxL ((((((((((((w4.setCell ⟨w.heap.size + 1 + 1, 6, none⟩ (.int .i64 xg)).setCell ⟨w.heap.size + 1 + 1, 7, none⟩ (.int .i64 xh)).setCell ⟨w.heap.size + 1 + 1, 8, none⟩ (.slice pi ni qi)).setCell ⟨w.heap.size + 1, 0, none⟩ (.int .i64 xa)).setCell ⟨w.heap.size + 1, 1, none⟩ (.int .i64 xb)).setCell ⟨w.heap.size + 1, 2, none⟩ (.slice pc nc qc)).setCell ⟨w.heap.size + 1, 3, none⟩ (.slice pd nd qd)).setCell ⟨w.heap.size + 1, 4, none⟩ (.slice pe ne qe)).setCell ⟨w.heap.size + 1, 5, none⟩ (.slice pf nf qf)).setCell ⟨w.heap.size + 1, 6, none⟩ (.int .i64 xg)).setCell ⟨w.heap.size + 1, 7, none⟩ (.int .i64 xh)).setCell ⟨w.heap.size + 1, 8, none⟩ (.slice pi ni qi)) (w.heap.size + 1) [.int .i64 xa, .int .i64 xb, .slice pc nc qc, .slice pd nd qd, .slice pe ne qe, .slice pf nf qf, .int .i64 xg, .int .i64 xh, .slice pi ni qi] := ((((((((((((XR.otherB (i := 6) (v := .int .i64 xg) (show w.heap.size + 1 ≠ w.heap.size + 1 + 1 by omega)).otherB (i := 7) (v := .int .i64 xh) (show w.heap.size + 1 ≠ w.heap.size + 1 + 1 by omega)).otherB (i := 8) (v := .slice pi ni qi) (show w.heap.size + 1 ≠ w.heap.size + 1 + 1 by omega)).setB (i := 0) (v := .int .i64 xa) (by simp)).setB (i := 1) (v := .int .i64 xb) (by simp)).setB (i := 2) (v := .slice pc nc qc) (by simp)).setB (i := 3) (v := .slice pd nd qd) (by simp)).setB (i := 4) (v := .slice pe ne qe) (by simp)).setB (i := 5) (v := .slice pf nf qf) (by simp)).setB (i := 6) (v := .int .i64 xg) (by simp)).setB (i := 7) (v := .int .i64 xh) (by simp)).setB (i := 8) (v := .slice pi ni qi) (by simp))
  have oc2 := ((((((((((((oc1.setOutB (i := 6) (v := .int .i64 xg) (.inl (show w.heap.size + 1 + 1 < w.heap.size + 1 + 1 + 1 by omega))).setOutB (i := 7) (v := .int .i64 xh) (.inl (show w.heap.size + 1 + 1 < w.heap.size + 1 + 1 + 1 by omega))).setOutB (i := 8) (v := .slice pi ni qi) (.inl (show w.heap.size + 1 + 1 < w.heap.size + 1 + 1 + 1 by omega))).setOutB (i := 0) (v := .int .i64 xa) (.inl (show w.heap.size + 1 < w.heap.size + 1 + 1 + 1 by omega))).setOutB (i := 1) (v := .int .i64 xb) (.inl (show w.heap.size + 1 < w.heap.size + 1 + 1 + 1 by omega))).setOutB (i := 2) (v := .slice pc nc qc) (.inl (show w.heap.size + 1 < w.heap.size + 1 + 1 + 1 by omega))).setOutB (i := 3) (v := .slice pd nd qd) (.inl (show w.heap.size + 1 < w.heap.size + 1 + 1 + 1 by omega))).setOutB (i := 4) (v := .slice pe ne qe) (.inl (show w.heap.size + 1 < w.heap.size + 1 + 1 + 1 by omega))).setOutB (i := 5) (v := .slice pf nf qf) (.inl (show w.heap.size + 1 < w.heap.size + 1 + 1 + 1 by omega))).setOutB (i := 6) (v := .int .i64 xg) (.inl (show w.heap.size + 1 < w.heap.size + 1 + 1 + 1 by omega))).setOutB (i := 7) (v := .int .i64 xh) (.inl (show w.heap.size + 1 < w.heap.size + 1 + 1 + 1 by omega))).setOutB (i := 8) (v := .slice pi ni qi) (.inl (show w.heap.size + 1 < w.heap.size + 1 + 1 + 1 by omega)))
  have od2 := ((((((((((((od1.setOutB (i := 6) (v := .int .i64 xg) (.inl (show w.heap.size + 1 + 1 < ws1.heap.size by omega))).setOutB (i := 7) (v := .int .i64 xh) (.inl (show w.heap.size + 1 + 1 < ws1.heap.size by omega))).setOutB (i := 8) (v := .slice pi ni qi) (.inl (show w.heap.size + 1 + 1 < ws1.heap.size by omega))).setOutB (i := 0) (v := .int .i64 xa) (.inl (show w.heap.size + 1 < ws1.heap.size by omega))).setOutB (i := 1) (v := .int .i64 xb) (.inl (show w.heap.size + 1 < ws1.heap.size by omega))).setOutB (i := 2) (v := .slice pc nc qc) (.inl (show w.heap.size + 1 < ws1.heap.size by omega))).setOutB (i := 3) (v := .slice pd nd qd) (.inl (show w.heap.size + 1 < ws1.heap.size by omega))).setOutB (i := 4) (v := .slice pe ne qe) (.inl (show w.heap.size + 1 < ws1.heap.size by omega))).setOutB (i := 5) (v := .slice pf nf qf) (.inl (show w.heap.size + 1 < ws1.heap.size by omega))).setOutB (i := 6) (v := .int .i64 xg) (.inl (show w.heap.size + 1 < ws1.heap.size by omega))).setOutB (i := 7) (v := .int .i64 xh) (.inl (show w.heap.size + 1 < ws1.heap.size by omega))).setOutB (i := 8) (v := .slice pi ni qi) (.inl (show w.heap.size + 1 < ws1.heap.size by omega)))
  have oe2 := ((((((((((((oe1.setOutB (i := 6) (v := .int .i64 xg) (.inl (show w.heap.size + 1 + 1 < ws2.heap.size by omega))).setOutB (i := 7) (v := .int .i64 xh) (.inl (show w.heap.size + 1 + 1 < ws2.heap.size by omega))).setOutB (i := 8) (v := .slice pi ni qi) (.inl (show w.heap.size + 1 + 1 < ws2.heap.size by omega))).setOutB (i := 0) (v := .int .i64 xa) (.inl (show w.heap.size + 1 < ws2.heap.size by omega))).setOutB (i := 1) (v := .int .i64 xb) (.inl (show w.heap.size + 1 < ws2.heap.size by omega))).setOutB (i := 2) (v := .slice pc nc qc) (.inl (show w.heap.size + 1 < ws2.heap.size by omega))).setOutB (i := 3) (v := .slice pd nd qd) (.inl (show w.heap.size + 1 < ws2.heap.size by omega))).setOutB (i := 4) (v := .slice pe ne qe) (.inl (show w.heap.size + 1 < ws2.heap.size by omega))).setOutB (i := 5) (v := .slice pf nf qf) (.inl (show w.heap.size + 1 < ws2.heap.size by omega))).setOutB (i := 6) (v := .int .i64 xg) (.inl (show w.heap.size + 1 < ws2.heap.size by omega))).setOutB (i := 7) (v := .int .i64 xh) (.inl (show w.heap.size + 1 < ws2.heap.size by omega))).setOutB (i := 8) (v := .slice pi ni qi) (.inl (show w.heap.size + 1 < ws2.heap.size by omega)))
  have of2 := ((((((((((((of1.setOutB (i := 6) (v := .int .i64 xg) (.inl (show w.heap.size + 1 + 1 < Me by omega))).setOutB (i := 7) (v := .int .i64 xh) (.inl (show w.heap.size + 1 + 1 < Me by omega))).setOutB (i := 8) (v := .slice pi ni qi) (.inl (show w.heap.size + 1 + 1 < Me by omega))).setOutB (i := 0) (v := .int .i64 xa) (.inl (show w.heap.size + 1 < Me by omega))).setOutB (i := 1) (v := .int .i64 xb) (.inl (show w.heap.size + 1 < Me by omega))).setOutB (i := 2) (v := .slice pc nc qc) (.inl (show w.heap.size + 1 < Me by omega))).setOutB (i := 3) (v := .slice pd nd qd) (.inl (show w.heap.size + 1 < Me by omega))).setOutB (i := 4) (v := .slice pe ne qe) (.inl (show w.heap.size + 1 < Me by omega))).setOutB (i := 5) (v := .slice pf nf qf) (.inl (show w.heap.size + 1 < Me by omega))).setOutB (i := 6) (v := .int .i64 xg) (.inl (show w.heap.size + 1 < Me by omega))).setOutB (i := 7) (v := .int .i64 xh) (.inl (show w.heap.size + 1 < Me by omega))).setOutB (i := 8) (v := .slice pi ni qi) (.inl (show w.heap.size + 1 < Me by omega)))
  have oi2 := ((((((((((((oi1.setOutB (i := 6) (v := .int .i64 xg) (.inl (show w.heap.size + 1 + 1 < ws3.heap.size by omega))).setOutB (i := 7) (v := .int .i64 xh) (.inl (show w.heap.size + 1 + 1 < ws3.heap.size by omega))).setOutB (i := 8) (v := .slice pi ni qi) (.inl (show w.heap.size + 1 + 1 < ws3.heap.size by omega))).setOutB (i := 0) (v := .int .i64 xa) (.inl (show w.heap.size + 1 < ws3.heap.size by omega))).setOutB (i := 1) (v := .int .i64 xb) (.inl (show w.heap.size + 1 < ws3.heap.size by omega))).setOutB (i := 2) (v := .slice pc nc qc) (.inl (show w.heap.size + 1 < ws3.heap.size by omega))).setOutB (i := 3) (v := .slice pd nd qd) (.inl (show w.heap.size + 1 < ws3.heap.size by omega))).setOutB (i := 4) (v := .slice pe ne qe) (.inl (show w.heap.size + 1 < ws3.heap.size by omega))).setOutB (i := 5) (v := .slice pf nf qf) (.inl (show w.heap.size + 1 < ws3.heap.size by omega))).setOutB (i := 6) (v := .int .i64 xg) (.inl (show w.heap.size + 1 < ws3.heap.size by omega))).setOutB (i := 7) (v := .int .i64 xh) (.inl (show w.heap.size + 1 < ws3.heap.size by omega))).setOutB (i := 8) (v := .slice pi ni qi) (.inl (show w.heap.size + 1 < ws3.heap.size by omega)))
  have B2 : Below w.heap.size w ((((((((((((w4.setCell ⟨w.heap.size + 1 + 1, 6, none⟩ (.int .i64 xg)).setCell ⟨w.heap.size + 1 + 1, 7, none⟩ (.int .i64 xh)).setCell ⟨w.heap.size + 1 + 1, 8, none⟩ (.slice pi ni qi)).setCell ⟨w.heap.size + 1, 0, none⟩ (.int .i64 xa)).setCell ⟨w.heap.size + 1, 1, none⟩ (.int .i64 xb)).setCell ⟨w.heap.size + 1, 2, none⟩ (.slice pc nc qc)).setCell ⟨w.heap.size + 1, 3, none⟩ (.slice pd nd qd)).setCell ⟨w.heap.size + 1, 4, none⟩ (.slice pe ne qe)).setCell ⟨w.heap.size + 1, 5, none⟩ (.slice pf nf qf)).setCell ⟨w.heap.size + 1, 6, none⟩ (.int .i64 xg)).setCell ⟨w.heap.size + 1, 7, none⟩ (.int .i64 xh)).setCell ⟨w.heap.size + 1, 8, none⟩ (.slice pi ni qi)) := ((((((((((((BB.setCell (p := ⟨w.heap.size + 1 + 1, 6, none⟩) (by show w.heap.size ≤ w.heap.size + 1 + 1; omega) (.int .i64 xg)).setCell (p := ⟨w.heap.size + 1 + 1, 7, none⟩) (by show w.heap.size ≤ w.heap.size + 1 + 1; omega) (.int .i64 xh)).setCell (p := ⟨w.heap.size + 1 + 1, 8, none⟩) (by show w.heap.size ≤ w.heap.size + 1 + 1; omega) (.slice pi ni qi)).setCell (p := ⟨w.heap.size + 1, 0, none⟩) (by show w.heap.size ≤ w.heap.size + 1; omega) (.int .i64 xa)).setCell (p := ⟨w.heap.size + 1, 1, none⟩) (by show w.heap.size ≤ w.heap.size + 1; omega) (.int .i64 xb)).setCell (p := ⟨w.heap.size + 1, 2, none⟩) (by show w.heap.size ≤ w.heap.size + 1; omega) (.slice pc nc qc)).setCell (p := ⟨w.heap.size + 1, 3, none⟩) (by show w.heap.size ≤ w.heap.size + 1; omega) (.slice pd nd qd)).setCell (p := ⟨w.heap.size + 1, 4, none⟩) (by show w.heap.size ≤ w.heap.size + 1; omega) (.slice pe ne qe)).setCell (p := ⟨w.heap.size + 1, 5, none⟩) (by show w.heap.size ≤ w.heap.size + 1; omega) (.slice pf nf qf)).setCell (p := ⟨w.heap.size + 1, 6, none⟩) (by show w.heap.size ≤ w.heap.size + 1; omega) (.int .i64 xg)).setCell (p := ⟨w.heap.size + 1, 7, none⟩) (by show w.heap.size ≤ w.heap.size + 1; omega) (.int .i64 xh)).setCell (p := ⟨w.heap.size + 1, 8, none⟩) (by show w.heap.size ≤ w.heap.size + 1; omega) (.slice pi ni qi))
  have hs2 : w4.heap.size = ((((((((((((w4.setCell ⟨w.heap.size + 1 + 1, 6, none⟩ (.int .i64 xg)).setCell ⟨w.heap.size + 1 + 1, 7, none⟩ (.int .i64 xh)).setCell ⟨w.heap.size + 1 + 1, 8, none⟩ (.slice pi ni qi)).setCell ⟨w.heap.size + 1, 0, none⟩ (.int .i64 xa)).setCell ⟨w.heap.size + 1, 1, none⟩ (.int .i64 xb)).setCell ⟨w.heap.size + 1, 2, none⟩ (.slice pc nc qc)).setCell ⟨w.heap.size + 1, 3, none⟩ (.slice pd nd qd)).setCell ⟨w.heap.size + 1, 4, none⟩ (.slice pe ne qe)).setCell ⟨w.heap.size + 1, 5, none⟩ (.slice pf nf qf)).setCell ⟨w.heap.size + 1, 6, none⟩ (.int .i64 xg)).setCell ⟨w.heap.size + 1, 7, none⟩ (.int .i64 xh)).setCell ⟨w.heap.size + 1, 8, none⟩ (.slice pi ni qi)).heap.size := by simp [World.setCell]
  rw [hs2] at oi2 hh3
  clear XR BB hs2 oc1 od1 oe1 of1 oi1
  generalize (((((((((((w4.setCell ⟨w.heap.size + 1 + 1, 6, none⟩ (.int .i64 xg)).setCell ⟨w.heap.size + 1 + 1, 7, none⟩ (.int .i64 xh)).setCell ⟨w.heap.size + 1 + 1, 8, none⟩ (.slice pi ni qi)).setCell ⟨w.heap.size + 1, 0, none⟩ (.int .i64 xa)).setCell ⟨w.heap.size + 1, 1, none⟩ (.int .i64 xb)).setCell ⟨w.heap.size + 1, 2, none⟩ (.slice pc nc qc)).setCell ⟨w.heap.size + 1, 3, none⟩ (.slice pd nd qd)).setCell ⟨w.heap.size + 1, 4, none⟩ (.slice pe ne qe)).setCell ⟨w.heap.size + 1, 5, none⟩ (.slice pf nf qf)).setCell ⟨w.heap.size + 1, 6, none⟩ (.int .i64 xg)).setCell ⟨w.heap.size + 1, 7, none⟩ (.int .i64 xh)).setCell ⟨w.heap.size + 1, 8, none⟩ (.slice pi ni qi) = w7 at X2 oc2 od2 oe2 of2 oi2 B2 hh3 ⊢
  have r0 := X2 0 _ rfl
  have r1 := X2 1 _ rfl
  have r2 := X2 2 _ rfl
  have r3 := X2 3 _ rfl
  have r4 := X2 4 _ rfl
  have r5 := X2 5 _ rfl
  have r6 := X2 6 _ rfl
  have r7 := X2 7 _ rfl
  have r8 := X2 8 _ rfl
  refine bodyPost_ret (v := .agg #[.int .i64 xa, .int .i64 xb, .slice pc nc qc, .slice pd nd qd, .slice pe ne qe, .slice pf nf qf, .int .i64 xg, .int .i64 xh, .slice pi ni qi]) (by simp [results, Try.results9, go_sem, r0, r1, r2, r3, r4, r5, r6, r7, r8]) rfl ?_
  exact ⟨pc, qc, pd, qd, pe, qe, pf, qf, pi, qi, ws1.heap.size, ws2.heap.size, Me, ws3.heap.size, rfl, by omega, by omega, by omega, by omega, by omega, Own.mono oc2 (by omega) (by omega) (by omega), od2.mono (Nat.le_refl _) (by omega) (by omega), oe2, of2.mono (Nat.le_refl _) (by omega) (by omega), oi2, B2⟩
set_option maxRecDepth 100000 in
theorem eqDesk_any (xa : Int) (xb : Int) (ac bc : Option Addr) (nc cc dc : Nat) (Zc Yc : Nat → Nat) (ad bd : Option Addr) (nd cd dd : Nat) (Zd Yd : Nat → Nat) (ae be : Option Addr) (ne ce de : Nat) (Ze Ye : Nat → Nat) (af bf : Option Addr) (nf cf df : Nat) (Zf Yf : Nat → Nat) (xg : Int) (xh : Int) (ai bi : Option Addr) (ni ci di : Nat) (Zi Yi : Nat → Int) (w : World) (hnc : nc ≤ 1048576) (hnd : nd ≤ 1048576) (hne : ne ≤ 1048576) (hnf : nf ≤ 1048576) (hni : ni ≤ 1048576) (hc : FS .f32 w ac nc cc Zc) (kc : FS .f32 w bc nc dc Yc) (hd : FS .f32 w ad nd cd Zd) (kd : FS .f32 w bd nd dd Yd) (he : FS .f32 w ae ne ce Ze) (ke : FS .f32 w be ne de Ye) (hf : FS .f32 w af nf cf Zf) (kf : FS .f32 w bf nf df Yf) (hi : IS .i64 w ai ni ci Zi) (ki : IS .i64 w bi ni di Yi) (ec : ∀ i, i < nc → cn .f32 (Zc i) = cn .f32 (Yc i)) (ed : ∀ i, i < nd → cn .f32 (Zd i) = cn .f32 (Yd i)) (ee : ∀ i, i < ne → cn .f32 (Ze i) = cn .f32 (Ye i)) (ef : ∀ i, i < nf → cn .f32 (Zf i) = cn .f32 (Yf i)) (ei : ∀ i, i < ni → Zi i = Yi i) :
    Calls Try.prog 11 #[.agg #[.int .i64 xa, .int .i64 xb, .slice ac nc cc, .slice ad nd cd, .slice ae ne ce, .slice af nf cf, .int .i64 xg, .int .i64 xh, .slice ai ni ci], .agg #[.int .i64 xa, .int .i64 xb, .slice bc nc dc, .slice bd nd dd, .slice be ne de, .slice bf nf df, .int .i64 xg, .int .i64 xh, .slice bi ni di]] w fun e w' => e = .returned (.bool true) ∧ Below w.heap.size w w' := by
  go_enter Try.func11, Try.ntmps11
  go_wp2_with fail
  go_at_call 36
  refine (eqMatrix_any xa xb _ _ nc _ _ Zc Yc _ hnc (hc.below (by repeat first | (with_reducible exact Below.refl _ _) | (with_reducible refine Below.setCell ?_ (by first | exact Nat.le_refl _ | (simp; done) | (simp; omega) | omega) _) | (with_reducible refine Below.alloc ?_ (by first | exact Nat.le_refl _ | (simp; done) | (simp; omega) | omega) _) | (with_reducible refine below_drewN ?_ _) | (with_reducible refine Below.drew ?_)) (Nat.le_refl _)) (kc.below (by repeat first | (with_reducible exact Below.refl _ _) | (with_reducible refine Below.setCell ?_ (by first | exact Nat.le_refl _ | (simp; done) | (simp; omega) | omega) _) | (with_reducible refine Below.alloc ?_ (by first | exact Nat.le_refl _ | (simp; done) | (simp; omega) | omega) _) | (with_reducible refine below_drewN ?_ _) | (with_reducible refine Below.drew ?_)) (Nat.le_refl _)) ec).mono ?_
  rintro e w1 ⟨rfl, b1⟩
  have B1 : Below w.heap.size w w1 := Below.trans (by repeat first | (with_reducible exact Below.refl _ _) | (with_reducible refine Below.setCell ?_ (by first | exact Nat.le_refl _ | (simp; done) | (simp; omega) | omega) _) | (with_reducible refine Below.alloc ?_ (by first | exact Nat.le_refl _ | (simp; done) | (simp; omega) | omega) _) | (with_reducible refine below_drewN ?_ _) | (with_reducible refine Below.drew ?_)) (b1.mono (by simp <;> omega))
  have XA : BoxL w1 w.heap.size [.int .i64 xa, .int .i64 xb, .slice ac nc cc, .slice ad nd cd, .slice ae ne ce, .slice af nf cf, .int .i64 xg, .int .i64 xh, .slice ai ni ci] := BoxL.below (BoxL.nine (by simp [go_sem]) (by simp [go_sem]) (by simp [go_sem]) (by simp [go_sem]) (by simp [go_sem]) (by simp [go_sem]) (by simp [go_sem]) (by simp [go_sem]) (by simp [go_sem])) b1 (by simp <;> omega)
  have XB : BoxL w1 (w.heap.size + 1) [.int .i64 xa, .int .i64 xb, .slice bc nc dc, .slice bd nd dd, .slice be ne de, .slice bf nf df, .int .i64 xg, .int .i64 xh, .slice bi ni di] := BoxL.below (BoxL.nine (by simp [go_sem]) (by simp [go_sem]) (by simp [go_sem]) (by simp [go_sem]) (by simp [go_sem]) (by simp [go_sem]) (by simp [go_sem]) (by simp [go_sem]) (by simp [go_sem])) b1 (by simp <;> omega)
  have x3 := XA 3 _ rfl
  have y3 := XB 3 _ rfl
  have x4 := XA 4 _ rfl
  have y4 := XB 4 _ rfl
  have x5 := XA 5 _ rfl
  have y5 := XB 5 _ rfl
  have x6 := XA 6 _ rfl
  have y6 := XB 6 _ rfl
  have x7 := XA 7 _ rfl
  have y7 := XB 7 _ rfl
  have x8 := XA 8 _ rfl
  have y8 := XB 8 _ rfl
  have l1 : w.heap.size + 1 < w1.heap.size := by have := b1.size; simp at this; omega
  clear b1
  go_wp2_with fail
  go_at_call 37
  refine (eqFloat32S_any _ _ nd _ _ Zd Yd _ hnd (hd.below B1 (Nat.le_refl _)) (kd.below B1 (Nat.le_refl _)) ed).mono ?_
  rintro e w2 ⟨rfl, m1, hw2⟩
  have b2 := below_of_drewN hw2
  have B2 := B1.trans (b2.mono B1.size)
  have XA2 := XA.below b2 (by omega)
  have XB2 := XB.below b2 (by omega)
  have l2 : w.heap.size + 1 < w2.heap.size := Nat.lt_of_lt_of_le l1 b2.size
  clear b2 hw2 XA XB l1 B1 x3 y3 x4 y4 x5 y5 x6 y6 x7 y7 x8 y8
  have x4 := XA2 4 _ rfl
  have y4 := XB2 4 _ rfl
  have x5 := XA2 5 _ rfl
  have y5 := XB2 5 _ rfl
  have x6 := XA2 6 _ rfl
  have y6 := XB2 6 _ rfl
  have x7 := XA2 7 _ rfl
  have y7 := XB2 7 _ rfl
  have x8 := XA2 8 _ rfl
  have y8 := XB2 8 _ rfl
  go_wp2_with fail
  go_at_call 38
  refine (eqChain_any _ _ ne _ _ Ze Ye _ _ nf _ _ Zf Yf _ hne hnf (he.below B2 (Nat.le_refl _)) (ke.below B2 (Nat.le_refl _)) (hf.below B2 (Nat.le_refl _)) (kf.below B2 (Nat.le_refl _)) ee ef).mono ?_
  rintro e w3 ⟨rfl, b3⟩
  have B3 := B2.trans (b3.mono B2.size)
  have XA3 := XA2.below b3 (by omega)
  have XB3 := XB2.below b3 (by omega)
  have l3 : w.heap.size + 1 < w3.heap.size := Nat.lt_of_lt_of_le l2 b3.size
  clear b3 XA2 XB2 l2 B2 x4 y4 x5 y5 x6 y6 x7 y7 x8 y8
  have x6 := XA3 6 _ rfl
  have y6 := XB3 6 _ rfl
  have x7 := XA3 7 _ rfl
  have y7 := XB3 7 _ rfl
  have x8 := XA3 8 _ rfl
  have y8 := XB3 8 _ rfl
  go_wp2_with fail
  go_at_call 39
  refine (eqWhole_any xg xh _ _ ni _ _ Zi Yi _ hni (hi.below B3 (Nat.le_refl _)) (ki.below B3 (Nat.le_refl _)) ei).mono ?_
  rintro e w4 ⟨rfl, b4⟩
  have B4 := B3.trans (b4.mono B3.size)
  go_wp2_with fail
  go_ret
  exact ⟨rfl, B4⟩
end Go.Proofs.Ytmddhhmgfhljiab
