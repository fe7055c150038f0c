/- Helper: the structure Sparse: walks of the laws' own functions on it: copies, sizes, comparisons, marks. Conditions: none. -/
import Derived.Test.YtmjlhmbnaifhaabMatCopy
import Derived.Test.YtmjlhmbnaifhaabKeys
import Derived.Test.YtmjlhmbnaifhaabMarkMore
import Derived.Test.YtmjlhmbnaifhaabBoxes
import Derived.Lib.SmallJoins
set_option linter.unusedVariables false
set_option linter.unusedSimpArgs false
namespace Go.Proofs.Ytmjlhmbnaifhaab
open Go.ChangeShapes Go.WideShapes Go.RowKit Go.Deep

section
variable {H : Type} {enc : TypeId × Value → H} {P : Program} {w : World} {base : Nat} {spare : Nat → Bool} {held : Bool}
theorem open_sparse {r : Reach} {b0 : Nat} {t eF eI : TypeId} {f0 f1 f2 f3 : Field} {v : Value} {d : DataW H} {p : List MemPlace} (hs : P.underlying t = some (.struct #[f0, f1, f2, f3])) (hone : oneCellFields P #[f0, f1, f2, f3] = true) (hC : P.cellsOf t = 4)
    (h0 : P.underlying f0.type = some (.int .i64)) (h1 : P.underlying f1.type = some (.slice eI)) (h2 : P.underlying f2.type = some (.slice eI)) (h3 : P.underlying f3.type = some (.slice eF))
    (heF : P.underlying eF = some (.float .f32)) (hcF : P.cellsOf eF = 1) (heI : P.underlying eI = some (.int .i64)) (hcI : P.cellsOf eI = 1)
    (hv : Value.okWide P w r b0 t v) (h : DataW.Trod enc P w base spare held t v d p) :
    ∃ (xa : Int) (ab : Option Addr) (nb cb : Nat) (Zb : Nat → Int) (ac : Option Addr) (nc cc : Nat) (Zc : Nat → Int) (ad : Option Addr) (nd cd : Nat) (Zd : Nat → Nat), v = .agg #[.int .i64 xa, .slice ab nb cb, .slice ac nc cc, .slice ad nd cd] ∧ (Lit.int .i64 xa).wf = true ∧ IS .i64 w ab nb cb Zb ∧ IS .i64 w ac nc cc Zc ∧ FS .f32 w ad nd cd Zd := by
  obtain ⟨v0, v1, v2, v3, y0, y1, y2, y3, m, rfl, rfl, rfl, g0, g1, g2, g3⟩ := Joins.open_agg4 hs hone hC hv h
  obtain ⟨xa, e0, _, w0⟩ := DataW.trod_int h0 g0
  obtain ⟨ab, nb, cb, e1⟩ := Joins.slice_form h1 g1
  obtain ⟨ac, nc, cc, e2⟩ := Joins.slice_form h2 g2
  obtain ⟨ad, nd, cd, e3⟩ := Joins.slice_form h3 g3
  simp only [List.cons.injEq, and_true] at e0 e1 e2 e3
  subst e0 e1 e2 e3
  obtain ⟨Zb, hZb⟩ := open_ints1 (k := .i64) h1 heI hcI ⟨m, g1⟩
  obtain ⟨Zc, hZc⟩ := open_ints1 (k := .i64) h2 heI hcI ⟨m, g2⟩
  obtain ⟨Zd, hZd⟩ := open_floats (k := .f32) h3 heF hcF ⟨m, g3⟩
  exact ⟨xa, ab, nb, cb, Zb, ac, nc, cc, Zc, ad, nd, cd, Zd, rfl, w0, hZb, hZc, hZd⟩
end
theorem szInt64S_yesSparse (a : Option Addr) (n c : Nat) (L : Nat) (w : World) (hL : L ≤ 1048576) (hn : n ≤ L) :
    Calls Try.prog 37 #[.slice a n c, .int .i64 L] w fun e w' => e = .returned (.int .i64 ((L - n : Nat) : Int)) ∧ w = w' := by
  have e : ((L - n : Nat) : Int) = (L : Int) - n := by omega
  rw [e]
  clear e
  have hd : decide ((L : Int) - n < 0) = false := decide_eq_false (by omega)
  go_enter Try.func37, Try.ntmps37
  go_wp2
  go_ret
  exact ⟨rfl, rfl⟩
theorem szInt64S_noSparse (a : Option Addr) (n c : Nat) (L : Nat) (w : World) (hL : L ≤ 1048576) (hm : n ≤ 9223372036854775807) (hn : L < n) :
    Calls Try.prog 37 #[.slice a n c, .int .i64 L] w fun e w' => e = .returned (.int .i64 (-1)) ∧ w = w' := by
  have hd : decide ((L : Int) - n < 0) = true := decide_eq_true (by omega)
  go_enter Try.func37, Try.ntmps37
  go_wp2
  go_ret
  exact ⟨rfl, rfl⟩
theorem szSparse_yes (xa : Int) (ab : Option Addr) (nb cb : Nat) (ac : Option Addr) (nc cc : Nat) (ad : Option Addr) (nd cd : Nat) (L : Nat) (w : World) (hL : L ≤ 1048576) (hlb : nb ≤ L) (hlc : nc ≤ L - nb) (hld : nd ≤ L - nb - nc) :
    Calls Try.prog 9 #[.agg #[.int .i64 xa, .slice ab nb cb, .slice ac nc cc, .slice ad nd cd], .int .i64 L] w fun e w' => e = .returned (.int .i64 ((L - nb - nc - nd : Nat) : Int)) ∧ Below w.heap.size w w' := by
  have hd0 : decide (((L - nb : Nat) : Int) < 0) = false := decide_eq_false (by omega)
  have hd1 : decide (((L - nb - nc : Nat) : Int) < 0) = false := decide_eq_false (by omega)
  have hd2 : decide (((L - nb - nc - nd : Nat) : Int) < 0) = false := decide_eq_false (by omega)
  go_enter Try.func9, Try.ntmps9
  go_wp2_with fail
  go_at_call 37
  refine (szInt64S_yesSparse _ _ _ (L) _ (by omega) hlb).mono ?_
  rintro e w' ⟨rfl, rfl⟩
  go_wp2_with fail
  go_at_call 37
  refine (szInt64S_yesSparse _ _ _ (L - nb) _ (by omega) hlc).mono ?_
  rintro e w' ⟨rfl, rfl⟩
  go_wp2_with fail
  go_at_call 38
  refine (szFloat32S_yes _ _ _ (L - nb - nc) _ (by omega) hld).mono ?_
  rintro e w' ⟨rfl, rfl⟩
  go_wp2_with fail
  go_ret
  exact ⟨rfl, (by repeat first | (with_reducible exact Below.refl _ _) | (with_reducible refine Below.setCell ?_ (by first | exact Nat.le_refl _ | (simp; done) | (simp; omega) | omega) _) | (with_reducible refine Below.alloc ?_ (by first | exact Nat.le_refl _ | (simp; done) | (simp; omega) | omega) _) | (with_reducible refine below_drewN ?_ _) | (with_reducible refine Below.drew ?_))⟩
theorem szSparse_no (xa : Int) (ab : Option Addr) (nb cb : Nat) (ac : Option Addr) (nc cc : Nat) (ad : Option Addr) (nd cd : Nat) (L : Nat) (w : World) (hL : L ≤ 1048576) (hmb : nb ≤ 9223372036854775807) (hmc : nc ≤ 9223372036854775807) (hmd : nd ≤ 9223372036854775807) (hl : ¬ (nb ≤ L ∧ nc ≤ L - nb ∧ nd ≤ L - nb - nc)) :
    Calls Try.prog 9 #[.agg #[.int .i64 xa, .slice ab nb cb, .slice ac nc cc, .slice ad nd cd], .int .i64 L] w fun e w' => e = .returned (.int .i64 (-1)) ∧ Below w.heap.size w w' := by
  by_cases hc0 : nb ≤ L
  case neg =>
    go_enter Try.func9, Try.ntmps9
    go_wp2_with fail
    go_at_call 37
    refine (szInt64S_noSparse _ _ _ (L) _ (by omega) hmb (by omega)).mono ?_
    rintro e w' ⟨rfl, rfl⟩
    go_wp2_with fail
    go_ret
    exact ⟨rfl, (by repeat first | (with_reducible exact Below.refl _ _) | (with_reducible refine Below.setCell ?_ (by first | exact Nat.le_refl _ | (simp; done) | (simp; omega) | omega) _) | (with_reducible refine Below.alloc ?_ (by first | exact Nat.le_refl _ | (simp; done) | (simp; omega) | omega) _) | (with_reducible refine below_drewN ?_ _) | (with_reducible refine Below.drew ?_))⟩
  by_cases hc1 : nc ≤ L - nb
  case neg =>
    have hd0 : decide (((L - nb : Nat) : Int) < 0) = false := decide_eq_false (by omega)
    go_enter Try.func9, Try.ntmps9
    go_wp2_with fail
    go_at_call 37
    refine (szInt64S_yesSparse _ _ _ (L) _ (by omega) hc0).mono ?_
    rintro e w' ⟨rfl, rfl⟩
    go_wp2_with fail
    go_at_call 37
    refine (szInt64S_noSparse _ _ _ (L - nb) _ (by omega) hmc (by omega)).mono ?_
    rintro e w' ⟨rfl, rfl⟩
    go_wp2_with fail
    go_ret
    exact ⟨rfl, (by repeat first | (with_reducible exact Below.refl _ _) | (with_reducible refine Below.setCell ?_ (by first | exact Nat.le_refl _ | (simp; done) | (simp; omega) | omega) _) | (with_reducible refine Below.alloc ?_ (by first | exact Nat.le_refl _ | (simp; done) | (simp; omega) | omega) _) | (with_reducible refine below_drewN ?_ _) | (with_reducible refine Below.drew ?_))⟩
  have hd0 : decide (((L - nb : Nat) : Int) < 0) = false := decide_eq_false (by omega)
  have hd1 : decide (((L - nb - nc : Nat) : Int) < 0) = false := decide_eq_false (by omega)
  go_enter Try.func9, Try.ntmps9
  go_wp2_with fail
  go_at_call 37
  refine (szInt64S_yesSparse _ _ _ (L) _ (by omega) hc0).mono ?_
  rintro e w' ⟨rfl, rfl⟩
  go_wp2_with fail
  go_at_call 37
  refine (szInt64S_yesSparse _ _ _ (L - nb) _ (by omega) hc1).mono ?_
  rintro e w' ⟨rfl, rfl⟩
  go_wp2_with fail
  go_at_call 38
  refine (szFloat32S_no _ _ _ (L - nb - nc) _ (by omega) hmd (by omega)).mono ?_
  rintro e w' ⟨rfl, rfl⟩
  go_wp2_with fail
  go_ret
  exact ⟨rfl, (by repeat first | (with_reducible exact Below.refl _ _) | (with_reducible refine Below.setCell ?_ (by first | exact Nat.le_refl _ | (simp; done) | (simp; omega) | omega) _) | (with_reducible refine Below.alloc ?_ (by first | exact Nat.le_refl _ | (simp; done) | (simp; omega) | omega) _) | (with_reducible refine below_drewN ?_ _) | (with_reducible refine Below.drew ?_))⟩
/-- A new one in memory of its own, its lists apart. -/
def SepSparse (w : World) (xa : Int) (nb : Nat) (Zb : Nat → Int) (nc : Nat) (Zc : Nat → Int) (nd : Nat) (Zd : Nat → Nat) (e : Ending) (w' : World) : Prop :=
  ∃ (ab : Option Addr) (cb : Nat) (ac : Option Addr) (cc : Nat) (ad : Option Addr) (cd : Nat) (Mb : Nat) (Mc : Nat), e = .returned (.agg #[.int .i64 xa, .slice ab nb cb, .slice ac nc cc, .slice ad nd cd]) ∧ w.heap.size ≤ Mb ∧ Mb ≤ Mc ∧ Mc ≤ w'.heap.size ∧ OwnI 2 .i64 w.heap.size Mb w' ab nb cb Zb ∧ OwnI 2 .i64 Mb Mc w' ac nc cc Zc ∧ Own 27 .f32 Mc w'.heap.size w' ad nd cd Zd ∧ Below w.heap.size w w'
set_option maxRecDepth 20000 in
set_option maxHeartbeats 4000000 in
theorem toSparse_sep (xa : Int) (ab : Option Addr) (nb cb : Nat) (Zb : Nat → Int) (ac : Option Addr) (nc cc : Nat) (Zc : Nat → Int) (ad : Option Addr) (nd cd : Nat) (Zd : Nat → Nat) (w : World) (hnb : nb ≤ 1048576) (hnc : nc ≤ 1048576) (hnd : nd ≤ 1048576) (hb : IS .i64 w ab nb cb Zb) (hc : IS .i64 w ac nc cc Zc) (hd : FS .f32 w ad nd cd Zd) :
    Calls Try.prog 11 #[.agg #[.int .i64 xa, .slice ab nb cb, .slice ac nc cc, .slice ad nd cd]] w (SepSparse w xa nb Zb nc Zc nd Zd) := by
  go_enter Try.func11, Try.ntmps11
  go_wp2_with fail
  go_at_call 42
  refine (toInt64S_own ab nb cb Zb _ hnb (hb.below (by repeat first | (with_reducible exact Below.refl _ _) | (with_reducible refine Below.setCell ?_ (by first | exact Nat.le_refl _ | (simp; done) | (simp; omega) | omega) _) | (with_reducible refine Below.alloc ?_ (by first | exact Nat.le_refl _ | (simp; done) | (simp; omega) | omega) _) | (with_reducible refine below_drewN ?_ _) | (with_reducible refine Below.drew ?_)) (Nat.le_refl _))).mono ?_
  rintro e w1 ⟨pb, qb, rfl, ob, b1⟩
  obtain ⟨hc, hf⟩ := bcell b1
  have hz : w.heap.size + 1 + 1 + 1 ≤ w1.heap.size := by have := b1.size; simp [World.setCell] at this; omega
  have B1 : Below w.heap.size w w1 := (Below.trans (by repeat first | (with_reducible exact Below.refl _ _) | (with_reducible refine Below.setCell ?_ (by first | exact Nat.le_refl _ | (simp; done) | (simp; omega) | omega) _) | (with_reducible refine Below.alloc ?_ (by first | exact Nat.le_refl _ | (simp; done) | (simp; omega) | omega) _) | (with_reducible refine below_drewN ?_ _) | (with_reducible refine Below.drew ?_)) (b1.mono (by simp [World.setCell] <;> omega)))
  have X1 : w1.cell? ⟨w.heap.size, 2, none⟩ = some (.slice ac nc cc) ∧ w1.cell? ⟨w.heap.size, 3, none⟩ = some (.slice ad nd cd) ∧ w1.cell? ⟨w.heap.size + 1, 0, none⟩ = some (.int .i64 0) ∧ w1.cell? ⟨w.heap.size + 1, 1, none⟩ = some (.slice none 0 0) ∧ w1.cell? ⟨w.heap.size + 1, 2, none⟩ = some (.slice none 0 0) ∧ w1.cell? ⟨w.heap.size + 1, 3, none⟩ = some (.slice none 0 0) ∧ w1.cell? ⟨w.heap.size + 1 + 1, 0, none⟩ = some (.int .i64 xa) ∧ w1.cell? ⟨w.heap.size + 1 + 1, 1, none⟩ = some (.slice none 0 0) ∧ w1.cell? ⟨w.heap.size + 1 + 1, 2, none⟩ = some (.slice none 0 0) ∧ w1.cell? ⟨w.heap.size + 1 + 1, 3, none⟩ = some (.slice none 0 0) ∧ (∀ i, w1.frozen? ⟨w.heap.size + 1, i, none⟩ = false) ∧ (∀ i, w1.frozen? ⟨w.heap.size + 1 + 1, i, none⟩ = false) := by
    refine ⟨?_, ?_, ?_, ?_, ?_, ?_, ?_, ?_, ?_, ?_, fun i => ?_, fun i => ?_⟩
    all_goals first | rw [hc _ _ (by simp [World.setCell] <;> omega)] | rw [hf _ _ (by simp [World.setCell] <;> omega)]
    all_goals simp [go_sem]
  have FR1 := X1
  obtain ⟨f1_0, f1_1, f1_2, f1_3, f1_4, f1_5, f1_6, f1_7, f1_8, f1_9, i1r, i1o⟩ := FR1
  clear X1 hc hf
  have S1 : w.heap.size ≤ w1.heap.size := by omega
  go_wp2_with fail
  have gs1 : w1.grownBy (w1.setCell ⟨w.heap.size + 1 + 1, 1, none⟩ (.slice pb nb qb)) (some (w.heap.size + 1 + 1)) := ⟨rfl, rfl, rfl, by simp [World.setCell], fun k _ hk => Below.heap_setCell _ _ _ _ (fun e => hk (by simp [e]))⟩
  have Bs1 : Below w.heap.size w (w1.setCell ⟨w.heap.size + 1 + 1, 1, none⟩ (.slice pb nb qb)) := B1.setCell (by show w.heap.size ≤ w.heap.size + 1 + 1; omega) _
  replace ob := ob.kept gs1 (fun g hg => by cases hg; left; first | (simp; done) | (simp [World.setCell]; done) | (simp [World.setCell]; omega) | omega)
  have s1_0 : (w1.setCell ⟨w.heap.size + 1 + 1, 1, none⟩ (.slice pb nb qb)).cell? ⟨w.heap.size, 2, none⟩ = some (.slice ac nc cc) := by rw [World.cell?_setCell_other _ _ _ _ (by first | (simp; done) | (simp; omega))]; exact f1_0
  have s1_1 : (w1.setCell ⟨w.heap.size + 1 + 1, 1, none⟩ (.slice pb nb qb)).cell? ⟨w.heap.size, 3, none⟩ = some (.slice ad nd cd) := by rw [World.cell?_setCell_other _ _ _ _ (by first | (simp; done) | (simp; omega))]; exact f1_1
  have s1_2 : (w1.setCell ⟨w.heap.size + 1 + 1, 1, none⟩ (.slice pb nb qb)).cell? ⟨w.heap.size + 1, 0, none⟩ = some (.int .i64 0) := by rw [World.cell?_setCell_other _ _ _ _ (by first | (simp; done) | (simp; omega))]; exact f1_2
  have s1_3 : (w1.setCell ⟨w.heap.size + 1 + 1, 1, none⟩ (.slice pb nb qb)).cell? ⟨w.heap.size + 1, 1, none⟩ = some (.slice none 0 0) := by rw [World.cell?_setCell_other _ _ _ _ (by first | (simp; done) | (simp; omega))]; exact f1_3
  have s1_4 : (w1.setCell ⟨w.heap.size + 1 + 1, 1, none⟩ (.slice pb nb qb)).cell? ⟨w.heap.size + 1, 2, none⟩ = some (.slice none 0 0) := by rw [World.cell?_setCell_other _ _ _ _ (by first | (simp; done) | (simp; omega))]; exact f1_4
  have s1_5 : (w1.setCell ⟨w.heap.size + 1 + 1, 1, none⟩ (.slice pb nb qb)).cell? ⟨w.heap.size + 1, 3, none⟩ = some (.slice none 0 0) := by rw [World.cell?_setCell_other _ _ _ _ (by first | (simp; done) | (simp; omega))]; exact f1_5
  have s1_6 : (w1.setCell ⟨w.heap.size + 1 + 1, 1, none⟩ (.slice pb nb qb)).cell? ⟨w.heap.size + 1 + 1, 0, none⟩ = some (.int .i64 xa) := by rw [World.cell?_setCell_other _ _ _ _ (by first | (simp; done) | (simp; omega))]; exact f1_6
  have s1_7 : (w1.setCell ⟨w.heap.size + 1 + 1, 1, none⟩ (.slice pb nb qb)).cell? ⟨w.heap.size + 1 + 1, 1, none⟩ = some (.slice pb nb qb) := World.cell?_setCell_same _ _ _ f1_7
  have s1_8 : (w1.setCell ⟨w.heap.size + 1 + 1, 1, none⟩ (.slice pb nb qb)).cell? ⟨w.heap.size + 1 + 1, 2, none⟩ = some (.slice none 0 0) := by rw [World.cell?_setCell_other _ _ _ _ (by first | (simp; done) | (simp; omega))]; exact f1_8
  have s1_9 : (w1.setCell ⟨w.heap.size + 1 + 1, 1, none⟩ (.slice pb nb qb)).cell? ⟨w.heap.size + 1 + 1, 3, none⟩ = some (.slice none 0 0) := by rw [World.cell?_setCell_other _ _ _ _ (by first | (simp; done) | (simp; omega))]; exact f1_9
  have is1r : ∀ i, (w1.setCell ⟨w.heap.size + 1 + 1, 1, none⟩ (.slice pb nb qb)).frozen? ⟨w.heap.size + 1, i, none⟩ = false := fun i => by rw [World.frozen?_setCell]; exact i1r i
  have is1o : ∀ i, (w1.setCell ⟨w.heap.size + 1 + 1, 1, none⟩ (.slice pb nb qb)).frozen? ⟨w.heap.size + 1 + 1, i, none⟩ = false := fun i => by rw [World.frozen?_setCell]; exact i1o i
  have hz1 : w.heap.size + 1 + 1 + 1 ≤ (w1.setCell ⟨w.heap.size + 1 + 1, 1, none⟩ (.slice pb nb qb)).heap.size := by simpa [World.setCell] using hz
  have hU1 : w1.heap.size ≤ (w1.setCell ⟨w.heap.size + 1 + 1, 1, none⟩ (.slice pb nb qb)).heap.size := by simp [World.setCell]
  generalize w1.setCell ⟨w.heap.size + 1 + 1, 1, none⟩ (.slice pb nb qb) = ws1 at gs1 Bs1 ob s1_0 s1_1 s1_2 s1_3 s1_4 s1_5 s1_6 s1_7 s1_8 s1_9 is1r is1o hz1 hU1 ⊢
  clear gs1 f1_0 f1_1 f1_2 f1_3 f1_4 f1_5 f1_6 f1_7 f1_8 f1_9 i1r i1o B1
  go_at_call 42
  refine (toInt64S_own ac nc cc Zc _ hnc (hc.below Bs1 (Nat.le_refl _))).mono ?_
  rintro e w2 ⟨pc, qc, rfl, oc, b2⟩
  have S2 : ws1.heap.size ≤ w2.heap.size := b2.size
  have B2 := Bs1.trans (b2.mono Bs1.size)
  replace ob := ob.kept (below_grew b2) (fun g hg => by cases hg)
  have f2_0 := (b2.cell (p := ⟨w.heap.size, 3, none⟩) (by show w.heap.size < ws1.heap.size; omega)).trans s1_1
  have f2_1 := (b2.cell (p := ⟨w.heap.size + 1, 0, none⟩) (by show w.heap.size + 1 < ws1.heap.size; omega)).trans s1_2
  have f2_2 := (b2.cell (p := ⟨w.heap.size + 1, 1, none⟩) (by show w.heap.size + 1 < ws1.heap.size; omega)).trans s1_3
  have f2_3 := (b2.cell (p := ⟨w.heap.size + 1, 2, none⟩) (by show w.heap.size + 1 < ws1.heap.size; omega)).trans s1_4
  have f2_4 := (b2.cell (p := ⟨w.heap.size + 1, 3, none⟩) (by show w.heap.size + 1 < ws1.heap.size; omega)).trans s1_5
  have f2_5 := (b2.cell (p := ⟨w.heap.size + 1 + 1, 0, none⟩) (by show w.heap.size + 1 + 1 < ws1.heap.size; omega)).trans s1_6
  have f2_6 := (b2.cell (p := ⟨w.heap.size + 1 + 1, 1, none⟩) (by show w.heap.size + 1 + 1 < ws1.heap.size; omega)).trans s1_7
  have f2_7 := (b2.cell (p := ⟨w.heap.size + 1 + 1, 2, none⟩) (by show w.heap.size + 1 + 1 < ws1.heap.size; omega)).trans s1_8
  have f2_8 := (b2.cell (p := ⟨w.heap.size + 1 + 1, 3, none⟩) (by show w.heap.size + 1 + 1 < ws1.heap.size; omega)).trans s1_9
  have i2r : ∀ i, w2.frozen? ⟨w.heap.size + 1, i, none⟩ = false := fun i => (b2.frozen (p := ⟨w.heap.size + 1, i, none⟩) (by show w.heap.size + 1 < ws1.heap.size; omega)).trans (is1r i)
  have i2o : ∀ i, w2.frozen? ⟨w.heap.size + 1 + 1, i, none⟩ = false := fun i => (b2.frozen (p := ⟨w.heap.size + 1 + 1, i, none⟩) (by show w.heap.size + 1 + 1 < ws1.heap.size; omega)).trans (is1o i)
  have hz1' : w.heap.size + 1 + 1 + 1 ≤ w2.heap.size := by omega
  clear b2 s1_0 s1_1 s1_2 s1_3 s1_4 s1_5 s1_6 s1_7 s1_8 s1_9 is1r is1o Bs1
  go_wp2_with fail
  have gs2 : w2.grownBy (w2.setCell ⟨w.heap.size + 1 + 1, 2, none⟩ (.slice pc nc qc)) (some (w.heap.size + 1 + 1)) := ⟨rfl, rfl, rfl, by simp [World.setCell], fun k _ hk => Below.heap_setCell _ _ _ _ (fun e => hk (by simp [e]))⟩
  have Bs2 : Below w.heap.size w (w2.setCell ⟨w.heap.size + 1 + 1, 2, none⟩ (.slice pc nc qc)) := B2.setCell (by show w.heap.size ≤ w.heap.size + 1 + 1; omega) _
  replace ob := ob.kept gs2 (fun g hg => by cases hg; left; first | (simp; done) | (simp [World.setCell]; done) | (simp [World.setCell]; omega) | omega)
  replace oc := oc.kept gs2 (fun g hg => by cases hg; left; first | (simp; done) | (simp [World.setCell]; done) | (simp [World.setCell]; omega) | omega)
  have s2_0 : (w2.setCell ⟨w.heap.size + 1 + 1, 2, none⟩ (.slice pc nc qc)).cell? ⟨w.heap.size, 3, none⟩ = some (.slice ad nd cd) := by rw [World.cell?_setCell_other _ _ _ _ (by first | (simp; done) | (simp; omega))]; exact f2_0
  have s2_1 : (w2.setCell ⟨w.heap.size + 1 + 1, 2, none⟩ (.slice pc nc qc)).cell? ⟨w.heap.size + 1, 0, none⟩ = some (.int .i64 0) := by rw [World.cell?_setCell_other _ _ _ _ (by first | (simp; done) | (simp; omega))]; exact f2_1
  have s2_2 : (w2.setCell ⟨w.heap.size + 1 + 1, 2, none⟩ (.slice pc nc qc)).cell? ⟨w.heap.size + 1, 1, none⟩ = some (.slice none 0 0) := by rw [World.cell?_setCell_other _ _ _ _ (by first | (simp; done) | (simp; omega))]; exact f2_2
  have s2_3 : (w2.setCell ⟨w.heap.size + 1 + 1, 2, none⟩ (.slice pc nc qc)).cell? ⟨w.heap.size + 1, 2, none⟩ = some (.slice none 0 0) := by rw [World.cell?_setCell_other _ _ _ _ (by first | (simp; done) | (simp; omega))]; exact f2_3
  have s2_4 : (w2.setCell ⟨w.heap.size + 1 + 1, 2, none⟩ (.slice pc nc qc)).cell? ⟨w.heap.size + 1, 3, none⟩ = some (.slice none 0 0) := by rw [World.cell?_setCell_other _ _ _ _ (by first | (simp; done) | (simp; omega))]; exact f2_4
  have s2_5 : (w2.setCell ⟨w.heap.size + 1 + 1, 2, none⟩ (.slice pc nc qc)).cell? ⟨w.heap.size + 1 + 1, 0, none⟩ = some (.int .i64 xa) := by rw [World.cell?_setCell_other _ _ _ _ (by first | (simp; done) | (simp; omega))]; exact f2_5
  have s2_6 : (w2.setCell ⟨w.heap.size + 1 + 1, 2, none⟩ (.slice pc nc qc)).cell? ⟨w.heap.size + 1 + 1, 1, none⟩ = some (.slice pb nb qb) := by rw [World.cell?_setCell_other _ _ _ _ (by first | (simp; done) | (simp; omega))]; exact f2_6
  have s2_7 : (w2.setCell ⟨w.heap.size + 1 + 1, 2, none⟩ (.slice pc nc qc)).cell? ⟨w.heap.size + 1 + 1, 2, none⟩ = some (.slice pc nc qc) := World.cell?_setCell_same _ _ _ f2_7
  have s2_8 : (w2.setCell ⟨w.heap.size + 1 + 1, 2, none⟩ (.slice pc nc qc)).cell? ⟨w.heap.size + 1 + 1, 3, none⟩ = some (.slice none 0 0) := by rw [World.cell?_setCell_other _ _ _ _ (by first | (simp; done) | (simp; omega))]; exact f2_8
  have is2r : ∀ i, (w2.setCell ⟨w.heap.size + 1 + 1, 2, none⟩ (.slice pc nc qc)).frozen? ⟨w.heap.size + 1, i, none⟩ = false := fun i => by rw [World.frozen?_setCell]; exact i2r i
  have is2o : ∀ i, (w2.setCell ⟨w.heap.size + 1 + 1, 2, none⟩ (.slice pc nc qc)).frozen? ⟨w.heap.size + 1 + 1, i, none⟩ = false := fun i => by rw [World.frozen?_setCell]; exact i2o i
  have hz2 : w.heap.size + 1 + 1 + 1 ≤ (w2.setCell ⟨w.heap.size + 1 + 1, 2, none⟩ (.slice pc nc qc)).heap.size := by simpa [World.setCell] using hz1'
  have hU2 : w2.heap.size ≤ (w2.setCell ⟨w.heap.size + 1 + 1, 2, none⟩ (.slice pc nc qc)).heap.size := by simp [World.setCell]
  generalize w2.setCell ⟨w.heap.size + 1 + 1, 2, none⟩ (.slice pc nc qc) = ws2 at gs2 Bs2 ob oc s2_0 s2_1 s2_2 s2_3 s2_4 s2_5 s2_6 s2_7 s2_8 is2r is2o hz2 hU2 ⊢
  clear gs2 f2_0 f2_1 f2_2 f2_3 f2_4 f2_5 f2_6 f2_7 f2_8 i2r i2o B2
  go_at_call 16
  refine (toFloat32S_own ad nd cd Zd _ hnd (hd.below Bs2 (Nat.le_refl _))).mono ?_
  rintro e w3 ⟨pd, qd, rfl, od, b3⟩
  have S3 : ws2.heap.size ≤ w3.heap.size := b3.size
  have B3 := Bs2.trans (b3.mono Bs2.size)
  replace ob := ob.kept (below_grew b3) (fun g hg => by cases hg)
  replace oc := oc.kept (below_grew b3) (fun g hg => by cases hg)
  have f3_0 := (b3.cell (p := ⟨w.heap.size + 1, 0, none⟩) (by show w.heap.size + 1 < ws2.heap.size; omega)).trans s2_1
  have f3_1 := (b3.cell (p := ⟨w.heap.size + 1, 1, none⟩) (by show w.heap.size + 1 < ws2.heap.size; omega)).trans s2_2
  have f3_2 := (b3.cell (p := ⟨w.heap.size + 1, 2, none⟩) (by show w.heap.size + 1 < ws2.heap.size; omega)).trans s2_3
  have f3_3 := (b3.cell (p := ⟨w.heap.size + 1, 3, none⟩) (by show w.heap.size + 1 < ws2.heap.size; omega)).trans s2_4
  have f3_4 := (b3.cell (p := ⟨w.heap.size + 1 + 1, 0, none⟩) (by show w.heap.size + 1 + 1 < ws2.heap.size; omega)).trans s2_5
  have f3_5 := (b3.cell (p := ⟨w.heap.size + 1 + 1, 1, none⟩) (by show w.heap.size + 1 + 1 < ws2.heap.size; omega)).trans s2_6
  have f3_6 := (b3.cell (p := ⟨w.heap.size + 1 + 1, 2, none⟩) (by show w.heap.size + 1 + 1 < ws2.heap.size; omega)).trans s2_7
  have f3_7 := (b3.cell (p := ⟨w.heap.size + 1 + 1, 3, none⟩) (by show w.heap.size + 1 + 1 < ws2.heap.size; omega)).trans s2_8
  have i3r : ∀ i, w3.frozen? ⟨w.heap.size + 1, i, none⟩ = false := fun i => (b3.frozen (p := ⟨w.heap.size + 1, i, none⟩) (by show w.heap.size + 1 < ws2.heap.size; omega)).trans (is2r i)
  have i3o : ∀ i, w3.frozen? ⟨w.heap.size + 1 + 1, i, none⟩ = false := fun i => (b3.frozen (p := ⟨w.heap.size + 1 + 1, i, none⟩) (by show w.heap.size + 1 + 1 < ws2.heap.size; omega)).trans (is2o i)
  have hz2' : w.heap.size + 1 + 1 + 1 ≤ w3.heap.size := by omega
  clear b3 s2_0 s2_1 s2_2 s2_3 s2_4 s2_5 s2_6 s2_7 s2_8 is2r is2o Bs2
  go_wp2_with fail
  refine bodyPost_ret (v := .agg #[.int .i64 xa, .slice pb nb qb, .slice pc nc qc, .slice pd nd qd]) (by simp [results, Try.results11, go_sem, f3_0, f3_1, f3_2, f3_3, f3_4, f3_5, f3_6, f3_7]) rfl ?_
  refine ⟨pb, qb, pc, qc, pd, qd, ws1.heap.size, ws2.heap.size, rfl, (by first | omega | (simp [World.setCell]; omega)), (by first | omega | (simp [World.setCell]; omega)), (by first | omega | (simp [World.setCell]; omega)), ?_, ?_, ?_, ?_⟩
  · exact (by refine OwnI.to ob (hk := fun g hg1 hg2 => by (try simp at hg1 hg2); repeat (first | rw [Below.heap_setCell _ _ _ _ (by simp; omega)] | rw [Below.heap_alloc _ _ _ (by simp [World.setCell]; omega)])) ?_ ?_ ?_ ?_ <;> (first | exact Nat.le_refl _ | omega | (simp [World.setCell]; done) | (simp [World.setCell]; omega)))
  · exact (by refine OwnI.to oc (hk := fun g hg1 hg2 => by (try simp at hg1 hg2); repeat (first | rw [Below.heap_setCell _ _ _ _ (by simp; omega)] | rw [Below.heap_alloc _ _ _ (by simp [World.setCell]; omega)])) ?_ ?_ ?_ ?_ <;> (first | exact Nat.le_refl _ | omega | (simp [World.setCell]; done) | (simp [World.setCell]; omega)))
  · exact (by refine Own.to od (hk := fun g hg1 hg2 => by (try simp at hg1 hg2); repeat (first | rw [Below.heap_setCell _ _ _ _ (by simp; omega)] | rw [Below.heap_alloc _ _ _ (by simp [World.setCell]; omega)])) ?_ ?_ ?_ ?_ <;> (first | exact Nat.le_refl _ | omega | (simp [World.setCell]; done) | (simp [World.setCell]; omega)))
  · exact (by repeat first | (with_reducible exact B3) | (with_reducible refine Below.setCell ?_ (by first | exact Nat.le_refl _ | (simp; done) | (simp; omega) | omega) _) | (with_reducible refine Below.alloc ?_ (by first | exact Nat.le_refl _ | (simp; done) | (simp; omega) | omega) _) | (with_reducible refine below_drewN ?_ _) | (with_reducible refine Below.drew ?_))
set_option maxRecDepth 100000 in
theorem eqSparse_any (xa : Int) (ab bb : Option Addr) (nb cb db : Nat) (Zb Yb : Nat → Int) (ac bc : Option Addr) (nc cc dc : Nat) (Zc Yc : Nat → Int) (ad bd : Option Addr) (nd cd dd : Nat) (Zd Yd : Nat → Nat) (w : World) (hnb : nb ≤ 1048576) (hnc : nc ≤ 1048576) (hnd : nd ≤ 1048576) (hb : IS .i64 w ab nb cb Zb) (kb : IS .i64 w bb nb db Yb) (hc : IS .i64 w ac nc cc Zc) (kc : IS .i64 w bc nc dc Yc) (hd : FS .f32 w ad nd cd Zd) (kd : FS .f32 w bd nd dd Yd) (eb : ∀ i, i < nb → Zb i = Yb i) (ec : ∀ i, i < nc → Zc i = Yc i) (ed : ∀ i, i < nd → cn .f32 (Zd i) = cn .f32 (Yd i)) :
    Calls Try.prog 14 #[.agg #[.int .i64 xa, .slice ab nb cb, .slice ac nc cc, .slice ad nd cd], .agg #[.int .i64 xa, .slice bb nb db, .slice bc nc dc, .slice bd nd dd]] w fun e w' => e = .returned (.bool true) ∧ Below w.heap.size w w' := by
  go_enter Try.func14, Try.ntmps14
  go_wp2_with fail
  go_at_call 24
  refine (eqInt64S_any _ _ nb _ _ Zb Yb _ hnb (hb.below (by repeat first | (with_reducible exact Below.refl _ _) | (with_reducible refine Below.setCell ?_ (by first | exact Nat.le_refl _ | (simp; done) | (simp; omega) | omega) _) | (with_reducible refine Below.alloc ?_ (by first | exact Nat.le_refl _ | (simp; done) | (simp; omega) | omega) _) | (with_reducible refine below_drewN ?_ _) | (with_reducible refine Below.drew ?_)) (Nat.le_refl _)) (kb.below (by repeat first | (with_reducible exact Below.refl _ _) | (with_reducible refine Below.setCell ?_ (by first | exact Nat.le_refl _ | (simp; done) | (simp; omega) | omega) _) | (with_reducible refine Below.alloc ?_ (by first | exact Nat.le_refl _ | (simp; done) | (simp; omega) | omega) _) | (with_reducible refine below_drewN ?_ _) | (with_reducible refine Below.drew ?_)) (Nat.le_refl _)) eb).mono ?_
  rintro e w' ⟨rfl, m0, rfl⟩
  go_wp2_with fail
  go_at_call 24
  refine (eqInt64S_any _ _ nc _ _ Zc Yc _ hnc (hc.below (by repeat first | (with_reducible exact Below.refl _ _) | (with_reducible refine Below.setCell ?_ (by first | exact Nat.le_refl _ | (simp; done) | (simp; omega) | omega) _) | (with_reducible refine Below.alloc ?_ (by first | exact Nat.le_refl _ | (simp; done) | (simp; omega) | omega) _) | (with_reducible refine below_drewN ?_ _) | (with_reducible refine Below.drew ?_)) (Nat.le_refl _)) (kc.below (by repeat first | (with_reducible exact Below.refl _ _) | (with_reducible refine Below.setCell ?_ (by first | exact Nat.le_refl _ | (simp; done) | (simp; omega) | omega) _) | (with_reducible refine Below.alloc ?_ (by first | exact Nat.le_refl _ | (simp; done) | (simp; omega) | omega) _) | (with_reducible refine below_drewN ?_ _) | (with_reducible refine Below.drew ?_)) (Nat.le_refl _)) ec).mono ?_
  rintro e w' ⟨rfl, m1, rfl⟩
  go_wp2_with fail
  go_at_call 18
  refine (eqFloat32S_any _ _ nd _ _ Zd Yd _ hnd (hd.below (by repeat first | (with_reducible exact Below.refl _ _) | (with_reducible refine Below.setCell ?_ (by first | exact Nat.le_refl _ | (simp; done) | (simp; omega) | omega) _) | (with_reducible refine Below.alloc ?_ (by first | exact Nat.le_refl _ | (simp; done) | (simp; omega) | omega) _) | (with_reducible refine below_drewN ?_ _) | (with_reducible refine Below.drew ?_)) (Nat.le_refl _)) (kd.below (by repeat first | (with_reducible exact Below.refl _ _) | (with_reducible refine Below.setCell ?_ (by first | exact Nat.le_refl _ | (simp; done) | (simp; omega) | omega) _) | (with_reducible refine Below.alloc ?_ (by first | exact Nat.le_refl _ | (simp; done) | (simp; omega) | omega) _) | (with_reducible refine below_drewN ?_ _) | (with_reducible refine Below.drew ?_)) (Nat.le_refl _)) ed).mono ?_
  rintro e w' ⟨rfl, m2, rfl⟩
  go_wp2_with fail
  go_ret
  exact ⟨rfl, (by repeat first | (with_reducible exact Below.refl _ _) | (with_reducible refine Below.setCell ?_ (by first | exact Nat.le_refl _ | (simp; done) | (simp; omega) | omega) _) | (with_reducible refine Below.alloc ?_ (by first | exact Nat.le_refl _ | (simp; done) | (simp; omega) | omega) _) | (with_reducible refine below_drewN ?_ _) | (with_reducible refine Below.drew ?_))⟩
theorem markSparse_sep (B Mb Mc U : Nat) (xa : Int) (ab : Option Addr) (nb cb : Nat) (Zb : Nat → Int) (ac : Option Addr) (nc cc : Nat) (Zc : Nat → Int) (ad : Option Addr) (nd cd : Nat) (Zd : Nat → Nat) (k : Nat) (w : World) (hnb : nb ≤ 1048576) (hnc : nc ≤ 1048576) (hnd : nd ≤ 1048576) (hk : k ≤ 1048577) (hb0 : B ≤ Mb) (hb1 : Mb ≤ Mc) (hb2 : Mc ≤ U) (hUw : U ≤ w.heap.size) (hb : OwnI 2 .i64 B Mb w ab nb cb Zb) (hc : OwnI 2 .i64 Mb Mc w ac nc cc Zc) (hd : Own 27 .f32 Mc U w ad nd cd Zd) :
    Calls Try.prog 19 #[.agg #[.int .i64 xa, .slice ab nb cb, .slice ac nc cc, .slice ad nd cd], .int .i64 k] w fun e w' => e = .returned (.int .i64 ((k + nb + nc + nd : Nat) : Int)) ∧ OwnI 2 .i64 B Mb w' ab nb cb (fun j => ((k + j : Nat) : Int)) ∧ OwnI 2 .i64 Mb Mc w' ac nc cc (fun j => ((k + nb + j : Nat) : Int)) ∧ Own 27 .f32 Mc U w' ad nd cd (fun j => floatOfInt .f32 ((k + nb + nc + j : Nat) : Int)) ∧ Grew B U w w' := by
  go_enter Try.func19, Try.ntmps19
  go_wp2_with fail
  go_at_call 25
  refine (markInt64S_any B Mb _ _ _ (k) Zb _ hnb (by omega) (hb.kept (World.grownBy_alloc w _ none) (fun g h => by cases h))).mono ?_
  rintro e w1 ⟨rfl, ob, r1⟩
  have G1 : Grew B U w w1 := (Grew.ofBelow (by repeat first | (with_reducible exact Below.refl _ _) | (with_reducible refine Below.setCell ?_ (by first | exact Nat.le_refl _ | (simp; done) | (simp; omega) | omega) _) | (with_reducible refine Below.alloc ?_ (by first | exact Nat.le_refl _ | (simp; done) | (simp; omega) | omega) _) | (with_reducible refine below_drewN ?_ _) | (with_reducible refine Below.drew ?_))).trans ((Marked.grew r1).wide (Nat.le_refl _) (by omega))
  replace hc := (hc.over (Grew.ofBelow (B := B) (U := Mb) (by repeat first | (with_reducible exact Below.refl _ _) | (with_reducible refine Below.setCell ?_ (by first | exact Nat.le_refl _ | (simp; done) | (simp; omega) | omega) _) | (with_reducible refine Below.alloc ?_ (by first | exact Nat.le_refl _ | (simp; done) | (simp; omega) | omega) _) | (with_reducible refine below_drewN ?_ _) | (with_reducible refine Below.drew ?_))) (.inr (by omega))).over (Marked.grew r1) (.inr (by omega))
  replace hd := (hd.over (Grew.ofBelow (B := B) (U := Mb) (by repeat first | (with_reducible exact Below.refl _ _) | (with_reducible refine Below.setCell ?_ (by first | exact Nat.le_refl _ | (simp; done) | (simp; omega) | omega) _) | (with_reducible refine Below.alloc ?_ (by first | exact Nat.le_refl _ | (simp; done) | (simp; omega) | omega) _) | (with_reducible refine below_drewN ?_ _) | (with_reducible refine Below.drew ?_))) (.inr (by omega))).over (Marked.grew r1) (.inr (by omega))
  have X1 : BoxL w1 w.heap.size [.int .i64 xa, .slice ab nb cb, .slice ac nc cc, .slice ad nd cd] := BoxL.over (BoxL.four (by simp [go_sem]) (by simp [go_sem]) (by simp [go_sem]) (by simp [go_sem])) (Marked.grew r1) (by simp) (.inr (by omega))
  have L1 : w.heap.size < w1.heap.size := by have := (Marked.grew r1).size; simp at this; omega
  clear r1
  have c1_0 := X1 0 _ rfl
  have c1_1 := X1 1 _ rfl
  have c1_2 := X1 2 _ rfl
  have c1_3 := X1 3 _ rfl
  go_wp2_with fail
  go_at_call 25
  refine (markInt64S_any Mb Mc _ _ _ (k + nb) Zc _ hnc (by omega) hc).mono ?_
  rintro e w2 ⟨rfl, oc, r2⟩
  have G2 : Grew B U w w2 := G1.trans ((Marked.grew r2).wide (by omega) (by omega))
  replace ob := ob.over (Marked.grew r2) (.inl (by omega))
  replace hd := hd.over (Marked.grew r2) (.inr (by omega))
  have X2 := X1.over (Marked.grew r2) L1 (.inr (by omega))
  have L2 : w.heap.size < w2.heap.size := Nat.lt_of_lt_of_le L1 (Marked.grew r2).size
  clear r2 G1 X1 L1 c1_0 c1_1 c1_2 c1_3
  have c2_0 := X2 0 _ rfl
  have c2_1 := X2 1 _ rfl
  have c2_2 := X2 2 _ rfl
  have c2_3 := X2 3 _ rfl
  go_wp2_with fail
  go_at_call 20
  refine (markFloat32S_more Mc U _ _ _ (k + nb + nc) Zd _ hnd (by omega) hd).mono ?_
  rintro e w3 ⟨rfl, od, r3⟩
  have G3 : Grew B U w w3 := G2.trans ((Marked.grew r3).wide (by omega) (by omega))
  replace ob := ob.over (Marked.grew r3) (.inl (by omega))
  replace oc := oc.over (Marked.grew r3) (.inl (by omega))
  clear r3 G2 X2 L2 c2_0 c2_1 c2_2 c2_3
  go_wp2_with fail
  go_ret
  exact ⟨rfl, ob, oc, od, G3⟩
theorem heldSparse_sep (xa : Int) (ab : Option Addr) (nb cb : Nat) (ac : Option Addr) (nc cc : Nat) (ad : Option Addr) (nd cd : Nat) (k : Nat) (Zb : Nat → Int) (Zc : Nat → Int) (Zd : Nat → Nat) (w : World) (hnb : nb ≤ 1048576) (hnc : nc ≤ 1048576) (hnd : nd ≤ 1048576) (hk : k + nb + nc + nd ≤ 1048576) (hb : IS .i64 w ab nb cb Zb) (hc : IS .i64 w ac nc cc Zc) (hd : FS .f32 w ad nd cd Zd) (eb : ∀ j, j < nb → Zb j = ((k + j : Nat) : Int)) (ec : ∀ j, j < nc → Zc j = ((k + nb + j : Nat) : Int)) (ed : ∀ j, j < nd → Zd j = floatOfInt .f32 ((k + nb + nc + j : Nat) : Int)) :
    Calls Try.prog 36 #[.agg #[.int .i64 xa, .slice ab nb cb, .slice ac nc cc, .slice ad nd cd], .int .i64 k] w fun e w' => e = .returned (.int .i64 ((k + nb + nc + nd : Nat) : Int)) ∧ Below w.heap.size w w' := by
  go_enter Try.func36, Try.ntmps36
  go_wp2_with fail
  go_at_call 26
  refine (heldInt64S_any _ _ _ (k) Zb _ hnb (by omega) (hb.below (by repeat first | (with_reducible exact Below.refl _ _) | (with_reducible refine Below.setCell ?_ (by first | exact Nat.le_refl _ | (simp; done) | (simp; omega) | omega) _) | (with_reducible refine Below.alloc ?_ (by first | exact Nat.le_refl _ | (simp; done) | (simp; omega) | omega) _) | (with_reducible refine below_drewN ?_ _) | (with_reducible refine Below.drew ?_)) (Nat.le_refl _)) eb).mono ?_
  rintro e w' ⟨rfl, rfl⟩
  clear eb
  have hd0 : decide (((k + nb : Nat) : Int) < 0) = false := decide_eq_false (by omega)
  have hg0 := hd0
  simp only [Int.natCast_add] at hg0
  go_wp2_with fail
  go_at_call 26
  refine (heldInt64S_any _ _ _ (k + nb) Zc _ hnc (by omega) (hc.below (by repeat first | (with_reducible exact Below.refl _ _) | (with_reducible refine Below.setCell ?_ (by first | exact Nat.le_refl _ | (simp; done) | (simp; omega) | omega) _) | (with_reducible refine Below.alloc ?_ (by first | exact Nat.le_refl _ | (simp; done) | (simp; omega) | omega) _) | (with_reducible refine below_drewN ?_ _) | (with_reducible refine Below.drew ?_)) (Nat.le_refl _)) ec).mono ?_
  rintro e w' ⟨rfl, rfl⟩
  clear ec
  have hd1 : decide (((k + nb + nc : Nat) : Int) < 0) = false := decide_eq_false (by omega)
  have hg1 := hd1
  simp only [Int.natCast_add] at hg1
  go_wp2_with fail
  go_at_call 21
  refine (heldFloat32S_any _ _ _ (k + nb + nc) Zd _ hnd (by omega) (hd.below (by repeat first | (with_reducible exact Below.refl _ _) | (with_reducible refine Below.setCell ?_ (by first | exact Nat.le_refl _ | (simp; done) | (simp; omega) | omega) _) | (with_reducible refine Below.alloc ?_ (by first | exact Nat.le_refl _ | (simp; done) | (simp; omega) | omega) _) | (with_reducible refine below_drewN ?_ _) | (with_reducible refine Below.drew ?_)) (Nat.le_refl _)) ed).mono ?_
  rintro e w' ⟨rfl, rfl⟩
  clear ed
  have hd2 : decide (((k + nb + nc + nd : Nat) : Int) < 0) = false := decide_eq_false (by omega)
  have hg2 := hd2
  simp only [Int.natCast_add] at hg2
  go_wp2_with fail
  go_ret
  exact ⟨by first | rfl | simp, (by repeat first | (with_reducible exact Below.refl _ _) | (with_reducible refine Below.setCell ?_ (by first | exact Nat.le_refl _ | (simp; done) | (simp; omega) | omega) _) | (with_reducible refine Below.alloc ?_ (by first | exact Nat.le_refl _ | (simp; done) | (simp; omega) | omega) _) | (with_reducible refine below_drewN ?_ _) | (with_reducible refine Below.drew ?_))⟩
end Go.Proofs.Ytmjlhmbnaifhaab
