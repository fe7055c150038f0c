/- Helper: the structure Thirds: walks of the laws' own functions on it: copies, sizes, comparisons, marks. Conditions: none. -/
import Derived.Test.YtpmilaemmdcfaabMatCopy
import Derived.Test.YtpmilaemmdcfaabKeys
import Derived.Test.YtpmilaemmdcfaabMarkMore
import Derived.Test.YtpmilaemmdcfaabBoxes
import Derived.Lib.SmallJoins
set_option linter.unusedVariables false
set_option linter.unusedSimpArgs false
namespace Go.Proofs.Ytpmilaemmdcfaab
open Go.ChangeShapes Go.WideShapes Go.RowKit Go.Deep

section
variable {H : Type} {enc : TypeId × Value → H} {P : Program} {w : World} {base : Nat} {spare : Nat → Bool} {held : Bool}
theorem open_thirds {r : Reach} {b0 : Nat} {t eF : TypeId} {f0 f1 f2 : Field} {v : Value} {d : DataW H} {p : List MemPlace} (hs : P.underlying t = some (.struct #[f0, f1, f2])) (hone : oneCellFields P #[f0, f1, f2] = true) (hC : P.cellsOf t = 3)
    (h0 : P.underlying f0.type = some (.slice eF)) (h1 : P.underlying f1.type = some (.slice eF)) (h2 : P.underlying f2.type = some (.slice eF))
    (heF : P.underlying eF = some (.float .f32)) (hcF : P.cellsOf eF = 1)
    (hv : Value.okWide P w r b0 t v) (h : DataW.Trod enc P w base spare held t v d p) :
    ∃ (aa : Option Addr) (na ca : Nat) (Za : Nat → Nat) (ab : Option Addr) (nb cb : Nat) (Zb : Nat → Nat) (ac : Option Addr) (nc cc : Nat) (Zc : Nat → Nat), v = .agg #[.slice aa na ca, .slice ab nb cb, .slice ac nc cc] ∧ FS .f32 w aa na ca Za ∧ FS .f32 w ab nb cb Zb ∧ FS .f32 w ac nc cc Zc := by
  obtain ⟨v0, v1, v2, y0, y1, y2, m, rfl, rfl, rfl, g0, g1, g2⟩ := Joins.open_agg3 hs hone hC hv h
  obtain ⟨aa, na, ca, e0⟩ := Joins.slice_form h0 g0
  obtain ⟨ab, nb, cb, e1⟩ := Joins.slice_form h1 g1
  obtain ⟨ac, nc, cc, e2⟩ := Joins.slice_form h2 g2
  simp only [List.cons.injEq, and_true] at e0 e1 e2
  subst e0 e1 e2
  obtain ⟨Za, hZa⟩ := open_floats (k := .f32) h0 heF hcF ⟨m, g0⟩
  obtain ⟨Zb, hZb⟩ := open_floats (k := .f32) h1 heF hcF ⟨m, g1⟩
  obtain ⟨Zc, hZc⟩ := open_floats (k := .f32) h2 heF hcF ⟨m, g2⟩
  exact ⟨aa, na, ca, Za, ab, nb, cb, Zb, ac, nc, cc, Zc, rfl, hZa, hZb, hZc⟩
end
theorem szThirds_yes (aa : Option Addr) (na ca : Nat) (ab : Option Addr) (nb cb : Nat) (ac : Option Addr) (nc cc : Nat) (L : Nat) (w : World) (hL : L ≤ 1048576) (hla : na ≤ L) (hlb : nb ≤ L - na) (hlc : nc ≤ L - na - nb) :
    Calls Try.prog 9 #[.agg #[.slice aa na ca, .slice ab nb cb, .slice ac nc cc], .int .i64 L] w fun e w' => e = .returned (.int .i64 ((L - na - nb - nc : Nat) : Int)) ∧ Below w.heap.size w w' := by
  have hd0 : decide (((L - na : Nat) : Int) < 0) = false := decide_eq_false (by omega)
  have hd1 : decide (((L - na - nb : Nat) : Int) < 0) = false := decide_eq_false (by omega)
  have hd2 : decide (((L - na - nb - nc : Nat) : Int) < 0) = false := decide_eq_false (by omega)
  go_enter Try.func9, Try.ntmps9
  go_wp2_with fail
  go_at_call 32
  refine (szFloat32S_yes _ _ _ (L) _ (by omega) hla).mono ?_
  rintro e w' ⟨rfl, rfl⟩
  go_wp2_with fail
  go_at_call 32
  refine (szFloat32S_yes _ _ _ (L - na) _ (by omega) hlb).mono ?_
  rintro e w' ⟨rfl, rfl⟩
  go_wp2_with fail
  go_at_call 32
  refine (szFloat32S_yes _ _ _ (L - na - nb) _ (by omega) hlc).mono ?_
  rintro e w' ⟨rfl, rfl⟩
  go_wp2_with fail
  go_ret
  exact ⟨rfl, (by repeat first | (with_reducible exact Below.refl _ _) | (with_reducible refine Below.setCell ?_ (by first | exact Nat.le_refl _ | (simp; done) | (simp; omega) | omega) _) | (with_reducible refine Below.alloc ?_ (by first | exact Nat.le_refl _ | (simp; done) | (simp; omega) | omega) _) | (with_reducible refine below_drewN ?_ _) | (with_reducible refine Below.drew ?_))⟩
theorem szThirds_no (aa : Option Addr) (na ca : Nat) (ab : Option Addr) (nb cb : Nat) (ac : Option Addr) (nc cc : Nat) (L : Nat) (w : World) (hL : L ≤ 1048576) (hma : na ≤ 9223372036854775807) (hmb : nb ≤ 9223372036854775807) (hmc : nc ≤ 9223372036854775807) (hl : ¬ (na ≤ L ∧ nb ≤ L - na ∧ nc ≤ L - na - nb)) :
    Calls Try.prog 9 #[.agg #[.slice aa na ca, .slice ab nb cb, .slice ac nc cc], .int .i64 L] w fun e w' => e = .returned (.int .i64 (-1)) ∧ Below w.heap.size w w' := by
  by_cases hc0 : na ≤ L
  case neg =>
    go_enter Try.func9, Try.ntmps9
    go_wp2_with fail
    go_at_call 32
    refine (szFloat32S_no _ _ _ (L) _ (by omega) hma (by omega)).mono ?_
    rintro e w' ⟨rfl, rfl⟩
    go_wp2_with fail
    go_ret
    exact ⟨rfl, (by repeat first | (with_reducible exact Below.refl _ _) | (with_reducible refine Below.setCell ?_ (by first | exact Nat.le_refl _ | (simp; done) | (simp; omega) | omega) _) | (with_reducible refine Below.alloc ?_ (by first | exact Nat.le_refl _ | (simp; done) | (simp; omega) | omega) _) | (with_reducible refine below_drewN ?_ _) | (with_reducible refine Below.drew ?_))⟩
  by_cases hc1 : nb ≤ L - na
  case neg =>
    have hd0 : decide (((L - na : Nat) : Int) < 0) = false := decide_eq_false (by omega)
    go_enter Try.func9, Try.ntmps9
    go_wp2_with fail
    go_at_call 32
    refine (szFloat32S_yes _ _ _ (L) _ (by omega) hc0).mono ?_
    rintro e w' ⟨rfl, rfl⟩
    go_wp2_with fail
    go_at_call 32
    refine (szFloat32S_no _ _ _ (L - na) _ (by omega) hmb (by omega)).mono ?_
    rintro e w' ⟨rfl, rfl⟩
    go_wp2_with fail
    go_ret
    exact ⟨rfl, (by repeat first | (with_reducible exact Below.refl _ _) | (with_reducible refine Below.setCell ?_ (by first | exact Nat.le_refl _ | (simp; done) | (simp; omega) | omega) _) | (with_reducible refine Below.alloc ?_ (by first | exact Nat.le_refl _ | (simp; done) | (simp; omega) | omega) _) | (with_reducible refine below_drewN ?_ _) | (with_reducible refine Below.drew ?_))⟩
  have hd0 : decide (((L - na : Nat) : Int) < 0) = false := decide_eq_false (by omega)
  have hd1 : decide (((L - na - nb : Nat) : Int) < 0) = false := decide_eq_false (by omega)
  go_enter Try.func9, Try.ntmps9
  go_wp2_with fail
  go_at_call 32
  refine (szFloat32S_yes _ _ _ (L) _ (by omega) hc0).mono ?_
  rintro e w' ⟨rfl, rfl⟩
  go_wp2_with fail
  go_at_call 32
  refine (szFloat32S_yes _ _ _ (L - na) _ (by omega) hc1).mono ?_
  rintro e w' ⟨rfl, rfl⟩
  go_wp2_with fail
  go_at_call 32
  refine (szFloat32S_no _ _ _ (L - na - nb) _ (by omega) hmc (by omega)).mono ?_
  rintro e w' ⟨rfl, rfl⟩
  go_wp2_with fail
  go_ret
  exact ⟨rfl, (by repeat first | (with_reducible exact Below.refl _ _) | (with_reducible refine Below.setCell ?_ (by first | exact Nat.le_refl _ | (simp; done) | (simp; omega) | omega) _) | (with_reducible refine Below.alloc ?_ (by first | exact Nat.le_refl _ | (simp; done) | (simp; omega) | omega) _) | (with_reducible refine below_drewN ?_ _) | (with_reducible refine Below.drew ?_))⟩
/-- A new one in memory of its own, its lists apart. -/
def SepThirds (w : World) (na : Nat) (Za : Nat → Nat) (nb : Nat) (Zb : Nat → Nat) (nc : Nat) (Zc : Nat → Nat) (e : Ending) (w' : World) : Prop :=
  ∃ (aa : Option Addr) (ca : Nat) (ab : Option Addr) (cb : Nat) (ac : Option Addr) (cc : Nat) (Ma : Nat) (Mb : Nat), e = .returned (.agg #[.slice aa na ca, .slice ab nb cb, .slice ac nc cc]) ∧ w.heap.size ≤ Ma ∧ Ma ≤ Mb ∧ Mb ≤ w'.heap.size ∧ Own 38 .f32 w.heap.size Ma w' aa na ca Za ∧ Own 38 .f32 Ma Mb w' ab nb cb Zb ∧ Own 38 .f32 Mb w'.heap.size w' ac nc cc Zc ∧ Below w.heap.size w w'
set_option maxRecDepth 20000 in
set_option maxHeartbeats 4000000 in
theorem toThirds_sep (aa : Option Addr) (na ca : Nat) (Za : Nat → Nat) (ab : Option Addr) (nb cb : Nat) (Zb : Nat → Nat) (ac : Option Addr) (nc cc : Nat) (Zc : Nat → Nat) (w : World) (hna : na ≤ 1048576) (hnb : nb ≤ 1048576) (hnc : nc ≤ 1048576) (ha : FS .f32 w aa na ca Za) (hb : FS .f32 w ab nb cb Zb) (hc : FS .f32 w ac nc cc Zc) :
    Calls Try.prog 11 #[.agg #[.slice aa na ca, .slice ab nb cb, .slice ac nc cc]] w (SepThirds w na Za nb Zb nc Zc) := by
  go_enter Try.func11, Try.ntmps11
  go_wp2_with fail
  go_at_call 15
  refine (toFloat32S_own aa na ca Za _ hna (ha.below (by repeat first | (with_reducible exact Below.refl _ _) | (with_reducible refine Below.setCell ?_ (by first | exact Nat.le_refl _ | (simp; done) | (simp; omega) | omega) _) | (with_reducible refine Below.alloc ?_ (by first | exact Nat.le_refl _ | (simp; done) | (simp; omega) | omega) _) | (with_reducible refine below_drewN ?_ _) | (with_reducible refine Below.drew ?_)) (Nat.le_refl _))).mono ?_
  rintro e w1 ⟨pa, qa, rfl, oa, b1⟩
  obtain ⟨hc, hf⟩ := bcell b1
  have hz : w.heap.size + 1 + 1 + 1 ≤ w1.heap.size := by have := b1.size; simp [World.setCell] at this; omega
  have B1 : Below w.heap.size w w1 := (Below.trans (by repeat first | (with_reducible exact Below.refl _ _) | (with_reducible refine Below.setCell ?_ (by first | exact Nat.le_refl _ | (simp; done) | (simp; omega) | omega) _) | (with_reducible refine Below.alloc ?_ (by first | exact Nat.le_refl _ | (simp; done) | (simp; omega) | omega) _) | (with_reducible refine below_drewN ?_ _) | (with_reducible refine Below.drew ?_)) (b1.mono (by simp [World.setCell] <;> omega)))
  have X1 : w1.cell? ⟨w.heap.size, 1, none⟩ = some (.slice ab nb cb) ∧ w1.cell? ⟨w.heap.size, 2, none⟩ = some (.slice ac nc cc) ∧ w1.cell? ⟨w.heap.size + 1, 0, none⟩ = some (.slice none 0 0) ∧ w1.cell? ⟨w.heap.size + 1, 1, none⟩ = some (.slice none 0 0) ∧ w1.cell? ⟨w.heap.size + 1, 2, none⟩ = some (.slice none 0 0) ∧ w1.cell? ⟨w.heap.size + 1 + 1, 0, none⟩ = some (.slice none 0 0) ∧ w1.cell? ⟨w.heap.size + 1 + 1, 1, none⟩ = some (.slice none 0 0) ∧ w1.cell? ⟨w.heap.size + 1 + 1, 2, none⟩ = some (.slice none 0 0) ∧ (∀ i, w1.frozen? ⟨w.heap.size + 1, i, none⟩ = false) ∧ (∀ i, w1.frozen? ⟨w.heap.size + 1 + 1, i, none⟩ = false) := by
    refine ⟨?_, ?_, ?_, ?_, ?_, ?_, ?_, ?_, fun i => ?_, fun i => ?_⟩
    all_goals first | rw [hc _ _ (by simp [World.setCell] <;> omega)] | rw [hf _ _ (by simp [World.setCell] <;> omega)]
    all_goals simp [go_sem]
  have FR1 := X1
  obtain ⟨f1_0, f1_1, f1_2, f1_3, f1_4, f1_5, f1_6, f1_7, i1r, i1o⟩ := FR1
  clear X1 hc hf
  have S1 : w.heap.size ≤ w1.heap.size := by omega
  go_wp2_with fail
  have gs1 : w1.grownBy (w1.setCell ⟨w.heap.size + 1 + 1, 0, none⟩ (.slice pa na qa)) (some (w.heap.size + 1 + 1)) := ⟨rfl, rfl, rfl, by simp [World.setCell], fun k _ hk => Below.heap_setCell _ _ _ _ (fun e => hk (by simp [e]))⟩
  have Bs1 : Below w.heap.size w (w1.setCell ⟨w.heap.size + 1 + 1, 0, none⟩ (.slice pa na qa)) := B1.setCell (by show w.heap.size ≤ w.heap.size + 1 + 1; omega) _
  replace oa := oa.kept gs1 (fun g hg => by cases hg; left; first | (simp; done) | (simp [World.setCell]; done) | (simp [World.setCell]; omega) | omega)
  have s1_0 : (w1.setCell ⟨w.heap.size + 1 + 1, 0, none⟩ (.slice pa na qa)).cell? ⟨w.heap.size, 1, none⟩ = some (.slice ab nb cb) := by rw [World.cell?_setCell_other _ _ _ _ (by first | (simp; done) | (simp; omega))]; exact f1_0
  have s1_1 : (w1.setCell ⟨w.heap.size + 1 + 1, 0, none⟩ (.slice pa na qa)).cell? ⟨w.heap.size, 2, none⟩ = some (.slice ac nc cc) := by rw [World.cell?_setCell_other _ _ _ _ (by first | (simp; done) | (simp; omega))]; exact f1_1
  have s1_2 : (w1.setCell ⟨w.heap.size + 1 + 1, 0, none⟩ (.slice pa na qa)).cell? ⟨w.heap.size + 1, 0, none⟩ = some (.slice none 0 0) := by rw [World.cell?_setCell_other _ _ _ _ (by first | (simp; done) | (simp; omega))]; exact f1_2
  have s1_3 : (w1.setCell ⟨w.heap.size + 1 + 1, 0, none⟩ (.slice pa na qa)).cell? ⟨w.heap.size + 1, 1, none⟩ = some (.slice none 0 0) := by rw [World.cell?_setCell_other _ _ _ _ (by first | (simp; done) | (simp; omega))]; exact f1_3
  have s1_4 : (w1.setCell ⟨w.heap.size + 1 + 1, 0, none⟩ (.slice pa na qa)).cell? ⟨w.heap.size + 1, 2, none⟩ = some (.slice none 0 0) := by rw [World.cell?_setCell_other _ _ _ _ (by first | (simp; done) | (simp; omega))]; exact f1_4
  have s1_5 : (w1.setCell ⟨w.heap.size + 1 + 1, 0, none⟩ (.slice pa na qa)).cell? ⟨w.heap.size + 1 + 1, 0, none⟩ = some (.slice pa na qa) := World.cell?_setCell_same _ _ _ f1_5
  have s1_6 : (w1.setCell ⟨w.heap.size + 1 + 1, 0, none⟩ (.slice pa na qa)).cell? ⟨w.heap.size + 1 + 1, 1, none⟩ = some (.slice none 0 0) := by rw [World.cell?_setCell_other _ _ _ _ (by first | (simp; done) | (simp; omega))]; exact f1_6
  have s1_7 : (w1.setCell ⟨w.heap.size + 1 + 1, 0, none⟩ (.slice pa na qa)).cell? ⟨w.heap.size + 1 + 1, 2, none⟩ = some (.slice none 0 0) := by rw [World.cell?_setCell_other _ _ _ _ (by first | (simp; done) | (simp; omega))]; exact f1_7
  have is1r : ∀ i, (w1.setCell ⟨w.heap.size + 1 + 1, 0, none⟩ (.slice pa na qa)).frozen? ⟨w.heap.size + 1, i, none⟩ = false := fun i => by rw [World.frozen?_setCell]; exact i1r i
  have is1o : ∀ i, (w1.setCell ⟨w.heap.size + 1 + 1, 0, none⟩ (.slice pa na qa)).frozen? ⟨w.heap.size + 1 + 1, i, none⟩ = false := fun i => by rw [World.frozen?_setCell]; exact i1o i
  have hz1 : w.heap.size + 1 + 1 + 1 ≤ (w1.setCell ⟨w.heap.size + 1 + 1, 0, none⟩ (.slice pa na qa)).heap.size := by simpa [World.setCell] using hz
  have hU1 : w1.heap.size ≤ (w1.setCell ⟨w.heap.size + 1 + 1, 0, none⟩ (.slice pa na qa)).heap.size := by simp [World.setCell]
  generalize w1.setCell ⟨w.heap.size + 1 + 1, 0, none⟩ (.slice pa na qa) = ws1 at gs1 Bs1 oa s1_0 s1_1 s1_2 s1_3 s1_4 s1_5 s1_6 s1_7 is1r is1o hz1 hU1 ⊢
  clear gs1 f1_0 f1_1 f1_2 f1_3 f1_4 f1_5 f1_6 f1_7 i1r i1o B1
  go_at_call 15
  refine (toFloat32S_own ab nb cb Zb _ hnb (hb.below Bs1 (Nat.le_refl _))).mono ?_
  rintro e w2 ⟨pb, qb, rfl, ob, b2⟩
  have S2 : ws1.heap.size ≤ w2.heap.size := b2.size
  have B2 := Bs1.trans (b2.mono Bs1.size)
  replace oa := oa.kept (below_grew b2) (fun g hg => by cases hg)
  have f2_0 := (b2.cell (p := ⟨w.heap.size, 2, none⟩) (by show w.heap.size < ws1.heap.size; omega)).trans s1_1
  have f2_1 := (b2.cell (p := ⟨w.heap.size + 1, 0, none⟩) (by show w.heap.size + 1 < ws1.heap.size; omega)).trans s1_2
  have f2_2 := (b2.cell (p := ⟨w.heap.size + 1, 1, none⟩) (by show w.heap.size + 1 < ws1.heap.size; omega)).trans s1_3
  have f2_3 := (b2.cell (p := ⟨w.heap.size + 1, 2, none⟩) (by show w.heap.size + 1 < ws1.heap.size; omega)).trans s1_4
  have f2_4 := (b2.cell (p := ⟨w.heap.size + 1 + 1, 0, none⟩) (by show w.heap.size + 1 + 1 < ws1.heap.size; omega)).trans s1_5
  have f2_5 := (b2.cell (p := ⟨w.heap.size + 1 + 1, 1, none⟩) (by show w.heap.size + 1 + 1 < ws1.heap.size; omega)).trans s1_6
  have f2_6 := (b2.cell (p := ⟨w.heap.size + 1 + 1, 2, none⟩) (by show w.heap.size + 1 + 1 < ws1.heap.size; omega)).trans s1_7
  have i2r : ∀ i, w2.frozen? ⟨w.heap.size + 1, i, none⟩ = false := fun i => (b2.frozen (p := ⟨w.heap.size + 1, i, none⟩) (by show w.heap.size + 1 < ws1.heap.size; omega)).trans (is1r i)
  have i2o : ∀ i, w2.frozen? ⟨w.heap.size + 1 + 1, i, none⟩ = false := fun i => (b2.frozen (p := ⟨w.heap.size + 1 + 1, i, none⟩) (by show w.heap.size + 1 + 1 < ws1.heap.size; omega)).trans (is1o i)
  have hz1' : w.heap.size + 1 + 1 + 1 ≤ w2.heap.size := by omega
  clear b2 s1_0 s1_1 s1_2 s1_3 s1_4 s1_5 s1_6 s1_7 is1r is1o Bs1
  go_wp2_with fail
  have gs2 : w2.grownBy (w2.setCell ⟨w.heap.size + 1 + 1, 1, none⟩ (.slice pb nb qb)) (some (w.heap.size + 1 + 1)) := ⟨rfl, rfl, rfl, by simp [World.setCell], fun k _ hk => Below.heap_setCell _ _ _ _ (fun e => hk (by simp [e]))⟩
  have Bs2 : Below w.heap.size w (w2.setCell ⟨w.heap.size + 1 + 1, 1, none⟩ (.slice pb nb qb)) := B2.setCell (by show w.heap.size ≤ w.heap.size + 1 + 1; omega) _
  replace oa := oa.kept gs2 (fun g hg => by cases hg; left; first | (simp; done) | (simp [World.setCell]; done) | (simp [World.setCell]; omega) | omega)
  replace ob := ob.kept gs2 (fun g hg => by cases hg; left; first | (simp; done) | (simp [World.setCell]; done) | (simp [World.setCell]; omega) | omega)
  have s2_0 : (w2.setCell ⟨w.heap.size + 1 + 1, 1, none⟩ (.slice pb nb qb)).cell? ⟨w.heap.size, 2, none⟩ = some (.slice ac nc cc) := by rw [World.cell?_setCell_other _ _ _ _ (by first | (simp; done) | (simp; omega))]; exact f2_0
  have s2_1 : (w2.setCell ⟨w.heap.size + 1 + 1, 1, none⟩ (.slice pb nb qb)).cell? ⟨w.heap.size + 1, 0, none⟩ = some (.slice none 0 0) := by rw [World.cell?_setCell_other _ _ _ _ (by first | (simp; done) | (simp; omega))]; exact f2_1
  have s2_2 : (w2.setCell ⟨w.heap.size + 1 + 1, 1, none⟩ (.slice pb nb qb)).cell? ⟨w.heap.size + 1, 1, none⟩ = some (.slice none 0 0) := by rw [World.cell?_setCell_other _ _ _ _ (by first | (simp; done) | (simp; omega))]; exact f2_2
  have s2_3 : (w2.setCell ⟨w.heap.size + 1 + 1, 1, none⟩ (.slice pb nb qb)).cell? ⟨w.heap.size + 1, 2, none⟩ = some (.slice none 0 0) := by rw [World.cell?_setCell_other _ _ _ _ (by first | (simp; done) | (simp; omega))]; exact f2_3
  have s2_4 : (w2.setCell ⟨w.heap.size + 1 + 1, 1, none⟩ (.slice pb nb qb)).cell? ⟨w.heap.size + 1 + 1, 0, none⟩ = some (.slice pa na qa) := by rw [World.cell?_setCell_other _ _ _ _ (by first | (simp; done) | (simp; omega))]; exact f2_4
  have s2_5 : (w2.setCell ⟨w.heap.size + 1 + 1, 1, none⟩ (.slice pb nb qb)).cell? ⟨w.heap.size + 1 + 1, 1, none⟩ = some (.slice pb nb qb) := World.cell?_setCell_same _ _ _ f2_5
  have s2_6 : (w2.setCell ⟨w.heap.size + 1 + 1, 1, none⟩ (.slice pb nb qb)).cell? ⟨w.heap.size + 1 + 1, 2, none⟩ = some (.slice none 0 0) := by rw [World.cell?_setCell_other _ _ _ _ (by first | (simp; done) | (simp; omega))]; exact f2_6
  have is2r : ∀ i, (w2.setCell ⟨w.heap.size + 1 + 1, 1, none⟩ (.slice pb nb qb)).frozen? ⟨w.heap.size + 1, i, none⟩ = false := fun i => by rw [World.frozen?_setCell]; exact i2r i
  have is2o : ∀ i, (w2.setCell ⟨w.heap.size + 1 + 1, 1, none⟩ (.slice pb nb qb)).frozen? ⟨w.heap.size + 1 + 1, i, none⟩ = false := fun i => by rw [World.frozen?_setCell]; exact i2o i
  have hz2 : w.heap.size + 1 + 1 + 1 ≤ (w2.setCell ⟨w.heap.size + 1 + 1, 1, none⟩ (.slice pb nb qb)).heap.size := by simpa [World.setCell] using hz1'
  have hU2 : w2.heap.size ≤ (w2.setCell ⟨w.heap.size + 1 + 1, 1, none⟩ (.slice pb nb qb)).heap.size := by simp [World.setCell]
  generalize w2.setCell ⟨w.heap.size + 1 + 1, 1, none⟩ (.slice pb nb qb) = ws2 at gs2 Bs2 oa ob s2_0 s2_1 s2_2 s2_3 s2_4 s2_5 s2_6 is2r is2o hz2 hU2 ⊢
  clear gs2 f2_0 f2_1 f2_2 f2_3 f2_4 f2_5 f2_6 i2r i2o B2
  go_at_call 15
  refine (toFloat32S_own ac nc cc Zc _ hnc (hc.below Bs2 (Nat.le_refl _))).mono ?_
  rintro e w3 ⟨pc, qc, rfl, oc, b3⟩
  have S3 : ws2.heap.size ≤ w3.heap.size := b3.size
  have B3 := Bs2.trans (b3.mono Bs2.size)
  replace oa := oa.kept (below_grew b3) (fun g hg => by cases hg)
  replace ob := ob.kept (below_grew b3) (fun g hg => by cases hg)
  have f3_0 := (b3.cell (p := ⟨w.heap.size + 1, 0, none⟩) (by show w.heap.size + 1 < ws2.heap.size; omega)).trans s2_1
  have f3_1 := (b3.cell (p := ⟨w.heap.size + 1, 1, none⟩) (by show w.heap.size + 1 < ws2.heap.size; omega)).trans s2_2
  have f3_2 := (b3.cell (p := ⟨w.heap.size + 1, 2, none⟩) (by show w.heap.size + 1 < ws2.heap.size; omega)).trans s2_3
  have f3_3 := (b3.cell (p := ⟨w.heap.size + 1 + 1, 0, none⟩) (by show w.heap.size + 1 + 1 < ws2.heap.size; omega)).trans s2_4
  have f3_4 := (b3.cell (p := ⟨w.heap.size + 1 + 1, 1, none⟩) (by show w.heap.size + 1 + 1 < ws2.heap.size; omega)).trans s2_5
  have f3_5 := (b3.cell (p := ⟨w.heap.size + 1 + 1, 2, none⟩) (by show w.heap.size + 1 + 1 < ws2.heap.size; omega)).trans s2_6
  have i3r : ∀ i, w3.frozen? ⟨w.heap.size + 1, i, none⟩ = false := fun i => (b3.frozen (p := ⟨w.heap.size + 1, i, none⟩) (by show w.heap.size + 1 < ws2.heap.size; omega)).trans (is2r i)
  have i3o : ∀ i, w3.frozen? ⟨w.heap.size + 1 + 1, i, none⟩ = false := fun i => (b3.frozen (p := ⟨w.heap.size + 1 + 1, i, none⟩) (by show w.heap.size + 1 + 1 < ws2.heap.size; omega)).trans (is2o i)
  have hz2' : w.heap.size + 1 + 1 + 1 ≤ w3.heap.size := by omega
  clear b3 s2_0 s2_1 s2_2 s2_3 s2_4 s2_5 s2_6 is2r is2o Bs2
  go_wp2_with fail
  refine bodyPost_ret (v := .agg #[.slice pa na qa, .slice pb nb qb, .slice pc nc qc]) (by simp [results, Try.results11, go_sem, f3_0, f3_1, f3_2, f3_3, f3_4, f3_5]) rfl ?_
  refine ⟨pa, qa, pb, qb, pc, qc, ws1.heap.size, ws2.heap.size, rfl, (by first | omega | (simp [World.setCell]; omega)), (by first | omega | (simp [World.setCell]; omega)), (by first | omega | (simp [World.setCell]; omega)), ?_, ?_, ?_, ?_⟩
  · exact (by refine Own.to oa (hk := fun g hg1 hg2 => by (try simp at hg1 hg2); repeat (first | rw [Below.heap_setCell _ _ _ _ (by simp; omega)] | rw [Below.heap_alloc _ _ _ (by simp [World.setCell]; omega)])) ?_ ?_ ?_ ?_ <;> (first | exact Nat.le_refl _ | omega | (simp [World.setCell]; done) | (simp [World.setCell]; omega)))
  · exact (by refine Own.to ob (hk := fun g hg1 hg2 => by (try simp at hg1 hg2); repeat (first | rw [Below.heap_setCell _ _ _ _ (by simp; omega)] | rw [Below.heap_alloc _ _ _ (by simp [World.setCell]; omega)])) ?_ ?_ ?_ ?_ <;> (first | exact Nat.le_refl _ | omega | (simp [World.setCell]; done) | (simp [World.setCell]; omega)))
  · exact (by refine Own.to oc (hk := fun g hg1 hg2 => by (try simp at hg1 hg2); repeat (first | rw [Below.heap_setCell _ _ _ _ (by simp; omega)] | rw [Below.heap_alloc _ _ _ (by simp [World.setCell]; omega)])) ?_ ?_ ?_ ?_ <;> (first | exact Nat.le_refl _ | omega | (simp [World.setCell]; done) | (simp [World.setCell]; omega)))
  · exact (by repeat first | (with_reducible exact B3) | (with_reducible refine Below.setCell ?_ (by first | exact Nat.le_refl _ | (simp; done) | (simp; omega) | omega) _) | (with_reducible refine Below.alloc ?_ (by first | exact Nat.le_refl _ | (simp; done) | (simp; omega) | omega) _) | (with_reducible refine below_drewN ?_ _) | (with_reducible refine Below.drew ?_))
set_option maxRecDepth 100000 in
theorem eqThirds_any (aa ba : Option Addr) (na ca da : Nat) (Za Ya : Nat → Nat) (ab bb : Option Addr) (nb cb db : Nat) (Zb Yb : Nat → Nat) (ac bc : Option Addr) (nc cc dc : Nat) (Zc Yc : Nat → Nat) (w : World) (hna : na ≤ 1048576) (hnb : nb ≤ 1048576) (hnc : nc ≤ 1048576) (ha : FS .f32 w aa na ca Za) (ka : FS .f32 w ba na da Ya) (hb : FS .f32 w ab nb cb Zb) (kb : FS .f32 w bb nb db Yb) (hc : FS .f32 w ac nc cc Zc) (kc : FS .f32 w bc nc dc Yc) (ea : ∀ i, i < na → cn .f32 (Za i) = cn .f32 (Ya i)) (eb : ∀ i, i < nb → cn .f32 (Zb i) = cn .f32 (Yb i)) (ec : ∀ i, i < nc → cn .f32 (Zc i) = cn .f32 (Yc i)) :
    Calls Try.prog 13 #[.agg #[.slice aa na ca, .slice ab nb cb, .slice ac nc cc], .agg #[.slice ba na da, .slice bb nb db, .slice bc nc dc]] w fun e w' => e = .returned (.bool true) ∧ Below w.heap.size w w' := by
  go_enter Try.func13, Try.ntmps13
  go_wp2_with fail
  go_at_call 17
  refine (eqFloat32S_any _ _ na _ _ Za Ya _ hna (ha.below (by repeat first | (with_reducible exact Below.refl _ _) | (with_reducible refine Below.setCell ?_ (by first | exact Nat.le_refl _ | (simp; done) | (simp; omega) | omega) _) | (with_reducible refine Below.alloc ?_ (by first | exact Nat.le_refl _ | (simp; done) | (simp; omega) | omega) _) | (with_reducible refine below_drewN ?_ _) | (with_reducible refine Below.drew ?_)) (Nat.le_refl _)) (ka.below (by repeat first | (with_reducible exact Below.refl _ _) | (with_reducible refine Below.setCell ?_ (by first | exact Nat.le_refl _ | (simp; done) | (simp; omega) | omega) _) | (with_reducible refine Below.alloc ?_ (by first | exact Nat.le_refl _ | (simp; done) | (simp; omega) | omega) _) | (with_reducible refine below_drewN ?_ _) | (with_reducible refine Below.drew ?_)) (Nat.le_refl _)) ea).mono ?_
  rintro e w' ⟨rfl, m0, rfl⟩
  go_wp2_with fail
  go_at_call 17
  refine (eqFloat32S_any _ _ nb _ _ Zb Yb _ hnb (hb.below (by repeat first | (with_reducible exact Below.refl _ _) | (with_reducible refine Below.setCell ?_ (by first | exact Nat.le_refl _ | (simp; done) | (simp; omega) | omega) _) | (with_reducible refine Below.alloc ?_ (by first | exact Nat.le_refl _ | (simp; done) | (simp; omega) | omega) _) | (with_reducible refine below_drewN ?_ _) | (with_reducible refine Below.drew ?_)) (Nat.le_refl _)) (kb.below (by repeat first | (with_reducible exact Below.refl _ _) | (with_reducible refine Below.setCell ?_ (by first | exact Nat.le_refl _ | (simp; done) | (simp; omega) | omega) _) | (with_reducible refine Below.alloc ?_ (by first | exact Nat.le_refl _ | (simp; done) | (simp; omega) | omega) _) | (with_reducible refine below_drewN ?_ _) | (with_reducible refine Below.drew ?_)) (Nat.le_refl _)) eb).mono ?_
  rintro e w' ⟨rfl, m1, rfl⟩
  go_wp2_with fail
  go_at_call 17
  refine (eqFloat32S_any _ _ nc _ _ Zc Yc _ hnc (hc.below (by repeat first | (with_reducible exact Below.refl _ _) | (with_reducible refine Below.setCell ?_ (by first | exact Nat.le_refl _ | (simp; done) | (simp; omega) | omega) _) | (with_reducible refine Below.alloc ?_ (by first | exact Nat.le_refl _ | (simp; done) | (simp; omega) | omega) _) | (with_reducible refine below_drewN ?_ _) | (with_reducible refine Below.drew ?_)) (Nat.le_refl _)) (kc.below (by repeat first | (with_reducible exact Below.refl _ _) | (with_reducible refine Below.setCell ?_ (by first | exact Nat.le_refl _ | (simp; done) | (simp; omega) | omega) _) | (with_reducible refine Below.alloc ?_ (by first | exact Nat.le_refl _ | (simp; done) | (simp; omega) | omega) _) | (with_reducible refine below_drewN ?_ _) | (with_reducible refine Below.drew ?_)) (Nat.le_refl _)) ec).mono ?_
  rintro e w' ⟨rfl, m2, rfl⟩
  go_wp2_with fail
  go_ret
  exact ⟨rfl, (by repeat first | (with_reducible exact Below.refl _ _) | (with_reducible refine Below.setCell ?_ (by first | exact Nat.le_refl _ | (simp; done) | (simp; omega) | omega) _) | (with_reducible refine Below.alloc ?_ (by first | exact Nat.le_refl _ | (simp; done) | (simp; omega) | omega) _) | (with_reducible refine below_drewN ?_ _) | (with_reducible refine Below.drew ?_))⟩
theorem markThirds_sep (B Ma Mb U : Nat) (aa : Option Addr) (na ca : Nat) (Za : Nat → Nat) (ab : Option Addr) (nb cb : Nat) (Zb : Nat → Nat) (ac : Option Addr) (nc cc : Nat) (Zc : Nat → Nat) (k : Nat) (w : World) (hna : na ≤ 1048576) (hnb : nb ≤ 1048576) (hnc : nc ≤ 1048576) (hk : k ≤ 1048577) (hb0 : B ≤ Ma) (hb1 : Ma ≤ Mb) (hb2 : Mb ≤ U) (hUw : U ≤ w.heap.size) (ha : Own 38 .f32 B Ma w aa na ca Za) (hb : Own 38 .f32 Ma Mb w ab nb cb Zb) (hc : Own 38 .f32 Mb U w ac nc cc Zc) :
    Calls Try.prog 18 #[.agg #[.slice aa na ca, .slice ab nb cb, .slice ac nc cc], .int .i64 k] w fun e w' => e = .returned (.int .i64 ((k + na + nb + nc : Nat) : Int)) ∧ Own 38 .f32 B Ma w' aa na ca (fun j => floatOfInt .f32 ((k + j : Nat) : Int)) ∧ Own 38 .f32 Ma Mb w' ab nb cb (fun j => floatOfInt .f32 ((k + na + j : Nat) : Int)) ∧ Own 38 .f32 Mb U w' ac nc cc (fun j => floatOfInt .f32 ((k + na + nb + j : Nat) : Int)) ∧ Grew B U w w' := by
  go_enter Try.func18, Try.ntmps18
  go_wp2_with fail
  go_at_call 19
  refine (markFloat32S_more B Ma _ _ _ (k) Za _ hna (by omega) (ha.kept (World.grownBy_alloc w _ none) (fun g h => by cases h))).mono ?_
  rintro e w1 ⟨rfl, oa, r1⟩
  have G1 : Grew B U w w1 := (Grew.ofBelow (by repeat first | (with_reducible exact Below.refl _ _) | (with_reducible refine Below.setCell ?_ (by first | exact Nat.le_refl _ | (simp; done) | (simp; omega) | omega) _) | (with_reducible refine Below.alloc ?_ (by first | exact Nat.le_refl _ | (simp; done) | (simp; omega) | omega) _) | (with_reducible refine below_drewN ?_ _) | (with_reducible refine Below.drew ?_))).trans ((Marked.grew r1).wide (Nat.le_refl _) (by omega))
  replace hb := (hb.over (Grew.ofBelow (B := B) (U := Ma) (by repeat first | (with_reducible exact Below.refl _ _) | (with_reducible refine Below.setCell ?_ (by first | exact Nat.le_refl _ | (simp; done) | (simp; omega) | omega) _) | (with_reducible refine Below.alloc ?_ (by first | exact Nat.le_refl _ | (simp; done) | (simp; omega) | omega) _) | (with_reducible refine below_drewN ?_ _) | (with_reducible refine Below.drew ?_))) (.inr (by omega))).over (Marked.grew r1) (.inr (by omega))
  replace hc := (hc.over (Grew.ofBelow (B := B) (U := Ma) (by repeat first | (with_reducible exact Below.refl _ _) | (with_reducible refine Below.setCell ?_ (by first | exact Nat.le_refl _ | (simp; done) | (simp; omega) | omega) _) | (with_reducible refine Below.alloc ?_ (by first | exact Nat.le_refl _ | (simp; done) | (simp; omega) | omega) _) | (with_reducible refine below_drewN ?_ _) | (with_reducible refine Below.drew ?_))) (.inr (by omega))).over (Marked.grew r1) (.inr (by omega))
  have X1 : BoxL w1 w.heap.size [.slice aa na ca, .slice ab nb cb, .slice ac nc cc] := BoxL.over (BoxL.three (by simp [go_sem]) (by simp [go_sem]) (by simp [go_sem])) (Marked.grew r1) (by simp) (.inr (by omega))
  have L1 : w.heap.size < w1.heap.size := by have := (Marked.grew r1).size; simp at this; omega
  clear r1
  have c1_0 := X1 0 _ rfl
  have c1_1 := X1 1 _ rfl
  have c1_2 := X1 2 _ rfl
  go_wp2_with fail
  go_at_call 19
  refine (markFloat32S_more Ma Mb _ _ _ (k + na) Zb _ hnb (by omega) hb).mono ?_
  rintro e w2 ⟨rfl, ob, r2⟩
  have G2 : Grew B U w w2 := G1.trans ((Marked.grew r2).wide (by omega) (by omega))
  replace oa := oa.over (Marked.grew r2) (.inl (by omega))
  replace hc := hc.over (Marked.grew r2) (.inr (by omega))
  have X2 := X1.over (Marked.grew r2) L1 (.inr (by omega))
  have L2 : w.heap.size < w2.heap.size := Nat.lt_of_lt_of_le L1 (Marked.grew r2).size
  clear r2 G1 X1 L1 c1_0 c1_1 c1_2
  have c2_0 := X2 0 _ rfl
  have c2_1 := X2 1 _ rfl
  have c2_2 := X2 2 _ rfl
  go_wp2_with fail
  go_at_call 19
  refine (markFloat32S_more Mb U _ _ _ (k + na + nb) Zc _ hnc (by omega) hc).mono ?_
  rintro e w3 ⟨rfl, oc, r3⟩
  have G3 : Grew B U w w3 := G2.trans ((Marked.grew r3).wide (by omega) (by omega))
  replace oa := oa.over (Marked.grew r3) (.inl (by omega))
  replace ob := ob.over (Marked.grew r3) (.inl (by omega))
  clear r3 G2 X2 L2 c2_0 c2_1 c2_2
  go_wp2_with fail
  go_ret
  exact ⟨rfl, oa, ob, oc, G3⟩
end Go.Proofs.Ytpmilaemmdcfaab
