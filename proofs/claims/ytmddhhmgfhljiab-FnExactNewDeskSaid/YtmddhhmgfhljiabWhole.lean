/- Helper: the structure Whole: walks of the laws' own functions on it: copies, sizes, comparisons, marks. Conditions: none. -/
import Derived.Test.YtmddhhmgfhljiabMatCopy
import Derived.Test.YtmddhhmgfhljiabKeys
import Derived.Test.YtmddhhmgfhljiabMarkMore
import Derived.Test.YtmddhhmgfhljiabBoxes
import Derived.Lib.SmallJoins
set_option linter.unusedVariables false
set_option linter.unusedSimpArgs false
namespace Go.Proofs.Ytmddhhmgfhljiab
open Go.ChangeShapes Go.WideShapes Go.RowKit Go.Deep

section
variable {H : Type} {enc : TypeId × Value → H} {P : Program} {w : World} {base : Nat} {spare : Nat → Bool} {held : Bool}
theorem open_whole {r : Reach} {b0 : Nat} {t eI : TypeId} {f0 f1 f2 : Field} {v : Value} {d : DataW H} {p : List MemPlace} (hs : P.underlying t = some (.struct #[f0, f1, f2])) (hone : oneCellFields P #[f0, f1, f2] = true) (hC : P.cellsOf t = 3)
    (h0 : P.underlying f0.type = some (.int .i64)) (h1 : P.underlying f1.type = some (.int .i64)) (h2 : P.underlying f2.type = some (.slice eI))
    (heI : P.underlying eI = some (.int .i64)) (hcI : P.cellsOf eI = 1)
    (hv : Value.okWide P w r b0 t v) (h : DataW.Trod enc P w base spare held t v d p) :
    ∃ (xa : Int) (xb : Int) (ac : Option Addr) (nc cc : Nat) (Zc : Nat → Int), v = .agg #[.int .i64 xa, .int .i64 xb, .slice ac nc cc] ∧ (Lit.int .i64 xa).wf = true ∧ (Lit.int .i64 xb).wf = true ∧ IS .i64 w ac nc cc Zc := by
  obtain ⟨v0, v1, v2, y0, y1, y2, m, rfl, rfl, rfl, g0, g1, g2⟩ := Joins.open_agg3 hs hone hC hv h
  obtain ⟨xa, e0, _, w0⟩ := DataW.trod_int h0 g0
  obtain ⟨xb, e1, _, w1⟩ := DataW.trod_int h1 g1
  obtain ⟨ac, nc, cc, e2⟩ := Joins.slice_form h2 g2
  simp only [List.cons.injEq, and_true] at e0 e1 e2
  subst e0 e1 e2
  obtain ⟨Zc, hZc⟩ := open_ints1 (k := .i64) h2 heI hcI ⟨m, g2⟩
  exact ⟨xa, xb, ac, nc, cc, Zc, rfl, w0, w1, hZc⟩
end
theorem szInt64S_yesWhole (a : Option Addr) (n c : Nat) (L : Nat) (w : World) (hL : L ≤ 1048576) (hn : n ≤ L) :
    Calls Try.prog 62 #[.slice a n c, .int .i64 L] w fun e w' => e = .returned (.int .i64 ((L - n : Nat) : Int)) ∧ w = w' := by
  have e : ((L - n : Nat) : Int) = (L : Int) - n := by omega
  rw [e]
  clear e
  have hd : decide ((L : Int) - n < 0) = false := decide_eq_false (by omega)
  go_enter Try.func62, Try.ntmps62
  go_wp2
  go_ret
  exact ⟨rfl, rfl⟩
theorem szInt64S_noWhole (a : Option Addr) (n c : Nat) (L : Nat) (w : World) (hL : L ≤ 1048576) (hm : n ≤ 9223372036854775807) (hn : L < n) :
    Calls Try.prog 62 #[.slice a n c, .int .i64 L] w fun e w' => e = .returned (.int .i64 (-1)) ∧ w = w' := by
  have hd : decide ((L : Int) - n < 0) = true := decide_eq_true (by omega)
  go_enter Try.func62, Try.ntmps62
  go_wp2
  go_ret
  exact ⟨rfl, rfl⟩
theorem szWhole_yes (xa : Int) (xb : Int) (ac : Option Addr) (nc cc : Nat) (L : Nat) (w : World) (hL : L ≤ 1048576) (hlc : nc ≤ L) :
    Calls Try.prog 26 #[.agg #[.int .i64 xa, .int .i64 xb, .slice ac nc cc], .int .i64 L] w fun e w' => e = .returned (.int .i64 ((L - nc : Nat) : Int)) ∧ Below w.heap.size w w' := by
  have hd0 : decide (((L - nc : Nat) : Int) < 0) = false := decide_eq_false (by omega)
  go_enter Try.func26, Try.ntmps26
  go_wp2_with fail
  go_at_call 62
  refine (szInt64S_yesWhole _ _ _ (L) _ (by omega) hlc).mono ?_
  rintro e w' ⟨rfl, rfl⟩
  go_wp2_with fail
  go_ret
  exact ⟨rfl, (by repeat first | (with_reducible exact Below.refl _ _) | (with_reducible refine Below.setCell ?_ (by first | exact Nat.le_refl _ | (simp; done) | (simp; omega) | omega) _) | (with_reducible refine Below.alloc ?_ (by first | exact Nat.le_refl _ | (simp; done) | (simp; omega) | omega) _) | (with_reducible refine below_drewN ?_ _) | (with_reducible refine Below.drew ?_))⟩
theorem szWhole_no (xa : Int) (xb : Int) (ac : Option Addr) (nc cc : Nat) (L : Nat) (w : World) (hL : L ≤ 1048576) (hmc : nc ≤ 9223372036854775807) (hl : ¬ (nc ≤ L)) :
    Calls Try.prog 26 #[.agg #[.int .i64 xa, .int .i64 xb, .slice ac nc cc], .int .i64 L] w fun e w' => e = .returned (.int .i64 (-1)) ∧ Below w.heap.size w w' := by
  go_enter Try.func26, Try.ntmps26
  go_wp2_with fail
  go_at_call 62
  refine (szInt64S_noWhole _ _ _ (L) _ (by omega) hmc (by omega)).mono ?_
  rintro e w' ⟨rfl, rfl⟩
  go_wp2_with fail
  go_ret
  exact ⟨rfl, (by repeat first | (with_reducible exact Below.refl _ _) | (with_reducible refine Below.setCell ?_ (by first | exact Nat.le_refl _ | (simp; done) | (simp; omega) | omega) _) | (with_reducible refine Below.alloc ?_ (by first | exact Nat.le_refl _ | (simp; done) | (simp; omega) | omega) _) | (with_reducible refine below_drewN ?_ _) | (with_reducible refine Below.drew ?_))⟩
/-- A new one in memory of its own, its lists apart. -/
def SepWhole (w : World) (xa : Int) (xb : Int) (nc : Nat) (Zc : Nat → Int) (e : Ending) (w' : World) : Prop :=
  ∃ (ac : Option Addr) (cc : Nat), e = .returned (.agg #[.int .i64 xa, .int .i64 xb, .slice ac nc cc]) ∧ w.heap.size ≤ w'.heap.size ∧ OwnI 2 .i64 w.heap.size w'.heap.size w' ac nc cc Zc ∧ Below w.heap.size w w'
set_option maxRecDepth 20000 in
set_option maxHeartbeats 4000000 in
theorem toWhole_sep (xa : Int) (xb : Int) (ac : Option Addr) (nc cc : Nat) (Zc : Nat → Int) (w : World) (hnc : nc ≤ 1048576) (hc : IS .i64 w ac nc cc Zc) :
    Calls Try.prog 31 #[.agg #[.int .i64 xa, .int .i64 xb, .slice ac nc cc]] w (SepWhole w xa xb nc Zc) := by
  go_enter Try.func31, Try.ntmps31
  go_wp2_with fail
  go_at_call 67
  refine (toInt64S_own ac nc cc Zc _ hnc (hc.below (by repeat first | (with_reducible exact Below.refl _ _) | (with_reducible refine Below.setCell ?_ (by first | exact Nat.le_refl _ | (simp; done) | (simp; omega) | omega) _) | (with_reducible refine Below.alloc ?_ (by first | exact Nat.le_refl _ | (simp; done) | (simp; omega) | omega) _) | (with_reducible refine below_drewN ?_ _) | (with_reducible refine Below.drew ?_)) (Nat.le_refl _))).mono ?_
  rintro e w1 ⟨pc, qc, rfl, oc, b1⟩
  obtain ⟨hc, hf⟩ := bcell b1
  have hz : w.heap.size + 1 + 1 + 1 ≤ w1.heap.size := by have := b1.size; simp [World.setCell] at this; omega
  have B1 : Below w.heap.size w w1 := (Below.trans (by repeat first | (with_reducible exact Below.refl _ _) | (with_reducible refine Below.setCell ?_ (by first | exact Nat.le_refl _ | (simp; done) | (simp; omega) | omega) _) | (with_reducible refine Below.alloc ?_ (by first | exact Nat.le_refl _ | (simp; done) | (simp; omega) | omega) _) | (with_reducible refine below_drewN ?_ _) | (with_reducible refine Below.drew ?_)) (b1.mono (by simp [World.setCell] <;> omega)))
  have X1 : w1.cell? ⟨w.heap.size + 1, 0, none⟩ = some (.int .i64 0) ∧ w1.cell? ⟨w.heap.size + 1, 1, none⟩ = some (.int .i64 0) ∧ w1.cell? ⟨w.heap.size + 1, 2, none⟩ = some (.slice none 0 0) ∧ w1.cell? ⟨w.heap.size + 1 + 1, 0, none⟩ = some (.int .i64 xa) ∧ w1.cell? ⟨w.heap.size + 1 + 1, 1, none⟩ = some (.int .i64 xb) ∧ w1.cell? ⟨w.heap.size + 1 + 1, 2, none⟩ = some (.slice none 0 0) ∧ (∀ i, w1.frozen? ⟨w.heap.size + 1, i, none⟩ = false) ∧ (∀ i, w1.frozen? ⟨w.heap.size + 1 + 1, i, none⟩ = false) := by
    refine ⟨?_, ?_, ?_, ?_, ?_, ?_, fun i => ?_, fun i => ?_⟩
    all_goals first | rw [hc _ _ (by simp [World.setCell] <;> omega)] | rw [hf _ _ (by simp [World.setCell] <;> omega)]
    all_goals simp [go_sem]
  have FR1 := X1
  obtain ⟨f1_0, f1_1, f1_2, f1_3, f1_4, f1_5, i1r, i1o⟩ := FR1
  clear X1 hc hf
  have S1 : w.heap.size ≤ w1.heap.size := by omega
  go_wp2_with fail
  refine bodyPost_ret (v := .agg #[.int .i64 xa, .int .i64 xb, .slice pc nc qc]) (by simp [results, Try.results31, go_sem, f1_0, f1_1, f1_2, f1_3, f1_4, f1_5]) rfl ?_
  refine ⟨pc, qc, rfl, (by first | omega | (simp [World.setCell]; omega)), ?_, ?_⟩
  · exact (by refine OwnI.to oc (hk := fun g hg1 hg2 => by (try simp at hg1 hg2); repeat (first | rw [Below.heap_setCell _ _ _ _ (by simp; omega)] | rw [Below.heap_alloc _ _ _ (by simp [World.setCell]; omega)])) ?_ ?_ ?_ ?_ <;> (first | exact Nat.le_refl _ | omega | (simp [World.setCell]; done) | (simp [World.setCell]; omega)))
  · exact (by repeat first | (with_reducible exact B1) | (with_reducible refine Below.setCell ?_ (by first | exact Nat.le_refl _ | (simp; done) | (simp; omega) | omega) _) | (with_reducible refine Below.alloc ?_ (by first | exact Nat.le_refl _ | (simp; done) | (simp; omega) | omega) _) | (with_reducible refine below_drewN ?_ _) | (with_reducible refine Below.drew ?_))
theorem toWhole_any (xa : Int) (xb : Int) (ac : Option Addr) (nc cc : Nat) (Zc : Nat → Int) (w : World) (hnc : nc ≤ 1048576) (hc : IS .i64 w ac nc cc Zc) :
    Calls Try.prog 31 #[.agg #[.int .i64 xa, .int .i64 xb, .slice ac nc cc]] w fun e w' => ∃ p q, e = .returned (.agg #[.int .i64 xa, .int .i64 xb, .slice p nc q]) ∧ OwnI 2 .i64 w.heap.size w'.heap.size w' p nc q Zc ∧ Below w.heap.size w w' :=
  (toWhole_sep xa xb ac nc cc Zc w hnc hc).mono fun _ _ ⟨a, c, e, _, o, b⟩ => ⟨a, c, e, o, b⟩
/-- A whole, and whether it is told. -/
def WholeBel (ok : Bool) (R C : Int) (n : Nat) (V : Nat → Int) (w : World) (e : Ending) (w' : World) : Prop :=
  ∃ g d Y, e = .returned (.tuple #[.agg #[.int .i64 R, .int .i64 C, .slice g n d], .bool ok]) ∧ IS .i64 w' g n d Y ∧ (∀ i, i < n → Y i = V i) ∧ Below w.heap.size w w'
/-- A whole in memory of its own, and whether it is told. -/
def WholeOwn (ok : Bool) (R C : Int) (n : Nat) (V : Nat → Int) (w : World) (e : Ending) (w' : World) : Prop :=
  ∃ g d Y, e = .returned (.tuple #[.agg #[.int .i64 R, .int .i64 C, .slice g n d], .bool ok]) ∧ OwnI 2 .i64 w.heap.size w'.heap.size w' g n d Y ∧ (∀ i, i < n → Y i = V i) ∧ Below w.heap.size w w'
set_option maxRecDepth 100000 in
theorem eqWhole_any (xa : Int) (xb : Int) (ac bc : Option Addr) (nc cc dc : Nat) (Zc Yc : Nat → Int) (w : World) (hnc : nc ≤ 1048576) (hc : IS .i64 w ac nc cc Zc) (kc : IS .i64 w bc nc dc Yc) (ec : ∀ i, i < nc → Zc i = Yc i) :
    Calls Try.prog 39 #[.agg #[.int .i64 xa, .int .i64 xb, .slice ac nc cc], .agg #[.int .i64 xa, .int .i64 xb, .slice bc nc dc]] w fun e w' => e = .returned (.bool true) ∧ Below w.heap.size w w' := by
  go_enter Try.func39, Try.ntmps39
  go_wp2_with fail
  go_at_call 73
  refine (eqInt64S_any _ _ nc _ _ Zc Yc _ hnc (hc.below (by repeat first | (with_reducible exact Below.refl _ _) | (with_reducible refine Below.setCell ?_ (by first | exact Nat.le_refl _ | (simp; done) | (simp; omega) | omega) _) | (with_reducible refine Below.alloc ?_ (by first | exact Nat.le_refl _ | (simp; done) | (simp; omega) | omega) _) | (with_reducible refine below_drewN ?_ _) | (with_reducible refine Below.drew ?_)) (Nat.le_refl _)) (kc.below (by repeat first | (with_reducible exact Below.refl _ _) | (with_reducible refine Below.setCell ?_ (by first | exact Nat.le_refl _ | (simp; done) | (simp; omega) | omega) _) | (with_reducible refine Below.alloc ?_ (by first | exact Nat.le_refl _ | (simp; done) | (simp; omega) | omega) _) | (with_reducible refine below_drewN ?_ _) | (with_reducible refine Below.drew ?_)) (Nat.le_refl _)) ec).mono ?_
  rintro e w' ⟨rfl, m0, rfl⟩
  go_wp2_with fail
  go_ret
  exact ⟨rfl, (by repeat first | (with_reducible exact Below.refl _ _) | (with_reducible refine Below.setCell ?_ (by first | exact Nat.le_refl _ | (simp; done) | (simp; omega) | omega) _) | (with_reducible refine Below.alloc ?_ (by first | exact Nat.le_refl _ | (simp; done) | (simp; omega) | omega) _) | (with_reducible refine below_drewN ?_ _) | (with_reducible refine Below.drew ?_))⟩
theorem markWhole_sep (B U : Nat) (xa : Int) (xb : Int) (ac : Option Addr) (nc cc : Nat) (Zc : Nat → Int) (k : Nat) (w : World) (hnc : nc ≤ 1048576) (hk : k ≤ 1048577) (hb0 : B ≤ U) (hUw : U ≤ w.heap.size) (hc : OwnI 2 .i64 B U w ac nc cc Zc) :
    Calls Try.prog 52 #[.agg #[.int .i64 xa, .int .i64 xb, .slice ac nc cc], .int .i64 k] w fun e w' => e = .returned (.int .i64 ((k + nc : Nat) : Int)) ∧ OwnI 2 .i64 B U w' ac nc cc (fun j => ((k + j : Nat) : Int)) ∧ Grew B U w w' := by
  go_enter Try.func52, Try.ntmps52
  go_wp2_with fail
  go_at_call 78
  refine (markInt64S_any B U _ _ _ (k) Zc _ hnc (by omega) (hc.kept (World.grownBy_alloc w _ none) (fun g h => by cases h))).mono ?_
  rintro e w1 ⟨rfl, oc, r1⟩
  have G1 : Grew B U w w1 := (Grew.ofBelow (by repeat first | (with_reducible exact Below.refl _ _) | (with_reducible refine Below.setCell ?_ (by first | exact Nat.le_refl _ | (simp; done) | (simp; omega) | omega) _) | (with_reducible refine Below.alloc ?_ (by first | exact Nat.le_refl _ | (simp; done) | (simp; omega) | omega) _) | (with_reducible refine below_drewN ?_ _) | (with_reducible refine Below.drew ?_))).trans ((Marked.grew r1).wide (Nat.le_refl _) (by omega))
  clear r1
  go_wp2_with fail
  go_ret
  exact ⟨rfl, oc, G1⟩
theorem heldWhole_sep (xa : Int) (xb : Int) (ac : Option Addr) (nc cc : Nat) (k : Nat) (Zc : Nat → Int) (w : World) (hnc : nc ≤ 1048576) (hk : k + nc ≤ 1048577) (hc : IS .i64 w ac nc cc Zc) (ec : ∀ j, j < nc → Zc j = ((k + j : Nat) : Int)) :
    Calls Try.prog 56 #[.agg #[.int .i64 xa, .int .i64 xb, .slice ac nc cc], .int .i64 k] w fun e w' => e = .returned (.int .i64 ((k + nc : Nat) : Int)) ∧ Below w.heap.size w w' := by
  go_enter Try.func56, Try.ntmps56
  go_wp2_with fail
  go_at_call 79
  refine (heldInt64S_any _ _ _ (k) Zc _ hnc (by omega) (hc.below (by repeat first | (with_reducible exact Below.refl _ _) | (with_reducible refine Below.setCell ?_ (by first | exact Nat.le_refl _ | (simp; done) | (simp; omega) | omega) _) | (with_reducible refine Below.alloc ?_ (by first | exact Nat.le_refl _ | (simp; done) | (simp; omega) | omega) _) | (with_reducible refine below_drewN ?_ _) | (with_reducible refine Below.drew ?_)) (Nat.le_refl _)) ec).mono ?_
  rintro e w' ⟨rfl, rfl⟩
  clear ec
  have hd0 : decide (((k + nc : Nat) : Int) < 0) = false := decide_eq_false (by omega)
  have hg0 := hd0
  simp only [Int.natCast_add] at hg0
  go_wp2_with fail
  go_ret
  exact ⟨by first | rfl | simp, (by repeat first | (with_reducible exact Below.refl _ _) | (with_reducible refine Below.setCell ?_ (by first | exact Nat.le_refl _ | (simp; done) | (simp; omega) | omega) _) | (with_reducible refine Below.alloc ?_ (by first | exact Nat.le_refl _ | (simp; done) | (simp; omega) | omega) _) | (with_reducible refine below_drewN ?_ _) | (with_reducible refine Below.drew ?_))⟩
end Go.Proofs.Ytmddhhmgfhljiab
