/- Helper: a matrix taken apart into upright columns and an upper square, of the reference. Conditions: none. -/
import Derived.Test.YtcibjkadlndejaaMirCol
import Derived.Test.YtcibjkadlndejaaMirFacts
import Derived.Test.YtcibjkadlndejaaTwoRet
import Derived.Deep.Cut
import Derived.Deep.CutRange
set_option linter.unusedVariables false
set_option linter.unusedSimpArgs false
namespace Go.Proofs.Ytcibjkadlndejaa
open Go.RowKit

/-- A matrix in a box and a row of its own, both new. -/
structure NewM (W0 : World) (b g : Nat) (R C : Int) (n : Nat) (Z : Nat → Nat) (W : World) : Prop where
  box : Box W b R C (some ⟨g, 0, none⟩) n n
  own : Own 41 .f32 g (g + 1) W (some ⟨g, 0, none⟩) n n Z
  lob : W0.heap.size ≤ b
  log : W0.heap.size ≤ g
  ne : b ≠ g
  lb : b < W.heap.size
  lg : g < W.heap.size
  bel : Below W0.heap.size W0 W
theorem NewM.of {W0 W : World} {b g : Nat} {R C : Int} {n : Nat} {Z : Nat → Nat} {B U : Nat} (h0 : 0 < n) (o : Own 41 .f32 B U W (some ⟨g, 0, none⟩) n n Z) (hb : Box W b R C (some ⟨g, 0, none⟩) n n) (h1 : W0.heap.size ≤ b) (h2 : W0.heap.size ≤ B) (h3 : b < B ∨ U ≤ b) (h4 : b < W.heap.size) (h5 : Below W0.heap.size W0 W) : NewM W0 b g R C n Z W := by
  obtain ⟨_, _, t1, t2, t3, _⟩ := o.cell h0
  exact ⟨hb, o.alone h0, h1, by omega, by omega, h4, by omega, h5⟩
theorem box_set3 {W : World} {b : Nat} {u0 u1 u2 : Value} (R C : Int) (a : Option Addr) (n c : Nat) (h0 : W.cell? ⟨b, 0, none⟩ = some u0) (h1 : W.cell? ⟨b, 1, none⟩ = some u1) (h2 : W.cell? ⟨b, 2, none⟩ = some u2) :
    Box (((W.setCell ⟨b, 0, none⟩ (.int .i64 R)).setCell ⟨b, 1, none⟩ (.int .i64 C)).setCell ⟨b, 2, none⟩ (.slice a n c)) b R C a n c := by
  refine ⟨?_, ?_, ?_⟩
  · simp [go_sem, h0]
  · simp [go_sem, h1]
  · simp [go_sem, h2]
/-- What the reference's walk gives. -/
def MirRead (r c N M : Nat) (P : GS) (w : World) (e : Ending) (w' : World) : Prop :=
  match gsOk r c P c with
  | true => ∃ g1 g2 X Y, e = .returned (.tuple #[.agg #[.int .i64 r, .int .i64 c, .slice (some ⟨g1, 0, none⟩) N N], .agg #[.int .i64 c, .int .i64 c, .slice (some ⟨g2, 0, none⟩) M M], .bool (allFin (vals X) N && allFin (vals Y) M)]) ∧
      FS .f32 w' (some ⟨g1, 0, none⟩) N N X ∧ (∀ i q, i < r → q < c → vals X (i * c + q) = (gsC r c P c).1 (q * r + i)) ∧ FS .f32 w' (some ⟨g2, 0, none⟩) M M Y ∧ (∀ t, t < M → vals Y t = (gsC r c P c).2 t) ∧ Below w.heap.size w w'
  | false => e = .returned (.tuple #[.agg #[.int .i64 0, .int .i64 0, .slice none 0 0], .agg #[.int .i64 0, .int .i64 0, .slice none 0 0], .bool false]) ∧ Below w.heap.size w w'
theorem MirRead.no {r c N M : Nat} {P : GS} {w w' : World} {e : Ending} (h : gsOk r c P c = false) (he : e = .returned (.tuple #[.agg #[.int .i64 0, .int .i64 0, .slice none 0 0], .agg #[.int .i64 0, .int .i64 0, .slice none 0 0], .bool false])) (hb : Below w.heap.size w w') : MirRead r c N M P w e w' := by
  unfold MirRead
  rw [h]
  exact ⟨he, hb⟩
theorem MirRead.yes {r c N M : Nat} {P : GS} {w w' : World} {g1 g2 : Nat} {X Y : Nat → Nat} {b : Bool} (h : gsOk r c P c = true) (hb : b = (allFin (vals X) N && allFin (vals Y) M)) (f1 : FS .f32 w' (some ⟨g1, 0, none⟩) N N X) (v1 : ∀ i q, i < r → q < c → vals X (i * c + q) = (gsC r c P c).1 (q * r + i)) (f2 : FS .f32 w' (some ⟨g2, 0, none⟩) M M Y) (v2 : ∀ t, t < M → vals Y t = (gsC r c P c).2 t) (hw : Below w.heap.size w w') :
    MirRead r c N M P w (.returned (.tuple #[.agg #[.int .i64 r, .int .i64 c, .slice (some ⟨g1, 0, none⟩) N N], .agg #[.int .i64 c, .int .i64 c, .slice (some ⟨g2, 0, none⟩) M M], .bool b])) w' := by
  unfold MirRead
  rw [h]
  subst hb
  exact ⟨g1, g2, X, Y, rfl, f1, v1, f2, v2, hw⟩
set_option maxRecDepth 20000 in
set_option maxHeartbeats 4000000 in
theorem l03Mirror_any (p r c N M b off cap : Nat) (Z : Nat → Nat) (w : World) (h1 : 1 ≤ r) (h12 : r ≤ 12) (c1 : 1 ≤ c) (c12 : c ≤ 12) (hn : N = r * c) (hM : M = c * c) (hp : p < w.heap.size) (hb : Box w p r c (some ⟨b, off, none⟩) N cap) (h : FS .f32 w (some ⟨b, off, none⟩) N cap Z) :
    Calls Try.prog 38 #[.pointer (some ⟨p, 0, none⟩)] w (MirRead r c N M (mirP r c Z) w) := by
  have HN := Lib.hid hn
  have HM := Lib.hid hM
  have hpos : 0 < N := by rw [hn]; exact Nat.mul_pos h1 c1
  have mpos : 0 < M := by rw [hM]; exact Nat.mul_pos c1 c1
  have m144 : M ≤ 144 := by rw [hM]; exact sides_le c12 c12
  have h144 : N ≤ 144 := by rw [hn]; exact sides_le h12 c12
  obtain ⟨x0, x1, x2⟩ := hb
  have hbox : Box w p r c (some ⟨b, off, none⟩) N cap := ⟨x0, x1, x2⟩
  obtain ⟨P, hP⟩ : ∃ P, P = mirP r c Z := ⟨_, rfl⟩
  rw [← hP]
  clear hn hM
  go_enter Try.func38, Try.ntmps38
  go_upto_region 1 with (fail)
  have B0 : Below w.heap.size w ((w.alloc (.cells #[.int .i64 0, .int .i64 0, .slice none 0 0] 26)).alloc (.cells #[.int .i64 0, .int .i64 0, .slice none 0 0] 26)) := (by repeat first | (with_reducible exact Below.refl _ _) | (with_reducible refine Below.setCell ?_ (by first | exact Nat.le_refl _ | (simp; done) | (simp; omega) | omega) _) | (with_reducible refine Below.alloc ?_ (by first | exact Nat.le_refl _ | (simp; done) | (simp; omega) | omega) _) | (with_reducible refine below_drewN ?_ _) | (with_reducible refine Below.drew ?_))
  have S0 : ((w.alloc (.cells #[.int .i64 0, .int .i64 0, .slice none 0 0] 26)).alloc (.cells #[.int .i64 0, .int .i64 0, .slice none 0 0] 26)).heap.size = w.heap.size + 1 + 1 := by simp
  generalize hw0 : ((w.alloc (.cells #[.int .i64 0, .int .i64 0, .slice none 0 0] 26)).alloc (.cells #[.int .i64 0, .int .i64 0, .slice none 0 0] 26)) = w0 at B0 S0 ⊢
  have x0' := (B0.cell (p := ⟨p, 0, none⟩) hp).trans x0
  have x1' := (B0.cell (p := ⟨p, 1, none⟩) hp).trans x1
  have hp0 : p < w0.heap.size := by omega
  have HS0 := Lib.hid S0
  have XR0 : Box w0 w.heap.size 0 0 none 0 0 := by rw [← hw0]; refine ⟨?_, ?_, ?_⟩ <;> simp [go_sem]
  have XS0 : Box w0 (w.heap.size + 1) 0 0 none 0 0 := by rw [← hw0]; refine ⟨?_, ?_, ?_⟩ <;> simp [go_sem]
  have IR0 : ∀ i, w0.frozen? ⟨w.heap.size, i, none⟩ = false := fun i => by rw [← hw0]; simp [go_sem]
  have IS0 : ∀ i, w0.frozen? ⟨w.heap.size + 1, i, none⟩ = false := fun i => by rw [← hw0]; simp [go_sem]
  clear S0 hw0
  clear x0 x1 x2
  go_cut [5] from 16 (fun s5 wx => ∃ b5 g1, s5 = .pointer (some ⟨b5, 0, none⟩) ∧ NewM w0 b5 g1 r c N (fun _ => 0) wx)
  case first =>
    go_region_held3 (fun w' => w'.cell? ⟨p, 0, none⟩ = some (.int .i64 r) ∧ w'.cell? ⟨p, 1, none⟩ = some (.int .i64 c) ∧ Below w0.heap.size w0 w')
      (first | exact ⟨x0', x1', (by first | exact (Below.refl _ _).drew | exact (below_drewN (Below.refl _ _) _).drew)⟩ | exact held1 (by assumption) (by assumption) hp0 | (refine held1b x0' x1' hp0 ?_; (repeat first | (with_reducible exact B1) | (with_reducible exact Below.refl _ _) | (with_reducible refine Below.setCell ?_ (by first | exact Nat.le_refl _ | (simp; done) | (simp; omega) | omega) _) | (with_reducible refine Below.alloc ?_ (by first | exact Nat.le_refl _ | (simp; done) | (simp; omega) | omega) _) | (with_reducible refine below_drewN ?_ _) | (with_reducible refine Below.drew ?_)); done) | (refine held1b x0' x1' hp0 ?_; (repeat first | (with_reducible exact Below.refl _ _) | (with_reducible exact Below.refl _ _) | (with_reducible refine Below.setCell ?_ (by first | exact Nat.le_refl _ | (simp; done) | (simp; omega) | omega) _) | (with_reducible refine Below.alloc ?_ (by first | exact Nat.le_refl _ | (simp; done) | (simp; omega) | omega) _) | (with_reducible refine below_drewN ?_ _) | (with_reducible refine Below.drew ?_)); done))
      (first | (go_at_call 81; refine (l02Zero_any r c N _ h12 c12 HN.out).mono ?_; rintro e w1 ⟨g, rfl, o1, b1⟩; have B1 : Below w0.heap.size w0 w1 := Below.trans (by repeat first | (with_reducible exact Below.refl _ _) | (with_reducible refine Below.setCell ?_ (by first | exact Nat.le_refl _ | (simp; done) | (simp; omega) | omega) _) | (with_reducible refine Below.alloc ?_ (by first | exact Nat.le_refl _ | (simp; done) | (simp; omega) | omega) _) | (with_reducible refine below_drewN ?_ _) | (with_reducible refine Below.drew ?_)) (b1.mono (by first | exact Nat.le_refl _ | (simp; done) | (simp; omega))); have s1 : w0.heap.size ≤ w1.heap.size := B1.size; obtain ⟨hd1, hf1⟩ := bcell b1))
    · have b2 : Below w1.heap.size w1 (w1.alloc (.cells #[.int .i64 r, .int .i64 c, .slice (some ⟨g, 0, none⟩) N N] 26)) := (by repeat first | (with_reducible exact Below.refl _ _) | (with_reducible refine Below.setCell ?_ (by first | exact Nat.le_refl _ | (simp; done) | (simp; omega) | omega) _) | (with_reducible refine Below.alloc ?_ (by first | exact Nat.le_refl _ | (simp; done) | (simp; omega) | omega) _) | (with_reducible refine below_drewN ?_ _) | (with_reducible refine Below.drew ?_))
      have hM1 : NewM w0 w1.heap.size g r c N (fun _ => 0) (w1.alloc (.cells #[.int .i64 r, .int .i64 c, .slice (some ⟨g, 0, none⟩) N N] 26)) :=
        NewM.of hpos (o1.kept (World.grownBy_alloc w1 _ none) (fun q hq => by cases hq)) (Box.new w1 _ _ _ _ _ _) s1 (Nat.le_refl _) (.inr (Nat.le_refl _)) (by simp) (B1.trans (b2.mono s1))
      clear hd1 hf1 b1 o1 b2
      go_wp2_with fail
      go_meet
      case rel => exact ⟨_, _, rfl, hM1⟩
    · have X1 : Box w1 w0.heap.size 0 0 none 0 0 := Box.below (by refine ⟨?_, ?_, ?_⟩ <;> simp [go_sem]) b1 (by simp)
      obtain ⟨y0, y1, y2⟩ := X1
      have ho := (((o1.kept (grownBy_set w1 w0.heap.size 0 (.int .i64 r)) (fun q hq => by cases hq; simp)).kept (grownBy_set _ w0.heap.size 1 (.int .i64 c)) (fun q hq => by cases hq; simp)).kept (grownBy_set _ w0.heap.size 2 (.slice (some ⟨g, 0, none⟩) N N)) (fun q hq => by cases hq; simp))
      have hsz : w0.heap.size < w1.heap.size := by have hh := b1.size; simp at hh; omega
      have hM1 : NewM w0 w0.heap.size g r c N (fun _ => 0) (((w1.setCell ⟨w0.heap.size, 0, none⟩ (.int .i64 r)).setCell ⟨w0.heap.size, 1, none⟩ (.int .i64 c)).setCell ⟨w0.heap.size, 2, none⟩ (.slice (some ⟨g, 0, none⟩) N N)) :=
        NewM.of hpos ho (box_set3 _ _ _ _ _ y0 y1 y2) (Nat.le_refl _) (by simp) (.inl (by simp)) (by simp [World.setCell]; omega) (((B1.setCell (p := ⟨w0.heap.size, 0, none⟩) (Nat.le_refl _) _).setCell (p := ⟨w0.heap.size, 1, none⟩) (Nat.le_refl _) _).setCell (p := ⟨w0.heap.size, 2, none⟩) (Nat.le_refl _) _)
      clear hd1 hf1 b1 o1 y0 y1 y2 ho
      go_wp2_with fail
      go_meet
      case rel => exact ⟨_, _, rfl, hM1⟩
  case rest =>
    obtain ⟨b5, g1, rfl, hm1⟩ := hcut
    have z0 := (hm1.bel.cell (p := ⟨p, 0, none⟩) hp0).trans x0'
    have z1 := (hm1.bel.cell (p := ⟨p, 1, none⟩) hp0).trans x1'
    have hp1 : p < wc.heap.size := Nat.lt_of_lt_of_le hp0 hm1.bel.size
    clear x0' x1'
    go_upto_region 2 with (fail)
    obtain ⟨wd, hwd⟩ : ∃ wd, wd = wc := ⟨_, rfl⟩
    subst hwd
    have hNM := Lib.hid hm1
    clear hm1
    go_cut [6] from 16 (fun s6 wx => ∃ b6 g2, s6 = .pointer (some ⟨b6, 0, none⟩) ∧ NewM wd b6 g2 c c M (fun _ => 0) wx)
    case first =>
      go_region_held3 (fun w' => w'.cell? ⟨p, 0, none⟩ = some (.int .i64 r) ∧ w'.cell? ⟨p, 1, none⟩ = some (.int .i64 c) ∧ Below wd.heap.size wd w')
        (first | exact ⟨z0, z1, (by first | exact (Below.refl _ _).drew | exact (below_drewN (Below.refl _ _) _).drew)⟩ | exact held1 (by assumption) (by assumption) hp1 | (refine held1b z0 z1 hp1 ?_; (repeat first | (with_reducible exact B1) | (with_reducible exact Below.refl _ _) | (with_reducible refine Below.setCell ?_ (by first | exact Nat.le_refl _ | (simp; done) | (simp; omega) | omega) _) | (with_reducible refine Below.alloc ?_ (by first | exact Nat.le_refl _ | (simp; done) | (simp; omega) | omega) _) | (with_reducible refine below_drewN ?_ _) | (with_reducible refine Below.drew ?_)); done) | (refine held1b z0 z1 hp1 ?_; (repeat first | (with_reducible exact Below.refl _ _) | (with_reducible exact Below.refl _ _) | (with_reducible refine Below.setCell ?_ (by first | exact Nat.le_refl _ | (simp; done) | (simp; omega) | omega) _) | (with_reducible refine Below.alloc ?_ (by first | exact Nat.le_refl _ | (simp; done) | (simp; omega) | omega) _) | (with_reducible refine below_drewN ?_ _) | (with_reducible refine Below.drew ?_)); done))
        (first | (go_at_call 81; refine (l02Zero_any c c M _ c12 c12 HM.out).mono ?_; rintro e w1 ⟨g, rfl, o1, b1⟩; have B1 : Below wd.heap.size wd w1 := Below.trans (by repeat first | (with_reducible exact Below.refl _ _) | (with_reducible refine Below.setCell ?_ (by first | exact Nat.le_refl _ | (simp; done) | (simp; omega) | omega) _) | (with_reducible refine Below.alloc ?_ (by first | exact Nat.le_refl _ | (simp; done) | (simp; omega) | omega) _) | (with_reducible refine below_drewN ?_ _) | (with_reducible refine Below.drew ?_)) (b1.mono (by first | exact Nat.le_refl _ | (simp; done) | (simp; omega))); have s1 : wd.heap.size ≤ w1.heap.size := B1.size; obtain ⟨hd1, hf1⟩ := bcell b1))
      · have b2 : Below w1.heap.size w1 (w1.alloc (.cells #[.int .i64 c, .int .i64 c, .slice (some ⟨g, 0, none⟩) M M] 26)) := (by repeat first | (with_reducible exact Below.refl _ _) | (with_reducible refine Below.setCell ?_ (by first | exact Nat.le_refl _ | (simp; done) | (simp; omega) | omega) _) | (with_reducible refine Below.alloc ?_ (by first | exact Nat.le_refl _ | (simp; done) | (simp; omega) | omega) _) | (with_reducible refine below_drewN ?_ _) | (with_reducible refine Below.drew ?_))
        have hM1 : NewM wd w1.heap.size g c c M (fun _ => 0) (w1.alloc (.cells #[.int .i64 c, .int .i64 c, .slice (some ⟨g, 0, none⟩) M M] 26)) :=
          NewM.of mpos (o1.kept (World.grownBy_alloc w1 _ none) (fun q hq => by cases hq)) (Box.new w1 _ _ _ _ _ _) s1 (Nat.le_refl _) (.inr (Nat.le_refl _)) (by simp) (B1.trans (b2.mono s1))
        clear hd1 hf1 b1 o1 b2
        go_wp2_with fail
        go_meet
        case rel => exact ⟨_, _, rfl, hM1⟩
      · have X1 : Box w1 wd.heap.size 0 0 none 0 0 := Box.below (by refine ⟨?_, ?_, ?_⟩ <;> simp [go_sem]) b1 (by simp)
        obtain ⟨y0, y1, y2⟩ := X1
        have ho := (((o1.kept (grownBy_set w1 wd.heap.size 0 (.int .i64 c)) (fun q hq => by cases hq; simp)).kept (grownBy_set _ wd.heap.size 1 (.int .i64 c)) (fun q hq => by cases hq; simp)).kept (grownBy_set _ wd.heap.size 2 (.slice (some ⟨g, 0, none⟩) M M)) (fun q hq => by cases hq; simp))
        have hsz : wd.heap.size < w1.heap.size := by have hh := b1.size; simp at hh; omega
        have hM1 : NewM wd wd.heap.size g c c M (fun _ => 0) (((w1.setCell ⟨wd.heap.size, 0, none⟩ (.int .i64 c)).setCell ⟨wd.heap.size, 1, none⟩ (.int .i64 c)).setCell ⟨wd.heap.size, 2, none⟩ (.slice (some ⟨g, 0, none⟩) M M)) :=
          NewM.of mpos ho (box_set3 _ _ _ _ _ y0 y1 y2) (Nat.le_refl _) (by simp) (.inl (by simp)) (by simp [World.setCell]; omega) (((B1.setCell (p := ⟨wd.heap.size, 0, none⟩) (Nat.le_refl _) _).setCell (p := ⟨wd.heap.size, 1, none⟩) (Nat.le_refl _) _).setCell (p := ⟨wd.heap.size, 2, none⟩) (Nat.le_refl _) _)
        clear hd1 hf1 b1 o1 y0 y1 y2 ho
        go_wp2_with fail
        go_meet
        case rel => exact ⟨_, _, rfl, hM1⟩
    case rest =>
      obtain ⟨b6, g2, rfl, hm2⟩ := hcut
      have hm1 := hNM.out
      obtain ⟨w5, hw5⟩ : ∃ w5, w5 = wc := ⟨_, rfl⟩
      subst hw5
      have K1 := hm1.own.kept (below_grew hm2.bel) (fun q hq => by cases hq)
      have K2 := hm2.own
      have X5 := hm1.box.below hm2.bel hm1.lb
      have X6 := hm2.box
      have s01 := hm1.bel.size
      have s02 := hm2.bel.size
      have XR5 := (XR0.below hm1.bel (by have := HS0.out; omega)).below hm2.bel (by have := HS0.out; omega)
      have IR5 : ∀ i, w5.frozen? ⟨w.heap.size, i, none⟩ = false := fun i => (hm2.bel.frozen (p := ⟨w.heap.size, i, none⟩) (by show w.heap.size < wd.heap.size; have := HS0.out; omega)).trans ((hm1.bel.frozen (p := ⟨w.heap.size, i, none⟩) (by show w.heap.size < w0.heap.size; have := HS0.out; omega)).trans (IR0 i))
      have IS5 : ∀ i, w5.frozen? ⟨w.heap.size + 1, i, none⟩ = false := fun i => (hm2.bel.frozen (p := ⟨w.heap.size + 1, i, none⟩) (by show w.heap.size + 1 < wd.heap.size; have := HS0.out; omega)).trans ((hm1.bel.frozen (p := ⟨w.heap.size + 1, i, none⟩) (by show w.heap.size + 1 < w0.heap.size; have := HS0.out; omega)).trans (IS0 i))
      have XS5 := (XS0.below hm1.bel (by have := HS0.out; omega)).below hm2.bel (by have := HS0.out; omega)
      have B5 := (B0.trans (hm1.bel.mono B0.size)).trans (hm2.bel.mono (Nat.le_trans B0.size s01))
      have FA := h.below B5 (Nat.le_refl _)
      have XA := hbox.below B5 hp
      have l1 := hm1.lob
      have l2 := hm1.log
      have l3 := hm1.ne
      have l4 := hm1.lb
      have l5 := hm1.lg
      have l6 := hm2.lob
      have l7 := hm2.log
      have l8 := hm2.ne
      have l9 := hm2.lb
      have l10 := hm2.lg
      have sB := B0.size
      have hs0 := HS0.out
      have n1 : g1 ≠ g2 := by omega
      have n2 : b5 ≠ g2 := by omega
      have n3 : b6 ≠ g1 := by omega
      have n4 : p ≠ g1 := by omega
      have n5 : p ≠ g2 := by omega
      have nr1 : w.heap.size + 1 < g1 := by omega
      have nr4 : w.heap.size + 1 < b5 := by omega
      have nr5 : w.heap.size + 1 < b6 := by omega
      have nr2 : w.heap.size + 1 < g2 := by omega
      have nr3 : w.heap.size + 1 < w5.heap.size := by omega
      clear z0 z1 hm1 hm2 hNM XR0 XS0 IR0 IS0 hs0 HS0
      have HP := Lib.hid hP
      have c0 : cn .f32 0 = some 0 := by kernel_rfl
      have HV2 : Hid (∀ t, t < M → vals (fun _ => 0) t = (gsC r c P 0).2 t) := Lib.hid fun t ht => by rw [HP.out]; exact c0
      clear hP
      go_wp2
      go_loopw [7] (fun i wr => ∃ (k : Nat) (X Y : Nat → Nat), k ≤ c ∧ i = .int .i64 k ∧ Own 41 .f32 g1 (g1 + 1) wr (some ⟨g1, 0, none⟩) N N X ∧ Own 41 .f32 g2 (g2 + 1) wr (some ⟨g2, 0, none⟩) M M Y ∧ (∀ i q, i < r → q < k → vals X (i * c + q) = (gsC r c P k).1 (q * r + i)) ∧ (∀ t, t < M → vals Y t = (gsC r c P k).2 t) ∧ Hid (gsOk r c P k = true) ∧ Out2 w5 wr g1 g2) (fun i _ => c - (intOf i).toNat)
      case atStart => exact ⟨0, _, _, Nat.zero_le _, rfl, K1, K2, fun i q _ hq => absurd hq (Nat.not_lt_zero _), HV2.out, Lib.hid rfl, Out2.refl _ _ _⟩
      case round =>
        obtain ⟨k, X, Y, hk, rfl, k1, k2, v1, v2, hok, ho⟩ := hrel
        clear K1 K2 HV2
        have XAr := ho.box XA (by omega) n4 n5
        obtain ⟨z0, z1, z2⟩ := XAr
        by_cases hlt : k < c
        · have XAr : Box wr p r c (some ⟨b, off, none⟩) N cap := ⟨z0, z1, z2⟩
          have hdl : decide ((k : Int) < (c : Int)) = true := decide_eq_true (by omega)
          have Br := B5.trans (ho.bel (B := w.heap.size) (by omega) (by omega) B5.size)
          have FAr := h.below Br (Nat.le_refl _)
          have hpr : p < wr.heap.size := Nat.lt_of_lt_of_le hp Br.size
          have HK1 := Lib.hid k1
          have HK2 := Lib.hid k2
          have HO := Lib.hid ho
          have HV1 := Lib.hid v1
          have HV2 := Lib.hid v2
          clear k1 k2 v1 v2 ho
          go_wp2_with fail
          go_at_call 59
          refine (l03Column_any p r c N b off cap k Z _ h1 h12 c12 HN.out hlt hpr XAr FAr).mono ?_
          rintro e w6 ⟨gv, dv, V, rfl, ov, vv, b6'⟩
          clear z0 z1 z2
          obtain ⟨_, _, t1, t2, _, _⟩ := ov.cell (show 0 < r by omega)
          have KV := ov.alone (show 0 < r by omega)
          have lwr := HO.out.size
          have s6 := b6'.size
          have m1 : gv ≠ g1 := by omega
          have m2 : gv ≠ g2 := by omega
          have m3 : b5 ≠ gv := by omega
          have m4 : b6 ≠ gv := by omega
          have K16 := HK1.out.kept (below_grew b6') (fun q hq => by cases hq)
          have K26 := HK2.out.kept (below_grew b6') (fun q hq => by cases hq)
          have HO6 := Lib.hid (HO.out.more b6')
          obtain ⟨Q, hQ⟩ : ∃ Q, Q = gsC r c P k := ⟨_, rfl⟩
          have HQ := Lib.hid hQ
          have R1 : Hid (∀ i, i < r → vals V i = (gsR r c k Q 0).1 (k * r + i)) := Lib.hid fun i hi' => by
            show _ = Q.1 (k * r + i)
            rw [hQ, gsC_new (by omega), HP.out, vv i hi']
            show _ = vals (flipZ r c Z) (k * r + i)
            obtain ⟨d1, d2⟩ := place_div (j := k) hi'
            unfold vals flipZ
            rw [d1, d2]
          have R2 : Hid (∀ t, t < M → vals Y t = (gsR r c k Q 0).2 t) := Lib.hid fun t ht => by rw [HV2.out t ht, hQ]; rfl
          have XB6 := HO6.out.box X5 (by omega) l3 n2
          have XU6 := HO6.out.box X6 (by omega) n3 l8
          have K1H := Lib.hid K16
          have lb5 : b5 < w6.heap.size := by omega
          have lb6 : b6 < w6.heap.size := by omega
          have hg1 : g1 < w6.heap.size := by omega
          clear ov vv b6' HV2 HK1 HK2 HO K16 hQ
          go_wp2
          go_loopw [9] (fun i wr => ∃ (q : Nat) (V Y : Nat → Nat), q ≤ 2 ∧ i = .int .i64 q ∧ Own 41 .f32 gv (gv + 1) wr (some ⟨gv, 0, none⟩) r dv V ∧ Own 41 .f32 g2 (g2 + 1) wr (some ⟨g2, 0, none⟩) M M Y ∧ (∀ i, i < r → vals V i = (gsR r c k Q q).1 (k * r + i)) ∧ (∀ t, t < M → vals Y t = (gsR r c k Q q).2 t) ∧ Out2 w6 wr gv g2) (fun i _ => 2 - (intOf i).toNat)
          case atStart => exact ⟨0, V, Y, Nat.zero_le _, rfl, KV, K26, R1.out, R2.out, Out2.refl _ _ _⟩
          case round =>
            obtain ⟨q, V2, Y2, hq, rfl, k1, k2, v1, v2, ho⟩ := hrel
            clear KV K26 R1 R2
            by_cases hq2 : q < 2
            · have hdq : decide ((q : Int) < 2) = true := decide_eq_true (by omega)
              obtain ⟨Q2, hQ2⟩ : ∃ Q2, Q2 = gsR r c k Q q := ⟨_, rfl⟩
              rw [← hQ2] at v1 v2
              have HQ2 := Lib.hid hQ2
              have HK1 := Lib.hid k1
              have HK2 := Lib.hid k2
              have HO := Lib.hid ho
              have R1 : Hid (∀ i, i < r → vals V2 i = (gsL r c k Q2 0).1 (k * r + i)) := Lib.hid v1
              have R2 : Hid (∀ t, t < M → vals Y2 t = (gsL r c k Q2 0).2 t) := Lib.hid v2
              clear hQ2 k1 k2 v1 v2 ho
              go_wp2
              go_loopw [10] (fun i wr => ∃ (j : Nat) (V Y : Nat → Nat), j ≤ k ∧ i = .int .i64 j ∧ Own 41 .f32 gv (gv + 1) wr (some ⟨gv, 0, none⟩) r dv V ∧ Own 41 .f32 g2 (g2 + 1) wr (some ⟨g2, 0, none⟩) M M Y ∧ (∀ i, i < r → vals V i = (gsL r c k Q2 j).1 (k * r + i)) ∧ (∀ t, t < M → vals Y t = (gsL r c k Q2 j).2 t) ∧ Out2 w6 wr gv g2) (fun i _ => k - (intOf i).toNat)
              case atStart => exact ⟨0, V2, Y2, Nat.zero_le _, rfl, HK1.out, HK2.out, R1.out, R2.out, HO.out⟩
              case round =>
                obtain ⟨j, V3, Y3, hj, rfl, k1, k2, v1, v2, ho⟩ := hrel
                clear HK1 HK2 R1 R2 HO
                by_cases hj2 : j < k
                · have hdj : decide ((j : Int) < (k : Int)) = true := decide_eq_true (by omega)
                  obtain ⟨Q3, hQ3⟩ : ∃ Q3, Q3 = gsL r c k Q2 j := ⟨_, rfl⟩
                  rw [← hQ3] at v1 v2
                  have HQ3 := Lib.hid hQ3
                  have hjc : j < c := by omega
                  have XBr := ho.box XB6 lb5 m3 n2
                  have KG := K1H.out.out2 ho (by omega) (by omega)
                  have hfg := KG.fs
                  have hfv := k1.fs
                  have lwr2 := ho.size
                  have hQ3j : ∀ i, i < r → Q3.1 (j * r + i) = vals X (i * c + j) := fun i hi' => by
                    have e1 : (j + 1) * r ≤ k * r := Nat.mul_le_mul_right r hj2
                    rw [Nat.succ_mul] at e1
                    rw [hQ3, gsL_out (.inl (by omega)), HQ2.out, gsR_out (.inl (by omega)), HQ.out]
                    exact (HV1.out i j hi' hj2).symm
                  have HQ3J := Lib.hid hQ3j
                  have HK1 := Lib.hid k1
                  have HK2 := Lib.hid k2
                  have HO := Lib.hid ho
                  have V1 := Lib.hid v1
                  have V2 := Lib.hid v2
                  clear hQ3 hQ3j k1 k2 v1 v2 ho KG
                  go_wp2_with fail
                  go_at_call 59
                  refine (l03Column_any b5 r c N g1 0 N j X _ h1 h12 c12 HN.out hjc (by omega) XBr hfg).mono ?_
                  rintro e w7 ⟨gw, dw, W, rfl, ow, vw, b7⟩
                  have HO7 := HO.out.more b7
                  have K17 := HK1.out.kept (below_grew b7) (fun q hq => by cases hq)
                  have K27 := Lib.hid (HK2.out.kept (below_grew b7) (fun q hq => by cases hq))
                  obtain ⟨_, _, t3, t4, _, _⟩ := ow.cell (show 0 < r by omega)
                  have KW := ow.alone (show 0 < r by omega)
                  have m5 : gw ≠ gv := by omega
                  have m6 : gw ≠ g2 := by omega
                  clear XBr hfg hfv b7 HK1 HK2 HO ow
                  go_wp2_with fail
                  go_at_call 61
                  refine (specDot_any _ _ r _ r _ W V3 _ (by omega) (Nat.le_refl _) (by omega) KW.fs K17.fs).mono ?_
                  rintro e w8' ⟨rs, rfl, frs, m8, rfl⟩
                  have fS : FV .f32 rs (gsS r k j Q3) := FV.of_eq frs (by
                    rw [dotG_comm]
                    exact dotG_congr fun i hi' => ⟨V1.out i hi', by rw [vw i hi', HQ3J.out i hi']⟩)
                  have HO8 : Out2 w6 (w7.drewN m8) gv g2 := ⟨HO7.os, HO7.tape, HO7.output, HO7.size, HO7.block⟩
                  have K18 : Own 41 .f32 gv (gv + 1) (w7.drewN m8) (some ⟨gv, 0, none⟩) r dv V3 := K17
                  have K28 : Own 41 .f32 g2 (g2 + 1) (w7.drewN m8) (some ⟨g2, 0, none⟩) M M Y3 := K27.out
                  have KW8 : Own 41 .f32 gw (gw + 1) (w7.drewN m8) (some ⟨gw, 0, none⟩) r dw W := KW
                  clear HO7 K17 K27 KW frs
                  generalize w7.drewN m8 = w8 at HO8 K18 K28 KW8 ⊢
                  have XU8 := HO8.box XU6 lb6 m4 l8
                  obtain ⟨u0, u1, u2⟩ := XU8
                  have XU8 : Box w8 b6 c c (some ⟨g2, 0, none⟩) M M := ⟨u0, u1, u2⟩
                  have hA := fun m => specAt_any b6 g2 0 c c M M j k Y3 (w8.drewN m) c12 c12 HM.out (Box.drewN XU8) (FS.drewN K28.fs) hjc hlt
                  have hjk : j * c + k < M := by rw [HM.out]; exact place_lt hjc hlt
                  obtain ⟨hce, hfr, _, _, _, wf2⟩ := K28.cell hjk
                  have fy : FV .f32 (Y3 (j * c + k)) (Q3.2 (j * c + k)) := ⟨V2.out _ hjk, wf2⟩
                  obtain ⟨jc, hjc'⟩ : ∃ jc, jc = j * c := ⟨_, rfl⟩
                  obtain ⟨J, hJ⟩ : ∃ J, J = j * c + k := ⟨_, rfl⟩
                  have hw1 : IntKind.i64.wrap ((j : Int) * (c : Int)) = (jc : Int) := by rw [hjc', ← Int.natCast_mul]; exact IntWalk.i64_in _ (by omega)
                  have hw2 : IntKind.i64.wrap ((jc : Int) + (k : Int)) = (J : Int) := by rw [hJ, ← hjc', ← Int.natCast_add]; exact IntWalk.i64_in _ (by omega)
                  rw [← hJ] at hjk hce hfr fy hA
                  have HJ := Lib.hid hJ
                  have HV5 : Hid (∀ u, FV .f32 u (fop .add .f32 (Q3.2 J) (gsS r k j Q3)) → ∀ t, t < M → vals (fun t => if t = J then u else Y3 t) t = (gsL r c k Q2 (j + 1)).2 t) := Lib.hid fun u hu t ht => by
                    show cn .f32 (if t = J then u else Y3 t) = (gsJ r c k (gsL r c k Q2 j) j).2 t
                    rw [← HQ3.out]
                    show _ = (if t = j * c + k then fop .add .f32 (Q3.2 t) (gsS r k j Q3) else Q3.2 t)
                    rw [← hJ]
                    by_cases e : t = J
                    · rw [if_pos e, if_pos e, e]; exact hu.1
                    · rw [if_neg e, if_neg e]; exact V2.out t ht
                  have K28' := Lib.hid K28
                  have HO8' := Lib.hid HO8
                  generalize hyy : Y3 J = yy at hce fy hA
                  clear hjc' hJ wf2 K28 HO8 XU8 hyy
                  go_wp2
                  refine wp_region_kinds (fun w' => ∃ m, w' = w8.drewN m) (fun i => if i = 12 then 1 else 0) 14 ⟨1, rfl⟩ (by kernel_rfl) (by kernel_rfl) (by kernel_rfl) ?_
                  simp only [List.take_succ_cons, List.take_zero, List.drop_succ_cons, List.drop_zero]
                  ((with_reducible refine wpKinds_plain ?hwant ?hkind ?hplain (fun K hK => ?_)); (case hwant => first | (simp [Region.wanted, yielded]; done) | rfl); (case hkind => rfl); (case hplain => rfl); go_big_quiet_op; (first | refine hK _ ?_ | refine ⟨_, fun _ _ => rfl, hK _ ?_⟩); clear hK K)
                  (refine wpKinds_run (.slice (some ⟨g2, 0, none⟩) M M) rfl rfl (by rintro W ⟨m, rfl⟩; simp [go_sem, u2]) ?_; simp only [Act.put, List.setIfInBounds_toArray, List.set_cons_succ, List.set_cons_zero])
                  ((with_reducible refine wpKinds_plain ?hwant ?hkind ?hplain (fun K hK => ?_)); (case hwant => first | (simp [Region.wanted, yielded]; done) | rfl); (case hkind => rfl); (case hplain => rfl); go_big_quiet_op; (first | refine hK _ ?_ | refine ⟨_, fun _ _ => rfl, hK _ ?_⟩); clear hK K)
                  ((with_reducible refine wpKinds_plain ?hwant ?hkind ?hplain (fun K hK => ?_)); (case hwant => first | (simp [Region.wanted, yielded]; done) | rfl); (case hkind => rfl); (case hplain => rfl); go_big_quiet_op; (first | refine hK _ ?_ | refine ⟨_, fun _ _ => rfl, hK _ ?_⟩); clear hK K)
                  (refine wpKinds_run (.int .i64 c) rfl rfl (by rintro W ⟨m, rfl⟩; simp [go_sem, u1]) ?_; simp only [Act.put, List.setIfInBounds_toArray, List.set_cons_succ, List.set_cons_zero])
                  (refine wpKinds_run (.int .i64 jc) rfl rfl (by rintro W ⟨m, rfl⟩; simp [go_sem, hw1]) ?_; simp only [Act.put, List.setIfInBounds_toArray, List.set_cons_succ, List.set_cons_zero])
                  ((with_reducible refine wpKinds_plain ?hwant ?hkind ?hplain (fun K hK => ?_)); (case hwant => first | (simp [Region.wanted, yielded]; done) | rfl); (case hkind => rfl); (case hplain => rfl); go_big_quiet_op; (first | refine hK _ ?_ | refine ⟨_, fun _ _ => rfl, hK _ ?_⟩); clear hK K)
                  (refine wpKinds_run (.int .i64 J) rfl rfl (by rintro W ⟨m, rfl⟩; simp [go_sem, hw2]) ?_; simp only [Act.put, List.setIfInBounds_toArray, List.set_cons_succ, List.set_cons_zero])
                  ((with_reducible refine wpKinds_plain ?hwant ?hkind ?hplain (fun K hK => ?_)); (case hwant => first | (simp [Region.wanted, yielded]; done) | rfl); (case hkind => rfl); (case hplain => rfl); go_big_quiet_op; (first | refine hK _ ?_ | refine ⟨_, fun _ _ => rfl, hK _ ?_⟩); clear hK K)
                  ((with_reducible refine wpKinds_plain ?hwant ?hkind ?hplain (fun K hK => ?_)); (case hwant => first | (simp [Region.wanted, yielded]; done) | rfl); (case hkind => rfl); (case hplain => rfl); go_big_quiet_op; (first | refine hK _ ?_ | refine ⟨_, fun _ _ => rfl, hK _ ?_⟩); clear hK K)
                  (refine wpKinds_call (f := 71) (args := #[.pointer (some ⟨b6, 0, none⟩), .int .i64 j, .int .i64 k]) (.float .f32 yy) rfl rfl (by intro W; simp [go_sem, BigFrame.eval_const, BigFrame.eval_global, BigFrame.eval_func]) (by kernel_rfl) (by rintro W ⟨m, rfl⟩; exact (hA m).mono fun e w' hh => ⟨hh.1, by obtain ⟨_, x, hx⟩ := hh; exact ⟨m + x, hx.trans drewN_two⟩⟩) ?_; simp only [Act.put, List.setIfInBounds_toArray, List.set_cons_succ, List.set_cons_zero])
                  ((with_reducible refine wpKinds_plain ?hwant ?hkind ?hplain (fun K hK => ?_)); (case hwant => first | (simp [Region.wanted, yielded]; done) | rfl); (case hkind => rfl); (case hplain => rfl); go_big_quiet_op; (first | refine hK _ ?_ | refine ⟨_, fun _ _ => rfl, hK _ ?_⟩); clear hK K)
                  refine wpKinds_farith (fun W m hW => by obtain ⟨x, rfl⟩ := hW; exact ⟨x + m, drewN_two⟩) rfl rfl _ _ _ _ _ rfl rfl _ _ _ rfl rfl fy fS (fun r5 hr5 => ?_)
                  simp only [Act.put, List.setIfInBounds_toArray, List.set_cons_succ, List.set_cons_zero]
                  (refine wpKinds_run (.pointer (some ⟨g2, J, none⟩)) rfl rfl (by rintro W ⟨m, rfl⟩; simp [go_sem, hjk]) ?_; simp only [Act.put, List.setIfInBounds_toArray, List.set_cons_succ, List.set_cons_zero])
                  refine wpKinds_nil ?_
                  rintro w9' ⟨m9, rfl⟩
                  obtain ⟨O4, G4⟩ := (show Own 41 .f32 g2 (g2 + 1) (w8.drewN m9) (some ⟨g2, 0, none⟩) M M Y3 from K28'.out).stored hjk hr5.2
                  have HO10 : Out2 w6 ((w8.drewN m9).setCell ⟨g2, J, none⟩ (.float .f32 r5)) gv g2 := Out2.right (show Out2 w6 (w8.drewN m9) gv g2 from ⟨HO8'.out.os, HO8'.out.tape, HO8'.out.output, HO8'.out.size, HO8'.out.block⟩) G4
                  have K110 : Own 41 .f32 gv (gv + 1) ((w8.drewN m9).setCell ⟨g2, J, none⟩ (.float .f32 r5)) (some ⟨gv, 0, none⟩) r dv V3 := (show Own 41 .f32 gv (gv + 1) (w8.drewN m9) (some ⟨gv, 0, none⟩) r dv V3 from K18).kept G4 (fun q hq => by cases hq; omega)
                  have KW10 : Own 41 .f32 gw (gw + 1) ((w8.drewN m9).setCell ⟨g2, J, none⟩ (.float .f32 r5)) (some ⟨gw, 0, none⟩) r dw W := (show Own 41 .f32 gw (gw + 1) (w8.drewN m9) (some ⟨gw, 0, none⟩) r dw W from KW8).kept G4 (fun q hq => by cases hq; omega)
                  have K210 := Lib.hid O4
                  have HV6 := Lib.hid (HV5.out r5 hr5)
                  have HOX := Lib.hid HO10
                  have K1X := Lib.hid K110
                  have KWX := Lib.hid KW10
                  clear O4 G4 HO10 K110 KW10 K18 KW8 hA HV5
                  go_wp2
                  clear hce hfr fy
                  generalize ((w8.drewN m9).setCell ⟨g2, J, none⟩ (.float .f32 r5)) = w10 at HOX K1X KWX K210 ⊢
                  go_loopw [75] (fun i wr => ∃ (i' : Nat) (V : Nat → Nat), i' ≤ r ∧ i = .int .i64 i' ∧ Own 41 .f32 gv (gv + 1) wr (some ⟨gv, 0, none⟩) r dv V ∧ (∀ t, t < r → vals V t = if t < i' then fop .sub .f32 (vals V3 t) (fop .mul .f32 (gsS r k j Q3) (vals W t)) else vals V3 t) ∧ w10.grownBy wr (some gv)) (fun i _ => r - (intOf i).toNat)
                  case atStart => exact ⟨0, V3, Nat.zero_le _, rfl, K1X.out, fun t ht => by rw [if_neg (Nat.not_lt_zero _)], World.grownBy.refl _ _⟩
                  case round =>
                    obtain ⟨i', V4, hi', rfl, k4, v4, g4⟩ := hrel
                    by_cases hli : i' < r
                    · have hdi : decide ((i' : Int) < (r : Int)) = true := decide_eq_true (by omega)
                      have KWr := KWX.out.kept g4 (fun q hq => by cases hq; omega)
                      obtain ⟨ce1, fr1, _, _, _, wf1⟩ := k4.cell hli
                      obtain ⟨ce2, _, _, _, _, wf2⟩ := KWr.cell hli
                      have f1 : FV .f32 (V4 i') (vals V3 i') := ⟨by have := v4 i' hli; rw [if_neg (by omega)] at this; exact this, wf1⟩
                      have f2 : FV .f32 (W i') (vals W i') := ⟨rfl, wf2⟩
                      have HP4 : Hid (∀ u, FV .f32 u (fop .sub .f32 (vals V3 i') (fop .mul .f32 (gsS r k j Q3) (vals W i'))) → ∀ t, t < r → vals (fun t => if t = i' then u else V4 t) t = if t < i' + 1 then fop .sub .f32 (vals V3 t) (fop .mul .f32 (gsS r k j Q3) (vals W t)) else vals V3 t) := Lib.hid fun u hu t ht => by
                        show cn .f32 (if t = i' then u else V4 t) = _
                        by_cases e : t = i'
                        · rw [if_pos e, if_pos (by omega), e]; exact hu.1
                        · rw [if_neg e]
                          have := v4 t ht
                          show vals V4 t = _
                          rw [this]
                          by_cases e2 : t < i'
                          · rw [if_pos e2, if_pos (by omega)]
                          · rw [if_neg e2, if_neg (by omega)]
                      have HK4 := Lib.hid k4
                      have HG4 := Lib.hid g4
                      generalize hv1 : V4 i' = x1 at ce1 f1
                      generalize hv2 : W i' = x2 at ce2 f2
                      generalize vals V3 i' = y1 at f1 HP4
                      generalize vals W i' = y2 at f2 HP4
                      clear k4 v4 g4 KWr wf1 wf2 hv1 hv2
                      go_wp2
                      refine wp_region_kinds (fun w' => ∃ m, w' = wr.drewN m) (fun i => if i = 11 then 1 else if i = 12 then 1 else 0) 14 ⟨1, rfl⟩ (by kernel_rfl) (by kernel_rfl) (by kernel_rfl) ?_
                      simp only [List.take_succ_cons, List.take_zero, List.drop_succ_cons, List.drop_zero]
                      ((with_reducible refine wpKinds_plain ?hwant ?hkind ?hplain (fun K hK => ?_)); (case hwant => first | (simp [Region.wanted, yielded]; done) | rfl); (case hkind => rfl); (case hplain => rfl); go_big_quiet_op; (first | refine hK _ ?_ | refine ⟨_, fun _ _ => rfl, hK _ ?_⟩); clear hK K)
                      ((with_reducible refine wpKinds_plain ?hwant ?hkind ?hplain (fun K hK => ?_)); (case hwant => first | (simp [Region.wanted, yielded]; done) | rfl); (case hkind => rfl); (case hplain => rfl); go_big_quiet_op; (first | refine hK _ ?_ | refine ⟨_, fun _ _ => rfl, hK _ ?_⟩); clear hK K)
                      ((with_reducible refine wpKinds_plain ?hwant ?hkind ?hplain (fun K hK => ?_)); (case hwant => first | (simp [Region.wanted, yielded]; done) | rfl); (case hkind => rfl); (case hplain => rfl); go_big_quiet_op; (first | refine hK _ ?_ | refine ⟨_, fun _ _ => rfl, hK _ ?_⟩); clear hK K)
                      ((with_reducible refine wpKinds_plain ?hwant ?hkind ?hplain (fun K hK => ?_)); (case hwant => first | (simp [Region.wanted, yielded]; done) | rfl); (case hkind => rfl); (case hplain => rfl); go_big_quiet_op; (first | refine hK _ ?_ | refine ⟨_, fun _ _ => rfl, hK _ ?_⟩); clear hK K)
                      (refine wpKinds_run (.pointer (some ⟨gv, i', none⟩)) rfl rfl (by rintro W ⟨m, rfl⟩; simp [go_sem, hli]) ?_; simp only [Act.put, List.setIfInBounds_toArray, List.set_cons_succ, List.set_cons_zero])
                      (refine wpKinds_run (.float .f32 x1) rfl rfl (by rintro W ⟨m, rfl⟩; simp [go_sem, ce1]) ?_; simp only [Act.put, List.setIfInBounds_toArray, List.set_cons_succ, List.set_cons_zero])
                      ((with_reducible refine wpKinds_plain ?hwant ?hkind ?hplain (fun K hK => ?_)); (case hwant => first | (simp [Region.wanted, yielded]; done) | rfl); (case hkind => rfl); (case hplain => rfl); go_big_quiet_op; (first | refine hK _ ?_ | refine ⟨_, fun _ _ => rfl, hK _ ?_⟩); clear hK K)
                      ((with_reducible refine wpKinds_plain ?hwant ?hkind ?hplain (fun K hK => ?_)); (case hwant => first | (simp [Region.wanted, yielded]; done) | rfl); (case hkind => rfl); (case hplain => rfl); go_big_quiet_op; (first | refine hK _ ?_ | refine ⟨_, fun _ _ => rfl, hK _ ?_⟩); clear hK K)
                      ((with_reducible refine wpKinds_plain ?hwant ?hkind ?hplain (fun K hK => ?_)); (case hwant => first | (simp [Region.wanted, yielded]; done) | rfl); (case hkind => rfl); (case hplain => rfl); go_big_quiet_op; (first | refine hK _ ?_ | refine ⟨_, fun _ _ => rfl, hK _ ?_⟩); clear hK K)
                      (refine wpKinds_run (.pointer (some ⟨gw, i', none⟩)) rfl rfl (by rintro W ⟨m, rfl⟩; simp [go_sem, hli]) ?_; simp only [Act.put, List.setIfInBounds_toArray, List.set_cons_succ, List.set_cons_zero])
                      (refine wpKinds_run (.float .f32 x2) rfl rfl (by rintro W ⟨m, rfl⟩; simp [go_sem, ce2]) ?_; simp only [Act.put, List.setIfInBounds_toArray, List.set_cons_succ, List.set_cons_zero])
                      refine wpKinds_farith (fun W m hW => by obtain ⟨x, rfl⟩ := hW; exact ⟨x + m, drewN_two⟩) rfl rfl _ _ _ _ _ rfl rfl _ _ _ rfl rfl fS f2 (fun r7 hr7 => ?_)
                      simp only [Act.put, List.setIfInBounds_toArray, List.set_cons_succ, List.set_cons_zero]
                      refine wpKinds_farith (fun W m hW => by obtain ⟨x, rfl⟩ := hW; exact ⟨x + m, drewN_two⟩) rfl rfl _ _ _ _ _ rfl rfl _ _ _ rfl rfl f1 hr7 (fun r8 hr8 => ?_)
                      simp only [Act.put, List.setIfInBounds_toArray, List.set_cons_succ, List.set_cons_zero]
                      (refine wpKinds_run (.pointer (some ⟨gv, i', none⟩)) rfl rfl (by rintro W ⟨m, rfl⟩; simp [go_sem, hli]) ?_; simp only [Act.put, List.setIfInBounds_toArray, List.set_cons_succ, List.set_cons_zero])
                      refine wpKinds_nil ?_
                      rintro w11' ⟨m11, rfl⟩
                      obtain ⟨O5, G5⟩ := (show Own 41 .f32 gv (gv + 1) (wr.drewN m11) (some ⟨gv, 0, none⟩) r dv V4 from HK4.out).stored hli hr8.2
                      have HG5 := Lib.hid (grownBy_trans HG4.out (⟨G5.os, G5.tape, G5.output, G5.size, G5.block⟩ : World.grownBy wr ((wr.drewN m11).setCell ⟨gv, i', none⟩ (.float .f32 r8)) (some gv)))
                      have HK5 := Lib.hid O5
                      have HV7 := Lib.hid (HP4.out r8 hr8)
                      clear O5 G5 HP4
                      go_wp2
                      go_roundw
                      case rel => exact ⟨i' + 1, _, by omega, by go_num, HK5.out, HV7.out, HG5.out⟩
                      case measure => simp [intOf]; omega
                    · obtain rfl : i' = r := by omega
                      have hdi : decide ((i' : Int) < (i' : Int)) = false := decide_eq_false (by omega)
                      have HK4 := Lib.hid k4
                      have K24 := Lib.hid (K210.out.kept g4 (fun q hq => by cases hq; omega))
                      have HO4 := Lib.hid (HOX.out.left g4)
                      have HV8 : Hid (∀ i, i < i' → vals V4 i = (gsL i' c k Q2 (j + 1)).1 (k * i' + i)) := Lib.hid fun i hi2 => by
                        rw [v4 i hi2, if_pos hi2]
                        show _ = (gsJ i' c k (gsL i' c k Q2 j) j).1 (k * i' + i)
                        rw [← HQ3.out]
                        show _ = lsS (gsS i' k j Q3) (k * i') (j * i') Q3.1 i' (k * i' + i)
                        rw [lsS_in hi2, V1.out i hi2, vw i hi2, HQ3J.out i hi2]
                      clear k4 v4 g4
                      go_wp2
                      go_roundw
                      case rel => exact ⟨j + 1, V4, _, by omega, by go_num, HK4.out, K24.out, HV8.out, HV6.out, HO4.out⟩
                      case measure => simp [intOf]; omega
                · obtain rfl : j = k := by omega
                  have hdj : decide ((j : Int) < (j : Int)) = false := decide_eq_false (by omega)
                  have HK1 := Lib.hid k1
                  have HK2 := Lib.hid k2
                  have HO := Lib.hid ho
                  have R1 : Hid (∀ i, i < r → vals V3 i = (gsR r c j Q (q + 1)).1 (j * r + i)) := Lib.hid (by rw [HQ2.out] at v1; exact v1)
                  have R2 : Hid (∀ t, t < M → vals Y3 t = (gsR r c j Q (q + 1)).2 t) := Lib.hid (by rw [HQ2.out] at v2; exact v2)
                  clear k1 k2 v1 v2 ho
                  go_wp2
                  go_roundw
                  case rel => exact ⟨q + 1, V3, Y3, by omega, by go_num, HK1.out, HK2.out, R1.out, R2.out, HO.out⟩
                  case measure => simp [intOf]; omega
            · obtain rfl : q = 2 := by omega
              have hdq : decide ((2 : Int) < 2) = false := by decide
              obtain ⟨Q3, hQ3⟩ : ∃ Q3, Q3 = gsR r c k Q 2 := ⟨_, rfl⟩
              rw [← hQ3] at v1 v2
              have HQ3 : Hid (gsC r c P (k + 1) = gsD r c k Q3) := Lib.hid (by
                show gsD r c k (gsR r c k (gsC r c P k) 2) = _
                rw [hQ3, HQ.out])
              obtain ⟨H, hH⟩ : ∃ H, H = gsN r k Q3 := ⟨_, rfl⟩
              have HNO : Hid (gsG H = false → gsOk r c P c = false) := Lib.hid fun hg => gsOk_no hlt (by rw [← HQ.out, ← hQ3, ← hH]; exact hg)
              have HYE : Hid (gsG H = true → gsOk r c P (k + 1) = true) := Lib.hid fun hg => by
                show (gsOk r c P k && gsG (gsN r k (gsR r c k (gsC r c P k) 2))) = true
                rw [hok.out, ← HQ.out, ← hQ3, ← hH, hg]; rfl
              have HH := Lib.hid hH
              have HK1 := Lib.hid k1
              have HK2 := Lib.hid k2
              have HO := Lib.hid ho
              have V1 := Lib.hid v1
              have V2' := Lib.hid v2
              have hfv := k1.fs
              clear hQ3 hH k1 k2 v1 v2 ho hok
              go_wp2_with fail
              go_at_call 61
              refine (specDot_any _ _ r _ r _ V2 V2 _ (by omega) (Nat.le_refl _) (by omega) hfv hfv).mono ?_
              rintro e w8' ⟨rs, rfl, frs, m8, rfl⟩
              have fS : FV .f32 rs (gsS r k k Q3) := FV.of_eq frs (dotG_congr fun i hi' => ⟨V1.out i hi', V1.out i hi'⟩)
              have HO8 : Hid (Out2 w6 (wr.drewN m8) gv g2) := Lib.hid ⟨HO.out.os, HO.out.tape, HO.out.output, HO.out.size, HO.out.block⟩
              have K18 : Hid (Own 41 .f32 gv (gv + 1) (wr.drewN m8) (some ⟨gv, 0, none⟩) r dv V2) := HK1
              have K28 : Hid (Own 41 .f32 g2 (g2 + 1) (wr.drewN m8) (some ⟨g2, 0, none⟩) M M Y2) := HK2
              clear HO HK1 HK2 hfv frs
              generalize wr.drewN m8 = w8 at HO8 K18 K28 ⊢
              go_wp2_with fail
              go_at_call 53
              refine (specRoot_any _ fS _).mono ?_
              rintro e w9' ⟨rh, rfl, hrh0, mh, rfl⟩
              have hrh : FV .f32 rh H := FV.of_eq hrh0 HH.out.symm
              have hrh1 := hrh.1
              have HO9 : Hid (Out2 w6 (w8.drewN mh) gv g2) := Lib.hid ⟨HO8.out.os, HO8.out.tape, HO8.out.output, HO8.out.size, HO8.out.block⟩
              have K19 : Hid (Own 41 .f32 gv (gv + 1) (w8.drewN mh) (some ⟨gv, 0, none⟩) r dv V2) := K18
              have K29 : Hid (Own 41 .f32 g2 (g2 + 1) (w8.drewN mh) (some ⟨g2, 0, none⟩) M M Y2) := K28
              clear HO8 K18 K28 hrh0 fS
              generalize w8.drewN mh = w9 at HO9 K19 K29 ⊢
              cases hgt : (ford .f32 H (some 0) == some .gt) with
              | false =>
                obtain ⟨y0, y1, y2⟩ := HO9.out.box (HO6.out.box XR5 (by omega) (by omega) (by omega)) (by omega) (by omega) (by omega)
                obtain ⟨z0, z1, z2⟩ := HO9.out.box (HO6.out.box XS5 (by omega) (by omega) (by omega)) (by omega) (by omega) (by omega)
                have IR := HO9.out.ice (HO6.out.ice IR5 (by omega) (by omega) (by omega)) (by omega) (by omega) (by omega)
                have IS := HO9.out.ice (HO6.out.ice IS5 (by omega) (by omega) (by omega)) (by omega) (by omega) (by omega)
                have B6 := B5.trans (HO6.out.bel (B := w.heap.size) (by omega) (by omega) B5.size)
                have B9 := B6.trans (HO9.out.bel (B := w.heap.size) (by omega) (by omega) B6.size)
                go_wp2_with fail
                (try rw [Exit.noGoto_ret])
                refine bodyPost_ret (v := .tuple #[.agg #[.int .i64 0, .int .i64 0, .slice none 0 0], .agg #[.int .i64 0, .int .i64 0, .slice none 0 0], .bool false]) (by simp [results, Try.results38, go_sem, y0, y1, y2, z0, z1, z2]) rfl ?_
                exact MirRead.no (HNO.out hgt) rfl (by repeat first | (with_reducible exact B9) | (with_reducible refine Below.setCell ?_ (by first | exact Nat.le_refl _ | (simp; done) | (simp; omega) | omega) _) | (with_reducible refine Below.alloc ?_ (by first | exact Nat.le_refl _ | (simp; done) | (simp; omega) | omega) _) | (with_reducible refine below_drewN ?_ _) | (with_reducible refine Below.drew ?_))
              | true =>
                obtain ⟨y0, y1, y2⟩ := HO9.out.box XU6 lb6 m4 l8
                have HGT := Lib.hid hgt
                have hkk : k * c + k < M := by rw [HM.out]; exact place_lt hlt hlt
                obtain ⟨hce, hfr, _, _, _, wf2⟩ := K29.out.cell hkk
                obtain ⟨O4, G4⟩ := K29.out.stored hkk hrh.2
                have HO11 := Lib.hid (HO9.out.right G4)
                have K111 := Lib.hid (K19.out.kept G4 (fun q hq => by cases hq; omega))
                have K211 := Lib.hid O4
                obtain ⟨kc, hkc⟩ : ∃ kc, kc = k * c := ⟨_, rfl⟩
                have hw1 : IntKind.i64.wrap ((k : Int) * (c : Int)) = (kc : Int) := by rw [hkc, ← Int.natCast_mul]; exact IntWalk.i64_in _ (by omega)
                have hw2 : IntKind.i64.wrap ((kc : Int) + (k : Int)) = ((k * c + k : Nat) : Int) := by rw [hkc, ← Int.natCast_add]; exact IntWalk.i64_in _ (by omega)
                have HV5 : Hid (∀ t, t < M → vals (fun t => if t = k * c + k then rh else Y2 t) t = (gsC r c P (k + 1)).2 t) := Lib.hid fun t ht => by
                  rw [HQ3.out]
                  show cn .f32 (if t = k * c + k then rh else Y2 t) = (if t = k * c + k then gsN r k Q3 else Q3.2 t)
                  by_cases e : t = k * c + k
                  · rw [if_pos e, if_pos e, ← HH.out]; exact hrh.1
                  · rw [if_neg e, if_neg e]; exact V2'.out t ht
                clear hkc HO9 K19 K29 O4 G4 wf2
                generalize k * c + k = J at hkk hce hfr HO11 K111 K211 hw2 HV5
                go_wp2
                clear hce hfr
                generalize (w9.setCell ⟨g2, J, none⟩ (.float .f32 rh)) = w11 at HO11 K111 K211 ⊢
                have XB11 := HO11.out.box XB6 lb5 m3 n2
                have KG11 := K1H.out.out2 HO11.out (by omega) (by omega)
                have s11 := HO11.out.size
                go_loopw [114] (fun i wr => ∃ (i' : Nat) (X' : Nat → Nat), i' ≤ r ∧ i = .int .i64 i' ∧ Own 41 .f32 g1 (g1 + 1) wr (some ⟨g1, 0, none⟩) N N X' ∧ (∀ i q, i < r → q < c → vals X' (i * c + q) = if q = k ∧ i < i' then fop .quo .f32 (vals V2 i) H else vals X (i * c + q)) ∧ w11.grownBy wr (some g1)) (fun i _ => r - (intOf i).toNat)
                case atStart => exact ⟨0, X, Nat.zero_le _, rfl, KG11, fun i q _ _ => by rw [if_neg (fun e => absurd e.2 (Nat.not_lt_zero _))], World.grownBy.refl _ _⟩
                case round =>
                  obtain ⟨i', X4, hi', rfl, k4, v4, g4⟩ := hrel
                  by_cases hli : i' < r
                  · have hdi : decide ((i' : Int) < (r : Int)) = true := decide_eq_true (by omega)
                    obtain ⟨u0, u1, u2⟩ := (Out2.left (Out2.refl w11 g1 g2) g4).box XB11 (by omega) l3 n2
                    have KVr := K111.out.kept g4 (fun q hq => by cases hq; omega)
                    obtain ⟨ce1, fr1, _, _, _, wf1⟩ := KVr.cell hli
                    have f1 : FV .f32 (V2 i') (vals V2 i') := ⟨rfl, wf1⟩
                    have hpl : i' * c + k < N := by rw [HN.out]; exact place_lt hli hlt
                    obtain ⟨ce2, fr2, _, _, _, _⟩ := k4.cell hpl
                    obtain ⟨ic, hic⟩ : ∃ ic, ic = i' * c := ⟨_, rfl⟩
                    have hw3 : IntKind.i64.wrap ((i' : Int) * (c : Int)) = (ic : Int) := by rw [hic, ← Int.natCast_mul]; exact IntWalk.i64_in _ (by omega)
                    have hw4 : IntKind.i64.wrap ((ic : Int) + (k : Int)) = ((i' * c + k : Nat) : Int) := by rw [hic, ← Int.natCast_add]; exact IntWalk.i64_in _ (by omega)
                    have HP4 : Hid (∀ u, FV .f32 u (fop .quo .f32 (vals V2 i') H) → ∀ i q, i < r → q < c → vals (fun t => if t = i' * c + k then u else X4 t) (i * c + q) = if q = k ∧ i < i' + 1 then fop .quo .f32 (vals V2 i) H else vals X (i * c + q)) := Lib.hid fun u hu i q hi2 hq2 => by
                      show cn .f32 (if i * c + q = i' * c + k then u else X4 (i * c + q)) = _
                      by_cases e : i * c + q = i' * c + k
                      · have e1 : i = i' := by have := congrArg (· / c) e; simpa [(place_div hq2).1, (place_div hlt).1] using this
                        have e2 : q = k := by rw [e1] at e; omega
                        rw [if_pos e, if_pos ⟨e2, by omega⟩, e1]; exact hu.1
                      · rw [if_neg e]
                        have hh := v4 i q hi2 hq2
                        show vals X4 (i * c + q) = _
                        rw [hh]
                        by_cases e2 : q = k ∧ i < i'
                        · rw [if_pos e2, if_pos ⟨e2.1, by omega⟩]
                        · rw [if_neg e2, if_neg (fun e3 => by
                            have e4 : i = i' := by
                              rcases Nat.lt_or_ge i i' with h5 | h5
                              · exact absurd ⟨e3.1, h5⟩ e2
                              · omega
                            exact e (by rw [e4, e3.1]))]
                    have HK4 := Lib.hid k4
                    have HG4 := Lib.hid g4
                    generalize hv1 : V2 i' = x1 at ce1 f1
                    generalize vals V2 i' = y1 at f1 HP4
                    clear k4 v4 g4 KVr wf1 hv1 hic ce2 fr2
                    generalize i' * c + k = J2 at hpl hw4 HP4
                    go_wp2
                    refine wp_region_kinds (fun w' => ∃ m, w' = wr.drewN m) (fun i => if i = 13 then 1 else 0) 15 ⟨1, rfl⟩ (by kernel_rfl) (by kernel_rfl) (by kernel_rfl) ?_
                    simp only [List.take_succ_cons, List.take_zero, List.drop_succ_cons, List.drop_zero]
                    ((with_reducible refine wpKinds_plain ?hwant ?hkind ?hplain (fun K hK => ?_)); (case hwant => first | (simp [Region.wanted, yielded]; done) | rfl); (case hkind => rfl); (case hplain => rfl); go_big_quiet_op; (first | refine hK _ ?_ | refine ⟨_, fun _ _ => rfl, hK _ ?_⟩); clear hK K)
                    (refine wpKinds_run (.slice (some ⟨g1, 0, none⟩) N N) rfl rfl (by rintro W ⟨m, rfl⟩; simp [go_sem, u2]) ?_; simp only [Act.put, List.setIfInBounds_toArray, List.set_cons_succ, List.set_cons_zero])
                    ((with_reducible refine wpKinds_plain ?hwant ?hkind ?hplain (fun K hK => ?_)); (case hwant => first | (simp [Region.wanted, yielded]; done) | rfl); (case hkind => rfl); (case hplain => rfl); go_big_quiet_op; (first | refine hK _ ?_ | refine ⟨_, fun _ _ => rfl, hK _ ?_⟩); clear hK K)
                    ((with_reducible refine wpKinds_plain ?hwant ?hkind ?hplain (fun K hK => ?_)); (case hwant => first | (simp [Region.wanted, yielded]; done) | rfl); (case hkind => rfl); (case hplain => rfl); go_big_quiet_op; (first | refine hK _ ?_ | refine ⟨_, fun _ _ => rfl, hK _ ?_⟩); clear hK K)
                    (refine wpKinds_run (.int .i64 c) rfl rfl (by rintro W ⟨m, rfl⟩; simp [go_sem, u1]) ?_; simp only [Act.put, List.setIfInBounds_toArray, List.set_cons_succ, List.set_cons_zero])
                    (refine wpKinds_run (.int .i64 ic) rfl rfl (by rintro W ⟨m, rfl⟩; simp [go_sem, hw3]) ?_; simp only [Act.put, List.setIfInBounds_toArray, List.set_cons_succ, List.set_cons_zero])
                    ((with_reducible refine wpKinds_plain ?hwant ?hkind ?hplain (fun K hK => ?_)); (case hwant => first | (simp [Region.wanted, yielded]; done) | rfl); (case hkind => rfl); (case hplain => rfl); go_big_quiet_op; (first | refine hK _ ?_ | refine ⟨_, fun _ _ => rfl, hK _ ?_⟩); clear hK K)
                    (refine wpKinds_run (.int .i64 J2) rfl rfl (by rintro W ⟨m, rfl⟩; simp [go_sem, hw4]) ?_; simp only [Act.put, List.setIfInBounds_toArray, List.set_cons_succ, List.set_cons_zero])
                    ((with_reducible refine wpKinds_plain ?hwant ?hkind ?hplain (fun K hK => ?_)); (case hwant => first | (simp [Region.wanted, yielded]; done) | rfl); (case hkind => rfl); (case hplain => rfl); go_big_quiet_op; (first | refine hK _ ?_ | refine ⟨_, fun _ _ => rfl, hK _ ?_⟩); clear hK K)
                    ((with_reducible refine wpKinds_plain ?hwant ?hkind ?hplain (fun K hK => ?_)); (case hwant => first | (simp [Region.wanted, yielded]; done) | rfl); (case hkind => rfl); (case hplain => rfl); go_big_quiet_op; (first | refine hK _ ?_ | refine ⟨_, fun _ _ => rfl, hK _ ?_⟩); clear hK K)
                    (refine wpKinds_run (.pointer (some ⟨gv, i', none⟩)) rfl rfl (by rintro W ⟨m, rfl⟩; simp [go_sem, hli]) ?_; simp only [Act.put, List.setIfInBounds_toArray, List.set_cons_succ, List.set_cons_zero])
                    (refine wpKinds_run (.float .f32 x1) rfl rfl (by rintro W ⟨m, rfl⟩; simp [go_sem, ce1]) ?_; simp only [Act.put, List.setIfInBounds_toArray, List.set_cons_succ, List.set_cons_zero])
                    ((with_reducible refine wpKinds_plain ?hwant ?hkind ?hplain (fun K hK => ?_)); (case hwant => first | (simp [Region.wanted, yielded]; done) | rfl); (case hkind => rfl); (case hplain => rfl); go_big_quiet_op; (first | refine hK _ ?_ | refine ⟨_, fun _ _ => rfl, hK _ ?_⟩); clear hK K)
                    refine wpKinds_farith (fun W m hW => by obtain ⟨x, rfl⟩ := hW; exact ⟨x + m, drewN_two⟩) rfl rfl _ _ _ _ _ rfl rfl _ _ _ rfl rfl f1 hrh (fun r7 hr7 => ?_)
                    simp only [Act.put, List.setIfInBounds_toArray, List.set_cons_succ, List.set_cons_zero]
                    (refine wpKinds_run (.pointer (some ⟨g1, J2, none⟩)) rfl rfl (by rintro W ⟨m, rfl⟩; simp [go_sem, hpl]) ?_; simp only [Act.put, List.setIfInBounds_toArray, List.set_cons_succ, List.set_cons_zero])
                    refine wpKinds_nil ?_
                    rintro w12' ⟨m12, rfl⟩
                    obtain ⟨O5, G5⟩ := (show Own 41 .f32 g1 (g1 + 1) (wr.drewN m12) (some ⟨g1, 0, none⟩) N N X4 from HK4.out).stored hpl hr7.2
                    have HG5 := Lib.hid (grownBy_trans HG4.out (⟨G5.os, G5.tape, G5.output, G5.size, G5.block⟩ : World.grownBy wr ((wr.drewN m12).setCell ⟨g1, J2, none⟩ (.float .f32 r7)) (some g1)))
                    have HK5 := Lib.hid O5
                    have HV7 := Lib.hid (HP4.out r7 hr7)
                    obtain ⟨ce2, fr2, _, _, _, _⟩ := (show Own 41 .f32 g1 (g1 + 1) (wr.drewN m12) (some ⟨g1, 0, none⟩) N N X4 from HK4.out).cell hpl
                    clear O5 G5 HP4
                    go_wp2
                    go_roundw
                    case rel => exact ⟨i' + 1, _, by omega, by go_num, HK5.out, HV7.out, HG5.out⟩
                    case measure => simp [intOf]; omega
                  · obtain rfl : i' = r := by omega
                    have hdi : decide ((i' : Int) < (i' : Int)) = false := decide_eq_false (by omega)
                    have K1N := Lib.hid k4
                    have K2N := Lib.hid (K211.out.kept g4 (fun q hq => by cases hq; omega))
                    have HON := Lib.hid (HO6.out.skip HO11.out (by omega) g4)
                    have HVN : Hid (∀ i q, i < i' → q < k + 1 → vals X4 (i * c + q) = (gsC i' c P (k + 1)).1 (q * i' + i)) := Lib.hid fun i q hi2 hq2 => by
                      rw [v4 i q hi2 (by omega)]
                      by_cases e : q = k
                      · rw [if_pos ⟨e, hi2⟩, e, HQ3.out]
                        show _ = dvS (gsN i' k Q3) (k * i') Q3.1 i' (k * i' + i)
                        rw [dvS_in hi2, V1.out i hi2, HH.out]
                      · have e1 : (q + 1) * i' ≤ k * i' := Nat.mul_le_mul_right i' (by omega)
                        rw [Nat.succ_mul] at e1
                        rw [if_neg (fun h => e h.1), HV1.out i q hi2 (by omega), gsC_out (.inl (by omega))]
                    have HOK := Lib.hid (HYE.out HGT.out)
                    clear k4 v4 g4
                    go_wp2
                    go_roundw
                    case rel => exact ⟨k + 1, X4, _, by omega, by go_num, K1N.out, K2N.out, HVN.out, HV5.out, HOK, HON.out⟩
                    case measure => simp [intOf]; omega
        · obtain rfl : k = c := by omega
          have hdl : decide ((k : Int) < (k : Int)) = false := decide_eq_false (by omega)
          obtain ⟨p0, p1, p2⟩ := ho.box X5 (by omega) l3 n2
          obtain ⟨q0, q1, q2⟩ := ho.box X6 (by omega) n3 l8
          obtain ⟨d0, d1, d2⟩ := ho.box XR5 (by omega) (by omega) (by omega)
          obtain ⟨e0, e1, e2⟩ := ho.box XS5 (by omega) (by omega) (by omega)
          have IR := ho.ice IR5 (by omega) (by omega) (by omega)
          have IS := ho.ice IS5 (by omega) (by omega) (by omega)
          have XQ : Box wr b5 r k (some ⟨g1, 0, none⟩) N N := ⟨p0, p1, p2⟩
          have XU : Box wr b6 k k (some ⟨g2, 0, none⟩) M M := ⟨q0, q1, q2⟩
          have BK := B5.trans (ho.bel (B := w.heap.size) (by omega) (by omega) B5.size)
          have hsr := ho.size
          have hA1 : ∀ W, Box W b5 r k (some ⟨g1, 0, none⟩) N N → FS .f32 W (some ⟨g1, 0, none⟩) N N X → Calls Try.prog 37 #[.pointer (some ⟨b5, 0, none⟩)] W fun e w' => e = .returned (.bool (allFin (vals X) N)) ∧ ∃ m, w' = W.drewN m := fun W hW hF => by
            have hh := specIs_any b5 r k _ N N X W (by omega) hW hF
            rwa [validB_nat h1 h12 c1 c12 HN.out] at hh
          have hA2 : ∀ W, Box W b6 k k (some ⟨g2, 0, none⟩) M M → FS .f32 W (some ⟨g2, 0, none⟩) M M Y → Calls Try.prog 37 #[.pointer (some ⟨b6, 0, none⟩)] W fun e w' => e = .returned (.bool (allFin (vals Y) M)) ∧ ∃ m, w' = W.drewN m := fun W hW hF => by
            have hh := specIs_any b6 k k _ M M Y W (by omega) hW hF
            rwa [validB_nat c1 c12 c1 c12 HM.out] at hh
          have lr1 : w.heap.size < wr.heap.size := by omega
          have lr2 : w.heap.size + 1 < wr.heap.size := by omega
          have hb1 : ∀ W, Out2 wr W w.heap.size (w.heap.size + 1) → Box W b5 r k (some ⟨g1, 0, none⟩) N N := fun W hW => hW.box XQ (by omega) (by omega) (by omega)
          have hb2 : ∀ W, Out2 wr W w.heap.size (w.heap.size + 1) → Box W b6 k k (some ⟨g2, 0, none⟩) M M := fun W hW => hW.box XU (by omega) (by omega) (by omega)
          have hf1 : ∀ W, Out2 wr W w.heap.size (w.heap.size + 1) → FS .f32 W (some ⟨g1, 0, none⟩) N N X := fun W hW => (k1.out2 hW (.inl (by omega)) (.inl (by omega))).fs
          have hf2 : ∀ W, Out2 wr W w.heap.size (w.heap.size + 1) → FS .f32 W (some ⟨g2, 0, none⟩) M M Y := fun W hW => (k2.out2 hW (.inl (by omega)) (.inl (by omega))).fs
          have hM0 : MrF wr w.heap.size (w.heap.size + 1) r k (some ⟨g1, 0, none⟩) N N k k (some ⟨g2, 0, none⟩) M M 0 wr := ⟨⟨Out2.refl _ _ _, IR, IS⟩, ⟨d0, d1, d2⟩, ⟨e0, e1, e2⟩⟩
          have hM1 := MrF.put1 lr2 (by omega) hM0
          have HK1 := Lib.hid k1
          have HK2 := Lib.hid k2
          have HV1 := Lib.hid v1
          have HV2 := Lib.hid v2
          clear k1 k2 v1 v2 ho XQ XU d0 d1 d2 e0 e1 e2 IR IS
          obtain ⟨fu, hfu⟩ : ∃ b, b = allFin (vals Y) M := ⟨_, rfl⟩
          rw [← hfu] at hA2
          have HFU := Lib.hid hfu
          clear hfu
          cases hfx : allFin (vals X) N with
          | true =>
            rw [hfx] at hA1
            have HBB : Hid (fu = (allFin (vals X) N && allFin (vals Y) M)) := Lib.hid (by rw [hfx, HFU.out]; rfl)
            clear hfx
            go_wp2
            refine HB.wp_region_heavy (fun W => Out2 wr W w.heap.size (w.heap.size + 1)) (fun s a' W => (fun s l W => MrF wr w.heap.size (w.heap.size + 1) r k (some ⟨g1, 0, none⟩) N N k k (some ⟨g2, 0, none⟩) M M s W) s (([] : List Nat).map fun d => a'.tmps.getD d undef) W) (fun i => if i = 6 then some 0 else if i = 7 then some 1 else none) 8 2
              (HB.HClass.of (slots := []) (F := fun s l W => MrF wr w.heap.size (w.heap.size + 1) r k (some ⟨g1, 0, none⟩) N N k k (some ⟨g2, 0, none⟩) M M s W) (by kernel_rfl) (fun s l W h => h.base.out) (fun s l W W' hb h => MrF.more lr1 lr2 hb h)) (by exact MrF.more lr1 lr2 ((Below.refl _ _).drew) hM0) (by kernel_rfl) (by kernel_rfl) (by kernel_rfl) (by kernel_rfl) ?_
            simp only [List.take_succ_cons, List.take_zero, List.drop_succ_cons, List.drop_zero]
            (refine HB.wpHeavy_run (.agg #[.int .i64 r, .int .i64 k, .slice (some ⟨g1, 0, none⟩) N N]) rfl rfl (by intro W hW; obtain ⟨u0, u1, u2⟩ := hb1 W hW; simp [go_sem, BigFrame.eval_const, BigFrame.eval_global, BigFrame.eval_func, u0, u1, u2]) ?_; simp only [Act.put, List.setIfInBounds_toArray, List.set_cons_succ, List.set_cons_zero])
            (refine HB.wpHeavy_run (.agg #[.int .i64 k, .int .i64 k, .slice (some ⟨g2, 0, none⟩) M M]) rfl rfl (by intro W hW; obtain ⟨u0, u1, u2⟩ := hb2 W hW; simp [go_sem, BigFrame.eval_const, BigFrame.eval_global, BigFrame.eval_func, u0, u1, u2]) ?_; simp only [Act.put, List.setIfInBounds_toArray, List.set_cons_succ, List.set_cons_zero])
            (refine HB.wpHeavy_call (f := 37) (args := #[.pointer (some ⟨b5, 0, none⟩)]) (.bool true) rfl rfl (by intro W; simp [go_sem, BigFrame.eval_const, BigFrame.eval_global, BigFrame.eval_func]) (by kernel_rfl) (by intro W hW; refine (hA1 W (hb1 W hW) (hf1 W hW)).mono ?_; rintro e w' ⟨rfl, m, rfl⟩; exact ⟨rfl, below_drewN (Below.refl _ _) _⟩) ?_; simp only [Act.put, List.setIfInBounds_toArray, List.set_cons_succ, List.set_cons_zero])
            (refine HB.wpHeavy_plain rfl rfl rfl (fun K hK => ?_); go_big_quiet_op; (first | refine hK _ ?_ | refine ⟨_, fun _ _ => rfl, hK _ ?_⟩ | refine ⟨_, fun _ _ _ => rfl, hK _ ?_⟩); clear hK K)
            (refine HB.wpHeavy_call (f := 37) (args := #[.pointer (some ⟨b6, 0, none⟩)]) (.bool fu) rfl rfl (by intro W; simp [go_sem, BigFrame.eval_const, BigFrame.eval_global, BigFrame.eval_func]) (by kernel_rfl) (by intro W hW; refine (hA2 W (hb2 W hW) (hf2 W hW)).mono ?_; rintro e w' ⟨rfl, m, rfl⟩; exact ⟨rfl, below_drewN (Below.refl _ _) _⟩) ?_; simp only [Act.put, List.setIfInBounds_toArray, List.set_cons_succ, List.set_cons_zero])
            (refine HB.wpHeavy_run (.bool fu) rfl rfl (by intro W hW; simp [go_sem, BigFrame.eval_const, BigFrame.eval_global, BigFrame.eval_func]) ?_; simp only [Act.put, List.setIfInBounds_toArray, List.set_cons_succ, List.set_cons_zero])
            refine HB.wpHeavy_step rfl rfl ⟨_, hM0⟩ ?_
            intro W0 hW0
            obtain ⟨c00, c01, c02⟩ := MrF.box1 hW0
            have fr0 := hW0.base.i1
            have hrun0 : ∀ {o : Oper} {a : Act}, (execOp a.eval o).run Try.prog W0 = .ok .skip (set3 W0 w.heap.size (r : Int) (k : Int) (some ⟨g1, 0, none⟩) N N) → (execOp a.eval o).run Try.prog W0 = .ok .skip (set3 W0 w.heap.size (r : Int) (k : Int) (some ⟨g1, 0, none⟩) N N) := fun h => h
            rw [hrun0 (by unfold set3; simp [go_sem, BigFrame.eval_const, BigFrame.eval_global, BigFrame.eval_func, c00, c01, c02, fr0])]
            refine ⟨MrF.put1 lr2 (by omega) hW0, ?_⟩
            clear c00 c01 c02 fr0 hrun0
            (try simp only [Act.put, List.setIfInBounds_toArray, List.set_cons_succ, List.set_cons_zero])
            refine HB.wpHeavy_step rfl rfl ⟨_, hM1⟩ ?_
            intro W1 hW1
            obtain ⟨c10, c11, c12⟩ := MrF.box2 hW1
            have fr1 := hW1.base.i2
            have hrun1 : ∀ {o : Oper} {a : Act}, (execOp a.eval o).run Try.prog W1 = .ok .skip (set3 W1 (w.heap.size + 1) (k : Int) (k : Int) (some ⟨g2, 0, none⟩) M M) → (execOp a.eval o).run Try.prog W1 = .ok .skip (set3 W1 (w.heap.size + 1) (k : Int) (k : Int) (some ⟨g2, 0, none⟩) M M) := fun h => h
            rw [hrun1 (by unfold set3; simp [go_sem, BigFrame.eval_const, BigFrame.eval_global, BigFrame.eval_func, c10, c11, c12, fr1])]
            refine ⟨MrF.put2 lr1 (by omega) hW1, ?_⟩
            clear c10 c11 c12 fr1 hrun1
            (try simp only [Act.put, List.setIfInBounds_toArray, List.set_cons_succ, List.set_cons_zero])
            refine HB.wpHeavy_nil ?_
            intro w9 hC
            have hC2 : MrF wr w.heap.size (w.heap.size + 1) r k (some ⟨g1, 0, none⟩) N N k k (some ⟨g2, 0, none⟩) M M 2 w9 := hC
            obtain ⟨hB9, ⟨y0, y1, y2⟩, y3, y4, y5⟩ := hC2
            have HS := Lib.hid hB9.out
            clear hC hB9 hM0 hM1
            go_wp2
            (try rw [Exit.noGoto_ret])
            refine bodyPost_ret (v := .tuple #[.agg #[.int .i64 (r : Int), .int .i64 (k : Int), .slice (some ⟨g1, 0, none⟩) N N], .agg #[.int .i64 (k : Int), .int .i64 (k : Int), .slice (some ⟨g2, 0, none⟩) M M], .bool fu]) (by simp [results, Try.results38, go_sem, y0, y1, y2, y3, y4, y5]) rfl ?_
            exact MirRead.yes hok.out HBB.out (HK1.out.out2 HS.out (.inl (by omega)) (.inl (by omega))).fs HV1.out (HK2.out.out2 HS.out (.inl (by omega)) (.inl (by omega))).fs HV2.out (BK.trans (HS.out.bel (Nat.le_refl _) (by omega) BK.size))
          | false =>
            rw [hfx] at hA1
            have HBB : Hid (false = (allFin (vals X) N && allFin (vals Y) M)) := Lib.hid (by rw [hfx]; rfl)
            clear hfx
            go_wp2
            refine HB.wp_region_heavy (fun W => Out2 wr W w.heap.size (w.heap.size + 1)) (fun s a' W => (fun s l W => MrF wr w.heap.size (w.heap.size + 1) r k (some ⟨g1, 0, none⟩) N N k k (some ⟨g2, 0, none⟩) M M s W) s (([] : List Nat).map fun d => a'.tmps.getD d undef) W) (fun i => if i = 6 then some 0 else if i = 7 then some 1 else none) 8 2
              (HB.HClass.of (slots := []) (F := fun s l W => MrF wr w.heap.size (w.heap.size + 1) r k (some ⟨g1, 0, none⟩) N N k k (some ⟨g2, 0, none⟩) M M s W) (by kernel_rfl) (fun s l W h => h.base.out) (fun s l W W' hb h => MrF.more lr1 lr2 hb h)) (by exact MrF.more lr1 lr2 ((Below.refl _ _).drew) hM0) (by kernel_rfl) (by kernel_rfl) (by kernel_rfl) (by kernel_rfl) ?_
            simp only [List.take_succ_cons, List.take_zero, List.drop_succ_cons, List.drop_zero]
            (refine HB.wpHeavy_run (.agg #[.int .i64 r, .int .i64 k, .slice (some ⟨g1, 0, none⟩) N N]) rfl rfl (by intro W hW; obtain ⟨u0, u1, u2⟩ := hb1 W hW; simp [go_sem, BigFrame.eval_const, BigFrame.eval_global, BigFrame.eval_func, u0, u1, u2]) ?_; simp only [Act.put, List.setIfInBounds_toArray, List.set_cons_succ, List.set_cons_zero])
            (refine HB.wpHeavy_run (.agg #[.int .i64 k, .int .i64 k, .slice (some ⟨g2, 0, none⟩) M M]) rfl rfl (by intro W hW; obtain ⟨u0, u1, u2⟩ := hb2 W hW; simp [go_sem, BigFrame.eval_const, BigFrame.eval_global, BigFrame.eval_func, u0, u1, u2]) ?_; simp only [Act.put, List.setIfInBounds_toArray, List.set_cons_succ, List.set_cons_zero])
            (refine HB.wpHeavy_call (f := 37) (args := #[.pointer (some ⟨b5, 0, none⟩)]) (.bool false) rfl rfl (by intro W; simp [go_sem, BigFrame.eval_const, BigFrame.eval_global, BigFrame.eval_func]) (by kernel_rfl) (by intro W hW; refine (hA1 W (hb1 W hW) (hf1 W hW)).mono ?_; rintro e w' ⟨rfl, m, rfl⟩; exact ⟨rfl, below_drewN (Below.refl _ _) _⟩) ?_; simp only [Act.put, List.setIfInBounds_toArray, List.set_cons_succ, List.set_cons_zero])
            (refine HB.wpHeavy_plain rfl rfl rfl (fun K hK => ?_); go_big_quiet_op; (first | refine hK _ ?_ | refine ⟨_, fun _ _ => rfl, hK _ ?_⟩ | refine ⟨_, fun _ _ _ => rfl, hK _ ?_⟩); clear hK K)
            (refine heavy_skip rfl rfl ?_; simp only [Act.put, List.setIfInBounds_toArray, List.set_cons_succ, List.set_cons_zero])
            (refine HB.wpHeavy_run (.bool false) rfl rfl (by intro W hW; simp [go_sem, BigFrame.eval_const, BigFrame.eval_global, BigFrame.eval_func]) ?_; simp only [Act.put, List.setIfInBounds_toArray, List.set_cons_succ, List.set_cons_zero])
            refine HB.wpHeavy_step rfl rfl ⟨_, hM0⟩ ?_
            intro W0 hW0
            obtain ⟨c00, c01, c02⟩ := MrF.box1 hW0
            have fr0 := hW0.base.i1
            have hrun0 : ∀ {o : Oper} {a : Act}, (execOp a.eval o).run Try.prog W0 = .ok .skip (set3 W0 w.heap.size (r : Int) (k : Int) (some ⟨g1, 0, none⟩) N N) → (execOp a.eval o).run Try.prog W0 = .ok .skip (set3 W0 w.heap.size (r : Int) (k : Int) (some ⟨g1, 0, none⟩) N N) := fun h => h
            rw [hrun0 (by unfold set3; simp [go_sem, BigFrame.eval_const, BigFrame.eval_global, BigFrame.eval_func, c00, c01, c02, fr0])]
            refine ⟨MrF.put1 lr2 (by omega) hW0, ?_⟩
            clear c00 c01 c02 fr0 hrun0
            (try simp only [Act.put, List.setIfInBounds_toArray, List.set_cons_succ, List.set_cons_zero])
            refine HB.wpHeavy_step rfl rfl ⟨_, hM1⟩ ?_
            intro W1 hW1
            obtain ⟨c10, c11, c12⟩ := MrF.box2 hW1
            have fr1 := hW1.base.i2
            have hrun1 : ∀ {o : Oper} {a : Act}, (execOp a.eval o).run Try.prog W1 = .ok .skip (set3 W1 (w.heap.size + 1) (k : Int) (k : Int) (some ⟨g2, 0, none⟩) M M) → (execOp a.eval o).run Try.prog W1 = .ok .skip (set3 W1 (w.heap.size + 1) (k : Int) (k : Int) (some ⟨g2, 0, none⟩) M M) := fun h => h
            rw [hrun1 (by unfold set3; simp [go_sem, BigFrame.eval_const, BigFrame.eval_global, BigFrame.eval_func, c10, c11, c12, fr1])]
            refine ⟨MrF.put2 lr1 (by omega) hW1, ?_⟩
            clear c10 c11 c12 fr1 hrun1
            (try simp only [Act.put, List.setIfInBounds_toArray, List.set_cons_succ, List.set_cons_zero])
            refine HB.wpHeavy_nil ?_
            intro w9 hC
            have hC2 : MrF wr w.heap.size (w.heap.size + 1) r k (some ⟨g1, 0, none⟩) N N k k (some ⟨g2, 0, none⟩) M M 2 w9 := hC
            obtain ⟨hB9, ⟨y0, y1, y2⟩, y3, y4, y5⟩ := hC2
            have HS := Lib.hid hB9.out
            clear hC hB9 hM0 hM1
            go_wp2
            (try rw [Exit.noGoto_ret])
            refine bodyPost_ret (v := .tuple #[.agg #[.int .i64 (r : Int), .int .i64 (k : Int), .slice (some ⟨g1, 0, none⟩) N N], .agg #[.int .i64 (k : Int), .int .i64 (k : Int), .slice (some ⟨g2, 0, none⟩) M M], .bool false]) (by simp [results, Try.results38, go_sem, y0, y1, y2, y3, y4, y5]) rfl ?_
            exact MirRead.yes hok.out HBB.out (HK1.out.out2 HS.out (.inl (by omega)) (.inl (by omega))).fs HV1.out (HK2.out.out2 HS.out (.inl (by omega)) (.inl (by omega))).fs HV2.out (BK.trans (HS.out.bel (Nat.le_refl _) (by omega) BK.size))
end Go.Proofs.Ytcibjkadlndejaa
