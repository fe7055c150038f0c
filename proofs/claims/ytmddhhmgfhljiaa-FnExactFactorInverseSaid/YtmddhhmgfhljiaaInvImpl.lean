/- Helper: the inverse that a factor tells, of the program. Conditions: none. -/
import Derived.Test.YtmddhhmgfhljiaaFactorSolveImpl
import Derived.Test.YtmddhhmgfhljiaaFlipWalks
import Derived.Test.YtmddhhmgfhljiaaUnitKey
import Derived.Test.YtmddhhmgfhljiaaCopy
import Derived.Deep.RegionHeld3
set_option linter.unusedVariables false
set_option linter.unusedSimpArgs false
namespace Go.Proofs.Ytmddhhmgfhljiaa
open Go.RowKit

/-- A row of the unit. -/
def eRow (r j k : Nat) : Nat := unitZ r r (j * r + k)
theorem unitZ_cn (c j t : Nat) : cn .f32 (unitZ c j t) = some (unitZ c j t) := by
  unfold unitZ
  split <;> kernel_rfl
theorem FS.sameI {k : FloatKind} {w : World} {a : Option Addr} {n c : Nat} {Z Y : Nat → Nat} (h : FS k w a n c Z) (e : ∀ j, j < n → Z j = Y j) : FS k w a n c Y :=
  ⟨h.1, h.2.1, fun i hi => by
    obtain ⟨b, off, q1, q2, q3, q4⟩ := h.2.2 i hi
    exact ⟨b, off, q1, q2, by rw [← e i hi]; exact q3, by rw [← e i hi]; exact q4⟩⟩
theorem unit_dat {w : World} {a : Option Addr} {n c r : Nat} {Y : Nat → Nat} (h : FS .f32 w a n c Y) (e : ∀ t, t < n → vals Y t = unitV r t) : FS .f32 w a n c (unitZ r r) :=
  FS.sameI h fun t ht => by
    have f : FV .f32 (Y t) (vals Y t) := (h.at ht).elim fun _ q => q.elim fun _ q => q.2.2.2
    rw [e t ht] at f
    have : unitV r t = some (unitZ r r t) := unitZ_cn r r t
    rw [this] at f
    exact f.eq
def allJ (f : Nat → Bool) : Nat → Bool
  | 0 => true
  | n + 1 => allJ f n && f n
theorem allJ_lt {f : Nat → Bool} : ∀ {n i : Nat}, allJ f n = true → i < n → f i = true
  | 0, _, _, h => by omega
  | n + 1, i, h, hi => by
    simp only [allJ, Bool.and_eq_true] at h
    by_cases e : i = n
    · subst e; exact h.2
    · exact allJ_lt h.1 (by omega)
theorem allJ_no {f : Nat → Bool} {n i : Nat} (hi : i < n) (h : f i = false) : allJ f n = false := by
  cases e : allJ f n with
  | false => rfl
  | true => rw [allJ_lt e hi] at h; cases h
theorem Own.addrI {T : TypeId} {k : FloatKind} {B U : Nat} {w : World} {a : Option Addr} {n c : Nat} {Z : Nat → Nat} (h : Own T k B U w a n c Z) (hn : 0 < n) : ∃ g, a = some ⟨g, 0, none⟩ := by
  rcases h with ⟨_, h0, _⟩ | ⟨g, xs, rfl, _⟩
  · omega
  · exact ⟨g, rfl⟩
theorem heldI {w0 W w' : World} {b1 b2 : Nat} {u0 u1 u2 u3 v0 v1 v2 : Value} (hs : W.cell? ⟨b1, 0, none⟩ = some u0 ∧ W.cell? ⟨b1, 1, none⟩ = some u1 ∧ W.cell? ⟨b1, 2, none⟩ = some u2 ∧ W.cell? ⟨b1, 3, none⟩ = some u3 ∧ W.cell? ⟨b2, 0, none⟩ = some v0 ∧ W.cell? ⟨b2, 1, none⟩ = some v1 ∧ W.cell? ⟨b2, 2, none⟩ = some v2 ∧ Below w0.heap.size w0 W) (hb : Below W.heap.size W w') (l1 : b1 < w0.heap.size) (l2 : b2 < w0.heap.size) :
    w'.cell? ⟨b1, 0, none⟩ = some u0 ∧ w'.cell? ⟨b1, 1, none⟩ = some u1 ∧ w'.cell? ⟨b1, 2, none⟩ = some u2 ∧ w'.cell? ⟨b1, 3, none⟩ = some u3 ∧ w'.cell? ⟨b2, 0, none⟩ = some v0 ∧ w'.cell? ⟨b2, 1, none⟩ = some v1 ∧ w'.cell? ⟨b2, 2, none⟩ = some v2 ∧ Below w0.heap.size w0 w' := by
  obtain ⟨hu0, hu1, hu2, hu3, hv0, hv1, hv2, h6⟩ := hs
  have e1 : b1 < W.heap.size := Nat.lt_of_lt_of_le l1 h6.size
  have e2 : b2 < W.heap.size := Nat.lt_of_lt_of_le l2 h6.size
  exact ⟨(hb.cell (p := ⟨b1, 0, none⟩) e1).trans hu0, (hb.cell (p := ⟨b1, 1, none⟩) e1).trans hu1, (hb.cell (p := ⟨b1, 2, none⟩) e1).trans hu2, (hb.cell (p := ⟨b1, 3, none⟩) e1).trans hu3, (hb.cell (p := ⟨b2, 0, none⟩) e2).trans hv0, (hb.cell (p := ⟨b2, 1, none⟩) e2).trans hv1, (hb.cell (p := ⟨b2, 2, none⟩) e2).trans hv2, h6.trans (hb.mono h6.size)⟩
theorem implInv_side (R C : Int) (a : Option Addr) (n c : Nat) (b : Option Addr) (m d : Nat) (w : World) (hs : sideB R = false) :
    Calls Try.prog 28 #[.agg #[.int .i64 R, .int .i64 C, .slice a n c, .slice b m d]] w (MatOwn false 0 0 0 (fun _ => none) w) := by
  go_enter Try.func28, Try.ntmps28
  go_wp2_with fail
  go_at_call 66
  refine (implUnit_no R _ hs).mono ?_
  rintro e w1 ⟨gu, du, YU, rfl, oU, hYU, b1⟩
  have B1 : Below w.heap.size w w1 := Below.trans (by repeat first | (with_reducible exact Below.refl _ _) | (with_reducible refine Below.setCell ?_ (by first | exact Nat.le_refl _ | (simp; done) | (simp; omega) | omega) _) | (with_reducible refine Below.alloc ?_ (by first | exact Nat.le_refl _ | (simp; done) | (simp; omega) | omega) _) | (with_reducible refine below_drewN ?_ _) | (with_reducible refine Below.drew ?_)) (b1.mono (by simp; omega))
  have s1 : w.heap.size + 1 + 1 ≤ w1.heap.size := by have := b1.size; simp at this; omega
  have Z1 : Box w1 (w.heap.size + 1) 0 0 none 0 0 ∧ ∀ i, w1.frozen? ⟨w.heap.size + 1, i, none⟩ = false := by
    obtain ⟨q, f⟩ := bcell b1
    refine ⟨⟨?_, ?_, ?_⟩, fun i => ?_⟩
    all_goals first | rw [q _ _ (by simp <;> omega)] | rw [f _ _ (by simp <;> omega)]
    all_goals simp [go_sem]
  obtain ⟨Z1, I1⟩ := Z1
  obtain ⟨z0, z1, z2⟩ := Z1
  have hal0 : ∀ o, (w1.alloc o).cell? ⟨w.heap.size + 1, 0, none⟩ = some (.int .i64 0) := fun o => (World.cell?_alloc_lt w1 o ⟨w.heap.size + 1, 0, none⟩ (by show w.heap.size + 1 < w1.heap.size; omega)).trans z0
  have hal1 : ∀ o, (w1.alloc o).cell? ⟨w.heap.size + 1, 1, none⟩ = some (.int .i64 0) := fun o => (World.cell?_alloc_lt w1 o ⟨w.heap.size + 1, 1, none⟩ (by show w.heap.size + 1 < w1.heap.size; omega)).trans z1
  have hal2 : ∀ o, (w1.alloc o).cell? ⟨w.heap.size + 1, 2, none⟩ = some (.slice none 0 0) := fun o => (World.cell?_alloc_lt w1 o ⟨w.heap.size + 1, 2, none⟩ (by show w.heap.size + 1 < w1.heap.size; omega)).trans z2
  have hfz : ∀ o i, (w1.alloc o).frozen? ⟨w.heap.size + 1, i, none⟩ = false := fun o i => ((show Below w1.heap.size w1 (w1.alloc o) from (by repeat first | (with_reducible exact Below.refl _ _) | (with_reducible refine Below.setCell ?_ (by first | exact Nat.le_refl _ | (simp; done) | (simp; omega) | omega) _) | (with_reducible refine Below.alloc ?_ (by first | exact Nat.le_refl _ | (simp; done) | (simp; omega) | omega) _) | (with_reducible refine below_drewN ?_ _) | (with_reducible refine Below.drew ?_))).frozen (p := ⟨w.heap.size + 1, i, none⟩) (by show w.heap.size + 1 < w1.heap.size; omega)).trans (I1 i)
  clear oU hYU b1
  go_wp2_with fail
  refine bodyPost_ret (v := .tuple #[.agg #[.int .i64 0, .int .i64 0, .slice none 0 0], .bool false]) (by simp [results, Try.results28, go_sem, hal0, hal1, hal2]) rfl ?_
  exact ⟨none, 0, fun _ => 0, rfl, .inl ⟨rfl, rfl, rfl⟩, fun i hi => by omega, (by repeat first | (with_reducible exact B1) | (with_reducible refine Below.setCell ?_ (by first | exact Nat.le_refl _ | (simp; done) | (simp; omega) | omega) _) | (with_reducible refine Below.alloc ?_ (by first | exact Nat.le_refl _ | (simp; done) | (simp; omega) | omega) _) | (with_reducible refine below_drewN ?_ _) | (with_reducible refine Below.drew ?_))⟩
set_option maxRecDepth 20000 in
set_option maxHeartbeats 4000000 in
theorem implInv_gen (r N : Nat) (C : Int) (a : Option Addr) (n c : Nat) (b : Option Addr) (m d : Nat) (w : World) (h1 : 1 ≤ r) (h12 : r ≤ 12) (hN : N = r * r) (okJ : Nat → Bool) (SV : Nat → Nat → Option Nat)
    (hS : ∀ j b2 d2 W, j < r → Below w.heap.size w W → FS .f32 W b2 r d2 (eRow r j) → Calls Try.prog 51 #[.agg #[.int .i64 (r : Int), .int .i64 C, .slice a n c, .slice b m d], .slice b2 r d2] W (NOwnIf (okJ j) r (SV j) W)) :
    Calls Try.prog 28 #[.agg #[.int .i64 (r : Int), .int .i64 C, .slice a n c, .slice b m d]] w (OwnIf (allJ okJ r) r r N (fun t => SV (t % r) (t / r)) w) := by
  have HN := Lib.hid hN
  have hN144 : N ≤ 144 := by have := sides_le h12 h12; omega
  have hpos : 0 < N := by rw [hN]; exact Nat.mul_pos h1 h1
  have HS := Lib.hid hS
  clear hN hS
  go_enter Try.func28, Try.ntmps28
  go_wp2_with fail
  go_at_call 66
  refine (implUnit_yes r N _ h1 h12 HN.out).mono ?_
  rintro e w1 ⟨gu', du, YU, rfl, oU, hYU, b1⟩
  obtain ⟨gu, rfl⟩ := oU.addrI hpos
  have B1 : Below w.heap.size w w1 := Below.trans (by repeat first | (with_reducible exact Below.refl _ _) | (with_reducible refine Below.setCell ?_ (by first | exact Nat.le_refl _ | (simp; done) | (simp; omega) | omega) _) | (with_reducible refine Below.alloc ?_ (by first | exact Nat.le_refl _ | (simp; done) | (simp; omega) | omega) _) | (with_reducible refine below_drewN ?_ _) | (with_reducible refine Below.drew ?_)) (b1.mono (by simp; omega))
  have s1 : w.heap.size + 1 + 1 ≤ w1.heap.size := by have := b1.size; simp at this; omega
  have X1 : BoxL w1 w.heap.size [.int .i64 (r : Int), .int .i64 C, .slice a n c, .slice b m d] := BoxL.below (BoxL.four (by simp [go_sem]) (by simp [go_sem]) (by simp [go_sem]) (by simp [go_sem])) b1 (by simp; omega)
  have Z1 : Box w1 (w.heap.size + 1) 0 0 none 0 0 ∧ ∀ i, w1.frozen? ⟨w.heap.size + 1, i, none⟩ = false := by
    obtain ⟨q, f⟩ := bcell b1
    refine ⟨⟨?_, ?_, ?_⟩, fun i => ?_⟩
    all_goals first | rw [q _ _ (by simp <;> omega)] | rw [f _ _ (by simp <;> omega)]
    all_goals simp [go_sem]
  obtain ⟨Z1, I1⟩ := Z1
  have FU1 := unit_dat oU.fs hYU
  obtain ⟨_, _, gB, gU, gS, _⟩ := oU.cell hpos
  have hdu := FU1.1
  have hdm : du ≤ 9223372036854775807 := by have := FU1.2.1; unfold maxLen at this; omega
  have gB' : w.heap.size + 1 + 1 ≤ gu := by simpa using gB
  clear b1 oU hYU gB gS
  go_wp2_with fail
  go_at_call 67
  refine (newMatrix_any r r N _ h12 h12 HN.out).mono ?_
  rintro e w2 ⟨g, rfl, oC, b2⟩
  have b12 : Below w1.heap.size w1 w2 := Below.trans (by repeat first | (with_reducible exact Below.refl _ _) | (with_reducible refine Below.setCell ?_ (by first | exact Nat.le_refl _ | (simp; done) | (simp; omega) | omega) _) | (with_reducible refine Below.alloc ?_ (by first | exact Nat.le_refl _ | (simp; done) | (simp; omega) | omega) _) | (with_reducible refine below_drewN ?_ _) | (with_reducible refine Below.drew ?_)) (b2.mono (by simp))
  have s2 : w1.heap.size + 1 ≤ w2.heap.size := by have := b2.size; simp at this; omega
  have XU2 : Box w2 w1.heap.size r r (some ⟨gu, 0, none⟩) N du := (Box.new _ _ _ _ _ _ _).below b2 (by simp)
  obtain ⟨_, _, cB, cU, _, _⟩ := oC.cell hpos
  have cB' : w1.heap.size + 1 ≤ g := by simpa using cB
  have X2 := X1.below b12 (by omega)
  have Z2 := Z1.below b12 (by omega)
  have I2 : ∀ i, w2.frozen? ⟨w.heap.size + 1, i, none⟩ = false := fun i => (b12.frozen (p := ⟨w.heap.size + 1, i, none⟩) (by show w.heap.size + 1 < w1.heap.size; omega)).trans (I1 i)
  have FU2 := FU1.below b12 (Nat.le_refl _)
  have B2 := B1.trans (b12.mono B1.size)
  clear b2 b12 X1 Z1 I1 FU1 B1 cB
  have XU2' := XU2
  obtain ⟨v0, v1, v2⟩ := XU2'
  have b3 : Below w2.heap.size w2 (w2.alloc (.cells #[.int .i64 r, .int .i64 r, .slice (some ⟨g, 0, none⟩) N N] 31)) := (by repeat first | (with_reducible exact Below.refl _ _) | (with_reducible refine Below.setCell ?_ (by first | exact Nat.le_refl _ | (simp; done) | (simp; omega) | omega) _) | (with_reducible refine Below.alloc ?_ (by first | exact Nat.le_refl _ | (simp; done) | (simp; omega) | omega) _) | (with_reducible refine below_drewN ?_ _) | (with_reducible refine Below.drew ?_))
  have XC3 := Box.new w2 31 r r (some ⟨g, 0, none⟩) N N
  have s3 : w2.heap.size < (w2.alloc (.cells #[.int .i64 r, .int .i64 r, .slice (some ⟨g, 0, none⟩) N N] 31)).heap.size := by simp
  obtain ⟨v0', v1', v2'⟩ := XU2.below b3 (by omega)
  go_wp2
  generalize w2.alloc (.cells #[.int .i64 r, .int .i64 r, .slice (some ⟨g, 0, none⟩) N N] 31) = w3 at b3 XC3 s3 v0' v1' v2' ⊢
  have XU3 : Box w3 w1.heap.size r r (some ⟨gu, 0, none⟩) N du := ⟨v0', v1', v2'⟩
  have X3 := X2.below b3 (by omega)
  have Z3 := Z2.below b3 (by omega)
  have I3 : ∀ i, w3.frozen? ⟨w.heap.size + 1, i, none⟩ = false := fun i => (b3.frozen (p := ⟨w.heap.size + 1, i, none⟩) (by show w.heap.size + 1 < w2.heap.size; omega)).trans (I2 i)
  have FU3 := FU2.below b3 (Nat.le_refl _)
  have B3 := B2.trans (b3.mono B2.size)
  have oC3 := oC.kept (below_grew b3) (fun q hq => by cases hq)
  clear b3 X2 Z2 I2 FU2 B2 oC v0 v1 v2 v0' v1' v2' XU2
  go_loopw [27] (fun i wr => ∃ (j : Nat) (X : Nat → Nat), j ≤ r ∧ i = .int .i64 j ∧ allJ okJ j = true ∧ (∀ t, t < j * r → vals X t = SV (t / r) (t % r)) ∧ Own 44 .f32 (w1.heap.size + 1) w2.heap.size wr (some ⟨g, 0, none⟩) N N X ∧ w3.grownBy wr (some g)) (fun i _ => r - (intOf i).toNat)
  case atStart => exact ⟨0, _, Nat.zero_le _, rfl, rfl, fun t ht => absurd ht (by rw [Nat.zero_mul]; exact Nat.not_lt_zero _), Own.mono oC3 (by simp) (Nat.le_refl _) (by omega), World.grownBy.refl _ _⟩
  case round =>
    obtain ⟨j, X, hj, rfl, hall, hv, ho, hg⟩ := hrel
    have HV := Lib.hid hv
    have HA := Lib.hid hall
    clear oC3 hv hall
    have hsr := hg.size
    have Zr := Z3.grown hg (by omega) (fun q hq => by cases hq; omega)
    have Ir : ∀ i, wr.frozen? ⟨w.heap.size + 1, i, none⟩ = false := fun i => (World.frozen?_of_block (a := ⟨w.heap.size + 1, i, none⟩) (hg.block (w.heap.size + 1) (by show w.heap.size + 1 < w3.heap.size; omega) (fun e => by cases e; omega))).trans (I3 i)
    have XCr := XC3.grown hg s3 (fun q hq => by cases hq; omega)
    have Br := B3.grown hg B3.size (fun q hq => by cases hq; omega)
    by_cases hlt : j < r
    · have XUr := XU3.grown hg (by omega) (fun q hq => by cases hq; omega)
      have FUr := ((FU3.grown hg (fun q hq => by cases hq; omega)).row HN.out hlt r (Nat.le_refl _) (by unfold maxLen; omega))
      have hg0 : Below wr.heap.size wr wr := Below.refl _ _
      have hx : ∀ i v, [Value.int .i64 (r : Int), .int .i64 C, .slice a n c, .slice b m d][i]? = some v → wr.cell? ⟨w.heap.size, i, none⟩ = some v := fun i v hi => (World.cell?_of_block (a := ⟨w.heap.size, i, none⟩) (hg.block w.heap.size (by show w.heap.size < w3.heap.size; omega) (fun e => by cases e; omega))).trans (X3 i v hi)
      have x0 := hx 0 _ rfl
      have x1 := hx 1 _ rfl
      have x2 := hx 2 _ rfl
      have x3 := hx 3 _ rfl
      obtain ⟨v0, v1, v2⟩ := XUr
      have hO := Lib.hid ho
      have hG := Lib.hid hg
      have hlw : w.heap.size < wr.heap.size := by omega
      have hlu : w1.heap.size < wr.heap.size := by omega
      have hrow := fun W => rowOf_any gu 0 r r N du j W h12 h1 h12 HN.out hdu hdm hlt
      have hSj := fun b2 d2 W hW hF => HS.out j b2 d2 W hlt hW hF
      clear ho hg hx
      simp only [Nat.zero_add] at hrow FUr
      cases hok : okJ j with
      | false =>
        simp only [hok] at hSj
        have HK : Hid (allJ okJ r = false) := Lib.hid (allJ_no hlt hok)
        clear hok
        go_wp2_with fail
        go_region_held3 (fun w' => w'.cell? ⟨w.heap.size, 0, none⟩ = some (.int .i64 (r : Int)) ∧ w'.cell? ⟨w.heap.size, 1, none⟩ = some (.int .i64 C) ∧ w'.cell? ⟨w.heap.size, 2, none⟩ = some (.slice a n c) ∧ w'.cell? ⟨w.heap.size, 3, none⟩ = some (.slice b m d) ∧ w'.cell? ⟨w1.heap.size, 0, none⟩ = some (.int .i64 (r : Int)) ∧ w'.cell? ⟨w1.heap.size, 1, none⟩ = some (.int .i64 (r : Int)) ∧ w'.cell? ⟨w1.heap.size, 2, none⟩ = some (.slice (some ⟨gu, 0, none⟩) N du) ∧ Below wr.heap.size wr w')
          (first | exact ⟨x0, x1, x2, x3, v0, v1, v2, (by first | exact (Below.refl _ _).drew | exact (below_drewN (Below.refl _ _) _).drew)⟩ | exact heldI (by assumption) (by assumption) hlw hlu)
          (first
            | (go_at_call 68; (with_reducible refine (hrow _).mono ?_); rintro e wt ⟨rfl, bt⟩)
            | (go_at_call 51; (with_reducible refine (hSj _ _ _ ?_ ?_).mono ?_); exact (Br.trans (Below.mono (by go_split_ands; assumption) Br.size)); exact (FUr.below (by go_split_ands; assumption) (Nat.le_refl _)); rintro e w4 ⟨g4, d4, X4, rfl, o4, hX4, b4⟩))
        have b5 : Below wr.heap.size wr w4 := by go_split_ands; assumption
        have B5 := Br.trans (b5.mono Br.size)
        have Z5 := Zr.below b5 (by omega)
        have I5 : ∀ i, w4.frozen? ⟨w.heap.size + 1, i, none⟩ = false := fun i => (b5.frozen (p := ⟨w.heap.size + 1, i, none⟩) (by show w.heap.size + 1 < wr.heap.size; omega)).trans (Ir i)
        obtain ⟨z0, z1, z2⟩ := Z5
        clear o4 hX4 b5
        go_wp2_with fail
        refine bodyPost_ret (v := .tuple #[.agg #[.int .i64 0, .int .i64 0, .slice none 0 0], .bool false]) (by simp [results, Try.results28, go_sem, z0, z1, z2]) rfl ?_
        exact OwnIf.no HK.out ⟨none, 0, fun _ => 0, rfl, .inl ⟨rfl, rfl, rfl⟩, fun i hi => by omega, (by repeat first | (with_reducible exact B5) | (with_reducible refine Below.setCell ?_ (by first | exact Nat.le_refl _ | (simp; done) | (simp; omega) | omega) _) | (with_reducible refine Below.alloc ?_ (by first | exact Nat.le_refl _ | (simp; done) | (simp; omega) | omega) _) | (with_reducible refine below_drewN ?_ _) | (with_reducible refine Below.drew ?_))⟩
      | true =>
        simp only [hok] at hSj
        have HK : Hid (allJ okJ (j + 1) = true) := Lib.hid (by simp only [allJ, HA.out, hok, Bool.and_self])
        clear hok
        go_wp2_with fail
        go_region_held3 (fun w' => w'.cell? ⟨w.heap.size, 0, none⟩ = some (.int .i64 (r : Int)) ∧ w'.cell? ⟨w.heap.size, 1, none⟩ = some (.int .i64 C) ∧ w'.cell? ⟨w.heap.size, 2, none⟩ = some (.slice a n c) ∧ w'.cell? ⟨w.heap.size, 3, none⟩ = some (.slice b m d) ∧ w'.cell? ⟨w1.heap.size, 0, none⟩ = some (.int .i64 (r : Int)) ∧ w'.cell? ⟨w1.heap.size, 1, none⟩ = some (.int .i64 (r : Int)) ∧ w'.cell? ⟨w1.heap.size, 2, none⟩ = some (.slice (some ⟨gu, 0, none⟩) N du) ∧ Below wr.heap.size wr w')
          (first | exact ⟨x0, x1, x2, x3, v0, v1, v2, (by first | exact (Below.refl _ _).drew | exact (below_drewN (Below.refl _ _) _).drew)⟩ | exact heldI (by assumption) (by assumption) hlw hlu)
          (first
            | (go_at_call 68; (with_reducible refine (hrow _).mono ?_); rintro e wt ⟨rfl, bt⟩)
            | (go_at_call 51; (with_reducible refine (hSj _ _ _ ?_ ?_).mono ?_); exact (Br.trans (Below.mono (by go_split_ands; assumption) Br.size)); exact (FUr.below (by go_split_ands; assumption) (Nat.le_refl _)); rintro e w4 ⟨g4', d4, X4, rfl, o4, hX4, b4⟩))
        have b5 : Below wr.heap.size wr w4 := by go_split_ands; assumption
        obtain ⟨g4, rfl⟩ := o4.addrI (show 0 < r by omega)
        have F4 := o4.fs
        have HX4 := Lib.hid hX4
        have s5 := b5.size
        have XC5 := XCr.below b5 (by omega)
        obtain ⟨u0, u1, u2⟩ := XC5
        have O5 := hO.out.kept (below_grew b5) (fun q hq => by cases hq)
        have G5 : w3.grownBy w4 (some g) := grownBy_trans hG.out ⟨b5.os, b5.tape, b5.output, b5.size, fun q hq _ => b5.block q hq⟩
        have hd4 := F4.1
        clear o4 hX4 b5 b4 bt hO hG x0 x1 x2 x3 v0 v1 v2 hrow hSj FUr hg0
        go_wp2_with fail
        go_at_call 68
        refine (rowOf_any g 0 r r N N j _ h12 h1 h12 HN.out (Nat.le_refl _) (by omega) hlt).mono ?_
        rintro e w6 ⟨rfl, b6⟩
        have O6 := O5.kept (below_grew b6) (fun q hq => by cases hq)
        have G6 : w3.grownBy w6 (some g) := grownBy_trans G5 ⟨b6.os, b6.tape, b6.output, b6.size, fun q hq _ => b6.block q hq⟩
        have F6 := F4.below b6 (Nat.le_refl _)
        obtain ⟨cur, hcur, hsz, _⟩ := O6.block
        have hjr : j * r + r ≤ N := by rw [HN.out]; have := Nat.mul_le_mul_right r hlt; rw [Nat.succ_mul] at this; exact this
        have hwf : ∀ t, t < r → (Lit.float .f32 (X4 t)).wf = true := fun t ht => (F6.at ht).elim fun _ q => q.elim fun _ q => q.2.2.2.2
        obtain ⟨O7, G7⟩ := O6.paste (off := j * r) (m := r) (Y := X4) hjr hwf hcur
        have HO7 := Lib.hid O7
        have HG7 := Lib.hid (grownBy_trans G6 G7)
        have HF6 := Lib.hid F6
        have HC := Lib.hid hcur
        clear O5 G5 b6 O6 G6 F6 O7 G7 F4 hcur u0 u1 u2 hwf
        simp only [Nat.zero_add]
        go_wp2_with (refine wpList_copy_own rfl (.tmp 43) (.tmp 44) _ _ rfl 44 Try.underlying22 (by kernel_rfl) g (j * r) r r ⟨g4, 0, none⟩ r d4 rfl rfl cur 44 HC.out (cellsOf32 X4 r) (by rw [cells32_len]; exact (Nat.min_self _).symm) (by intro i v hi; rw [Addr.add_lit]; exact cells32_cell HF6.out i v hi) (by rw [cells32_len, hsz]; omega) cells32_one ?_; rw [cells32_len])
        go_roundw
        case rel =>
          refine ⟨j + 1, _, by omega, by go_num, HK.out, fun t ht => ?_, HO7.out, HG7.out⟩
          rw [Nat.succ_mul] at ht
          by_cases e : j * r ≤ t
          · obtain ⟨k, rfl⟩ : ∃ k, t = j * r + k := ⟨t - j * r, by omega⟩
            have hk : k < r := by omega
            obtain ⟨q1, q2⟩ := place_div (j := j) hk
            rw [q1, q2]
            have : pasted (j * r) r X4 X (j * r + k) = X4 k := by unfold pasted; rw [if_pos (by omega), show j * r + k - j * r = k by omega]
            unfold vals
            rw [this]
            exact HX4.out k hk
          · have : pasted (j * r) r X4 X t = X t := by unfold pasted; rw [if_neg (by omega)]
            unfold vals
            rw [this]
            exact HV.out t (by omega)
        case measure => simp [intOf]; omega
    · obtain rfl : j = r := by omega
      have FP := ho.fs
      have XCr' := XCr
      obtain ⟨u0, u1, u2⟩ := XCr'
      clear hg
      go_wp2_with fail
      go_at_call 42
      refine (flipped_any j j N g 0 N X _ h1 h12 h1 h12 HN.out FP).mono ?_
      rintro e w7 ⟨g7, rfl, o7, b7⟩
      have B7 := Br.trans (b7.mono Br.size)
      have Z7 := Zr.below b7 (by omega)
      have I7 : ∀ i, w7.frozen? ⟨w.heap.size + 1, i, none⟩ = false := fun i => (b7.frozen (p := ⟨w.heap.size + 1, i, none⟩) (by show w.heap.size + 1 < wr.heap.size; omega)).trans (Ir i)
      obtain ⟨z0, z1, z2⟩ := Z7
      have O7 := Own.mono (B' := w.heap.size + 1 + 1) o7 (by omega) (Nat.le_refl _) (Nat.le_refl _)
      have HVF : Hid (∀ t, t < N → vals (flipZ j j X) t = SV (t % j) (t / j)) := Lib.hid (fun t ht => by
        have hm : t % j < j := Nat.mod_lt _ h1
        have hd : t / j < j := Nat.div_lt_of_lt_mul (by rw [← HN.out]; exact ht)
        have hp := place_lt hm hd
        show vals X (t % j * j + t / j) = _
        obtain ⟨q1, q2⟩ := place_div (j := t % j) hd
        rw [HV.out _ hp, q1, q2])
      clear b7 u0 u1 u2 o7 FP ho
      go_wp2_with fail
      refine bodyPost_ret (v := .tuple #[.agg #[.int .i64 j, .int .i64 j, .slice (some ⟨g7, 0, none⟩) N N], .bool true]) (by simp [results, Try.results28, go_sem, z0, z1, z2]) rfl ?_
      exact OwnIf.yes HA.out ⟨_, _, _, rfl, (by refine Own.to O7 (hk := fun g hg1 hg2 => by (try simp at hg1 hg2); repeat (first | rw [Below.heap_setCell _ _ _ _ (by simp; omega)] | rw [Below.heap_alloc _ _ _ (by simp [World.setCell]; omega)])) ?_ ?_ ?_ ?_ <;> (first | exact Nat.le_refl _ | omega | (simp [World.setCell]; done) | (simp [World.setCell]; omega))), HVF.out, (by repeat first | (with_reducible exact B7) | (with_reducible refine Below.setCell ?_ (by first | exact Nat.le_refl _ | (simp; done) | (simp; omega) | omega) _) | (with_reducible refine Below.alloc ?_ (by first | exact Nat.le_refl _ | (simp; done) | (simp; omega) | omega) _) | (with_reducible refine below_drewN ?_ _) | (with_reducible refine Below.drew ?_))⟩
end Go.Proofs.Ytmddhhmgfhljiaa
