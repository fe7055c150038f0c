/- Helper: the polar part of a square, of the reference, and of both. Conditions: none. -/
import Derived.Test.YtbmiolfpgoggaaaPolarImpl
import Derived.Test.YtbmiolfpgoggaaaPutOwn
set_option linter.unusedVariables false
set_option linter.unusedSimpArgs false
namespace Go.Proofs.Ytbmiolfpgoggaaa
open Go.RowKit

/-- A block that holds no numbers. -/
def NF (w : World) (b : Nat) : Prop := ∀ i x, w.cell? ⟨b, i, none⟩ ≠ some (.float .f32 x)
theorem NF.below {w w' : World} {b : Nat} (h : NF w b) (hb : Below w.heap.size w w') (l : b < w.heap.size) : NF w' b := fun i x => by
  rw [hb.cell (p := ⟨b, i, none⟩) l]; exact h i x
theorem NF.grown {w w' : World} {b : Nat} {row : Option Nat} (h : NF w b) (hg : w.grownBy w' row) (l : b < w.heap.size) (hne : some b ≠ row) : NF w' b := fun i x => by
  rw [World.cell?_of_block (a := ⟨b, i, none⟩) (hg.block b l hne)]; exact h i x
theorem NF.put {w : World} {q : Nat} {R0 C0 : Int} {a0 : Option Addr} {n0 c0 : Nat} (h : NF w q) (hX : Box w q R0 C0 a0 n0 c0) (R C : Int) (a : Option Addr) (n c : Nat) :
    NF (((w.setCell ⟨q, 0, none⟩ (.int .i64 R)).setCell ⟨q, 1, none⟩ (.int .i64 C)).setCell ⟨q, 2, none⟩ (.slice a n c)) q := fun i x => by
  obtain ⟨e0, e1, e2⟩ := putQ_box hX R C a n c
  rcases i with _ | _ | _ | i
  · rw [e0]; simp
  · rw [e1]; simp
  · rw [e2]; simp
  · rw [World.cell?_setCell_other _ _ _ _ (by simp), World.cell?_setCell_other _ _ _ _ (by simp), World.cell?_setCell_other _ _ _ _ (by simp)]; exact h _ x
theorem NF.ne {w : World} {b n d : Nat} {g : Option Addr} {D : Nat → Nat} (h : NF w b) (hF : FS .f32 w g n d D) (h0 : 0 < n) : ∀ q, (∃ off, g = some ⟨q, off, none⟩) → q ≠ b := by
  rintro q ⟨off, rfl⟩ rfl
  obtain ⟨b', off', e, _, hc, _⟩ := hF.at h0
  simp only [Option.some.injEq, Addr.mk.injEq, and_true] at e
  obtain ⟨rfl, rfl⟩ := e
  exact h _ _ hc
theorem FS.qput {w : World} {q N d : Nat} {o : Option (Nat → Nat)} {g : Option Addr} (hF : FS .f32 w g (qN N o) d (qD o)) (h : NF w q) (R C : Int) (a : Option Addr) (n c : Nat) :
    FS .f32 (((w.setCell ⟨q, 0, none⟩ (.int .i64 R)).setCell ⟨q, 1, none⟩ (.int .i64 C)).setCell ⟨q, 2, none⟩ (.slice a n c)) g (qN N o) d (qD o) := by
  by_cases h0 : 0 < qN N o
  · have hf := h.ne hF h0
    exact FS.to hF (by simp [World.setCell]) (fun k hk => by have hf := hf k hk; rw [Below.heap_setCell _ _ _ _ hf, Below.heap_setCell _ _ _ _ hf, Below.heap_setCell _ _ _ _ hf])
  · exact ⟨hF.1, hF.2.1, fun i hi => absurd hi (by omega)⟩
def PolIfB (r N : Nat) (o : Option (Nat → Nat)) (w : World) (e : Ending) (w' : World) : Prop :=
  match o with | some D => MatBel true r r N (vals D) w e w' | none => MatBel false 0 0 0 (fun _ => none) w e w'
theorem weigh_some {r N x y : Nat} {o p : Option (Nat → Nat)} (h : (weighO N x y o p).isSome = true) : p.isSome = true := by
  cases o <;> cases p <;> first | rfl | cases h
theorem mul_some {r N : Nat} {o p : Option (Nat → Nat)} (h : (mulO r N o p).isSome = true) : p.isSome = true := by
  cases o <;> cases p <;> first | rfl | cases h
theorem l04RoundsP (k : Int) (w : World) : Calls Try.prog 14 #[.int .i64 k] w fun e w' => e = .returned (.bool (rdP k)) ∧ w = w' := by
  have he : rdP k = inB k 0 64 := rfl
  rw [he]
  go_enter Try.func14, Try.ntmps14
  go_wp2_with (go_at_call 37; refine (l00In_any _ _ _ _).mono ?_; rintro e w' ⟨rfl, rfl⟩)
  go_ret
  exact ⟨rfl, rfl⟩
set_option maxRecDepth 20000 in
set_option maxHeartbeats 1000000 in
theorem specPolar_norm (R C : Int) (a : Option Addr) (n c : Nat) (Z : Nat → Nat) (K : Int) (w : World) (hn : n ≤ 1048576) (h : FS .f32 w a n c Z) (hok : wholeOk R C n Z = false) :
    Calls Try.prog 5 #[.agg #[.int .i64 R, .int .i64 C, .slice a n c], .int .i64 K] w (MatBel false 0 0 0 (fun _ => none) w) := by
  have HOK := Lib.hid hok
  clear hok
  go_enter Try.func5, Try.ntmps5
  go_wp2_with fail
  go_at_call 12
  refine (specWhole_any R C a n c Z _ hn (h.below (by repeat first | (with_reducible exact Below.refl _ _) | (with_reducible refine Below.setCell ?_ (by first | exact Nat.le_refl _ | (simp; done) | (simp; omega) | omega) _) | (with_reducible refine Below.alloc ?_ (by first | exact Nat.le_refl _ | (simp; done) | (simp; omega) | omega) _) | (with_reducible refine below_drewN ?_ _) | (with_reducible refine Below.drew ?_)) (Nat.le_refl _))).mono ?_
  rintro e w1 ⟨rr, rfl, frr, b1⟩
  rw [HOK.out]
  have B1 : Below w.heap.size w w1 := Below.trans (by repeat first | (with_reducible exact Below.refl _ _) | (with_reducible refine Below.setCell ?_ (by first | exact Nat.le_refl _ | (simp; done) | (simp; omega) | omega) _) | (with_reducible refine Below.alloc ?_ (by first | exact Nat.le_refl _ | (simp; done) | (simp; omega) | omega) _) | (with_reducible refine below_drewN ?_ _) | (with_reducible refine Below.drew ?_)) (b1.mono (by simp; omega))
  have s1 : w.heap.size + 1 + 1 ≤ w1.heap.size := by have := b1.size; simp at this; omega
  have X1 : Box w1 w.heap.size R C a n c := Box.below (by refine ⟨?_, ?_, ?_⟩ <;> simp [go_sem]) b1 (by simp <;> omega)
  have XR : Box w1 (w.heap.size + 1) 0 0 none 0 0 := Box.below (by refine ⟨?_, ?_, ?_⟩ <;> simp [go_sem]) b1 (by simp)
  have NR : NF w1 (w.heap.size + 1) := NF.below (by intro i x; rcases i with _ | _ | _ | i <;> simp [go_sem]) b1 (by simp)
  have IR : ∀ i, w1.frozen? ⟨w.heap.size + 1, i, none⟩ = false := fun i => (b1.frozen (p := ⟨w.heap.size + 1, i, none⟩) (by simp)).trans (by simp [go_sem])
  have z0 := XR.1
  have z1 := XR.2.1
  have z2 := XR.2.2
  clear b1
  clear frr XR X1
  go_wp2_with fail
  refine bodyPost_ret (v := .tuple #[.agg #[.int .i64 0, .int .i64 0, .slice none 0 0], .bool false]) (by simp [results, Try.results5, go_sem, z0, z1, z2]) rfl ?_
  exact ⟨none, 0, fun _ => 0, rfl, ⟨Nat.le_refl _, Nat.zero_le _, fun i hi => absurd hi (Nat.not_lt_zero _)⟩, fun i hi => absurd hi (Nat.not_lt_zero _), (by repeat first | (with_reducible exact B1) | (with_reducible refine Below.setCell ?_ (by first | exact Nat.le_refl _ | (simp; done) | (simp; omega) | omega) _) | (with_reducible refine Below.alloc ?_ (by first | exact Nat.le_refl _ | (simp; done) | (simp; omega) | omega) _) | (with_reducible refine below_drewN ?_ _) | (with_reducible refine Below.drew ?_))⟩
set_option maxRecDepth 20000 in
set_option maxHeartbeats 1000000 in
theorem specPolar_sq (R C : Int) (a : Option Addr) (n c : Nat) (Z : Nat → Nat) (K : Int) (w : World) (hn : n ≤ 1048576) (h : FS .f32 w a n c Z) (hok : wholeOk R C n Z = true) (hsq : squareB R C n (vals Z) = false) :
    Calls Try.prog 5 #[.agg #[.int .i64 R, .int .i64 C, .slice a n c], .int .i64 K] w (MatBel false 0 0 0 (fun _ => none) w) := by
  have HOK := Lib.hid hok
  have HSQ := Lib.hid hsq
  clear hok hsq
  go_enter Try.func5, Try.ntmps5
  go_wp2_with fail
  go_at_call 12
  refine (specWhole_any R C a n c Z _ hn (h.below (by repeat first | (with_reducible exact Below.refl _ _) | (with_reducible refine Below.setCell ?_ (by first | exact Nat.le_refl _ | (simp; done) | (simp; omega) | omega) _) | (with_reducible refine Below.alloc ?_ (by first | exact Nat.le_refl _ | (simp; done) | (simp; omega) | omega) _) | (with_reducible refine below_drewN ?_ _) | (with_reducible refine Below.drew ?_)) (Nat.le_refl _))).mono ?_
  rintro e w1 ⟨rr, rfl, frr, b1⟩
  rw [HOK.out]
  have B1 : Below w.heap.size w w1 := Below.trans (by repeat first | (with_reducible exact Below.refl _ _) | (with_reducible refine Below.setCell ?_ (by first | exact Nat.le_refl _ | (simp; done) | (simp; omega) | omega) _) | (with_reducible refine Below.alloc ?_ (by first | exact Nat.le_refl _ | (simp; done) | (simp; omega) | omega) _) | (with_reducible refine below_drewN ?_ _) | (with_reducible refine Below.drew ?_)) (b1.mono (by simp; omega))
  have s1 : w.heap.size + 1 + 1 ≤ w1.heap.size := by have := b1.size; simp at this; omega
  have X1 : Box w1 w.heap.size R C a n c := Box.below (by refine ⟨?_, ?_, ?_⟩ <;> simp [go_sem]) b1 (by simp <;> omega)
  have XR : Box w1 (w.heap.size + 1) 0 0 none 0 0 := Box.below (by refine ⟨?_, ?_, ?_⟩ <;> simp [go_sem]) b1 (by simp)
  have NR : NF w1 (w.heap.size + 1) := NF.below (by intro i x; rcases i with _ | _ | _ | i <;> simp [go_sem]) b1 (by simp)
  have IR : ∀ i, w1.frozen? ⟨w.heap.size + 1, i, none⟩ = false := fun i => (b1.frozen (p := ⟨w.heap.size + 1, i, none⟩) (by simp)).trans (by simp [go_sem])
  have z0 := XR.1
  have z1 := XR.2.1
  have z2 := XR.2.2
  clear b1
  go_wp2_with fail
  go_at_call 13
  refine (specSquare_any w.heap.size R C a n c Z _ hn X1 (h.below B1 (Nat.le_refl _))).mono ?_
  rintro e w2 ⟨rfl, m2, rfl⟩
  rw [HSQ.out]
  clear frr XR X1
  go_wp2_with fail
  refine bodyPost_ret (v := .tuple #[.agg #[.int .i64 0, .int .i64 0, .slice none 0 0], .bool false]) (by simp [results, Try.results5, go_sem, z0, z1, z2]) rfl ?_
  exact ⟨none, 0, fun _ => 0, rfl, ⟨Nat.le_refl _, Nat.zero_le _, fun i hi => absurd hi (Nat.not_lt_zero _)⟩, fun i hi => absurd hi (Nat.not_lt_zero _), (by repeat first | (with_reducible exact B1) | (with_reducible refine Below.setCell ?_ (by first | exact Nat.le_refl _ | (simp; done) | (simp; omega) | omega) _) | (with_reducible refine Below.alloc ?_ (by first | exact Nat.le_refl _ | (simp; done) | (simp; omega) | omega) _) | (with_reducible refine below_drewN ?_ _) | (with_reducible refine Below.drew ?_))⟩
set_option maxRecDepth 20000 in
set_option maxHeartbeats 1000000 in
theorem specPolar_no (R C : Int) (a : Option Addr) (n c : Nat) (Z : Nat → Nat) (K : Int) (w : World) (hn : n ≤ 1048576) (h : FS .f32 w a n c Z) (hok : wholeOk R C n Z = true) (hsq : squareB R C n (vals Z) = true) (hno : ((ford .f32 (wholeN n Z) (some 0) == some .gt) && rdP K) = false) :
    Calls Try.prog 5 #[.agg #[.int .i64 R, .int .i64 C, .slice a n c], .int .i64 K] w (MatBel false 0 0 0 (fun _ => none) w) := by
  have HOK := Lib.hid hok
  have HSQ := Lib.hid hsq
  have hfin : finite .f32 (wholeN n Z) = true := by unfold wholeOk at hok; simp only [Bool.and_eq_true] at hok; exact hok.2
  have hpk : wholeV R C n Z = wholeN n Z := by unfold wholeV; rw [hok]; rfl
  obtain ⟨NN, hNN⟩ : ∃ NN, NN = wholeN n Z := ⟨_, rfl⟩
  rw [← hNN] at hno hfin
  have HPK : Hid (wholeV R C n Z = NN) := Lib.hid (by rw [hpk, hNN])
  obtain ⟨oo, hoo⟩ := ford_some hfin
  have hZ0 : cn .f32 0 = some 0 := by kernel_rfl
  rw [hoo] at hno
  clear hok hsq hfin hpk hNN
  go_enter Try.func5, Try.ntmps5
  go_wp2_with fail
  go_at_call 12
  refine (specWhole_any R C a n c Z _ hn (h.below (by repeat first | (with_reducible exact Below.refl _ _) | (with_reducible refine Below.setCell ?_ (by first | exact Nat.le_refl _ | (simp; done) | (simp; omega) | omega) _) | (with_reducible refine Below.alloc ?_ (by first | exact Nat.le_refl _ | (simp; done) | (simp; omega) | omega) _) | (with_reducible refine below_drewN ?_ _) | (with_reducible refine Below.drew ?_)) (Nat.le_refl _))).mono ?_
  rintro e w1 ⟨rr, rfl, frr, b1⟩
  rw [HOK.out]
  have B1 : Below w.heap.size w w1 := Below.trans (by repeat first | (with_reducible exact Below.refl _ _) | (with_reducible refine Below.setCell ?_ (by first | exact Nat.le_refl _ | (simp; done) | (simp; omega) | omega) _) | (with_reducible refine Below.alloc ?_ (by first | exact Nat.le_refl _ | (simp; done) | (simp; omega) | omega) _) | (with_reducible refine below_drewN ?_ _) | (with_reducible refine Below.drew ?_)) (b1.mono (by simp; omega))
  have s1 : w.heap.size + 1 + 1 ≤ w1.heap.size := by have := b1.size; simp at this; omega
  have X1 : Box w1 w.heap.size R C a n c := Box.below (by refine ⟨?_, ?_, ?_⟩ <;> simp [go_sem]) b1 (by simp <;> omega)
  have XR : Box w1 (w.heap.size + 1) 0 0 none 0 0 := Box.below (by refine ⟨?_, ?_, ?_⟩ <;> simp [go_sem]) b1 (by simp)
  have NR : NF w1 (w.heap.size + 1) := NF.below (by intro i x; rcases i with _ | _ | _ | i <;> simp [go_sem]) b1 (by simp)
  have IR : ∀ i, w1.frozen? ⟨w.heap.size + 1, i, none⟩ = false := fun i => (b1.frozen (p := ⟨w.heap.size + 1, i, none⟩) (by simp)).trans (by simp [go_sem])
  have z0 := XR.1
  have z1 := XR.2.1
  have z2 := XR.2.2
  clear b1
  go_wp2_with fail
  go_at_call 13
  refine (specSquare_any w.heap.size R C a n c Z _ hn X1 (h.below B1 (Nat.le_refl _))).mono ?_
  rintro e w2 ⟨rfl, m2, rfl⟩
  rw [HSQ.out]
  rw [HPK.out] at frr
  have hrc := frr.1
  clear frr XR X1
  go_wp2_with fail
  go_at_call 14
  refine (l04RoundsP K _).mono ?_
  cases hK : rdP K with
  | false =>
    rintro e w3 ⟨rfl, rfl⟩
    clear hK hno
    go_wp2_with fail
    refine bodyPost_ret (v := .tuple #[.agg #[.int .i64 0, .int .i64 0, .slice none 0 0], .bool false]) (by simp [results, Try.results5, go_sem, z0, z1, z2]) rfl ?_
    exact ⟨none, 0, fun _ => 0, rfl, ⟨Nat.le_refl _, Nat.zero_le _, fun i hi => absurd hi (Nat.not_lt_zero _)⟩, fun i hi => absurd hi (Nat.not_lt_zero _), (by repeat first | (with_reducible exact B1) | (with_reducible refine Below.setCell ?_ (by first | exact Nat.le_refl _ | (simp; done) | (simp; omega) | omega) _) | (with_reducible refine Below.alloc ?_ (by first | exact Nat.le_refl _ | (simp; done) | (simp; omega) | omega) _) | (with_reducible refine below_drewN ?_ _) | (with_reducible refine Below.drew ?_))⟩
  | true =>
    rw [hK] at hno
    rintro e w3 ⟨rfl, rfl⟩
    clear hK
    cases oo with
    | gt => cases hno
    | lt =>
      clear hno
      go_wp2_with fail
      refine bodyPost_ret (v := .tuple #[.agg #[.int .i64 0, .int .i64 0, .slice none 0 0], .bool false]) (by simp [results, Try.results5, go_sem, z0, z1, z2]) rfl ?_
      exact ⟨none, 0, fun _ => 0, rfl, ⟨Nat.le_refl _, Nat.zero_le _, fun i hi => absurd hi (Nat.not_lt_zero _)⟩, fun i hi => absurd hi (Nat.not_lt_zero _), (by repeat first | (with_reducible exact B1) | (with_reducible refine Below.setCell ?_ (by first | exact Nat.le_refl _ | (simp; done) | (simp; omega) | omega) _) | (with_reducible refine Below.alloc ?_ (by first | exact Nat.le_refl _ | (simp; done) | (simp; omega) | omega) _) | (with_reducible refine below_drewN ?_ _) | (with_reducible refine Below.drew ?_))⟩
    | eq =>
      clear hno
      go_wp2_with fail
      refine bodyPost_ret (v := .tuple #[.agg #[.int .i64 0, .int .i64 0, .slice none 0 0], .bool false]) (by simp [results, Try.results5, go_sem, z0, z1, z2]) rfl ?_
      exact ⟨none, 0, fun _ => 0, rfl, ⟨Nat.le_refl _, Nat.zero_le _, fun i hi => absurd hi (Nat.not_lt_zero _)⟩, fun i hi => absurd hi (Nat.not_lt_zero _), (by repeat first | (with_reducible exact B1) | (with_reducible refine Below.setCell ?_ (by first | exact Nat.le_refl _ | (simp; done) | (simp; omega) | omega) _) | (with_reducible refine Below.alloc ?_ (by first | exact Nat.le_refl _ | (simp; done) | (simp; omega) | omega) _) | (with_reducible refine below_drewN ?_ _) | (with_reducible refine Below.drew ?_))⟩
set_option maxRecDepth 20000 in
set_option maxHeartbeats 4000000 in
theorem specPolar_yes (r N p1 o1 d1 K : Nat) (Z : Nat → Nat) (w : World) (h1 : 1 ≤ r) (h12 : r ≤ 12) (hn : N = r * r) (hK : K ≤ 64) (hok : wholeOk r r N Z = true) (hsq : squareB r r N (vals Z) = true) (hfz : allFin (vals Z) N = true) (hg0 : ford .f32 (wholeN N Z) (some 0) = some .gt) (h : FS .f32 w (some ⟨p1, o1, none⟩) N d1 Z) :
    Calls Try.prog 5 #[.agg #[.int .i64 r, .int .i64 r, .slice (some ⟨p1, o1, none⟩) N d1], .int .i64 K] w (PolIfB r N (polO r N 1069547520 3204448256 (datP (unitV N (vals Z))) K) w) := by
  have HN := Lib.hid hn
  have h144 : N ≤ 144 := by have := sides_le h12 h12; omega
  have hpos : 0 < N := by rw [hn]; exact Nat.mul_pos h1 h1
  have HOK := Lib.hid hok
  have HSQ := Lib.hid hsq
  have hfin : finite .f32 (wholeN N Z) = true := by unfold wholeOk at hok; simp only [Bool.and_eq_true] at hok; exact hok.2
  have hpk : wholeV r r N Z = wholeN N Z := by unfold wholeV; rw [hok]; rfl
  have hUF : ∀ t, t < N → finite .f32 (unitV N (vals Z) t) = true := unit_fin hfz hfin (by show (ford .f32 (wholeN N Z) (some 0) == some .gt) = true; rw [hg0]; rfl)
  have hUA : allFin (unitV N (vals Z)) N = true := allFin_allU hUF
  have HUA := Lib.hid hUA
  obtain ⟨NN, hNN⟩ : ∃ NN, NN = wholeN N Z := ⟨_, rfl⟩
  rw [← hNN] at hg0
  have HPK : Hid (wholeV r r N Z = NN) := Lib.hid (by rw [hpk, hNN])
  have HUV : Hid (∀ t, fop .quo .f32 (vals Z t) NN = unitV N (vals Z) t) := Lib.hid (fun t => by rw [hNN]; rfl)
  obtain ⟨D0, hD0⟩ : ∃ D0, D0 = datP (unitV N (vals Z)) := ⟨_, rfl⟩
  rw [← hD0]
  have HD0 := Lib.hid hD0
  obtain ⟨P, hP⟩ : ∃ P, P = polO r N 1069547520 3204448256 D0 := ⟨_, rfl⟩
  rw [← hP]
  have HP0 : Hid (P 0 = some D0) := Lib.hid (by rw [hP]; rfl)
  have HPN : Hid (∀ k i, P k = none → P (k + i) = none) := Lib.hid (fun k i hh => by rw [hP] at hh ⊢; exact pol_none hh i)
  have HPS : Hid (∀ k, weighO N 1069547520 3204448256 (P k) (mulO r N (P k) (mulO r N (flipO r (P k)) (P k))) = P (k + 1)) := Lib.hid (fun k => by rw [hP]; rfl)
  have hZ0 : cn .f32 0 = some 0 := by kernel_rfl
  have HKR : Hid (rdP (K : Int) = true) := Lib.hid (by unfold rdP; rw [decide_eq_true (show (0 : Int) ≤ (K : Int) by omega), decide_eq_true (show (K : Int) ≤ 64 by omega)]; rfl)
  have hle : ∀ o, qN N o ≤ 1048576 := fun o => by unfold qN; split <;> omega
  have HLE := Lib.hid hle
  clear hn hok hsq hfin hpk hUF hUA hNN hD0 hP hfz hle
  go_enter Try.func5, Try.ntmps5
  go_wp2_with fail
  go_at_call 12
  refine (specWhole_any r r _ N d1 Z _ (by omega) (h.below (by repeat first | (with_reducible exact Below.refl _ _) | (with_reducible refine Below.setCell ?_ (by first | exact Nat.le_refl _ | (simp; done) | (simp; omega) | omega) _) | (with_reducible refine Below.alloc ?_ (by first | exact Nat.le_refl _ | (simp; done) | (simp; omega) | omega) _) | (with_reducible refine below_drewN ?_ _) | (with_reducible refine Below.drew ?_)) (Nat.le_refl _))).mono ?_
  rintro e w1 ⟨rr, rfl, frr, b1⟩
  rw [HOK.out]
  have B1 : Below w.heap.size w w1 := Below.trans (by repeat first | (with_reducible exact Below.refl _ _) | (with_reducible refine Below.setCell ?_ (by first | exact Nat.le_refl _ | (simp; done) | (simp; omega) | omega) _) | (with_reducible refine Below.alloc ?_ (by first | exact Nat.le_refl _ | (simp; done) | (simp; omega) | omega) _) | (with_reducible refine below_drewN ?_ _) | (with_reducible refine Below.drew ?_)) (b1.mono (by simp; omega))
  have s1 : w.heap.size + 1 + 1 ≤ w1.heap.size := by have := b1.size; simp at this; omega
  have X1 : Box w1 w.heap.size r r (some ⟨p1, o1, none⟩) N d1 := Box.below (by refine ⟨?_, ?_, ?_⟩ <;> simp [go_sem]) b1 (by simp <;> omega)
  have XR : Box w1 (w.heap.size + 1) 0 0 none 0 0 := Box.below (by refine ⟨?_, ?_, ?_⟩ <;> simp [go_sem]) b1 (by simp)
  have NR : NF w1 (w.heap.size + 1) := NF.below (by intro i x; rcases i with _ | _ | _ | i <;> simp [go_sem]) b1 (by simp)
  have IR : ∀ i, w1.frozen? ⟨w.heap.size + 1, i, none⟩ = false := fun i => (b1.frozen (p := ⟨w.heap.size + 1, i, none⟩) (by simp)).trans (by simp [go_sem])
  have z0 := XR.1
  have z1 := XR.2.1
  have z2 := XR.2.2
  clear b1
  go_wp2_with fail
  go_at_call 13
  refine (specSquare_any w.heap.size r r _ N d1 Z _ (by omega) X1 (h.below B1 (Nat.le_refl _))).mono ?_
  rintro e w2 ⟨rfl, m2, rfl⟩
  rw [HSQ.out]
  rw [HPK.out] at frr
  have hrc := frr.1
  go_wp2_with fail
  go_at_call 14
  refine (l04RoundsP K _).mono ?_
  rw [HKR.out]
  rintro e w2 ⟨rfl, rfl⟩
  go_wp2_with fail
  go_at_call 15
  refine (l02Own_any w.heap.size p1 o1 N d1 r r Z _ hpos h144 (by show w.heap.size < w1.heap.size; omega) X1.drewN (FS.drewN (h.below B1 (Nat.le_refl _)))).mono ?_
  rintro e w3 ⟨g, d, rfl, o3, b3'⟩
  have b3 : Below w1.heap.size w1 w3 := Below.trans (by repeat first | (with_reducible exact Below.refl _ _) | (with_reducible refine Below.setCell ?_ (by first | exact Nat.le_refl _ | (simp; done) | (simp; omega) | omega) _) | (with_reducible refine Below.alloc ?_ (by first | exact Nat.le_refl _ | (simp; done) | (simp; omega) | omega) _) | (with_reducible refine below_drewN ?_ _) | (with_reducible refine Below.drew ?_)) (b3'.mono (by simp [World.drewN]))
  have o3' : Own 34 .f32 w1.heap.size w3.heap.size w3 (some ⟨g, 0, none⟩) N d Z := by simpa [World.drewN] using o3
  have s3 := b3.size
  have B3 := B1.trans (b3.mono B1.size)
  have XR3 := XR.below b3 (by omega)
  have NR3 := NR.below b3 (by omega)
  have I3 : ∀ i, w3.frozen? ⟨w.heap.size + 1, i, none⟩ = false := fun i => (b3.frozen (p := ⟨w.heap.size + 1, i, none⟩) (by show w.heap.size + 1 < w1.heap.size; omega)).trans (IR i)
  have hfs := o3'.fs
  have hd1 : N ≤ d := hfs.1
  have hd2 : d ≤ 9223372036854775807 := by have hh := hfs.2.1; unfold maxLen at hh; omega
  have wk := Wk.start (W0 := w) (rb := w.heap.size + 1) (R := (r : Int)) (C := (r : Int)) 26 o3' XR3 I3 B3 (by omega) (by omega) (by omega)
  have NX : NF (w3.alloc (.cells #[.int .i64 (r : Int), .int .i64 (r : Int), .slice (some ⟨g, 0, none⟩) N d] 26)) w3.heap.size := by intro i x; rcases i with _ | _ | _ | i <;> simp [go_sem]
  have NR4 : NF (w3.alloc (.cells #[.int .i64 (r : Int), .int .i64 (r : Int), .slice (some ⟨g, 0, none⟩) N d] 26)) (w.heap.size + 1) := NR3.below (by repeat first | (with_reducible exact Below.refl _ _) | (with_reducible refine Below.setCell ?_ (by first | exact Nat.le_refl _ | (simp; done) | (simp; omega) | omega) _) | (with_reducible refine Below.alloc ?_ (by first | exact Nat.le_refl _ | (simp; done) | (simp; omega) | omega) _) | (with_reducible refine below_drewN ?_ _) | (with_reducible refine Below.drew ?_)) (by omega)
  clear o3 o3' b3 b3' XR3 I3 B3 B1 X1 XR NR IR hfs z0 z1 z2 h NR3
  go_wp2
  go_loopw [9] (fun i wr => ∃ (j : Nat) (X : Nat → Nat), j ≤ N ∧ i = .int .i64 j ∧ (∀ t, t < N → vals X t = if t < j then fop .quo .f32 (vals Z t) NN else vals Z t) ∧ NF wr w3.heap.size ∧ NF wr (w.heap.size + 1) ∧ Wk w w1.heap.size w3.heap.size g d w3.heap.size (w.heap.size + 1) r r N X wr) (fun i _ => N - (intOf i).toNat)
  case atStart => exact ⟨0, Z, Nat.zero_le _, rfl, fun t ht => by rw [if_neg (by omega)], NX, NR4, wk⟩
  case round =>
    obtain ⟨j, X, hj, rfl, hv, nx, nr, hk⟩ := hrel
    clear wk NX NR4
    obtain ⟨g1, g2, g3, g4⟩ := hk.facts hpos
    have lb := hk.top
    obtain ⟨y0, y1, y2⟩ := hk.box
    by_cases hlt : j < N
    · obtain ⟨hce, hfr, _, _, _, hw⟩ := hk.own.cell hlt
      have fx : FV .f32 (X j) (vals Z j) := FV.of_eq (FV.mk' hw) (by have := hv j hlt; rw [if_neg (Nat.lt_irrefl _)] at this; exact this)
      have gs : g < wr.heap.size := by omega
      have HV := Lib.hid hv
      have HK := Lib.hid hk
      have HNX := Lib.hid nx
      have HNR := Lib.hid nr
      clear hv hk nx nr hw
      obtain ⟨x, hx⟩ : ∃ x, x = X j := ⟨_, rfl⟩
      obtain ⟨zz, hzz⟩ : ∃ zz, zz = vals Z j := ⟨_, rfl⟩
      have HZZ := Lib.hid hzz
      rw [← hx] at hce fx
      rw [← hzz] at fx
      clear hx hzz
      go_wp2
      generalize hw0 : wr = w0 at y0 y1 y2 hce hfr g3 g4 lb gs HK HNX HNR ⊢
      (refine wp_region_kinds (fun w' => Below w0.heap.size w0 w') (fun i => if i = 9 then 1 else 0) 11 (below_drewN (Below.refl _ _) 1) (by kernel_rfl) (by kernel_rfl) (by kernel_rfl) ?_; simp only [List.take_succ_cons, List.take_zero, List.drop_succ_cons, List.drop_zero])
      ((with_reducible refine wpKinds_run (.pointer (some ⟨w3.heap.size, 2, none⟩)) ?hwant ?hkind ?hrun ?_); (case hwant => first | (simp [Region.wanted, yielded]; done) | rfl); (case hkind => rfl); (case hrun => intro W hW; simp [go_sem, BigFrame.eval_const, BigFrame.eval_global, BigFrame.eval_func]); simp only [Act.put, List.setIfInBounds_toArray, List.set_cons_succ, List.set_cons_zero])
      ((with_reducible refine wpKinds_run (.slice (some ⟨g, 0, none⟩) N d) ?hwant ?hkind ?hrun ?_); (case hwant => first | (simp [Region.wanted, yielded]; done) | rfl); (case hkind => rfl); (case hrun => intro W hW; have hcell := (hW.cell (p := _) (by assumption)).trans y2; simp [go_sem, BigFrame.eval_const, BigFrame.eval_global, BigFrame.eval_func, hcell]); simp only [Act.put, List.setIfInBounds_toArray, List.set_cons_succ, List.set_cons_zero])
      ((with_reducible refine wpKinds_plain ?hwant ?hkind ?hplain (fun K hK => ?_)); (case hwant => first | (simp [Region.wanted, yielded]; done) | rfl); (case hkind => rfl); (case hplain => rfl); go_big_quiet_op; (first | refine hK _ ?_ | refine ⟨_, fun _ _ => rfl, hK _ ?_⟩); clear hK K)
      ((with_reducible refine wpKinds_run (.pointer (some ⟨w3.heap.size, 2, none⟩)) ?hwant ?hkind ?hrun ?_); (case hwant => first | (simp [Region.wanted, yielded]; done) | rfl); (case hkind => rfl); (case hrun => intro W hW; simp [go_sem, BigFrame.eval_const, BigFrame.eval_global, BigFrame.eval_func]); simp only [Act.put, List.setIfInBounds_toArray, List.set_cons_succ, List.set_cons_zero])
      ((with_reducible refine wpKinds_run (.slice (some ⟨g, 0, none⟩) N d) ?hwant ?hkind ?hrun ?_); (case hwant => first | (simp [Region.wanted, yielded]; done) | rfl); (case hkind => rfl); (case hrun => intro W hW; have hcell := (hW.cell (p := _) (by assumption)).trans y2; simp [go_sem, BigFrame.eval_const, BigFrame.eval_global, BigFrame.eval_func, hcell]); simp only [Act.put, List.setIfInBounds_toArray, List.set_cons_succ, List.set_cons_zero])
      ((with_reducible refine wpKinds_plain ?hwant ?hkind ?hplain (fun K hK => ?_)); (case hwant => first | (simp [Region.wanted, yielded]; done) | rfl); (case hkind => rfl); (case hplain => rfl); go_big_quiet_op; (first | refine hK _ ?_ | refine ⟨_, fun _ _ => rfl, hK _ ?_⟩); clear hK K)
      ((with_reducible refine wpKinds_run (.pointer (some ⟨g, j, none⟩)) ?hwant ?hkind ?hrun ?_); (case hwant => first | (simp [Region.wanted, yielded]; done) | rfl); (case hkind => rfl); (case hrun => intro W hW; simp [go_sem, BigFrame.eval_const, BigFrame.eval_global, BigFrame.eval_func, hlt]); simp only [Act.put, List.setIfInBounds_toArray, List.set_cons_succ, List.set_cons_zero])
      ((with_reducible refine wpKinds_run (.float .f32 x) ?hwant ?hkind ?hrun ?_); (case hwant => first | (simp [Region.wanted, yielded]; done) | rfl); (case hkind => rfl); (case hrun => intro W hW; have hcell := (hW.cell (p := _) (by assumption)).trans hce; simp [go_sem, BigFrame.eval_const, BigFrame.eval_global, BigFrame.eval_func, hcell]); simp only [Act.put, List.setIfInBounds_toArray, List.set_cons_succ, List.set_cons_zero])
      ((with_reducible refine wpKinds_plain ?hwant ?hkind ?hplain (fun K hK => ?_)); (case hwant => first | (simp [Region.wanted, yielded]; done) | rfl); (case hkind => rfl); (case hplain => rfl); go_big_quiet_op; (first | refine hK _ ?_ | refine ⟨_, fun _ _ => rfl, hK _ ?_⟩); clear hK K)
      refine wpKinds_farith (fun W m hW => below_drewN hW m) rfl rfl _ _ _ _ _ rfl rfl _ _ _ rfl rfl fx frr (fun r5 hr5 => ?_)
      simp only [Act.put, List.setIfInBounds_toArray, List.set_cons_succ, List.set_cons_zero]
      ((with_reducible refine wpKinds_run (.pointer (some ⟨g, j, none⟩)) ?hwant ?hkind ?hrun ?_); (case hwant => first | (simp [Region.wanted, yielded]; done) | rfl); (case hkind => rfl); (case hrun => intro W hW; simp [go_sem, BigFrame.eval_const, BigFrame.eval_global, BigFrame.eval_func, hlt]); simp only [Act.put, List.setIfInBounds_toArray, List.set_cons_succ, List.set_cons_zero])
      refine wpKinds_nil ?_
      intro w6 hC
      have hk6 := HK.out.below hC g3 g4
      have hst := hk6.stored (t := j) (v := r5) hlt hr5.2
      have hg6 := (hk6.own.stored (t := j) (v := r5) hlt hr5.2).2
      have s6 := hC.size
      have nx6 := Lib.hid (((HNX.out.below hC lb).grown hg6 (by omega) (fun e => by have := Option.some.inj e; omega)))
      have nr6 := Lib.hid (((HNR.out.below hC g4).grown hg6 (by omega) (fun e => by have := Option.some.inj e; omega)))
      have hst' := Lib.hid hst
      obtain ⟨hce6, hfr6, _⟩ := hk6.own.cell hlt
      have hvn : Hid (∀ t, t < N → vals (fun t => if t = j then r5 else X t) t = if t < j + 1 then fop .quo .f32 (vals Z t) NN else vals Z t) := Lib.hid fun t ht => by
        rw [vals_putU]
        by_cases e : t = j
        · rw [if_pos e, if_pos (by omega), hr5.1, e, ← HZZ.out]
        · rw [if_neg e, HV.out t ht]
          by_cases e2 : t < j
          · rw [if_pos e2, if_pos (by omega)]
          · rw [if_neg e2, if_neg (by omega)]
      clear hst hk6 HK HV hC y0 y1 y2 hce hfr hg6 HNX HNR fx
      generalize X j = old at hce6
      go_wp2_with fail
      go_roundw
      case rel => exact ⟨j + 1, _, by omega, by go_num, hvn.out, nx6.out, nr6.out, hst'.out⟩
      case measure => simp [intOf] <;> omega
    · obtain rfl : j = N := by omega
      have hXv : ∀ t, t < j → vals X t = unitV j (vals Z) t := fun t ht => by rw [hv t ht, if_pos ht]; exact HUV.out t
      have hXD := same_datP hk.own.fs hXv HUA.out
      have hgood : good j (P 0) := by
        intro D hD
        rw [HP0.out] at hD
        have hD' : D0 = D := Option.some.inj hD
        subst hD'
        rw [HD0.out]
        exact optM_fin HUA.out (fun t ht => vals_datP HUA.out ht (FV.of_eq (fsP_fv hk.own.fs ht) (hXv t ht)))
      have fx0 : FS .f32 wr (some ⟨g, 0, none⟩) (qN j (P 0)) d (qD (P 0)) := by rw [HP0.out]; exact FS.sameQ hk.own.fs (fun t ht => by rw [hXD t ht, HD0.out]; rfl)
      have bx0 : Box wr w3.heap.size (qR r (P 0)) (qR r (P 0)) (some ⟨g, 0, none⟩) (qN j (P 0)) d := by rw [HP0.out]; exact hk.box
      have hs0 : (P 0).isSome = true := by rw [HP0.out]; rfl
      have rs0 := hk.res
      have bl0 := hk.bel
      have ic0 := hk.ice
      have ix0 := hk.ice2
      clear hv hk hXv hXD
      go_wp2
      go_loopw [10] (fun i wr => ∃ (k : Nat) (g : Option Addr) (d : Nat), k ≤ K ∧ i = .int .i64 k ∧ (P k).isSome = true ∧ Box wr w3.heap.size (qR r (P k)) (qR r (P k)) g (qN j (P k)) d ∧ FS .f32 wr g (qN j (P k)) d (qD (P k)) ∧ good j (P k) ∧ NF wr w3.heap.size ∧ NF wr (w.heap.size + 1) ∧ Box wr (w.heap.size + 1) 0 0 none 0 0 ∧ (∀ i, wr.frozen? ⟨w.heap.size + 1, i, none⟩ = false) ∧ (∀ i, wr.frozen? ⟨w3.heap.size, i, none⟩ = false) ∧ Below w.heap.size w wr ∧ w3.heap.size < wr.heap.size) (fun i _ => K - (intOf i).toNat)
      case atStart => exact ⟨0, some ⟨g, 0, none⟩, d, Nat.zero_le _, rfl, hs0, bx0, fx0, hgood, nx, nr, rs0, ic0, ix0, bl0, lb⟩
      case round =>
        obtain ⟨k, g', d', hk, rfl, hsm, XX, fx, hgd, nx2, nr2, XR, IR, IX, Br, sr⟩ := hrel
        clear fx0 bx0 hgood nx nr rs0 ic0 ix0 bl0 hs0 y0 y1 y2
        by_cases hlt2 : k < K
        · have HS := Lib.hid (HPS.out k)
          obtain ⟨p0, hp0⟩ : ∃ p0, p0 = P k := ⟨_, rfl⟩
          rw [← hp0] at XX fx hgd HS hsm
          obtain ⟨D, hD⟩ : ∃ D, p0 = some D := Option.isSome_iff_exists.1 hsm
          clear hp0
          subst hD
          obtain ⟨pb, po, rfl, _⟩ := fx.at (show 0 < qN j (some D) from hpos)
          obtain ⟨v0, v1, v2⟩ := XX
          go_wp2_with fail
          go_at_call 16
          refine (l02Flip_any w3.heap.size r r j pb po d' D _ h1 h12 h1 h12 HN.out sr ⟨v0, v1, v2⟩ fx).mono ?_
          rintro e w6 ⟨g6, d6, Y6, rfl, f6', hlow6, hY6, b6⟩
          have hff := flip_fin HN.out (hgd D rfl)
          have f6'' : FS .f32 w6 g6 j d6 (flipZ r r D) := FS.sameQ f6' (fun t ht => by
            have hy := fsP_fv f6' ht
            have e3 : vals Y6 t = some (flipZ r r D t) := (hY6 t ht).trans (cn_fin (x := flipZ r r D t) (show finite .f32 (cn .f32 (flipZ r r D t)) = true from allFin_lt (V := vals (flipZ r r D)) hff ht)).1
            rw [e3] at hy
            exact hy.eq)
          obtain ⟨p6, hp6⟩ : ∃ p6, p6 = flipO r (some D) := ⟨_, rfl⟩
          have good6 : good j p6 := by rw [hp6]; intro D' hD'; have : flipZ r r D = D' := Option.some.inj hD'; subst this; exact hff
          have fo6 : FS .f32 w6 g6 (qN j p6) d6 (qD p6) := by rw [hp6]; exact f6''
          have a6 : (Value.agg #[.int .i64 (r : Int), .int .i64 (r : Int), .slice g6 j d6]) = .agg #[.int .i64 (qR r p6), .int .i64 (qR r p6), .slice g6 (qN j p6) d6] := by rw [hp6]; rfl
          rw [a6]
          rw [← hp6] at HS
          have XX : Box wr w3.heap.size (qR r (some D)) (qR r (some D)) (some ⟨pb, po, none⟩) (qN j (some D)) d' := ⟨v0, v1, v2⟩
          obtain ⟨p0, hp0⟩ : ∃ p0, p0 = some D := ⟨_, rfl⟩
          rw [← hp0] at XX fx hgd HS
          clear hp6 v0 v1 v2 f6' f6'' hY6 hff a6 hp0 hsm hlow6
          have c6 : Below w6.heap.size w6 (w6.alloc (.cells #[.int .i64 (qR r p6), .int .i64 (qR r p6), .slice g6 (qN j p6) d6] 26)) := (by repeat first | (with_reducible exact Below.refl _ _) | (with_reducible refine Below.setCell ?_ (by first | exact Nat.le_refl _ | (simp; done) | (simp; omega) | omega) _) | (with_reducible refine Below.alloc ?_ (by first | exact Nat.le_refl _ | (simp; done) | (simp; omega) | omega) _) | (with_reducible refine below_drewN ?_ _) | (with_reducible refine Below.drew ?_))
          have XF6 := Box.new w6 26 (qR r p6) (qR r p6) g6 (qN j p6) d6
          have t6 : w6.heap.size < (w6.alloc (.cells #[.int .i64 (qR r p6), .int .i64 (qR r p6), .slice g6 (qN j p6) d6] 26)).heap.size := by simp
          have C6 : Below wr.heap.size wr (w6.alloc (.cells #[.int .i64 (qR r p6), .int .i64 (qR r p6), .slice g6 (qN j p6) d6] 26)) := b6.trans (c6.mono b6.size)
          obtain ⟨v0, v1, v2⟩ := XX.below C6 sr
          obtain ⟨y0, y1, y2⟩ := XF6
          have f6 := fo6.below c6 (Nat.le_refl _)
          have fx6 := fx.below C6 (Nat.le_refl _)
          go_wp2_with fail
          go_at_call 17
          refine (mul_cS h1 h12 HN.out p6 p0 good6 hgd g6 d6 (some ⟨pb, po, none⟩) d' _ f6 fx6).mono ?_
          obtain ⟨p7, hp7⟩ : ∃ p7, p7 = mulO r j p6 p0 := ⟨_, rfl⟩
          rw [← hp7] at HS ⊢
          rintro e w7 ⟨g7, d7, rfl, o7, good7, b7⟩
          have C7 : Below wr.heap.size wr w7 := C6.trans (b7.mono C6.size)
          clear hp7 v0 v1 v2 y0 y1 y2 f6 fx6 fo6 good6 b6 c6 C6 b7
          have c7 : Below w7.heap.size w7 (w7.alloc (.cells #[.int .i64 (qR r p7), .int .i64 (qR r p7), .slice g7 (qN j p7) d7] 26)) := (by repeat first | (with_reducible exact Below.refl _ _) | (with_reducible refine Below.setCell ?_ (by first | exact Nat.le_refl _ | (simp; done) | (simp; omega) | omega) _) | (with_reducible refine Below.alloc ?_ (by first | exact Nat.le_refl _ | (simp; done) | (simp; omega) | omega) _) | (with_reducible refine below_drewN ?_ _) | (with_reducible refine Below.drew ?_))
          have XF7 := Box.new w7 26 (qR r p7) (qR r p7) g7 (qN j p7) d7
          have t7 : w7.heap.size < (w7.alloc (.cells #[.int .i64 (qR r p7), .int .i64 (qR r p7), .slice g7 (qN j p7) d7] 26)).heap.size := by simp
          have C8 : Below wr.heap.size wr (w7.alloc (.cells #[.int .i64 (qR r p7), .int .i64 (qR r p7), .slice g7 (qN j p7) d7] 26)) := C7.trans (c7.mono C7.size)
          obtain ⟨v0, v1, v2⟩ := XX.below C8 sr
          obtain ⟨y0, y1, y2⟩ := XF7
          have f7 := o7.below c7 (Nat.le_refl _)
          have fx7 := fx.below C8 (Nat.le_refl _)
          go_wp2_with fail
          go_at_call 17
          refine (mul_cS h1 h12 HN.out p0 p7 hgd good7 (some ⟨pb, po, none⟩) d' g7 d7 _ fx7 f7).mono ?_
          obtain ⟨p8, hp8⟩ : ∃ p8, p8 = mulO r j p0 p7 := ⟨_, rfl⟩
          have E8 := Lib.hid hp8.symm
          rw [← hp8] at HS ⊢
          rintro e w8 ⟨g8, d8, rfl, o8, good8, b8⟩
          have C7' : Below wr.heap.size wr w8 := C8.trans (b8.mono C8.size)
          clear hp8 v0 v1 v2 y0 y1 y2 f7 fx7 o7 good7 c7 C7 C8 b8
          have c8 : Below w8.heap.size w8 (w8.alloc (.cells #[.int .i64 (qR r p8), .int .i64 (qR r p8), .slice g8 (qN j p8) d8] 26)) := (by repeat first | (with_reducible exact Below.refl _ _) | (with_reducible refine Below.setCell ?_ (by first | exact Nat.le_refl _ | (simp; done) | (simp; omega) | omega) _) | (with_reducible refine Below.alloc ?_ (by first | exact Nat.le_refl _ | (simp; done) | (simp; omega) | omega) _) | (with_reducible refine below_drewN ?_ _) | (with_reducible refine Below.drew ?_))
          have XF8 := Box.new w8 26 (qR r p8) (qR r p8) g8 (qN j p8) d8
          have t8 : w8.heap.size < (w8.alloc (.cells #[.int .i64 (qR r p8), .int .i64 (qR r p8), .slice g8 (qN j p8) d8] 26)).heap.size := by simp
          have C8 : Below wr.heap.size wr (w8.alloc (.cells #[.int .i64 (qR r p8), .int .i64 (qR r p8), .slice g8 (qN j p8) d8] 26)) := C7'.trans (c8.mono C7'.size)
          obtain ⟨v0, v1, v2⟩ := XX.below C8 sr
          obtain ⟨y0, y1, y2⟩ := XF8
          have f8 := o8.below c8 (Nat.le_refl _)
          have fx8 := fx.below C8 (Nat.le_refl _)
          have s8 := C8.size
          go_wp2_with fail
          go_at_call 18
          refine (weigh_cS h1 h12 HN.out 1069547520 3204448256 (by decide) (by decide) (by decide +kernel) (by decide +kernel) p0 p8 hgd good8 (some ⟨pb, po, none⟩) d' g8 d8 _ fx8 f8).mono ?_
          rw [HS.out]
          rintro e w9 ⟨g9, d9, rfl, f9, good9, b9⟩
          have C9 : Below wr.heap.size wr w9 := C8.trans (b9.mono C8.size)
          have s9 := C9.size
          clear v0 v1 v2 y0 y1 y2 f8 fx8 o8 good8 c8 C7' C8 b9
          have XX9 := XX.below C9 sr
          have nx9 := nx2.below C9 sr
          have nr9 := nr2.below C9 (by omega)
          have IX9 : ∀ i, w9.frozen? ⟨w3.heap.size, i, none⟩ = false := fun i => (C9.frozen (p := ⟨w3.heap.size, i, none⟩) (by show w3.heap.size < wr.heap.size; omega)).trans (IX i)
          have XR9 := XR.below C9 (by omega)
          have IR9 : ∀ i, w9.frozen? ⟨w.heap.size + 1, i, none⟩ = false := fun i => (C9.frozen (p := ⟨w.heap.size + 1, i, none⟩) (by show w.heap.size + 1 < wr.heap.size; omega)).trans (IR i)
          have B9 := Br.trans (C9.mono Br.size)
          clear XX fx hgd XR IR IX Br nx2 nr2
          by_cases hb9 : (P (k + 1)).isSome = true
          case neg =>
            have hp9 : P (k + 1) = none := by cases hh : P (k + 1) with | none => rfl | some _ => exact absurd (by rw [hh]; rfl) hb9
            clear hb9
            have hPK : Hid (P K = none) := Lib.hid (by have := HPN.out (k + 1) (K - (k + 1)) hp9; rwa [show k + 1 + (K - (k + 1)) = K by omega] at this)
            rw [hp9]
            have hal0 : ∀ o, (w9.alloc o).cell? ⟨w.heap.size + 1, 0, none⟩ = some (.int .i64 0) := fun o => (World.cell?_alloc_lt w9 o ⟨w.heap.size + 1, 0, none⟩ (by show w.heap.size + 1 < w9.heap.size; omega)).trans XR9.1
            have hal1 : ∀ o, (w9.alloc o).cell? ⟨w.heap.size + 1, 1, none⟩ = some (.int .i64 0) := fun o => (World.cell?_alloc_lt w9 o ⟨w.heap.size + 1, 1, none⟩ (by show w.heap.size + 1 < w9.heap.size; omega)).trans XR9.2.1
            have hal2 : ∀ o, (w9.alloc o).cell? ⟨w.heap.size + 1, 2, none⟩ = some (.slice none 0 0) := fun o => (World.cell?_alloc_lt w9 o ⟨w.heap.size + 1, 2, none⟩ (by show w.heap.size + 1 < w9.heap.size; omega)).trans XR9.2.2
            have hfz2 : ∀ o i, (w9.alloc o).frozen? ⟨w.heap.size + 1, i, none⟩ = false := fun o i => ((show Below w9.heap.size w9 (w9.alloc o) from (by repeat first | (with_reducible exact Below.refl _ _) | (with_reducible refine Below.setCell ?_ (by first | exact Nat.le_refl _ | (simp; done) | (simp; omega) | omega) _) | (with_reducible refine Below.alloc ?_ (by first | exact Nat.le_refl _ | (simp; done) | (simp; omega) | omega) _) | (with_reducible refine below_drewN ?_ _) | (with_reducible refine Below.drew ?_))).frozen (p := ⟨w.heap.size + 1, i, none⟩) (by show w.heap.size + 1 < w9.heap.size; omega)).trans (IR9 i)
            obtain ⟨q7, hq7⟩ : ∃ q, q = p7.isSome := ⟨_, rfl⟩
            obtain ⟨q8, hq8⟩ : ∃ q, q = p8.isSome := ⟨_, rfl⟩
            rw [← hq7, ← hq8]
            clear hq7 hq8 XX9 nx9 nr9 IX9 XR9 IR9 f9 good9 hp9 HS
            have hno : Option.isSome (none : Option (Nat → Nat)) = false := rfl
            cases q7
            all_goals cases q8
            all_goals
              go_wp2_with fail
              refine bodyPost_ret (v := .tuple #[.agg #[.int .i64 0, .int .i64 0, .slice none 0 0], .bool false]) (by simp [results, Try.results5, go_sem, hal0, hal1, hal2]) rfl ?_
              have hb9 := B9
              show PolIfB r j (P K) w _ _
              rw [hPK.out]
              exact ⟨none, 0, fun _ => 0, rfl, ⟨Nat.le_refl _, Nat.zero_le _, fun i hi => absurd hi (Nat.not_lt_zero _)⟩, fun i hi => absurd hi (Nat.not_lt_zero _), (by repeat first | (with_reducible exact hb9) | (with_reducible refine Below.setCell ?_ (by first | exact Nat.le_refl _ | (simp; done) | (simp; omega) | omega) _) | (with_reducible refine Below.alloc ?_ (by first | exact Nat.le_refl _ | (simp; done) | (simp; omega) | omega) _) | (with_reducible refine below_drewN ?_ _) | (with_reducible refine Below.drew ?_))⟩
          case pos =>
            have hb8 : p8.isSome = true := weigh_some (r := r) (by rw [HS.out]; exact hb9)
            have hb7 : p7.isSome = true := mul_some (r := r) (by rw [E8.out]; exact hb8)
            rw [hb7, hb8, hb9]
            clear hb7 hb8
            have c9 : Below w9.heap.size w9 (w9.alloc (.cells #[.int .i64 (qR r (P (k + 1))), .int .i64 (qR r (P (k + 1))), .slice g9 (qN j (P (k + 1))) d9] 26)) := (by repeat first | (with_reducible exact Below.refl _ _) | (with_reducible refine Below.setCell ?_ (by first | exact Nat.le_refl _ | (simp; done) | (simp; omega) | omega) _) | (with_reducible refine Below.alloc ?_ (by first | exact Nat.le_refl _ | (simp; done) | (simp; omega) | omega) _) | (with_reducible refine below_drewN ?_ _) | (with_reducible refine Below.drew ?_))
            have XF9 := Box.new w9 26 (qR r (P (k + 1))) (qR r (P (k + 1))) g9 (qN j (P (k + 1))) d9
            have t9 : w9.heap.size < (w9.alloc (.cells #[.int .i64 (qR r (P (k + 1))), .int .i64 (qR r (P (k + 1))), .slice g9 (qN j (P (k + 1))) d9] 26)).heap.size := by simp
            have XX10 := XX9.below c9 (by omega)
            have IX10 : ∀ i, (w9.alloc (.cells #[.int .i64 (qR r (P (k + 1))), .int .i64 (qR r (P (k + 1))), .slice g9 (qN j (P (k + 1))) d9] 26)).frozen? ⟨w3.heap.size, i, none⟩ = false := fun i => (c9.frozen (p := ⟨w3.heap.size, i, none⟩) (by show w3.heap.size < w9.heap.size; omega)).trans (IX9 i)
            have XR10 := XR9.below c9 (by omega)
            have IR10 : ∀ i, (w9.alloc (.cells #[.int .i64 (qR r (P (k + 1))), .int .i64 (qR r (P (k + 1))), .slice g9 (qN j (P (k + 1))) d9] 26)).frozen? ⟨w.heap.size + 1, i, none⟩ = false := fun i => (c9.frozen (p := ⟨w.heap.size + 1, i, none⟩) (by show w.heap.size + 1 < w9.heap.size; omega)).trans (IR9 i)
            have B10 := B9.trans (c9.mono B9.size)
            have nx10 := nx9.below c9 (by omega)
            have nr10 := nr9.below c9 (by omega)
            have f10 := f9.below c9 (Nat.le_refl _)
            clear XX9 IX9 XR9 IR9 B9 nx9 nr9 f9
            obtain ⟨y0, y1, y2⟩ := XF9
            obtain ⟨v0, v1, v2⟩ := XX10
            have G := putQ_grown (w9.alloc (.cells #[.int .i64 (qR r (P (k + 1))), .int .i64 (qR r (P (k + 1))), .slice g9 (qN j (P (k + 1))) d9] 26)) w3.heap.size (qR r (P (k + 1))) (qR r (P (k + 1))) g9 (qN j (P (k + 1))) d9
            have XY := Lib.hid (putQ_box (⟨v0, v1, v2⟩ : Box _ _ _ _ _ _ _) (qR r (P (k + 1))) (qR r (P (k + 1))) g9 (qN j (P (k + 1))) d9)
            have IY := Lib.hid (putQ_ice IX10 w3.heap.size (qR r (P (k + 1))) (qR r (P (k + 1))) g9 (qN j (P (k + 1))) d9)
            have IY2 := Lib.hid (putQ_ice IR10 w3.heap.size (qR r (P (k + 1))) (qR r (P (k + 1))) g9 (qN j (P (k + 1))) d9)
            have XRY := Lib.hid (XR10.grown G (by omega) (fun q hq => by cases hq; omega))
            have BY := Lib.hid (B10.grown G B10.size (fun q hq => by cases hq; omega))
            have FY := Lib.hid (FS.qput f10 nx10 (qR r (P (k + 1))) (qR r (P (k + 1))) g9 (qN j (P (k + 1))) d9)
            have NY := Lib.hid (NF.put nx10 (⟨v0, v1, v2⟩ : Box _ _ _ _ _ _ _) (qR r (P (k + 1))) (qR r (P (k + 1))) g9 (qN j (P (k + 1))) d9)
            have NRY := Lib.hid (nr10.grown G (by omega) (fun e => by have := Option.some.inj e; omega))
            have gd9 := Lib.hid good9
            have sz := Lib.hid (Nat.lt_of_lt_of_le (show w3.heap.size < (w9.alloc (.cells #[.int .i64 (qR r (P (k + 1))), .int .i64 (qR r (P (k + 1))), .slice g9 (qN j (P (k + 1))) d9] 26)).heap.size by omega) G.size)
            have hsm9 := Lib.hid hb9
            clear G XR10 IR10 B10 nx10 nr10 f10 good9 C9 hb9 HS
            go_wp2_with fail
            go_roundw
            case rel => exact ⟨k + 1, g9, d9, by omega, by go_num, hsm9.out, XY.out, FY.out, gd9.out, NY.out, NRY.out, XRY.out, IY2.out, IY.out, BY.out, sz.out⟩
            case measure => simp [intOf] <;> omega
        · obtain rfl : k = K := by omega
          obtain ⟨D, hD⟩ : ∃ D, P k = some D := Option.isSome_iff_exists.1 hsm
          obtain ⟨v0, v1, v2⟩ := XX
          obtain ⟨z0, z1, z2⟩ := XR
          rw [hD] at v0 v1 v2 fx hgd ⊢
          have hvD : validB r r j (vals D) = true := by rw [validB_nat h1 h12 h1 h12 HN.out]; exact hgd D rfl
          have hfar := nr2.ne fx (show 0 < qN j (some D) from hpos)
          go_wp2_with fail
          go_at_call 19
          refine (specGive_yes r r g' j d' D _ (by omega) fx hvD).mono ?_
          rintro e w6 ⟨rfl, b6⟩
          have B6 := Br.trans (b6.mono Br.size)
          have y0 := (b6.cell (p := ⟨w.heap.size + 1, 0, none⟩) (by show w.heap.size + 1 < wr.heap.size; omega)).trans z0
          have y1 := (b6.cell (p := ⟨w.heap.size + 1, 1, none⟩) (by show w.heap.size + 1 < wr.heap.size; omega)).trans z1
          have y2 := (b6.cell (p := ⟨w.heap.size + 1, 2, none⟩) (by show w.heap.size + 1 < wr.heap.size; omega)).trans z2
          have I6 : ∀ i, w6.frozen? ⟨w.heap.size + 1, i, none⟩ = false := fun i => (b6.frozen (p := ⟨w.heap.size + 1, i, none⟩) (by show w.heap.size + 1 < wr.heap.size; omega)).trans (IR i)
          have f6 : FS .f32 w6 g' j d' D := fx.below b6 (Nat.le_refl _)
          clear b6 v0 v1 v2 z0 z1 z2 IR IX fx
          go_wp2_with fail
          refine bodyPost_ret (v := .tuple #[.agg #[.int .i64 r, .int .i64 r, .slice g' j d'], .bool true]) (by simp [results, Try.results5, go_sem, y0, y1, y2]) rfl ?_
          show PolIfB r j (P k) w _ _
          rw [hD]
          exact ⟨_, _, D, rfl, FS.to f6 (by simp [World.setCell]) (fun q hq => by have hf := hfar q hq; rw [Below.heap_setCell _ _ _ _ hf, Below.heap_setCell _ _ _ _ hf, Below.heap_setCell _ _ _ _ hf]), fun i hi => rfl, (by repeat first | (with_reducible exact B6) | (with_reducible refine Below.setCell ?_ (by first | exact Nat.le_refl _ | (simp; done) | (simp; omega) | omega) _) | (with_reducible refine Below.alloc ?_ (by first | exact Nat.le_refl _ | (simp; done) | (simp; omega) | omega) _) | (with_reducible refine below_drewN ?_ _) | (with_reducible refine Below.drew ?_))⟩
theorem keyPolarPart (R0 C0 : Int) (n0 : Nat) (Z0 : Nat → Nat) (x1 : Int) (hn0 : n0 ≤ 1048576) (wx1 : (Lit.int .i64 x1).wf = true) : ∃ (ok : Bool) (R C : Int) (n : Nat) (V : Nat → Option Nat), n ≤ 144 ∧
    (∀ a c W, FS .f32 W a n0 c Z0 → Calls Try.prog 5 #[.agg #[.int .i64 R0, .int .i64 C0, .slice a n0 c], .int .i64 x1] W (MatBel ok R C n V W)) ∧
    (∀ a c W, FS .f32 W a n0 c Z0 → Calls Try.prog 7 #[.agg #[.int .i64 R0, .int .i64 C0, .slice a n0 c], .int .i64 x1] W (MatOwn ok R C n V W)) := by
  cases hok : wholeOk R0 C0 n0 Z0 with
  | false => exact ⟨false, 0, 0, 0, fun _ => none, by omega, fun a c W h => specPolar_norm R0 C0 a n0 c Z0 x1 W hn0 h hok, fun a c W h => implPolar_norm R0 C0 a n0 c Z0 x1 W hn0 h hok⟩
  | true =>
    cases hs : squareB R0 C0 n0 (vals Z0) with
    | false => exact ⟨false, 0, 0, 0, fun _ => none, by omega, fun a c W h => specPolar_sq R0 C0 a n0 c Z0 x1 W hn0 h hok hs, fun a c W h => implPolar_sq R0 C0 a n0 c Z0 x1 W hn0 h hok hs⟩
    | true =>
      cases ho : ((ford .f32 (wholeN n0 Z0) (some 0) == some .gt) && rdP x1) with
      | false => exact ⟨false, 0, 0, 0, fun _ => none, by omega, fun a c W h => specPolar_no R0 C0 a n0 c Z0 x1 W hn0 h hok hs ho, fun a c W h => implPolar_no R0 C0 a n0 c Z0 x1 W hn0 h hok hs ho⟩
      | true =>
        simp only [Bool.and_eq_true] at ho
        obtain ⟨hg, hr⟩ := ho
        have hg0 : ford .f32 (wholeN n0 Z0) (some 0) = some .gt := eq_of_beq hg
        have hr2 : 0 ≤ x1 ∧ x1 ≤ 64 := by unfold rdP at hr; simpa using hr
        obtain ⟨K, rfl⟩ : ∃ K : Nat, x1 = (K : Int) := ⟨x1.toNat, by omega⟩
        obtain ⟨r, rfl, rfl, h1, h12, hN, hf⟩ := square_nat hs
        have hpos : 0 < n0 := by rw [hN]; exact Nat.mul_pos h1 h1
        have k1 : ∀ a c W, FS .f32 W a n0 c Z0 → Calls Try.prog 5 #[.agg #[.int .i64 (r : Int), .int .i64 (r : Int), .slice a n0 c], .int .i64 K] W (PolIfB r n0 (polO r n0 1069547520 3204448256 (datP (unitV n0 (vals Z0))) K) W) := fun a c W h => by
          obtain ⟨q1, q2, rfl, _⟩ := h.at hpos
          exact specPolar_yes r n0 q1 q2 c K Z0 W h1 h12 hN (by omega) hok hs hf hg0 h
        have k2 : ∀ a c W, FS .f32 W a n0 c Z0 → Calls Try.prog 7 #[.agg #[.int .i64 (r : Int), .int .i64 (r : Int), .slice a n0 c], .int .i64 K] W (PolIf r n0 (polO r n0 1069547520 3204448256 (datP (unitV n0 (vals Z0))) K) W) := fun a c W h => by
          obtain ⟨q1, q2, rfl, _⟩ := h.at hpos
          exact implPolar_yes r n0 q1 q2 c K Z0 W h1 h12 hN (by omega) hok hs hf hg0 h
        cases hP : polO r n0 1069547520 3204448256 (datP (unitV n0 (vals Z0))) K with
        | none =>
          rw [hP] at k1 k2
          exact ⟨false, 0, 0, 0, fun _ => none, by omega, k1, k2⟩
        | some D =>
          rw [hP] at k1 k2
          exact ⟨true, r, r, n0, vals D, by have := sides_le h12 h12; omega, k1, k2⟩
end Go.Proofs.Ytbmiolfpgoggaaa
