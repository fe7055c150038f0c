/- Helper: the polar part of a square, of the program. Conditions: none. -/
import Derived.Test.YtbmiolfpgoggaaaPolarDefs
import Derived.Test.YtbmiolfpgoggaaaWk
import Derived.Test.YtbmiolfpgoggaaaWholeKey
set_option linter.unusedVariables false
set_option linter.unusedSimpArgs false
namespace Go.Proofs.Ytbmiolfpgoggaaa
open Go.RowKit

/-- A structure is stored into a box. -/
theorem putQ_grown (w : World) (q : Nat) (R C : Int) (a : Option Addr) (n c : Nat) : w.grownBy (((w.setCell ⟨q, 0, none⟩ (.int .i64 R)).setCell ⟨q, 1, none⟩ (.int .i64 C)).setCell ⟨q, 2, none⟩ (.slice a n c)) (some q) :=
  ⟨rfl, rfl, rfl, by simp [World.setCell], fun k _ hk => by
    have hne : k ≠ q := fun e => hk (by rw [e])
    rw [Below.heap_setCell _ _ _ _ hne, Below.heap_setCell _ _ _ _ hne, Below.heap_setCell _ _ _ _ hne]⟩
theorem putQ_box {w : World} {q : Nat} {R0 C0 : Int} {a0 : Option Addr} {n0 c0 : Nat} (h : Box w q R0 C0 a0 n0 c0) (R C : Int) (a : Option Addr) (n c : Nat) :
    Box (((w.setCell ⟨q, 0, none⟩ (.int .i64 R)).setCell ⟨q, 1, none⟩ (.int .i64 C)).setCell ⟨q, 2, none⟩ (.slice a n c)) q R C a n c := by
  obtain ⟨z0, z1, z2⟩ := h
  refine ⟨?_, ?_, ?_⟩
  · rw [World.cell?_setCell_other _ _ _ _ (by simp), World.cell?_setCell_other _ _ _ _ (by simp)]; exact World.cell?_setCell_same _ _ _ z0
  · rw [World.cell?_setCell_other _ _ _ _ (by simp)]; exact World.cell?_setCell_same _ _ _ (by rw [World.cell?_setCell_other _ _ _ _ (by simp)]; exact z1)
  · exact World.cell?_setCell_same _ _ _ (by rw [World.cell?_setCell_other _ _ _ _ (by simp), World.cell?_setCell_other _ _ _ _ (by simp)]; exact z2)
theorem putQ_ice {w : World} {p : Nat} (h : ∀ i, w.frozen? ⟨p, i, none⟩ = false) (q : Nat) (R C : Int) (a : Option Addr) (n c : Nat) :
    ∀ i, (((w.setCell ⟨q, 0, none⟩ (.int .i64 R)).setCell ⟨q, 1, none⟩ (.int .i64 C)).setCell ⟨q, 2, none⟩ (.slice a n c)).frozen? ⟨p, i, none⟩ = false := fun i => by
  rw [World.frozen?_setCell, World.frozen?_setCell, World.frozen?_setCell]; exact h i
theorem Own.addrP {T : TypeId} {k : FloatKind} {B U : Nat} {w : World} {a : Option Addr} {n c : Nat} {Z : Nat → Nat} (h : Own T k B U w a n c Z) (hn : 0 < n) : ∃ g, a = some ⟨g, 0, none⟩ := by
  rcases h with ⟨_, h0, _⟩ | ⟨g, xs, rfl, _⟩
  · omega
  · exact ⟨g, rfl⟩
def rdP (k : Int) : Bool := decide ((0 : Int) ≤ k) && decide (k ≤ 64)
def PolIf (r N : Nat) (o : Option (Nat → Nat)) (w : World) (e : Ending) (w' : World) : Prop :=
  match o with | some D => MatOwn true r r N (vals D) w e w' | none => MatOwn false 0 0 0 (fun _ => none) w e w'
theorem isRoundsP (k : Int) (w : World) : Calls Try.prog 23 #[.int .i64 k] w fun e w' => e = .returned (.bool (rdP k)) ∧ w = w' := by
  unfold rdP
  by_cases h1 : (0 : Int) ≤ k
  · by_cases h2 : k ≤ 64
    · have d1 := decide_eq_true h1
      have d2 := decide_eq_true h2
      go_enter Try.func23, Try.ntmps23
      go_wp2
      go_ret
      exact ⟨by simp [h1, h2], rfl⟩
    · have d1 := decide_eq_true h1
      have d2 := decide_eq_false h2
      go_enter Try.func23, Try.ntmps23
      go_wp2
      go_ret
      exact ⟨by simp [h1, h2], rfl⟩
  · have d1 := decide_eq_false h1
    go_enter Try.func23, Try.ntmps23
    go_wp2
    go_ret
    exact ⟨by simp [h1], rfl⟩
set_option maxRecDepth 20000 in
set_option maxHeartbeats 1000000 in
theorem implPolar_norm (R C : Int) (a : Option Addr) (n c : Nat) (Z : Nat → Nat) (K : Int) (w : World) (hn : n ≤ 1048576) (h : FS .f32 w a n c Z) (hok : wholeOk R C n Z = false) :
    Calls Try.prog 7 #[.agg #[.int .i64 R, .int .i64 C, .slice a n c], .int .i64 K] w (MatOwn false 0 0 0 (fun _ => none) w) := by
  have HOK := Lib.hid hok
  clear hok
  go_enter Try.func7, Try.ntmps7
  go_wp2_with fail
  go_at_call 21
  refine (implWhole_any R C a n c Z _ hn (h.below (by repeat first | (with_reducible exact Below.refl _ _) | (with_reducible refine Below.setCell ?_ (by first | exact Nat.le_refl _ | (simp; done) | (simp; omega) | omega) _) | (with_reducible refine Below.alloc ?_ (by first | exact Nat.le_refl _ | (simp; done) | (simp; omega) | omega) _) | (with_reducible refine below_drewN ?_ _) | (with_reducible refine Below.drew ?_)) (Nat.le_refl _))).mono ?_
  rintro e w1 ⟨rr, rfl, frr, b1⟩
  rw [HOK.out]
  have B1 : Below w.heap.size w w1 := Below.trans (by repeat first | (with_reducible exact Below.refl _ _) | (with_reducible refine Below.setCell ?_ (by first | exact Nat.le_refl _ | (simp; done) | (simp; omega) | omega) _) | (with_reducible refine Below.alloc ?_ (by first | exact Nat.le_refl _ | (simp; done) | (simp; omega) | omega) _) | (with_reducible refine below_drewN ?_ _) | (with_reducible refine Below.drew ?_)) (b1.mono (by simp; omega))
  have s1 : w.heap.size + 1 + 1 ≤ w1.heap.size := by have := b1.size; simp at this; omega
  obtain ⟨hc, hf⟩ := bcell b1
  clear frr
  go_wp2_with fail
  refine bodyPost_ret (v := .tuple #[.agg #[.int .i64 0, .int .i64 0, .slice none 0 0], .bool false]) (by simp [results, Try.results7, go_sem, hc]) rfl ?_
  exact ⟨none, 0, fun _ => 0, rfl, .inl ⟨rfl, rfl, rfl⟩, fun i hi => absurd hi (Nat.not_lt_zero _), (by repeat first | (with_reducible exact B1) | (with_reducible refine Below.setCell ?_ (by first | exact Nat.le_refl _ | (simp; done) | (simp; omega) | omega) _) | (with_reducible refine Below.alloc ?_ (by first | exact Nat.le_refl _ | (simp; done) | (simp; omega) | omega) _) | (with_reducible refine below_drewN ?_ _) | (with_reducible refine Below.drew ?_))⟩
set_option maxRecDepth 20000 in
set_option maxHeartbeats 1000000 in
theorem implPolar_sq (R C : Int) (a : Option Addr) (n c : Nat) (Z : Nat → Nat) (K : Int) (w : World) (hn : n ≤ 1048576) (h : FS .f32 w a n c Z) (hok : wholeOk R C n Z = true) (hsq : squareB R C n (vals Z) = false) :
    Calls Try.prog 7 #[.agg #[.int .i64 R, .int .i64 C, .slice a n c], .int .i64 K] w (MatOwn false 0 0 0 (fun _ => none) w) := by
  have HOK := Lib.hid hok
  have HSQ := Lib.hid hsq
  clear hok hsq
  go_enter Try.func7, Try.ntmps7
  go_wp2_with fail
  go_at_call 21
  refine (implWhole_any R C a n c Z _ hn (h.below (by repeat first | (with_reducible exact Below.refl _ _) | (with_reducible refine Below.setCell ?_ (by first | exact Nat.le_refl _ | (simp; done) | (simp; omega) | omega) _) | (with_reducible refine Below.alloc ?_ (by first | exact Nat.le_refl _ | (simp; done) | (simp; omega) | omega) _) | (with_reducible refine below_drewN ?_ _) | (with_reducible refine Below.drew ?_)) (Nat.le_refl _))).mono ?_
  rintro e w1 ⟨rr, rfl, frr, b1⟩
  rw [HOK.out]
  have B1 : Below w.heap.size w w1 := Below.trans (by repeat first | (with_reducible exact Below.refl _ _) | (with_reducible refine Below.setCell ?_ (by first | exact Nat.le_refl _ | (simp; done) | (simp; omega) | omega) _) | (with_reducible refine Below.alloc ?_ (by first | exact Nat.le_refl _ | (simp; done) | (simp; omega) | omega) _) | (with_reducible refine below_drewN ?_ _) | (with_reducible refine Below.drew ?_)) (b1.mono (by simp; omega))
  have s1 : w.heap.size + 1 + 1 ≤ w1.heap.size := by have := b1.size; simp at this; omega
  have X1 : Box w1 w.heap.size R C a n c := Box.below (by refine ⟨?_, ?_, ?_⟩ <;> simp [go_sem]) b1 (by simp <;> omega)
  obtain ⟨x0, x1, x2⟩ := X1
  have XR : Box w1 (w.heap.size + 1) 0 0 none 0 0 := Box.below (by refine ⟨?_, ?_, ?_⟩ <;> simp [go_sem]) b1 (by simp)
  have IR : ∀ i, w1.frozen? ⟨w.heap.size + 1, i, none⟩ = false := fun i => (b1.frozen (p := ⟨w.heap.size + 1, i, none⟩) (by simp)).trans (by simp [go_sem])
  clear b1
  go_wp2_with fail
  go_at_call 22
  refine (implSquare_any R C a n c Z _ hn (h.below B1 (Nat.le_refl _))).mono ?_
  rintro e w2 ⟨rfl, b2⟩
  rw [HSQ.out]
  have B2 := B1.trans (b2.mono B1.size)
  have s2 := b2.size
  obtain ⟨z0, z1, z2⟩ := XR.below b2 (by omega)
  have I2 : ∀ i, w2.frozen? ⟨w.heap.size + 1, i, none⟩ = false := fun i => (b2.frozen (p := ⟨w.heap.size + 1, i, none⟩) (by show w.heap.size + 1 < w1.heap.size; omega)).trans (IR i)
  clear x0 x1 x2 frr
  go_wp2_with fail
  refine bodyPost_ret (v := .tuple #[.agg #[.int .i64 0, .int .i64 0, .slice none 0 0], .bool false]) (by simp [results, Try.results7, go_sem, z0, z1, z2]) rfl ?_
  exact ⟨none, 0, fun _ => 0, rfl, .inl ⟨rfl, rfl, rfl⟩, fun i hi => absurd hi (Nat.not_lt_zero _), (by repeat first | (with_reducible exact B2) | (with_reducible refine Below.setCell ?_ (by first | exact Nat.le_refl _ | (simp; done) | (simp; omega) | omega) _) | (with_reducible refine Below.alloc ?_ (by first | exact Nat.le_refl _ | (simp; done) | (simp; omega) | omega) _) | (with_reducible refine below_drewN ?_ _) | (with_reducible refine Below.drew ?_))⟩
set_option maxRecDepth 20000 in
set_option maxHeartbeats 1000000 in
theorem implPolar_no (R C : Int) (a : Option Addr) (n c : Nat) (Z : Nat → Nat) (K : Int) (w : World) (hn : n ≤ 1048576) (h : FS .f32 w a n c Z) (hok : wholeOk R C n Z = true) (hsq : squareB R C n (vals Z) = true) (hno : ((ford .f32 (wholeN n Z) (some 0) == some .gt) && rdP K) = false) :
    Calls Try.prog 7 #[.agg #[.int .i64 R, .int .i64 C, .slice a n c], .int .i64 K] w (MatOwn false 0 0 0 (fun _ => none) w) := by
  have HOK := Lib.hid hok
  have HSQ := Lib.hid hsq
  have hfin : finite .f32 (wholeN n Z) = true := by unfold wholeOk at hok; simp only [Bool.and_eq_true] at hok; exact hok.2
  have hpk : wholeV R C n Z = wholeN n Z := by unfold wholeV; rw [hok]; rfl
  obtain ⟨NN, hNN⟩ : ∃ NN, NN = wholeN n Z := ⟨_, rfl⟩
  rw [← hNN] at hno hfin
  have HPK : Hid (wholeV R C n Z = NN) := Lib.hid (by rw [hpk, hNN])
  obtain ⟨oo, hoo⟩ := ford_some hfin
  have hZ0 : cn .f32 0 = some 0 := by kernel_rfl
  rw [hoo] at hno
  clear hok hsq hfin hpk hNN
  go_enter Try.func7, Try.ntmps7
  go_wp2_with fail
  go_at_call 21
  refine (implWhole_any R C a n c Z _ hn (h.below (by repeat first | (with_reducible exact Below.refl _ _) | (with_reducible refine Below.setCell ?_ (by first | exact Nat.le_refl _ | (simp; done) | (simp; omega) | omega) _) | (with_reducible refine Below.alloc ?_ (by first | exact Nat.le_refl _ | (simp; done) | (simp; omega) | omega) _) | (with_reducible refine below_drewN ?_ _) | (with_reducible refine Below.drew ?_)) (Nat.le_refl _))).mono ?_
  rintro e w1 ⟨rr, rfl, frr, b1⟩
  rw [HOK.out]
  have B1 : Below w.heap.size w w1 := Below.trans (by repeat first | (with_reducible exact Below.refl _ _) | (with_reducible refine Below.setCell ?_ (by first | exact Nat.le_refl _ | (simp; done) | (simp; omega) | omega) _) | (with_reducible refine Below.alloc ?_ (by first | exact Nat.le_refl _ | (simp; done) | (simp; omega) | omega) _) | (with_reducible refine below_drewN ?_ _) | (with_reducible refine Below.drew ?_)) (b1.mono (by simp; omega))
  have s1 : w.heap.size + 1 + 1 ≤ w1.heap.size := by have := b1.size; simp at this; omega
  have X1 : Box w1 w.heap.size R C a n c := Box.below (by refine ⟨?_, ?_, ?_⟩ <;> simp [go_sem]) b1 (by simp <;> omega)
  obtain ⟨x0, x1, x2⟩ := X1
  have XR : Box w1 (w.heap.size + 1) 0 0 none 0 0 := Box.below (by refine ⟨?_, ?_, ?_⟩ <;> simp [go_sem]) b1 (by simp)
  have IR : ∀ i, w1.frozen? ⟨w.heap.size + 1, i, none⟩ = false := fun i => (b1.frozen (p := ⟨w.heap.size + 1, i, none⟩) (by simp)).trans (by simp [go_sem])
  clear b1
  go_wp2_with fail
  go_at_call 22
  refine (implSquare_any R C a n c Z _ hn (h.below B1 (Nat.le_refl _))).mono ?_
  rintro e w2 ⟨rfl, b2⟩
  rw [HSQ.out]
  have B2 := B1.trans (b2.mono B1.size)
  have s2 := b2.size
  obtain ⟨z0, z1, z2⟩ := XR.below b2 (by omega)
  have I2 : ∀ i, w2.frozen? ⟨w.heap.size + 1, i, none⟩ = false := fun i => (b2.frozen (p := ⟨w.heap.size + 1, i, none⟩) (by show w.heap.size + 1 < w1.heap.size; omega)).trans (IR i)
  rw [HPK.out] at frr
  have hrc := frr.1
  clear x0 x1 x2 frr
  cases oo with
  | gt =>
    have hK : rdP K = false := by simpa using hno
    clear hno
    go_wp2_with fail
    go_at_call 23
    refine (isRoundsP K _).mono ?_
    rw [hK]
    rintro e w3 ⟨rfl, rfl⟩
    clear hK
    go_wp2_with fail
    refine bodyPost_ret (v := .tuple #[.agg #[.int .i64 0, .int .i64 0, .slice none 0 0], .bool false]) (by simp [results, Try.results7, go_sem, z0, z1, z2]) rfl ?_
    exact ⟨none, 0, fun _ => 0, rfl, .inl ⟨rfl, rfl, rfl⟩, fun i hi => absurd hi (Nat.not_lt_zero _), (by repeat first | (with_reducible exact B2) | (with_reducible refine Below.setCell ?_ (by first | exact Nat.le_refl _ | (simp; done) | (simp; omega) | omega) _) | (with_reducible refine Below.alloc ?_ (by first | exact Nat.le_refl _ | (simp; done) | (simp; omega) | omega) _) | (with_reducible refine below_drewN ?_ _) | (with_reducible refine Below.drew ?_))⟩
  | lt =>
    clear hno
    go_wp2_with fail
    refine bodyPost_ret (v := .tuple #[.agg #[.int .i64 0, .int .i64 0, .slice none 0 0], .bool false]) (by simp [results, Try.results7, go_sem, z0, z1, z2]) rfl ?_
    exact ⟨none, 0, fun _ => 0, rfl, .inl ⟨rfl, rfl, rfl⟩, fun i hi => absurd hi (Nat.not_lt_zero _), (by repeat first | (with_reducible exact B2) | (with_reducible refine Below.setCell ?_ (by first | exact Nat.le_refl _ | (simp; done) | (simp; omega) | omega) _) | (with_reducible refine Below.alloc ?_ (by first | exact Nat.le_refl _ | (simp; done) | (simp; omega) | omega) _) | (with_reducible refine below_drewN ?_ _) | (with_reducible refine Below.drew ?_))⟩
  | eq =>
    clear hno
    go_wp2_with fail
    refine bodyPost_ret (v := .tuple #[.agg #[.int .i64 0, .int .i64 0, .slice none 0 0], .bool false]) (by simp [results, Try.results7, go_sem, z0, z1, z2]) rfl ?_
    exact ⟨none, 0, fun _ => 0, rfl, .inl ⟨rfl, rfl, rfl⟩, fun i hi => absurd hi (Nat.not_lt_zero _), (by repeat first | (with_reducible exact B2) | (with_reducible refine Below.setCell ?_ (by first | exact Nat.le_refl _ | (simp; done) | (simp; omega) | omega) _) | (with_reducible refine Below.alloc ?_ (by first | exact Nat.le_refl _ | (simp; done) | (simp; omega) | omega) _) | (with_reducible refine below_drewN ?_ _) | (with_reducible refine Below.drew ?_))⟩
set_option maxRecDepth 20000 in
set_option maxHeartbeats 4000000 in
theorem implPolar_yes (r N p1 o1 d1 K : Nat) (Z : Nat → Nat) (w : World) (h1 : 1 ≤ r) (h12 : r ≤ 12) (hn : N = r * r) (hK : K ≤ 64) (hok : wholeOk r r N Z = true) (hsq : squareB r r N (vals Z) = true) (hfz : allFin (vals Z) N = true) (hg0 : ford .f32 (wholeN N Z) (some 0) = some .gt) (h : FS .f32 w (some ⟨p1, o1, none⟩) N d1 Z) :
    Calls Try.prog 7 #[.agg #[.int .i64 r, .int .i64 r, .slice (some ⟨p1, o1, none⟩) N d1], .int .i64 K] w (PolIf r N (polO r N 1069547520 3204448256 (datP (unitV N (vals Z))) K) w) := by
  have HN := Lib.hid hn
  have h144 : N ≤ 144 := by have := sides_le h12 h12; omega
  have hpos : 0 < N := by rw [hn]; exact Nat.mul_pos h1 h1
  have HOK := Lib.hid hok
  have HSQ := Lib.hid hsq
  have hfin : finite .f32 (wholeN N Z) = true := by unfold wholeOk at hok; simp only [Bool.and_eq_true] at hok; exact hok.2
  have hpk : wholeV r r N Z = wholeN N Z := by unfold wholeV; rw [hok]; rfl
  have hUF : ∀ t, t < N → finite .f32 (unitV N (vals Z) t) = true := unit_fin hfz hfin (by show (ford .f32 (wholeN N Z) (some 0) == some .gt) = true; rw [hg0]; rfl)
  have hUA : allFin (unitV N (vals Z)) N = true := allFin_allU hUF
  have HUA := Lib.hid hUA
  obtain ⟨NN, hNN⟩ : ∃ NN, NN = wholeN N Z := ⟨_, rfl⟩
  rw [← hNN] at hg0
  have HPK : Hid (wholeV r r N Z = NN) := Lib.hid (by rw [hpk, hNN])
  have HUV : Hid (∀ t, fop .quo .f32 (vals Z t) NN = unitV N (vals Z) t) := Lib.hid (fun t => by rw [hNN]; rfl)
  obtain ⟨D0, hD0⟩ : ∃ D0, D0 = datP (unitV N (vals Z)) := ⟨_, rfl⟩
  rw [← hD0]
  have HD0 := Lib.hid hD0
  obtain ⟨P, hP⟩ : ∃ P, P = polO r N 1069547520 3204448256 D0 := ⟨_, rfl⟩
  rw [← hP]
  have HP0 : Hid (P 0 = some D0) := Lib.hid (by rw [hP]; rfl)
  have HPS : Hid (∀ k, weighO N 1069547520 3204448256 (P k) (mulO r N (P k) (mulO r N (flipO r (P k)) (P k))) = P (k + 1)) := Lib.hid (fun k => by rw [hP]; rfl)
  have hZ0 : cn .f32 0 = some 0 := by kernel_rfl
  have HKR : Hid (rdP (K : Int) = true) := Lib.hid (by unfold rdP; rw [decide_eq_true (show (0 : Int) ≤ (K : Int) by omega), decide_eq_true (show (K : Int) ≤ 64 by omega)]; rfl)
  have hle : ∀ o, qN N o ≤ 1048576 := fun o => by unfold qN; split <;> omega
  have HLE := Lib.hid hle
  clear hn hok hsq hfin hpk hUF hUA hNN hD0 hP hfz hle
  go_enter Try.func7, Try.ntmps7
  go_wp2_with fail
  go_at_call 21
  refine (implWhole_any r r _ N d1 Z _ (by omega) (h.below (by repeat first | (with_reducible exact Below.refl _ _) | (with_reducible refine Below.setCell ?_ (by first | exact Nat.le_refl _ | (simp; done) | (simp; omega) | omega) _) | (with_reducible refine Below.alloc ?_ (by first | exact Nat.le_refl _ | (simp; done) | (simp; omega) | omega) _) | (with_reducible refine below_drewN ?_ _) | (with_reducible refine Below.drew ?_)) (Nat.le_refl _))).mono ?_
  rintro e w1 ⟨rr, rfl, frr, b1⟩
  rw [HOK.out]
  have B1 : Below w.heap.size w w1 := Below.trans (by repeat first | (with_reducible exact Below.refl _ _) | (with_reducible refine Below.setCell ?_ (by first | exact Nat.le_refl _ | (simp; done) | (simp; omega) | omega) _) | (with_reducible refine Below.alloc ?_ (by first | exact Nat.le_refl _ | (simp; done) | (simp; omega) | omega) _) | (with_reducible refine below_drewN ?_ _) | (with_reducible refine Below.drew ?_)) (b1.mono (by simp; omega))
  have s1 : w.heap.size + 1 + 1 ≤ w1.heap.size := by have := b1.size; simp at this; omega
  have X1 : Box w1 w.heap.size r r (some ⟨p1, o1, none⟩) N d1 := Box.below (by refine ⟨?_, ?_, ?_⟩ <;> simp [go_sem]) b1 (by simp <;> omega)
  have X1' := X1
  obtain ⟨x0, x1, x2⟩ := X1'
  have XR : Box w1 (w.heap.size + 1) 0 0 none 0 0 := Box.below (by refine ⟨?_, ?_, ?_⟩ <;> simp [go_sem]) b1 (by simp)
  have IR : ∀ i, w1.frozen? ⟨w.heap.size + 1, i, none⟩ = false := fun i => (b1.frozen (p := ⟨w.heap.size + 1, i, none⟩) (by simp)).trans (by simp [go_sem])
  clear b1
  go_wp2_with fail
  go_at_call 22
  refine (implSquare_any r r _ N d1 Z _ (by omega) (h.below B1 (Nat.le_refl _))).mono ?_
  rintro e w2 ⟨rfl, b2⟩
  rw [HSQ.out]
  have B2 := B1.trans (b2.mono B1.size)
  have s2 := b2.size
  have XR2 := XR.below b2 (by omega)
  have XA2 := X1.below b2 (by omega)
  have I2 : ∀ i, w2.frozen? ⟨w.heap.size + 1, i, none⟩ = false := fun i => (b2.frozen (p := ⟨w.heap.size + 1, i, none⟩) (by show w.heap.size + 1 < w1.heap.size; omega)).trans (IR i)
  rw [HPK.out] at frr
  have hrc := frr.1
  clear x0 x1 x2 b2 X1 XR IR B1
  obtain ⟨x0, x1, x2⟩ := XA2
  go_wp2_with fail
  go_at_call 23
  refine (isRoundsP K _).mono ?_
  rw [HKR.out]
  rintro e w2' ⟨rfl, rfl⟩
  go_wp2_with fail
  go_at_call 24
  refine (copyOf_any r r p1 o1 N d1 Z _ hpos (by omega) (h.below B2 (Nat.le_refl _))).mono ?_
  rintro e w3 ⟨g0, e0, rfl, o3, b3⟩
  have s3 := b3.size
  have B3 := B2.trans (b3.mono B2.size)
  have XR3 := XR2.below b3 (by omega)
  have I3 : ∀ i, w3.frozen? ⟨w.heap.size + 1, i, none⟩ = false := fun i => (b3.frozen (p := ⟨w.heap.size + 1, i, none⟩) (by show w.heap.size + 1 < w2.heap.size; omega)).trans (I2 i)
  obtain ⟨_, _, gB, gU, _, _⟩ := o3.cell hpos
  clear b3 XR2 I2 x0 x1 x2 B2
  have b4 : Below w3.heap.size w3 (w3.alloc (.cells #[.int .i64 r, .int .i64 r, .slice (some ⟨g0, 0, none⟩) N e0] 26)) := (by repeat first | (with_reducible exact Below.refl _ _) | (with_reducible refine Below.setCell ?_ (by first | exact Nat.le_refl _ | (simp; done) | (simp; omega) | omega) _) | (with_reducible refine Below.alloc ?_ (by first | exact Nat.le_refl _ | (simp; done) | (simp; omega) | omega) _) | (with_reducible refine below_drewN ?_ _) | (with_reducible refine Below.drew ?_))
  have XX := Box.new w3 26 r r (some ⟨g0, 0, none⟩) N e0
  have IX : ∀ i, (w3.alloc (.cells #[.int .i64 r, .int .i64 r, .slice (some ⟨g0, 0, none⟩) N e0] 26)).frozen? ⟨w3.heap.size, i, none⟩ = false := fun i => by simp [go_sem]
  have s4 : w3.heap.size < (w3.alloc (.cells #[.int .i64 r, .int .i64 r, .slice (some ⟨g0, 0, none⟩) N e0] 26)).heap.size := by simp
  obtain ⟨v0, v1, v2⟩ := XX
  go_wp2_with fail
  generalize w3.alloc (.cells #[.int .i64 r, .int .i64 r, .slice (some ⟨g0, 0, none⟩) N e0] 26) = w4 at b4 v0 v1 v2 IX s4 ⊢
  have XX4 : Box w4 w3.heap.size r r (some ⟨g0, 0, none⟩) N e0 := ⟨v0, v1, v2⟩
  have o4 := o3.kept (below_grew b4) (fun q hq => by cases hq)
  have XR4 := XR3.below b4 (by omega)
  have I4 : ∀ i, w4.frozen? ⟨w.heap.size + 1, i, none⟩ = false := fun i => (b4.frozen (p := ⟨w.heap.size + 1, i, none⟩) (by show w.heap.size + 1 < w3.heap.size; omega)).trans (I3 i)
  have B4 := B3.trans (b4.mono B3.size)
  clear b4 XR3 I3 o3 v0 v1 v2 B3
  go_at_call 25
  refine (divide_any N g0 e0 _ _ rr frr Z _ (by omega) o4).mono ?_
  rintro e w5 ⟨rfl, X2, o5, hX2, g5⟩
  have s5 := g5.size
  have XX5 := XX4.grown g5 s4 (fun q hq => by cases hq; omega)
  have XR5 := XR4.grown g5 (by omega) (fun q hq => by cases hq; omega)
  have I5 : ∀ i, w5.frozen? ⟨w.heap.size + 1, i, none⟩ = false := fun i => (World.frozen?_of_block (a := ⟨w.heap.size + 1, i, none⟩) (g5.block (w.heap.size + 1) (by show w.heap.size + 1 < w4.heap.size; omega) (fun e => by cases e; omega))).trans (I4 i)
  have IX5 : ∀ i, w5.frozen? ⟨w3.heap.size, i, none⟩ = false := fun i => (World.frozen?_of_block (a := ⟨w3.heap.size, i, none⟩) (g5.block w3.heap.size (by show w3.heap.size < w4.heap.size; omega) (fun e => by cases e; omega))).trans (IX i)
  have B5 := B4.grown g5 B4.size (fun q hq => by cases hq; omega)
  have hXD : ∀ t, t < N → X2 t = D0 t := by
    have hv : ∀ t, t < N → vals X2 t = unitV N (vals Z) t := fun t ht => (hX2 t ht).trans (HUV.out t)
    have := same_datP o5.fs hv HUA.out
    rw [HD0.out]; exact this
  have hgood : good N (P 0) := by
    intro D hD
    rw [HP0.out] at hD
    have hD' : D0 = D := Option.some.inj hD
    subst hD'
    rw [HD0.out]
    exact optM_fin HUA.out (fun t ht => vals_datP HUA.out ht (by have := FV.of_eq (fsP_fv o5.fs ht) ((hX2 t ht).trans (HUV.out t)); exact this))
  have o5' : Own 34 .f32 w2.heap.size w3.heap.size w5 (some ⟨g0, 0, none⟩) (qN N (P 0)) e0 (qD (P 0)) := by rw [HP0.out]; exact o5.same hXD
  have XX5' : Box w5 w3.heap.size (qR r (P 0)) (qR r (P 0)) (some ⟨g0, 0, none⟩) (qN N (P 0)) e0 := by rw [HP0.out]; exact XX5
  clear XX4 XR4 I4 IX o4 B4 hX2 hXD o5 XX5 g5
  go_wp2
  go_loopw [44] (fun i wr => ∃ (k : Nat) (g : Option Addr) (d B U : Nat), k ≤ K ∧ i = .int .i64 k ∧ Box wr w3.heap.size (qR r (P k)) (qR r (P k)) g (qN N (P k)) d ∧ Own 34 .f32 B U wr g (qN N (P k)) d (qD (P k)) ∧ w.heap.size + 2 ≤ B ∧ (w3.heap.size < B ∨ U ≤ w3.heap.size) ∧ good N (P k) ∧ Box wr (w.heap.size + 1) 0 0 none 0 0 ∧ (∀ i, wr.frozen? ⟨w.heap.size + 1, i, none⟩ = false) ∧ (∀ i, wr.frozen? ⟨w3.heap.size, i, none⟩ = false) ∧ Below w.heap.size w wr ∧ w3.heap.size < wr.heap.size) (fun i _ => K - (intOf i).toNat)
  case atStart => exact ⟨0, some ⟨g0, 0, none⟩, e0, w2.heap.size, w3.heap.size, Nat.zero_le _, rfl, XX5', o5', by omega, .inr (Nat.le_refl _), hgood, XR5, I5, IX5, B5, by omega⟩
  case round =>
    obtain ⟨k, g, d, B, U, hk, rfl, XX, ox, hB, hBU, hgd, XR, IR, IX, Br, sr⟩ := hrel
    clear XX5' o5' hgood XR5 I5 IX5 B5
    by_cases hlt : k < K
    · have HS := Lib.hid (HPS.out k)
      obtain ⟨p0, hp0⟩ : ∃ p0, p0 = P k := ⟨_, rfl⟩
      rw [← hp0] at XX ox hgd HS
      have fx := ox.fs
      clear hp0
      obtain ⟨v0, v1, v2⟩ := XX
      go_wp2_with fail
      go_at_call 26
      refine (flip_cI h1 h12 HN.out p0 hgd g d _ fx).mono ?_
      obtain ⟨p6, hp6⟩ : ∃ p6, p6 = flipO r p0 := ⟨_, rfl⟩
      rw [← hp6] at HS ⊢
      rintro e w6 ⟨g6, d6, rfl, o6, good6, b6⟩
      have XX : Box wr w3.heap.size (qR r p0) (qR r p0) g (qN N p0) d := ⟨v0, v1, v2⟩
      clear hp6 v0 v1 v2
      have c6 : Below w6.heap.size w6 (w6.alloc (.cells #[.int .i64 (qR r p6), .int .i64 (qR r p6), .slice g6 (qN N p6) d6] 26)) := (by repeat first | (with_reducible exact Below.refl _ _) | (with_reducible refine Below.setCell ?_ (by first | exact Nat.le_refl _ | (simp; done) | (simp; omega) | omega) _) | (with_reducible refine Below.alloc ?_ (by first | exact Nat.le_refl _ | (simp; done) | (simp; omega) | omega) _) | (with_reducible refine below_drewN ?_ _) | (with_reducible refine Below.drew ?_))
      have XF6 := Box.new w6 26 (qR r p6) (qR r p6) g6 (qN N p6) d6
      have t6 : w6.heap.size < (w6.alloc (.cells #[.int .i64 (qR r p6), .int .i64 (qR r p6), .slice g6 (qN N p6) d6] 26)).heap.size := by simp
      have C6 : Below wr.heap.size wr (w6.alloc (.cells #[.int .i64 (qR r p6), .int .i64 (qR r p6), .slice g6 (qN N p6) d6] 26)) := b6.trans (c6.mono b6.size)
      obtain ⟨v0, v1, v2⟩ := XX.below C6 sr
      obtain ⟨y0, y1, y2⟩ := XF6
      have f6 := o6.fs.below c6 (Nat.le_refl _)
      have fx6 := fx.below C6 (Nat.le_refl _)
      go_wp2_with fail
      go_at_call 27
      refine (mul_cI h1 h12 HN.out p6 p0 good6 hgd g6 d6 g d _ f6 fx6).mono ?_
      obtain ⟨p7, hp7⟩ : ∃ p7, p7 = mulO r N p6 p0 := ⟨_, rfl⟩
      rw [← hp7] at HS ⊢
      rintro e w7 ⟨g7, d7, rfl, o7, good7, b7⟩
      have C7 : Below wr.heap.size wr w7 := C6.trans (b7.mono C6.size)
      clear hp7 v0 v1 v2 y0 y1 y2 f6 fx6 o6 good6 b6 c6 C6 b7
      have c7 : Below w7.heap.size w7 (w7.alloc (.cells #[.int .i64 (qR r p7), .int .i64 (qR r p7), .slice g7 (qN N p7) d7] 26)) := (by repeat first | (with_reducible exact Below.refl _ _) | (with_reducible refine Below.setCell ?_ (by first | exact Nat.le_refl _ | (simp; done) | (simp; omega) | omega) _) | (with_reducible refine Below.alloc ?_ (by first | exact Nat.le_refl _ | (simp; done) | (simp; omega) | omega) _) | (with_reducible refine below_drewN ?_ _) | (with_reducible refine Below.drew ?_))
      have XF7 := Box.new w7 26 (qR r p7) (qR r p7) g7 (qN N p7) d7
      have t7 : w7.heap.size < (w7.alloc (.cells #[.int .i64 (qR r p7), .int .i64 (qR r p7), .slice g7 (qN N p7) d7] 26)).heap.size := by simp
      have C8 : Below wr.heap.size wr (w7.alloc (.cells #[.int .i64 (qR r p7), .int .i64 (qR r p7), .slice g7 (qN N p7) d7] 26)) := C7.trans (c7.mono C7.size)
      obtain ⟨v0, v1, v2⟩ := XX.below C8 sr
      obtain ⟨y0, y1, y2⟩ := XF7
      have f7 := o7.fs.below c7 (Nat.le_refl _)
      have fx7 := fx.below C8 (Nat.le_refl _)
      go_wp2_with fail
      go_at_call 27
      refine (mul_cI h1 h12 HN.out p0 p7 hgd good7 g d g7 d7 _ fx7 f7).mono ?_
      obtain ⟨p8, hp8⟩ : ∃ p8, p8 = mulO r N p0 p7 := ⟨_, rfl⟩
      rw [← hp8] at HS ⊢
      rintro e w8 ⟨g8, d8, rfl, o8, good8, b8⟩
      have C7' : Below wr.heap.size wr w8 := C8.trans (b8.mono C8.size)
      clear hp8 v0 v1 v2 y0 y1 y2 f7 fx7 o7 good7 c7 C7 C8 b8
      have c8 : Below w8.heap.size w8 (w8.alloc (.cells #[.int .i64 (qR r p8), .int .i64 (qR r p8), .slice g8 (qN N p8) d8] 26)) := (by repeat first | (with_reducible exact Below.refl _ _) | (with_reducible refine Below.setCell ?_ (by first | exact Nat.le_refl _ | (simp; done) | (simp; omega) | omega) _) | (with_reducible refine Below.alloc ?_ (by first | exact Nat.le_refl _ | (simp; done) | (simp; omega) | omega) _) | (with_reducible refine below_drewN ?_ _) | (with_reducible refine Below.drew ?_))
      have XF8 := Box.new w8 26 (qR r p8) (qR r p8) g8 (qN N p8) d8
      have t8 : w8.heap.size < (w8.alloc (.cells #[.int .i64 (qR r p8), .int .i64 (qR r p8), .slice g8 (qN N p8) d8] 26)).heap.size := by simp
      have C8 : Below wr.heap.size wr (w8.alloc (.cells #[.int .i64 (qR r p8), .int .i64 (qR r p8), .slice g8 (qN N p8) d8] 26)) := C7'.trans (c8.mono C7'.size)
      obtain ⟨v0, v1, v2⟩ := XX.below C8 sr
      obtain ⟨y0, y1, y2⟩ := XF8
      have f8 := o8.fs.below c8 (Nat.le_refl _)
      have fx8 := fx.below C8 (Nat.le_refl _)
      have s8 := C8.size
      go_wp2_with fail
      go_at_call 28
      refine (weigh_cI h1 h12 HN.out 1069547520 3204448256 (by decide) (by decide) (by decide +kernel) (by decide +kernel) p0 p8 hgd good8 g d g8 d8 _ fx8 f8).mono ?_
      rw [HS.out]
      rintro e w9 ⟨g9, d9, rfl, o9, good9, b9⟩
      have C9 : Below wr.heap.size wr w9 := C8.trans (b9.mono C8.size)
      have s9 := C9.size
      clear v0 v1 v2 y0 y1 y2 f8 fx8 o8 good8 c8 C7' C8 b9
      have hBx : Below w3.heap.size wr wr := Below.refl _ _
      have XX9 := XX.below C9 sr
      have IX9 : ∀ i, w9.frozen? ⟨w3.heap.size, i, none⟩ = false := fun i => (C9.frozen (p := ⟨w3.heap.size, i, none⟩) (by show w3.heap.size < wr.heap.size; omega)).trans (IX i)
      have XR9 := XR.below C9 (by omega)
      have IR9 : ∀ i, w9.frozen? ⟨w.heap.size + 1, i, none⟩ = false := fun i => (C9.frozen (p := ⟨w.heap.size + 1, i, none⟩) (by show w.heap.size + 1 < wr.heap.size; omega)).trans (IR i)
      have B9 := Br.trans (C9.mono Br.size)
      have G9 := putQ_grown w9 w3.heap.size (qR r (P (k + 1))) (qR r (P (k + 1))) g9 (qN N (P (k + 1))) d9
      have XY := Lib.hid (putQ_box XX9 (qR r (P (k + 1))) (qR r (P (k + 1))) g9 (qN N (P (k + 1))) d9)
      have IY := Lib.hid (putQ_ice IX9 w3.heap.size (qR r (P (k + 1))) (qR r (P (k + 1))) g9 (qN N (P (k + 1))) d9)
      have IY2 := Lib.hid (putQ_ice IR9 w3.heap.size (qR r (P (k + 1))) (qR r (P (k + 1))) g9 (qN N (P (k + 1))) d9)
      have XR10 := Lib.hid (XR9.grown G9 (by omega) (fun q hq => by cases hq; omega))
      have B10 := Lib.hid (B9.grown G9 B9.size (fun q hq => by cases hq; omega))
      have o10 := Lib.hid (o9.kept G9 (fun q hq => by cases hq; exact .inl (by omega)))
      have gd9 := Lib.hid good9
      have sz := Lib.hid (Nat.lt_of_lt_of_le (show w3.heap.size < w9.heap.size by omega) G9.size)
      obtain ⟨v0, v1, v2⟩ := XX9
      clear XX ox fx hgd XR IR IX Br o9 good9 G9 XR9 IR9 B9 C9 hBx
      go_wp2_with fail
      go_roundw
      case rel => exact ⟨k + 1, g9, d9, _, _, by omega, by go_num, XY.out, o10.out, by omega, .inl (by omega), gd9.out, XR10.out, IY2.out, IY.out, B10.out, sz.out⟩
      case measure => simp [intOf] <;> omega
    · obtain rfl : k = K := by omega
      obtain ⟨v0, v1, v2⟩ := XX
      have fx := ox.fs
      obtain ⟨z0, z1, z2⟩ := XR
      cases hpk : P k with
      | none =>
        rw [hpk] at v0 v1 v2 fx
        go_wp2_with fail
        go_at_call 29
        refine (implGive_no 0 0 g 0 d (fun _ => 0) _ (by omega) fx valid_zero).mono ?_
        rintro e w6 ⟨rfl, b6⟩
        have B6 := Br.trans (b6.mono Br.size)
        have y0 := (b6.cell (p := ⟨w.heap.size + 1, 0, none⟩) (by show w.heap.size + 1 < wr.heap.size; omega)).trans z0
        have y1 := (b6.cell (p := ⟨w.heap.size + 1, 1, none⟩) (by show w.heap.size + 1 < wr.heap.size; omega)).trans z1
        have y2 := (b6.cell (p := ⟨w.heap.size + 1, 2, none⟩) (by show w.heap.size + 1 < wr.heap.size; omega)).trans z2
        have I6 : ∀ i, w6.frozen? ⟨w.heap.size + 1, i, none⟩ = false := fun i => (b6.frozen (p := ⟨w.heap.size + 1, i, none⟩) (by show w.heap.size + 1 < wr.heap.size; omega)).trans (IR i)
        clear b6 v0 v1 v2 z0 z1 z2 IR IX ox fx
        go_wp2_with fail
        refine bodyPost_ret (v := .tuple #[.agg #[.int .i64 0, .int .i64 0, .slice none 0 0], .bool false]) (by simp [results, Try.results7, go_sem, y0, y1, y2]) rfl ?_
        show PolIf r N (P k) w _ _
        rw [hpk]
        exact ⟨none, 0, fun _ => 0, rfl, .inl ⟨rfl, rfl, rfl⟩, fun i hi => absurd hi (Nat.not_lt_zero _), (by repeat first | (with_reducible exact B6) | (with_reducible refine Below.setCell ?_ (by first | exact Nat.le_refl _ | (simp; done) | (simp; omega) | omega) _) | (with_reducible refine Below.alloc ?_ (by first | exact Nat.le_refl _ | (simp; done) | (simp; omega) | omega) _) | (with_reducible refine below_drewN ?_ _) | (with_reducible refine Below.drew ?_))⟩
      | some D =>
        rw [hpk] at v0 v1 v2 fx ox hgd
        have hvD : validB r r N (vals D) = true := by rw [validB_nat h1 h12 h1 h12 HN.out]; exact hgd D rfl
        go_wp2_with fail
        go_at_call 29
        refine (implGive_yes r r g N d D _ (by omega) fx hvD).mono ?_
        rintro e w6 ⟨rfl, b6⟩
        have B6 := Br.trans (b6.mono Br.size)
        have y0 := (b6.cell (p := ⟨w.heap.size + 1, 0, none⟩) (by show w.heap.size + 1 < wr.heap.size; omega)).trans z0
        have y1 := (b6.cell (p := ⟨w.heap.size + 1, 1, none⟩) (by show w.heap.size + 1 < wr.heap.size; omega)).trans z1
        have y2 := (b6.cell (p := ⟨w.heap.size + 1, 2, none⟩) (by show w.heap.size + 1 < wr.heap.size; omega)).trans z2
        have I6 : ∀ i, w6.frozen? ⟨w.heap.size + 1, i, none⟩ = false := fun i => (b6.frozen (p := ⟨w.heap.size + 1, i, none⟩) (by show w.heap.size + 1 < wr.heap.size; omega)).trans (IR i)
        have s6 := b6.size
        have o6 : Own 34 .f32 B U w6 g N d D := ox.kept (below_grew b6) (fun q hq => by cases hq)
        clear b6 v0 v1 v2 z0 z1 z2 IR IX ox fx
        obtain ⟨gq, rfl⟩ := o6.addrP hpos
        obtain ⟨_, _, q1, q2, q3, _⟩ := o6.cell hpos
        go_wp2_with fail
        refine bodyPost_ret (v := .tuple #[.agg #[.int .i64 r, .int .i64 r, .slice (some ⟨gq, 0, none⟩) N d], .bool true]) (by simp [results, Try.results7, go_sem, y0, y1, y2]) rfl ?_
        show PolIf r N (P k) w _ _
        rw [hpk]
        exact ⟨_, _, D, rfl, (by refine Own.to o6 (hk := fun g hg1 hg2 => by (try simp at hg1 hg2); repeat (first | rw [Below.heap_setCell _ _ _ _ (by simp; omega)] | rw [Below.heap_alloc _ _ _ (by simp [World.setCell]; omega)])) ?_ ?_ ?_ ?_ <;> (first | exact Nat.le_refl _ | omega | (simp [World.setCell]; done) | (simp [World.setCell]; omega))), fun i hi => rfl, (by repeat first | (with_reducible exact B6) | (with_reducible refine Below.setCell ?_ (by first | exact Nat.le_refl _ | (simp; done) | (simp; omega) | omega) _) | (with_reducible refine Below.alloc ?_ (by first | exact Nat.le_refl _ | (simp; done) | (simp; omega) | omega) _) | (with_reducible refine below_drewN ?_ _) | (with_reducible refine Below.drew ?_))⟩
end Go.Proofs.Ytbmiolfpgoggaaa
