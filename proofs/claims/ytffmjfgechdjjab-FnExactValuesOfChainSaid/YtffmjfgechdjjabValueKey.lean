/- Helper: a value of a chain, by halves, of the program and of its reference. Conditions: none. -/
import Derived.Test.YtffmjfgechdjjabSpanKey
import Derived.Test.YtffmjfgechdjjabHalf
import Derived.WalkMore
import Derived.ScopeJumps
set_option linter.unusedVariables false
set_option linter.unusedSimpArgs false
namespace Go.Proofs.Ytffmjfgechdjjab
open Go.RowKit

/-- The middle of two bounds. -/
def midV (L G : Option Nat) : Option Nat := fop .mul .f32 (some 1056964608) (fop .add .f32 L G)
theorem midV_quo (L G : Option Nat) : fop .quo .f32 (fop .add .f32 L G) (some 1073741824) = midV L G := half_quo _
def stepP (CT : Option Nat → Int) (k : Int) (p : Option Nat × Option Nat) : Option Nat × Option Nat :=
  if decide (CT (midV p.1 p.2) ≤ k) = true then (midV p.1 p.2, p.2) else (p.1, midV p.1 p.2)
def halfP (CT : Option Nat → Int) (k : Int) (L G : Option Nat) : Nat → Option Nat × Option Nat
  | 0 => (L, G)
  | j + 1 => stepP CT k (halfP CT k L G j)
def halfB (OK : Option Nat → Bool) (CT : Option Nat → Int) (k : Int) (L G : Option Nat) : Nat → Bool
  | 0 => true
  | j + 1 => halfB OK CT k L G j && OK (midV (halfP CT k L G j).1 (halfP CT k L G j).2)
theorem halfB_no {OK : Option Nat → Bool} {CT : Option Nat → Int} {k : Int} {L G : Option Nat} {j : Nat} : ∀ {n : Nat}, j < n → OK (midV (halfP CT k L G j).1 (halfP CT k L G j).2) = false → halfB OK CT k L G n = false
  | 0, h, _ => by omega
  | n + 1, h, h2 => by
    simp only [halfB]
    by_cases e : j = n
    · subst e; rw [h2]; simp
    · rw [halfB_no (n := n) (by omega) h2]; rfl
def okM (n : Nat) (V V2 : Nat → Option Nat) (X : Option Nat) : Bool := finite .f32 X && numB V V2 X n
def ctM (n : Nat) (V V2 : Nat → Option Nat) (X : Option Nat) : Int := (cnt V V2 X n : Nat)
theorem pickI_true (x : Int) : pickI true x = x := rfl
def ValIf (ok : Bool) (X : Option Nat) (w : World) (e : Ending) (w' : World) : Prop :=
  match ok with | true => NumBel true X w e w' | false => NumBel false (some 0) w e w'
theorem ValIf.yes {ok : Bool} {X : Option Nat} {w : World} {e : Ending} {w' : World} (h : ok = true) (p : NumBel true X w e w') : ValIf ok X w e w' := by subst h; exact p
theorem ValIf.no {ok : Bool} {X : Option Nat} {w w' : World} (h : ok = false) (hb : Below w.heap.size w w') : ValIf ok X w (.returned (.tuple #[.float .f32 0, .bool false])) w' := by
  subst h; exact ⟨0, rfl, FV.lit (by kernel_rfl) (by kernel_rfl), hb⟩
theorem val_no {w w' : World} (h : Below w.heap.size w w') : NumBel false (some 0) w (.returned (.tuple #[.float .f32 0, .bool false])) w' := ⟨0, rfl, FV.lit (by kernel_rfl) (by kernel_rfl), h⟩
theorem step_low {CT : Option Nat → Int} {k : Int} {p : Option Nat × Option Nat} (h : CT (midV p.1 p.2) ≤ k) : stepP CT k p = (midV p.1 p.2, p.2) := by unfold stepP; rw [if_pos (decide_eq_true h)]
theorem step_high {CT : Option Nat → Int} {k : Int} {p : Option Nat × Option Nat} (h : ¬ CT (midV p.1 p.2) ≤ k) : stepP CT k p = (p.1, midV p.1 p.2) := by unfold stepP; rw [if_neg (by rw [decide_eq_false h]; decide)]

theorem implCount_all (b off n c n2 c2 x : Nat) (a2 : Option Addr) (Z Z2 : Nat → Nat) (X : Option Nat) (w : World) (h1 : 1 ≤ n) (h12 : n ≤ 12) (hn2 : n2 + 1 = n) (hv : chainB n (vals Z) n2 (vals Z2) = true) (fx : FV .f32 x X)
    (h : FS .f32 w (some ⟨b, off, none⟩) n c Z) (h2 : FS .f32 w a2 n2 c2 Z2) :
    Calls Try.prog 72 #[.agg #[.slice (some ⟨b, off, none⟩) n c, .slice a2 n2 c2], .float .f32 x] w (IntBel (okM n (vals Z) (vals Z2) X) (pickI (okM n (vals Z) (vals Z2) X) (ctM n (vals Z) (vals Z2) X)) w) := by
  unfold okM ctM
  cases hf : finite .f32 X with
  | false => exact implCount_no _ n c Z a2 n2 c2 Z2 x X w (by omega) (by omega) fx h h2 (by rw [hv, hf]; rfl)
  | true => rw [Bool.true_and]; exact implCount_yes b off n c n2 c2 x a2 Z Z2 X w h1 h12 hn2 hv hf fx h h2
set_option maxRecDepth 100000 in
set_option maxHeartbeats 8000000 in
theorem implValue_yes (b off n c n2 c2 t : Nat) (a2 : Option Addr) (Z Z2 : Nat → Nat) (w : World) (h1 : 1 ≤ n) (h12 : n ≤ 12) (hn2 : n2 + 1 = n) (ht : t < n) (hv : chainB n (vals Z) n2 (vals Z2) = true) (hfs : allFin (vals Z2) n2 = true)
    (h : FS .f32 w (some ⟨b, off, none⟩) n c Z) (h2 : FS .f32 w a2 n2 c2 Z2) :
    Calls Try.prog 39 #[.agg #[.slice (some ⟨b, off, none⟩) n c, .slice a2 n2 c2], .int .i64 t] w (ValIf (finite .f32 (lowV n2 Z Z2 n) && finite .f32 (highV n2 Z Z2 n) && halfB (okM n (vals Z) (vals Z2)) (ctM n (vals Z) (vals Z2)) t (lowV n2 Z Z2 n) (highV n2 Z Z2 n) 40) (halfP (ctM n (vals Z) (vals Z2)) t (lowV n2 Z Z2 n) (highV n2 Z Z2 n) 40).1 w) := by
  have hspan := fun W q1 q2 => implSpan_yes b off n c n2 c2 a2 Z Z2 W h1 h12 hn2 hv hfs q1 q2
  have hcnt := fun x X W fx q1 q2 => implCount_all b off n c n2 c2 x a2 Z Z2 X W h1 h12 hn2 hv fx q1 q2
  clear hv hfs
  have n0 : FV .f32 0 (some 0) := FV.lit (by kernel_rfl) (by kernel_rfl)
  generalize lowV n2 Z Z2 n = LL at hspan ⊢
  generalize highV n2 Z Z2 n = GG at hspan ⊢
  generalize okM n (vals Z) (vals Z2) = OK at hcnt ⊢
  generalize ctM n (vals Z) (vals Z2) = CT at hcnt ⊢
  obtain ⟨PV, hPV⟩ : ∃ PV, PV = halfP CT t LL GG := ⟨_, rfl⟩
  obtain ⟨OB, hOB⟩ : ∃ OB, OB = halfB OK CT t LL GG := ⟨_, rfl⟩
  rw [← hPV, ← hOB]
  have H0 : Hid (PV 0 = (LL, GG) ∧ OB 0 = true) := Lib.hid ⟨by rw [hPV]; rfl, by rw [hOB]; rfl⟩
  have HS : Hid (∀ j, PV (j + 1) = stepP CT t (PV j)) := Lib.hid fun j => by rw [hPV]; rfl
  have HO : Hid (∀ j, OB (j + 1) = (OB j && OK (midV (PV j).1 (PV j).2))) := Lib.hid fun j => by rw [hOB, hPV]; rfl
  have HN : Hid (∀ j, j < 40 → OK (midV (PV j).1 (PV j).2) = false → OB 40 = false) := Lib.hid fun j hj hh => by rw [hOB]; exact halfB_no hj (by rw [← hPV]; exact hh)
  clear hPV hOB
  have ht0 : decide ((t : Int) < 0) = false := decide_eq_false (by omega)
  have ht1 : decide ((n : Int) ≤ (t : Int)) = false := decide_eq_false (by omega)
  have ht2 : decide ((t : Int) ≥ (n : Int)) = false := decide_eq_false (by omega)
  go_enter Try.func39, Try.ntmps39
  go_wp2_with fail
  refine wp_scope_jumps 0 (fun a' w' => Below w.heap.size w w' ∧ w.heap.size < w'.heap.size ∧ BoxC w' w.heap.size (some ⟨b, off, none⟩) n c a2 n2 c2 ∧ ∃ (u3 u10 u11 u12 u13 u14 u15 u16 u17 u18 u19 u20 u21 u22 u23 u24 u25 u26 u27 u28 u29 u30 u31 u32 u33 u34 u35 u36 u37 u38 u39 u40 u41 u42 u43 u44 u45 u46 u47 u48 u49 u50 : Value) (j rl rh : Nat) (s : Value), s = .int .i64 j ∧ a' = { tmps := #[.agg #[.slice (some ⟨b, off, none⟩) n c, .slice a2 n2 c2], .int .i64 t, .pointer (some ⟨w.heap.size, 0, none⟩), u3, .float .f32 0, .bool false, .float .f32 rl, .float .f32 rh, .bool true, s, u10, u11, u12, u13, u14, u15, u16, u17, u18, u19, u20, u21, u22, u23, u24, u25, u26, u27, u28, u29, u30, u31, u32, u33, u34, u35, u36, u37, u38, u39, u40, u41, u42, u43, u44, u45, u46, u47, u48, u49, u50], defers := [] } ∧ j < 40 ∧ (finite .f32 LL && finite .f32 GG) = true ∧ OB j = true ∧ FV .f32 rl (PV j).1 ∧ FV .f32 rh (PV j).2) (fun a' _ => 40 - (intOf (a'.tmps.getD 9 undef)).toNat) rfl ?_ ?_
  · go_wp2_with fail
    go_at_call 71
    cases hfin : (finite .f32 LL && finite .f32 GG) with
    | false =>
      rw [hfin] at hspan
      refine (hspan _ (h.below (by repeat first | (with_reducible exact Below.refl _ _) | (with_reducible refine Below.setCell ?_ (by first | exact Nat.le_refl _ | (simp; done) | (simp; omega) | omega) _) | (with_reducible refine Below.alloc ?_ (by first | exact Nat.le_refl _ | (simp; done) | (simp; omega) | omega) _) | (with_reducible refine below_drewN ?_ _) | (with_reducible refine Below.drew ?_)) (Nat.le_refl _)) (h2.below (by repeat first | (with_reducible exact Below.refl _ _) | (with_reducible refine Below.setCell ?_ (by first | exact Nat.le_refl _ | (simp; done) | (simp; omega) | omega) _) | (with_reducible refine Below.alloc ?_ (by first | exact Nat.le_refl _ | (simp; done) | (simp; omega) | omega) _) | (with_reducible refine below_drewN ?_ _) | (with_reducible refine Below.drew ?_)) (Nat.le_refl _))).mono ?_
      rintro e w1 ⟨r, s, rfl, v1, v2, b1⟩
      have B1 : Below w.heap.size w w1 := Below.trans (by repeat first | (with_reducible exact Below.refl _ _) | (with_reducible refine Below.setCell ?_ (by first | exact Nat.le_refl _ | (simp; done) | (simp; omega) | omega) _) | (with_reducible refine Below.alloc ?_ (by first | exact Nat.le_refl _ | (simp; done) | (simp; omega) | omega) _) | (with_reducible refine below_drewN ?_ _) | (with_reducible refine Below.drew ?_)) (b1.mono (by simp))
      go_wp2_with fail
      simp only [Exit.jump]
      go_ret2
      exact ValIf.no rfl B1
    | true =>
      rw [hfin] at hspan
      refine (hspan _ (h.below (by repeat first | (with_reducible exact Below.refl _ _) | (with_reducible refine Below.setCell ?_ (by first | exact Nat.le_refl _ | (simp; done) | (simp; omega) | omega) _) | (with_reducible refine Below.alloc ?_ (by first | exact Nat.le_refl _ | (simp; done) | (simp; omega) | omega) _) | (with_reducible refine below_drewN ?_ _) | (with_reducible refine Below.drew ?_)) (Nat.le_refl _)) (h2.below (by repeat first | (with_reducible exact Below.refl _ _) | (with_reducible refine Below.setCell ?_ (by first | exact Nat.le_refl _ | (simp; done) | (simp; omega) | omega) _) | (with_reducible refine Below.alloc ?_ (by first | exact Nat.le_refl _ | (simp; done) | (simp; omega) | omega) _) | (with_reducible refine below_drewN ?_ _) | (with_reducible refine Below.drew ?_)) (Nat.le_refl _))).mono ?_
      rintro e w1 ⟨rl, rh, rfl, v1, v2, b1⟩
      have B1 : Below w.heap.size w w1 := Below.trans (by repeat first | (with_reducible exact Below.refl _ _) | (with_reducible refine Below.setCell ?_ (by first | exact Nat.le_refl _ | (simp; done) | (simp; omega) | omega) _) | (with_reducible refine Below.alloc ?_ (by first | exact Nat.le_refl _ | (simp; done) | (simp; omega) | omega) _) | (with_reducible refine below_drewN ?_ _) | (with_reducible refine Below.drew ?_)) (b1.mono (by simp))
      have s1 : w.heap.size < w1.heap.size := by have := b1.size; simp at this; omega
      have X1 := (BoxC.new _ _ _ _ _ _ _ _).below b1 (by simp)
      clear b1 hspan
      obtain ⟨j, hj0⟩ : ∃ j : Nat, j = 0 := ⟨0, rfl⟩
      have hj : j < 40 := by omega
      have hob : OB j = true := by rw [hj0]; exact H0.out.2
      have hrl : FV .f32 rl (PV j).1 := by rw [hj0, H0.out.1]; exact v1
      have hrh : FV .f32 rh (PV j).2 := by rw [hj0, H0.out.1]; exact v2
      clear v1 v2
      go_wp2_with fail
      go_step3
      have hcm := fun x W fx q1 q2 => hcnt x (midV (PV j).1 (PV j).2) W fx q1 q2
      have HSJ := Lib.hid (HS.out j)
      have HOJ := Lib.hid (HO.out j)
      have HNJ := Lib.hid (HN.out j hj)
      have hmq := midV_quo (PV j).1 (PV j).2
      obtain ⟨LJ, hLJ⟩ : ∃ LJ, LJ = (PV j).1 := ⟨_, rfl⟩
      obtain ⟨GJ, hGJ⟩ : ∃ GJ, GJ = (PV j).2 := ⟨_, rfl⟩
      rw [← hLJ] at hrl
      rw [← hGJ] at hrh
      rw [← hLJ, ← hGJ] at hcm hmq
      obtain ⟨M, hM⟩ : ∃ M, M = midV LJ GJ := ⟨_, rfl⟩
      rw [← hM] at hcm hmq
      have HM : Hid (M = midV (PV j).1 (PV j).2 ∧ LJ = (PV j).1 ∧ GJ = (PV j).2) := Lib.hid ⟨by rw [hM, hLJ, hGJ], hLJ, hGJ⟩
      clear hM hLJ hGJ
      obtain ⟨q, hq⟩ : ∃ q, q = CT M := ⟨_, rfl⟩
      rw [← hq] at hcm
      have HQ := Lib.hid hq
      clear hq
      have HMQ := Lib.hid hmq
      clear hmq
      have F1 := h.below B1 (Nat.le_refl _)
      have F2 := h2.below B1 (Nat.le_refl _)
      obtain ⟨x0, x1⟩ := X1
      cases hok : OK M with
      | false =>
        rw [hok] at hcm
        have hob : OB 40 = false := HNJ.out (by rw [← HM.out.1]; exact hok)
        have HB := Lib.hid hob
        clear hok hob
        go_wp2_with (refine wpList_farith rfl _ _ _ _ _ rfl rfl _ _ _ rfl rfl (by first | assumption | (with_reducible exact FV.ofInt _ _) | (with_reducible exact FV.neg (by assumption)) | exact FV.lit (by kernel_rfl) (by kernel_rfl)) (by first | assumption | (with_reducible exact FV.ofInt _ _) | (with_reducible exact FV.neg (by assumption)) | exact FV.lit (by kernel_rfl) (by kernel_rfl)) ?_; intro r m hr; have hr1 := hr.1)
        go_at_call 72
        refine (hcm _ _ (FV.of_eq (by assumption) HMQ.out) (F1.below (by repeat first | (with_reducible exact Below.refl _ _) | (with_reducible refine Below.setCell ?_ (by first | exact Nat.le_refl _ | (simp; done) | (simp; omega) | omega) _) | (with_reducible refine Below.alloc ?_ (by first | exact Nat.le_refl _ | (simp; done) | (simp; omega) | omega) _) | (with_reducible refine below_drewN ?_ _) | (with_reducible refine Below.drew ?_)) (Nat.le_refl _)) (F2.below (by repeat first | (with_reducible exact Below.refl _ _) | (with_reducible refine Below.setCell ?_ (by first | exact Nat.le_refl _ | (simp; done) | (simp; omega) | omega) _) | (with_reducible refine Below.alloc ?_ (by first | exact Nat.le_refl _ | (simp; done) | (simp; omega) | omega) _) | (with_reducible refine below_drewN ?_ _) | (with_reducible refine Below.drew ?_)) (Nat.le_refl _))).mono ?_
        rintro e w3 ⟨rfl, b3⟩
        have B3 : Hid (Below w.heap.size w w3) := Lib.hid (Below.trans (by repeat first | (with_reducible exact B1) | (with_reducible refine Below.setCell ?_ (by first | exact Nat.le_refl _ | (simp; done) | (simp; omega) | omega) _) | (with_reducible refine Below.alloc ?_ (by first | exact Nat.le_refl _ | (simp; done) | (simp; omega) | omega) _) | (with_reducible refine below_drewN ?_ _) | (with_reducible refine Below.drew ?_)) (b3.mono (by first | exact B1.size | (simp [World.drewN]; exact B1.size) | (have := B1.size; simp; omega))))
        go_wp2_with fail
        simp only [Exit.jump]
        go_ret2
        exact ValIf.no (by simp [HB.out]) B3.out
      | true =>
        rw [hok] at hcm
        have HOB : Hid (OB (j + 1) = true) := Lib.hid (by rw [HOJ.out, hob, ← HM.out.1, hok]; rfl)
        clear hok
        simp only [pickI_true] at hcm
        by_cases hle : q ≤ (t : Int)
        · have hd : decide (q ≤ (t : Int)) = true := decide_eq_true hle
          have hst : PV (j + 1) = (M, GJ) := by rw [HSJ.out, step_low (by rw [← HM.out.1, ← HQ.out]; exact hle), ← HM.out.1, ← HM.out.2.2]
          have HST := Lib.hid hst
          clear hst hle
          by_cases hlast : j + 1 < 40
          · have hdl : decide ((j : Int) + 1 < 40) = true := decide_eq_true (by omega)
            have hdz : (j : Int) = 0 := by omega
            go_wp2_with (refine wpList_farith rfl _ _ _ _ _ rfl rfl _ _ _ rfl rfl (by first | assumption | (with_reducible exact FV.ofInt _ _) | (with_reducible exact FV.neg (by assumption)) | exact FV.lit (by kernel_rfl) (by kernel_rfl)) (by first | assumption | (with_reducible exact FV.ofInt _ _) | (with_reducible exact FV.neg (by assumption)) | exact FV.lit (by kernel_rfl) (by kernel_rfl)) ?_; intro r m hr; have hr1 := hr.1)
            go_at_call 72
            refine (hcm _ _ (FV.of_eq (by assumption) HMQ.out) (F1.below (by repeat first | (with_reducible exact Below.refl _ _) | (with_reducible refine Below.setCell ?_ (by first | exact Nat.le_refl _ | (simp; done) | (simp; omega) | omega) _) | (with_reducible refine Below.alloc ?_ (by first | exact Nat.le_refl _ | (simp; done) | (simp; omega) | omega) _) | (with_reducible refine below_drewN ?_ _) | (with_reducible refine Below.drew ?_)) (Nat.le_refl _)) (F2.below (by repeat first | (with_reducible exact Below.refl _ _) | (with_reducible refine Below.setCell ?_ (by first | exact Nat.le_refl _ | (simp; done) | (simp; omega) | omega) _) | (with_reducible refine Below.alloc ?_ (by first | exact Nat.le_refl _ | (simp; done) | (simp; omega) | omega) _) | (with_reducible refine below_drewN ?_ _) | (with_reducible refine Below.drew ?_)) (Nat.le_refl _))).mono ?_
            rintro e w3 ⟨rfl, b3⟩
            have B3 : Hid (Below w.heap.size w w3) := Lib.hid (Below.trans (by repeat first | (with_reducible exact B1) | (with_reducible refine Below.setCell ?_ (by first | exact Nat.le_refl _ | (simp; done) | (simp; omega) | omega) _) | (with_reducible refine Below.alloc ?_ (by first | exact Nat.le_refl _ | (simp; done) | (simp; omega) | omega) _) | (with_reducible refine below_drewN ?_ _) | (with_reducible refine Below.drew ?_)) (b3.mono (by first | exact B1.size | (simp [World.drewN]; exact B1.size) | (have := B1.size; simp; omega))))
            have s3 : w.heap.size < w3.heap.size := by have := b3.size; simp at this; omega
            have X3 : BoxC w3 w.heap.size (some ⟨b, off, none⟩) n c a2 n2 c2 := BoxC.below (BoxC.below ⟨x0, x1⟩ ((by repeat first | (with_reducible exact Below.refl _ _) | (with_reducible refine Below.setCell ?_ (by first | exact Nat.le_refl _ | (simp; done) | (simp; omega) | omega) _) | (with_reducible refine Below.alloc ?_ (by first | exact Nat.le_refl _ | (simp; done) | (simp; omega) | omega) _) | (with_reducible refine below_drewN ?_ _) | (with_reducible refine Below.drew ?_))) s1) (b3.mono (by simp [World.drewN]; try omega)) (by simp [World.drewN]; try omega)
            go_wp2_with fail
            go_step3
            refine ⟨rfl, ⟨B3.out, s3, X3, _, _, _, _, _, _, _, _, _, _, _, _, _, _, _, _, _, _, _, _, _, _, _, _, _, _, _, _, _, _, _, _, _, _, _, _, _, _, _, _, _, _, j + 1, _, _, _, ?_, rfl, hlast, hfin, HOB.out, ?_, ?_⟩⟩
            · (first | go_num | (congr 1; omega) | (subst hj0; rfl))
            · rw [HST.out]; exact FV.of_eq (by assumption) HMQ.out
            · rw [HST.out]; exact hrh
          · omega
        · have hd : decide (q ≤ (t : Int)) = false := decide_eq_false hle
          have hst : PV (j + 1) = (LJ, M) := by rw [HSJ.out, step_high (by rw [← HM.out.1, ← HQ.out]; exact hle), ← HM.out.1, ← HM.out.2.1]
          have HST := Lib.hid hst
          clear hst hle
          by_cases hlast : j + 1 < 40
          · have hdl : decide ((j : Int) + 1 < 40) = true := decide_eq_true (by omega)
            have hdz : (j : Int) = 0 := by omega
            go_wp2_with (refine wpList_farith rfl _ _ _ _ _ rfl rfl _ _ _ rfl rfl (by first | assumption | (with_reducible exact FV.ofInt _ _) | (with_reducible exact FV.neg (by assumption)) | exact FV.lit (by kernel_rfl) (by kernel_rfl)) (by first | assumption | (with_reducible exact FV.ofInt _ _) | (with_reducible exact FV.neg (by assumption)) | exact FV.lit (by kernel_rfl) (by kernel_rfl)) ?_; intro r m hr; have hr1 := hr.1)
            go_at_call 72
            refine (hcm _ _ (FV.of_eq (by assumption) HMQ.out) (F1.below (by repeat first | (with_reducible exact Below.refl _ _) | (with_reducible refine Below.setCell ?_ (by first | exact Nat.le_refl _ | (simp; done) | (simp; omega) | omega) _) | (with_reducible refine Below.alloc ?_ (by first | exact Nat.le_refl _ | (simp; done) | (simp; omega) | omega) _) | (with_reducible refine below_drewN ?_ _) | (with_reducible refine Below.drew ?_)) (Nat.le_refl _)) (F2.below (by repeat first | (with_reducible exact Below.refl _ _) | (with_reducible refine Below.setCell ?_ (by first | exact Nat.le_refl _ | (simp; done) | (simp; omega) | omega) _) | (with_reducible refine Below.alloc ?_ (by first | exact Nat.le_refl _ | (simp; done) | (simp; omega) | omega) _) | (with_reducible refine below_drewN ?_ _) | (with_reducible refine Below.drew ?_)) (Nat.le_refl _))).mono ?_
            rintro e w3 ⟨rfl, b3⟩
            have B3 : Hid (Below w.heap.size w w3) := Lib.hid (Below.trans (by repeat first | (with_reducible exact B1) | (with_reducible refine Below.setCell ?_ (by first | exact Nat.le_refl _ | (simp; done) | (simp; omega) | omega) _) | (with_reducible refine Below.alloc ?_ (by first | exact Nat.le_refl _ | (simp; done) | (simp; omega) | omega) _) | (with_reducible refine below_drewN ?_ _) | (with_reducible refine Below.drew ?_)) (b3.mono (by first | exact B1.size | (simp [World.drewN]; exact B1.size) | (have := B1.size; simp; omega))))
            have s3 : w.heap.size < w3.heap.size := by have := b3.size; simp at this; omega
            have X3 : BoxC w3 w.heap.size (some ⟨b, off, none⟩) n c a2 n2 c2 := BoxC.below (BoxC.below ⟨x0, x1⟩ ((by repeat first | (with_reducible exact Below.refl _ _) | (with_reducible refine Below.setCell ?_ (by first | exact Nat.le_refl _ | (simp; done) | (simp; omega) | omega) _) | (with_reducible refine Below.alloc ?_ (by first | exact Nat.le_refl _ | (simp; done) | (simp; omega) | omega) _) | (with_reducible refine below_drewN ?_ _) | (with_reducible refine Below.drew ?_))) s1) (b3.mono (by simp [World.drewN]; try omega)) (by simp [World.drewN]; try omega)
            go_wp2_with fail
            go_step3
            refine ⟨rfl, ⟨B3.out, s3, X3, _, _, _, _, _, _, _, _, _, _, _, _, _, _, _, _, _, _, _, _, _, _, _, _, _, _, _, _, _, _, _, _, _, _, _, _, _, _, _, _, _, _, j + 1, _, _, _, ?_, rfl, hlast, hfin, HOB.out, ?_, ?_⟩⟩
            · (first | go_num | (congr 1; omega) | (subst hj0; rfl))
            · rw [HST.out]; exact hrl
            · rw [HST.out]; exact FV.of_eq (by assumption) HMQ.out
          · omega
  · rintro a' wr ⟨B1, s1, X1, u3, u10, u11, u12, u13, u14, u15, u16, u17, u18, u19, u20, u21, u22, u23, u24, u25, u26, u27, u28, u29, u30, u31, u32, u33, u34, u35, u36, u37, u38, u39, u40, u41, u42, u43, u44, u45, u46, u47, u48, u49, u50, j, rl, rh, s, rfl, rfl, hj, hfin, hob, hrl, hrh⟩
    have hcm := fun x W fx q1 q2 => hcnt x (midV (PV j).1 (PV j).2) W fx q1 q2
    have HSJ := Lib.hid (HS.out j)
    have HOJ := Lib.hid (HO.out j)
    have HNJ := Lib.hid (HN.out j hj)
    have hmq := midV_quo (PV j).1 (PV j).2
    obtain ⟨LJ, hLJ⟩ : ∃ LJ, LJ = (PV j).1 := ⟨_, rfl⟩
    obtain ⟨GJ, hGJ⟩ : ∃ GJ, GJ = (PV j).2 := ⟨_, rfl⟩
    rw [← hLJ] at hrl
    rw [← hGJ] at hrh
    rw [← hLJ, ← hGJ] at hcm hmq
    obtain ⟨M, hM⟩ : ∃ M, M = midV LJ GJ := ⟨_, rfl⟩
    rw [← hM] at hcm hmq
    have HM : Hid (M = midV (PV j).1 (PV j).2 ∧ LJ = (PV j).1 ∧ GJ = (PV j).2) := Lib.hid ⟨by rw [hM, hLJ, hGJ], hLJ, hGJ⟩
    clear hM hLJ hGJ
    obtain ⟨q, hq⟩ : ∃ q, q = CT M := ⟨_, rfl⟩
    rw [← hq] at hcm
    have HQ := Lib.hid hq
    clear hq
    have HMQ := Lib.hid hmq
    clear hmq
    have F1 := h.below B1 (Nat.le_refl _)
    have F2 := h2.below B1 (Nat.le_refl _)
    obtain ⟨x0, x1⟩ := X1
    cases hok : OK M with
    | false =>
      rw [hok] at hcm
      have hob : OB 40 = false := HNJ.out (by rw [← HM.out.1]; exact hok)
      have HB := Lib.hid hob
      clear hok hob
      go_wp2_with (refine wpList_farith rfl _ _ _ _ _ rfl rfl _ _ _ rfl rfl (by first | assumption | (with_reducible exact FV.ofInt _ _) | (with_reducible exact FV.neg (by assumption)) | exact FV.lit (by kernel_rfl) (by kernel_rfl)) (by first | assumption | (with_reducible exact FV.ofInt _ _) | (with_reducible exact FV.neg (by assumption)) | exact FV.lit (by kernel_rfl) (by kernel_rfl)) ?_; intro r m hr; have hr1 := hr.1)
      go_at_call 72
      refine (hcm _ _ (FV.of_eq (by assumption) HMQ.out) (F1.below (by repeat first | (with_reducible exact Below.refl _ _) | (with_reducible refine Below.setCell ?_ (by first | exact Nat.le_refl _ | (simp; done) | (simp; omega) | omega) _) | (with_reducible refine Below.alloc ?_ (by first | exact Nat.le_refl _ | (simp; done) | (simp; omega) | omega) _) | (with_reducible refine below_drewN ?_ _) | (with_reducible refine Below.drew ?_)) (Nat.le_refl _)) (F2.below (by repeat first | (with_reducible exact Below.refl _ _) | (with_reducible refine Below.setCell ?_ (by first | exact Nat.le_refl _ | (simp; done) | (simp; omega) | omega) _) | (with_reducible refine Below.alloc ?_ (by first | exact Nat.le_refl _ | (simp; done) | (simp; omega) | omega) _) | (with_reducible refine below_drewN ?_ _) | (with_reducible refine Below.drew ?_)) (Nat.le_refl _))).mono ?_
      rintro e w3 ⟨rfl, b3⟩
      have B3 : Hid (Below w.heap.size w w3) := Lib.hid (Below.trans (by repeat first | (with_reducible exact B1) | (with_reducible refine Below.setCell ?_ (by first | exact Nat.le_refl _ | (simp; done) | (simp; omega) | omega) _) | (with_reducible refine Below.alloc ?_ (by first | exact Nat.le_refl _ | (simp; done) | (simp; omega) | omega) _) | (with_reducible refine below_drewN ?_ _) | (with_reducible refine Below.drew ?_)) (b3.mono (by first | exact B1.size | (simp [World.drewN]; exact B1.size) | (have := B1.size; simp; omega))))
      go_wp2_with fail
      simp only [Exit.jump]
      go_ret2
      exact ValIf.no (by simp [HB.out]) B3.out
    | true =>
      rw [hok] at hcm
      have HOB : Hid (OB (j + 1) = true) := Lib.hid (by rw [HOJ.out, hob, ← HM.out.1, hok]; rfl)
      clear hok
      simp only [pickI_true] at hcm
      by_cases hle : q ≤ (t : Int)
      · have hd : decide (q ≤ (t : Int)) = true := decide_eq_true hle
        have hst : PV (j + 1) = (M, GJ) := by rw [HSJ.out, step_low (by rw [← HM.out.1, ← HQ.out]; exact hle), ← HM.out.1, ← HM.out.2.2]
        have HST := Lib.hid hst
        clear hst hle
        by_cases hlast : j + 1 < 40
        · have hdl : decide ((j : Int) + 1 < 40) = true := decide_eq_true (by omega)
          go_wp2_with (refine wpList_farith rfl _ _ _ _ _ rfl rfl _ _ _ rfl rfl (by first | assumption | (with_reducible exact FV.ofInt _ _) | (with_reducible exact FV.neg (by assumption)) | exact FV.lit (by kernel_rfl) (by kernel_rfl)) (by first | assumption | (with_reducible exact FV.ofInt _ _) | (with_reducible exact FV.neg (by assumption)) | exact FV.lit (by kernel_rfl) (by kernel_rfl)) ?_; intro r m hr; have hr1 := hr.1)
          go_at_call 72
          refine (hcm _ _ (FV.of_eq (by assumption) HMQ.out) (F1.below (by repeat first | (with_reducible exact Below.refl _ _) | (with_reducible refine Below.setCell ?_ (by first | exact Nat.le_refl _ | (simp; done) | (simp; omega) | omega) _) | (with_reducible refine Below.alloc ?_ (by first | exact Nat.le_refl _ | (simp; done) | (simp; omega) | omega) _) | (with_reducible refine below_drewN ?_ _) | (with_reducible refine Below.drew ?_)) (Nat.le_refl _)) (F2.below (by repeat first | (with_reducible exact Below.refl _ _) | (with_reducible refine Below.setCell ?_ (by first | exact Nat.le_refl _ | (simp; done) | (simp; omega) | omega) _) | (with_reducible refine Below.alloc ?_ (by first | exact Nat.le_refl _ | (simp; done) | (simp; omega) | omega) _) | (with_reducible refine below_drewN ?_ _) | (with_reducible refine Below.drew ?_)) (Nat.le_refl _))).mono ?_
          rintro e w3 ⟨rfl, b3⟩
          have B3 : Hid (Below w.heap.size w w3) := Lib.hid (Below.trans (by repeat first | (with_reducible exact B1) | (with_reducible refine Below.setCell ?_ (by first | exact Nat.le_refl _ | (simp; done) | (simp; omega) | omega) _) | (with_reducible refine Below.alloc ?_ (by first | exact Nat.le_refl _ | (simp; done) | (simp; omega) | omega) _) | (with_reducible refine below_drewN ?_ _) | (with_reducible refine Below.drew ?_)) (b3.mono (by first | exact B1.size | (simp [World.drewN]; exact B1.size) | (have := B1.size; simp; omega))))
          have s3 : w.heap.size < w3.heap.size := by have := b3.size; simp at this; omega
          have X3 : BoxC w3 w.heap.size (some ⟨b, off, none⟩) n c a2 n2 c2 := BoxC.below (BoxC.below ⟨x0, x1⟩ ((by repeat first | (with_reducible exact Below.refl _ _) | (with_reducible refine Below.setCell ?_ (by first | exact Nat.le_refl _ | (simp; done) | (simp; omega) | omega) _) | (with_reducible refine Below.alloc ?_ (by first | exact Nat.le_refl _ | (simp; done) | (simp; omega) | omega) _) | (with_reducible refine below_drewN ?_ _) | (with_reducible refine Below.drew ?_))) s1) (b3.mono (by simp [World.drewN]; try omega)) (by simp [World.drewN]; try omega)
          go_wp2_with fail
          go_step3
          refine ⟨rfl, ⟨B3.out, s3, X3, _, _, _, _, _, _, _, _, _, _, _, _, _, _, _, _, _, _, _, _, _, _, _, _, _, _, _, _, _, _, _, _, _, _, _, _, _, _, _, _, _, _, j + 1, _, _, _, ?_, rfl, hlast, hfin, HOB.out, ?_, ?_⟩, ?_⟩
          · go_num
          · rw [HST.out]; exact FV.of_eq (by assumption) HMQ.out
          · rw [HST.out]; exact hrh
          · simp [intOf]; omega
        · have hdl : decide ((j : Int) + 1 < 40) = false := decide_eq_false (by omega)
          go_wp2_with (refine wpList_farith rfl _ _ _ _ _ rfl rfl _ _ _ rfl rfl (by first | assumption | (with_reducible exact FV.ofInt _ _) | (with_reducible exact FV.neg (by assumption)) | exact FV.lit (by kernel_rfl) (by kernel_rfl)) (by first | assumption | (with_reducible exact FV.ofInt _ _) | (with_reducible exact FV.neg (by assumption)) | exact FV.lit (by kernel_rfl) (by kernel_rfl)) ?_; intro r m hr; have hr1 := hr.1)
          go_at_call 72
          refine (hcm _ _ (FV.of_eq (by assumption) HMQ.out) (F1.below (by repeat first | (with_reducible exact Below.refl _ _) | (with_reducible refine Below.setCell ?_ (by first | exact Nat.le_refl _ | (simp; done) | (simp; omega) | omega) _) | (with_reducible refine Below.alloc ?_ (by first | exact Nat.le_refl _ | (simp; done) | (simp; omega) | omega) _) | (with_reducible refine below_drewN ?_ _) | (with_reducible refine Below.drew ?_)) (Nat.le_refl _)) (F2.below (by repeat first | (with_reducible exact Below.refl _ _) | (with_reducible refine Below.setCell ?_ (by first | exact Nat.le_refl _ | (simp; done) | (simp; omega) | omega) _) | (with_reducible refine Below.alloc ?_ (by first | exact Nat.le_refl _ | (simp; done) | (simp; omega) | omega) _) | (with_reducible refine below_drewN ?_ _) | (with_reducible refine Below.drew ?_)) (Nat.le_refl _))).mono ?_
          rintro e w3 ⟨rfl, b3⟩
          have B3 : Hid (Below w.heap.size w w3) := Lib.hid (Below.trans (by repeat first | (with_reducible exact B1) | (with_reducible refine Below.setCell ?_ (by first | exact Nat.le_refl _ | (simp; done) | (simp; omega) | omega) _) | (with_reducible refine Below.alloc ?_ (by first | exact Nat.le_refl _ | (simp; done) | (simp; omega) | omega) _) | (with_reducible refine below_drewN ?_ _) | (with_reducible refine Below.drew ?_)) (b3.mono (by first | exact B1.size | (simp [World.drewN]; exact B1.size) | (have := B1.size; simp; omega))))
          have s3 : w.heap.size < w3.heap.size := by have := b3.size; simp at this; omega
          have X3 : BoxC w3 w.heap.size (some ⟨b, off, none⟩) n c a2 n2 c2 := BoxC.below (BoxC.below ⟨x0, x1⟩ ((by repeat first | (with_reducible exact Below.refl _ _) | (with_reducible refine Below.setCell ?_ (by first | exact Nat.le_refl _ | (simp; done) | (simp; omega) | omega) _) | (with_reducible refine Below.alloc ?_ (by first | exact Nat.le_refl _ | (simp; done) | (simp; omega) | omega) _) | (with_reducible refine below_drewN ?_ _) | (with_reducible refine Below.drew ?_))) s1) (b3.mono (by simp [World.drewN]; try omega)) (by simp [World.drewN]; try omega)
          go_wp2_with fail
          simp only [Exit.jump]
          go_ret2
          have e40 : j + 1 = 40 := by omega
          refine ValIf.yes (by first | (rw [hfin, ← e40, HOB.out]; rfl) | (rw [← e40]; exact HOB.out) | (rw [← e40, HOB.out]; rfl)) ⟨_, rfl, ?_, B3.out⟩
          rw [← e40, HST.out]; exact FV.of_eq (by assumption) HMQ.out
      · have hd : decide (q ≤ (t : Int)) = false := decide_eq_false hle
        have hst : PV (j + 1) = (LJ, M) := by rw [HSJ.out, step_high (by rw [← HM.out.1, ← HQ.out]; exact hle), ← HM.out.1, ← HM.out.2.1]
        have HST := Lib.hid hst
        clear hst hle
        by_cases hlast : j + 1 < 40
        · have hdl : decide ((j : Int) + 1 < 40) = true := decide_eq_true (by omega)
          go_wp2_with (refine wpList_farith rfl _ _ _ _ _ rfl rfl _ _ _ rfl rfl (by first | assumption | (with_reducible exact FV.ofInt _ _) | (with_reducible exact FV.neg (by assumption)) | exact FV.lit (by kernel_rfl) (by kernel_rfl)) (by first | assumption | (with_reducible exact FV.ofInt _ _) | (with_reducible exact FV.neg (by assumption)) | exact FV.lit (by kernel_rfl) (by kernel_rfl)) ?_; intro r m hr; have hr1 := hr.1)
          go_at_call 72
          refine (hcm _ _ (FV.of_eq (by assumption) HMQ.out) (F1.below (by repeat first | (with_reducible exact Below.refl _ _) | (with_reducible refine Below.setCell ?_ (by first | exact Nat.le_refl _ | (simp; done) | (simp; omega) | omega) _) | (with_reducible refine Below.alloc ?_ (by first | exact Nat.le_refl _ | (simp; done) | (simp; omega) | omega) _) | (with_reducible refine below_drewN ?_ _) | (with_reducible refine Below.drew ?_)) (Nat.le_refl _)) (F2.below (by repeat first | (with_reducible exact Below.refl _ _) | (with_reducible refine Below.setCell ?_ (by first | exact Nat.le_refl _ | (simp; done) | (simp; omega) | omega) _) | (with_reducible refine Below.alloc ?_ (by first | exact Nat.le_refl _ | (simp; done) | (simp; omega) | omega) _) | (with_reducible refine below_drewN ?_ _) | (with_reducible refine Below.drew ?_)) (Nat.le_refl _))).mono ?_
          rintro e w3 ⟨rfl, b3⟩
          have B3 : Hid (Below w.heap.size w w3) := Lib.hid (Below.trans (by repeat first | (with_reducible exact B1) | (with_reducible refine Below.setCell ?_ (by first | exact Nat.le_refl _ | (simp; done) | (simp; omega) | omega) _) | (with_reducible refine Below.alloc ?_ (by first | exact Nat.le_refl _ | (simp; done) | (simp; omega) | omega) _) | (with_reducible refine below_drewN ?_ _) | (with_reducible refine Below.drew ?_)) (b3.mono (by first | exact B1.size | (simp [World.drewN]; exact B1.size) | (have := B1.size; simp; omega))))
          have s3 : w.heap.size < w3.heap.size := by have := b3.size; simp at this; omega
          have X3 : BoxC w3 w.heap.size (some ⟨b, off, none⟩) n c a2 n2 c2 := BoxC.below (BoxC.below ⟨x0, x1⟩ ((by repeat first | (with_reducible exact Below.refl _ _) | (with_reducible refine Below.setCell ?_ (by first | exact Nat.le_refl _ | (simp; done) | (simp; omega) | omega) _) | (with_reducible refine Below.alloc ?_ (by first | exact Nat.le_refl _ | (simp; done) | (simp; omega) | omega) _) | (with_reducible refine below_drewN ?_ _) | (with_reducible refine Below.drew ?_))) s1) (b3.mono (by simp [World.drewN]; try omega)) (by simp [World.drewN]; try omega)
          go_wp2_with fail
          go_step3
          refine ⟨rfl, ⟨B3.out, s3, X3, _, _, _, _, _, _, _, _, _, _, _, _, _, _, _, _, _, _, _, _, _, _, _, _, _, _, _, _, _, _, _, _, _, _, _, _, _, _, _, _, _, _, j + 1, _, _, _, ?_, rfl, hlast, hfin, HOB.out, ?_, ?_⟩, ?_⟩
          · go_num
          · rw [HST.out]; exact hrl
          · rw [HST.out]; exact FV.of_eq (by assumption) HMQ.out
          · simp [intOf]; omega
        · have hdl : decide ((j : Int) + 1 < 40) = false := decide_eq_false (by omega)
          go_wp2_with (refine wpList_farith rfl _ _ _ _ _ rfl rfl _ _ _ rfl rfl (by first | assumption | (with_reducible exact FV.ofInt _ _) | (with_reducible exact FV.neg (by assumption)) | exact FV.lit (by kernel_rfl) (by kernel_rfl)) (by first | assumption | (with_reducible exact FV.ofInt _ _) | (with_reducible exact FV.neg (by assumption)) | exact FV.lit (by kernel_rfl) (by kernel_rfl)) ?_; intro r m hr; have hr1 := hr.1)
          go_at_call 72
          refine (hcm _ _ (FV.of_eq (by assumption) HMQ.out) (F1.below (by repeat first | (with_reducible exact Below.refl _ _) | (with_reducible refine Below.setCell ?_ (by first | exact Nat.le_refl _ | (simp; done) | (simp; omega) | omega) _) | (with_reducible refine Below.alloc ?_ (by first | exact Nat.le_refl _ | (simp; done) | (simp; omega) | omega) _) | (with_reducible refine below_drewN ?_ _) | (with_reducible refine Below.drew ?_)) (Nat.le_refl _)) (F2.below (by repeat first | (with_reducible exact Below.refl _ _) | (with_reducible refine Below.setCell ?_ (by first | exact Nat.le_refl _ | (simp; done) | (simp; omega) | omega) _) | (with_reducible refine Below.alloc ?_ (by first | exact Nat.le_refl _ | (simp; done) | (simp; omega) | omega) _) | (with_reducible refine below_drewN ?_ _) | (with_reducible refine Below.drew ?_)) (Nat.le_refl _))).mono ?_
          rintro e w3 ⟨rfl, b3⟩
          have B3 : Hid (Below w.heap.size w w3) := Lib.hid (Below.trans (by repeat first | (with_reducible exact B1) | (with_reducible refine Below.setCell ?_ (by first | exact Nat.le_refl _ | (simp; done) | (simp; omega) | omega) _) | (with_reducible refine Below.alloc ?_ (by first | exact Nat.le_refl _ | (simp; done) | (simp; omega) | omega) _) | (with_reducible refine below_drewN ?_ _) | (with_reducible refine Below.drew ?_)) (b3.mono (by first | exact B1.size | (simp [World.drewN]; exact B1.size) | (have := B1.size; simp; omega))))
          have s3 : w.heap.size < w3.heap.size := by have := b3.size; simp at this; omega
          have X3 : BoxC w3 w.heap.size (some ⟨b, off, none⟩) n c a2 n2 c2 := BoxC.below (BoxC.below ⟨x0, x1⟩ ((by repeat first | (with_reducible exact Below.refl _ _) | (with_reducible refine Below.setCell ?_ (by first | exact Nat.le_refl _ | (simp; done) | (simp; omega) | omega) _) | (with_reducible refine Below.alloc ?_ (by first | exact Nat.le_refl _ | (simp; done) | (simp; omega) | omega) _) | (with_reducible refine below_drewN ?_ _) | (with_reducible refine Below.drew ?_))) s1) (b3.mono (by simp [World.drewN]; try omega)) (by simp [World.drewN]; try omega)
          go_wp2_with fail
          simp only [Exit.jump]
          go_ret2
          have e40 : j + 1 = 40 := by omega
          refine ValIf.yes (by first | (rw [hfin, ← e40, HOB.out]; rfl) | (rw [← e40]; exact HOB.out) | (rw [← e40, HOB.out]; rfl)) ⟨_, rfl, ?_, B3.out⟩
          rw [← e40, HST.out]; exact hrl
theorem implValue_out (a : Option Addr) (n c : Nat) (a2 : Option Addr) (n2 c2 : Nat) (k : Int) (w : World) (hk : ¬ (0 ≤ k ∧ k < (n : Int))) :
    Calls Try.prog 39 #[.agg #[.slice a n c, .slice a2 n2 c2], .int .i64 k] w (NumBel false (some 0) w) := by
  by_cases h0 : k < 0
  · have hd : decide (k < 0) = true := decide_eq_true h0
    go_enter Try.func39, Try.ntmps39
    go_wp2_with fail
    go_step3
    go_wp2_with fail
    rw [Exit.noGoto_ret]
    go_ret2
    exact val_no (by repeat first | (with_reducible exact Below.refl _ _) | (with_reducible refine Below.setCell ?_ (by first | exact Nat.le_refl _ | (simp; done) | (simp; omega) | omega) _) | (with_reducible refine Below.alloc ?_ (by first | exact Nat.le_refl _ | (simp; done) | (simp; omega) | omega) _) | (with_reducible refine below_drewN ?_ _) | (with_reducible refine Below.drew ?_))
  · have hd0 : decide (k < 0) = false := decide_eq_false h0
    have hd1 : decide ((n : Int) ≤ k) = true := decide_eq_true (by omega)
    go_enter Try.func39, Try.ntmps39
    go_wp2_with fail
    go_step3
    go_wp2_with fail
    rw [Exit.noGoto_ret]
    go_ret2
    exact val_no (by repeat first | (with_reducible exact Below.refl _ _) | (with_reducible refine Below.setCell ?_ (by first | exact Nat.le_refl _ | (simp; done) | (simp; omega) | omega) _) | (with_reducible refine Below.alloc ?_ (by first | exact Nat.le_refl _ | (simp; done) | (simp; omega) | omega) _) | (with_reducible refine below_drewN ?_ _) | (with_reducible refine Below.drew ?_))
theorem implValue_no (a : Option Addr) (n c : Nat) (Z : Nat → Nat) (a2 : Option Addr) (n2 c2 : Nat) (Z2 : Nat → Nat) (t : Nat) (w : World) (hn : n ≤ 1048576) (hn2 : n2 ≤ 1048576) (ht : t < n)
    (h : FS .f32 w a n c Z) (h2 : FS .f32 w a2 n2 c2 Z2) (hv : chainB n (vals Z) n2 (vals Z2) = false) :
    Calls Try.prog 39 #[.agg #[.slice a n c, .slice a2 n2 c2], .int .i64 t] w (NumBel false (some 0) w) := by
  have ht0 : decide ((t : Int) < 0) = false := decide_eq_false (by omega)
  have ht1 : decide ((n : Int) ≤ (t : Int)) = false := decide_eq_false (by omega)
  go_enter Try.func39, Try.ntmps39
  go_wp2_with fail
  go_step3
  go_wp2_with fail
  go_at_call 71
  refine (implSpan_no a n c Z a2 n2 c2 Z2 _ hn hn2 (h.below (by repeat first | (with_reducible exact Below.refl _ _) | (with_reducible refine Below.setCell ?_ (by first | exact Nat.le_refl _ | (simp; done) | (simp; omega) | omega) _) | (with_reducible refine Below.alloc ?_ (by first | exact Nat.le_refl _ | (simp; done) | (simp; omega) | omega) _) | (with_reducible refine below_drewN ?_ _) | (with_reducible refine Below.drew ?_)) (Nat.le_refl _)) (h2.below (by repeat first | (with_reducible exact Below.refl _ _) | (with_reducible refine Below.setCell ?_ (by first | exact Nat.le_refl _ | (simp; done) | (simp; omega) | omega) _) | (with_reducible refine Below.alloc ?_ (by first | exact Nat.le_refl _ | (simp; done) | (simp; omega) | omega) _) | (with_reducible refine below_drewN ?_ _) | (with_reducible refine Below.drew ?_)) (Nat.le_refl _)) hv).mono ?_
  rintro e w1 ⟨r, s, rfl, v1, v2, b1⟩
  have B1 : Below w.heap.size w w1 := Below.trans (by repeat first | (with_reducible exact Below.refl _ _) | (with_reducible refine Below.setCell ?_ (by first | exact Nat.le_refl _ | (simp; done) | (simp; omega) | omega) _) | (with_reducible refine Below.alloc ?_ (by first | exact Nat.le_refl _ | (simp; done) | (simp; omega) | omega) _) | (with_reducible refine below_drewN ?_ _) | (with_reducible refine Below.drew ?_)) (b1.mono (by simp))
  go_wp2_with fail
  rw [Exit.noGoto_ret]
  go_ret2
  exact val_no B1
set_option maxRecDepth 100000 in
set_option maxHeartbeats 8000000 in
theorem l04Value_any (pc : Nat) (b off n c n2 c2 t : Nat) (a2 : Option Addr) (Z Z2 : Nat → Nat) (w : World) (h1 : 1 ≤ n) (h12 : n ≤ 12) (hn2 : n2 + 1 = n) (ht : t < n) (hfs : allFin (vals Z2) n2 = true) (hpc : pc < w.heap.size) (hbx : BoxC w pc (some ⟨b, off, none⟩) n c a2 n2 c2)
    (h : FS .f32 w (some ⟨b, off, none⟩) n c Z) (h2 : FS .f32 w a2 n2 c2 Z2) :
    Calls Try.prog 37 #[.pointer (some ⟨pc, 0, none⟩), .int .i64 t] w (ValIf (finite .f32 (lowV n2 Z Z2 n) && finite .f32 (highV n2 Z Z2 n) && halfB (okM n (vals Z) (vals Z2)) (ctM n (vals Z) (vals Z2)) t (lowV n2 Z Z2 n) (highV n2 Z Z2 n) 40) (halfP (ctM n (vals Z) (vals Z2)) t (lowV n2 Z Z2 n) (highV n2 Z Z2 n) 40).1 w) := by
  have hspan := fun W q0 q1 q2 q3 => l04Span_any pc b off n c n2 c2 a2 Z Z2 W h1 h12 hn2 hfs q0 q1 q2 q3
  have hcnt := fun x X W fx q0 q1 q2 q3 => l04Below_any pc b off n c n2 c2 x a2 Z Z2 X W h1 h12 hn2 fx q0 q1 q2 q3
  have HOK : Hid (∀ X, okM n (vals Z) (vals Z2) X = (finite .f32 X && numB (vals Z) (vals Z2) X n)) := Lib.hid fun X => rfl
  have HCT : Hid (∀ X, ctM n (vals Z) (vals Z2) X = ((cnt (vals Z) (vals Z2) X n : Nat) : Int)) := Lib.hid fun X => rfl
  clear hfs
  have n0 : FV .f32 0 (some 0) := FV.lit (by kernel_rfl) (by kernel_rfl)
  generalize lowV n2 Z Z2 n = LL at hspan ⊢
  generalize highV n2 Z Z2 n = GG at hspan ⊢
  generalize okM n (vals Z) (vals Z2) = OK at HOK ⊢
  generalize ctM n (vals Z) (vals Z2) = CT at HCT ⊢
  obtain ⟨PV, hPV⟩ : ∃ PV, PV = halfP CT t LL GG := ⟨_, rfl⟩
  obtain ⟨OB, hOB⟩ : ∃ OB, OB = halfB OK CT t LL GG := ⟨_, rfl⟩
  rw [← hPV, ← hOB]
  have H0 : Hid (PV 0 = (LL, GG) ∧ OB 0 = true) := Lib.hid ⟨by rw [hPV]; rfl, by rw [hOB]; rfl⟩
  have HS : Hid (∀ j, PV (j + 1) = stepP CT t (PV j)) := Lib.hid fun j => by rw [hPV]; rfl
  have HO : Hid (∀ j, OB (j + 1) = (OB j && OK (midV (PV j).1 (PV j).2))) := Lib.hid fun j => by rw [hOB, hPV]; rfl
  have HN : Hid (∀ j, j < 40 → OK (midV (PV j).1 (PV j).2) = false → OB 40 = false) := Lib.hid fun j hj hh => by rw [hOB]; exact halfB_no hj (by rw [← hPV]; exact hh)
  clear hPV hOB
  obtain ⟨x0, x1⟩ := hbx
  cases hc : finite .f32 LL <;> cases hc2 : finite .f32 GG
  case' true.true => skip
  all_goals
    go_enter Try.func37, Try.ntmps37
    go_wp2_with fail
    go_at_call 66
    refine (hspan _ (by first | exact hpc | (simp; done) | (simp [World.drewN]; omega)) ⟨x0, x1⟩ (h.below (by repeat first | (with_reducible exact Below.refl _ _) | (with_reducible refine Below.setCell ?_ (by first | exact Nat.le_refl _ | (simp; done) | (simp; omega) | omega) _) | (with_reducible refine Below.alloc ?_ (by first | exact Nat.le_refl _ | (simp; done) | (simp; omega) | omega) _) | (with_reducible refine below_drewN ?_ _) | (with_reducible refine Below.drew ?_)) (Nat.le_refl _)) (h2.below (by repeat first | (with_reducible exact Below.refl _ _) | (with_reducible refine Below.setCell ?_ (by first | exact Nat.le_refl _ | (simp; done) | (simp; omega) | omega) _) | (with_reducible refine Below.alloc ?_ (by first | exact Nat.le_refl _ | (simp; done) | (simp; omega) | omega) _) | (with_reducible refine below_drewN ?_ _) | (with_reducible refine Below.drew ?_)) (Nat.le_refl _))).mono ?_
    rintro e w1 ⟨rl, rh, rfl, frl, frh, m1, rfl⟩
    go_wp2_with fail
    go_at_call 67
    refine (specFinite_any _ frl _).mono ?_
    rintro e w4 ⟨rfl, m4, rfl⟩
    go_wp2_with (go_at_call 67; refine (specFinite_any _ frh _).mono ?_; rintro e w5 ⟨rfl, m5, rfl⟩)
  all_goals first
    | (go_ret2; exact ValIf.no rfl (by repeat first | (with_reducible exact Below.refl _ _) | (with_reducible refine Below.setCell ?_ (by first | exact Nat.le_refl _ | (simp; done) | (simp; omega) | omega) _) | (with_reducible refine Below.alloc ?_ (by first | exact Nat.le_refl _ | (simp; done) | (simp; omega) | omega) _) | (with_reducible refine below_drewN ?_ _) | (with_reducible refine Below.drew ?_)))
    | skip
  have v1 := frl
  have v2 := frh
  clear frl frh hspan hc hc2
  go_loopw [6, 7, 8] (fun s g i wr => ∃ j rl rh : Nat, j ≤ 40 ∧ i = .int .i64 j ∧ s = .float .f32 rl ∧ g = .float .f32 rh ∧ FV .f32 rl (PV j).1 ∧ FV .f32 rh (PV j).2 ∧ OB j = true ∧ Below w.heap.size w wr) (fun _ _ i _ => 40 - (intOf i).toNat)
  case atStart => exact ⟨0, _, _, by omega, rfl, rfl, rfl, by rw [H0.out.1]; exact v1, by rw [H0.out.1]; exact v2, H0.out.2, (by repeat first | (with_reducible exact Below.refl _ _) | (with_reducible refine Below.setCell ?_ (by first | exact Nat.le_refl _ | (simp; done) | (simp; omega) | omega) _) | (with_reducible refine Below.alloc ?_ (by first | exact Nat.le_refl _ | (simp; done) | (simp; omega) | omega) _) | (with_reducible refine below_drewN ?_ _) | (with_reducible refine Below.drew ?_))⟩
  case round =>
    obtain ⟨j, rl2, rh2, hj, rfl, rfl, rfl, hrl, hrh, hob, hb⟩ := hrel
    have XB := BoxC.below ⟨x0, x1⟩ hb hpc
    have F1 := h.below hb (Nat.le_refl _)
    have F2 := h2.below hb (Nat.le_refl _)
    have hpr : pc < wr.heap.size := Nat.lt_of_lt_of_le hpc hb.size
    have hsz := hb.size
    have HB := Lib.hid hb
    clear hb v1 v2
    by_cases hlt : j < 40
    · have hcm := fun x W fx q0 q1 q2 q3 => hcnt x (midV (PV j).1 (PV j).2) W fx q0 q1 q2 q3
      have HSJ := Lib.hid (HS.out j)
      have HOJ := Lib.hid (HO.out j)
      have HNJ := Lib.hid (HN.out j hlt)
      obtain ⟨LJ, hLJ⟩ : ∃ LJ, LJ = (PV j).1 := ⟨_, rfl⟩
      obtain ⟨GJ, hGJ⟩ : ∃ GJ, GJ = (PV j).2 := ⟨_, rfl⟩
      rw [← hLJ] at hrl
      rw [← hGJ] at hrh
      rw [← hLJ, ← hGJ] at hcm
      obtain ⟨M, hM⟩ : ∃ M, M = midV LJ GJ := ⟨_, rfl⟩
      rw [← hM] at hcm
      have hk := HOK.out M
      have HCM := Lib.hid (HCT.out M)
      have HM : Hid (M = midV (PV j).1 (PV j).2 ∧ LJ = (PV j).1 ∧ GJ = (PV j).2) := Lib.hid ⟨by rw [hM, hLJ, hGJ], hLJ, hGJ⟩
      have HMM : Hid (fop .mul .f32 (some 1056964608) (fop .add .f32 LJ GJ) = M) := Lib.hid hM.symm
      clear hM hLJ hGJ hcnt
      obtain ⟨x2, x3⟩ := XB
      generalize cnt (vals Z) (vals Z2) M n = q at hcm HCM
      cases hf : finite .f32 M with
      | false =>
        have HOB : Hid (OB 40 = false) := Lib.hid (HNJ.out (by rw [← HM.out.1, hk, hf]; rfl))
        clear hk
        go_wp2_with (refine wpList_farith rfl _ _ _ _ _ rfl rfl _ _ _ rfl rfl (by first | assumption | (with_reducible exact FV.ofInt _ _) | (with_reducible exact FV.neg (by assumption)) | exact FV.lit (by kernel_rfl) (by kernel_rfl)) (by first | assumption | (with_reducible exact FV.ofInt _ _) | (with_reducible exact FV.neg (by assumption)) | exact FV.lit (by kernel_rfl) (by kernel_rfl)) ?_; intro r m hr; have hr1 := hr.1)
        have hmm := FV.of_eq (by assumption) HMM.out
        go_at_call 67
        refine (specFinite_any _ hmm _).mono ?_
        rintro e w4 ⟨rfl, m4, rfl⟩
        go_wp2_with fail
        go_ret2
        exact ValIf.no (by simp [HOB.out]) (by repeat first | (with_reducible exact HB.out) | (with_reducible refine Below.setCell ?_ (by first | exact Nat.le_refl _ | (simp; done) | (simp; omega) | omega) _) | (with_reducible refine Below.alloc ?_ (by first | exact Nat.le_refl _ | (simp; done) | (simp; omega) | omega) _) | (with_reducible refine below_drewN ?_ _) | (with_reducible refine Below.drew ?_))
      | true =>
        cases hnb : numB (vals Z) (vals Z2) M n with
        | false =>
          have HOB : Hid (OB 40 = false) := Lib.hid (HNJ.out (by rw [← HM.out.1, hk, hf, hnb]; rfl))
          rw [hnb] at hcm
          clear hk hnb
          go_wp2_with (refine wpList_farith rfl _ _ _ _ _ rfl rfl _ _ _ rfl rfl (by first | assumption | (with_reducible exact FV.ofInt _ _) | (with_reducible exact FV.neg (by assumption)) | exact FV.lit (by kernel_rfl) (by kernel_rfl)) (by first | assumption | (with_reducible exact FV.ofInt _ _) | (with_reducible exact FV.neg (by assumption)) | exact FV.lit (by kernel_rfl) (by kernel_rfl)) ?_; intro r m hr; have hr1 := hr.1)
          have hmm := FV.of_eq (by assumption) HMM.out
          go_at_call 67
          refine (specFinite_any _ hmm _).mono ?_
          rintro e w4 ⟨rfl, m4, rfl⟩
          go_wp2_with fail
          go_at_call 68
          refine (hcm _ _ hmm (by first | (simp [World.drewN]; omega) | exact hpr) (BoxC.below ⟨x2, x3⟩ (by repeat first | (with_reducible exact Below.refl _ _) | (with_reducible refine Below.setCell ?_ (by first | exact Nat.le_refl _ | (simp; done) | (simp; omega) | omega) _) | (with_reducible refine Below.alloc ?_ (by first | exact Nat.le_refl _ | (simp; done) | (simp; omega) | omega) _) | (with_reducible refine below_drewN ?_ _) | (with_reducible refine Below.drew ?_)) hpr) (F1.below (by repeat first | (with_reducible exact Below.refl _ _) | (with_reducible refine Below.setCell ?_ (by first | exact Nat.le_refl _ | (simp; done) | (simp; omega) | omega) _) | (with_reducible refine Below.alloc ?_ (by first | exact Nat.le_refl _ | (simp; done) | (simp; omega) | omega) _) | (with_reducible refine below_drewN ?_ _) | (with_reducible refine Below.drew ?_)) (Nat.le_refl _)) (F2.below (by repeat first | (with_reducible exact Below.refl _ _) | (with_reducible refine Below.setCell ?_ (by first | exact Nat.le_refl _ | (simp; done) | (simp; omega) | omega) _) | (with_reducible refine Below.alloc ?_ (by first | exact Nat.le_refl _ | (simp; done) | (simp; omega) | omega) _) | (with_reducible refine below_drewN ?_ _) | (with_reducible refine Below.drew ?_)) (Nat.le_refl _))).mono ?_
          rintro e w5 ⟨rfl, b5⟩
          have B5 : Hid (Below w.heap.size w w5) := Lib.hid (Below.trans (by repeat first | (with_reducible exact HB.out) | (with_reducible refine Below.setCell ?_ (by first | exact Nat.le_refl _ | (simp; done) | (simp; omega) | omega) _) | (with_reducible refine Below.alloc ?_ (by first | exact Nat.le_refl _ | (simp; done) | (simp; omega) | omega) _) | (with_reducible refine below_drewN ?_ _) | (with_reducible refine Below.drew ?_)) (b5.mono (by simp [World.drewN]; omega)))
          go_wp2_with fail
          go_ret2
          exact ValIf.no (by simp [HOB.out]) B5.out
        | true =>
          have HOB : Hid (OB (j + 1) = true) := Lib.hid (by rw [HOJ.out, hob, ← HM.out.1, hk, hf, hnb]; rfl)
          rw [hnb] at hcm
          simp only [pickI_true] at hcm
          clear hk hnb
          by_cases hle : (q : Int) ≤ (t : Int)
          · have hd : decide ((q : Int) ≤ (t : Int)) = true := decide_eq_true hle
            have hd2 : decide (q ≤ t) = true := decide_eq_true (by omega)
            have hst : PV (j + 1) = (M, GJ) := by rw [HSJ.out, step_low (by rw [← HM.out.1, HCM.out]; exact hle), ← HM.out.1, ← HM.out.2.2]
            have HST := Lib.hid hst
            clear hst hle
            go_wp2_with (refine wpList_farith rfl _ _ _ _ _ rfl rfl _ _ _ rfl rfl (by first | assumption | (with_reducible exact FV.ofInt _ _) | (with_reducible exact FV.neg (by assumption)) | exact FV.lit (by kernel_rfl) (by kernel_rfl)) (by first | assumption | (with_reducible exact FV.ofInt _ _) | (with_reducible exact FV.neg (by assumption)) | exact FV.lit (by kernel_rfl) (by kernel_rfl)) ?_; intro r m hr; have hr1 := hr.1)
            have hmm := FV.of_eq (by assumption) HMM.out
            go_at_call 67
            refine (specFinite_any _ hmm _).mono ?_
            rintro e w4 ⟨rfl, m4, rfl⟩
            go_wp2_with fail
            go_at_call 68
            refine (hcm _ _ hmm (by first | (simp [World.drewN]; omega) | exact hpr) (BoxC.below ⟨x2, x3⟩ (by repeat first | (with_reducible exact Below.refl _ _) | (with_reducible refine Below.setCell ?_ (by first | exact Nat.le_refl _ | (simp; done) | (simp; omega) | omega) _) | (with_reducible refine Below.alloc ?_ (by first | exact Nat.le_refl _ | (simp; done) | (simp; omega) | omega) _) | (with_reducible refine below_drewN ?_ _) | (with_reducible refine Below.drew ?_)) hpr) (F1.below (by repeat first | (with_reducible exact Below.refl _ _) | (with_reducible refine Below.setCell ?_ (by first | exact Nat.le_refl _ | (simp; done) | (simp; omega) | omega) _) | (with_reducible refine Below.alloc ?_ (by first | exact Nat.le_refl _ | (simp; done) | (simp; omega) | omega) _) | (with_reducible refine below_drewN ?_ _) | (with_reducible refine Below.drew ?_)) (Nat.le_refl _)) (F2.below (by repeat first | (with_reducible exact Below.refl _ _) | (with_reducible refine Below.setCell ?_ (by first | exact Nat.le_refl _ | (simp; done) | (simp; omega) | omega) _) | (with_reducible refine Below.alloc ?_ (by first | exact Nat.le_refl _ | (simp; done) | (simp; omega) | omega) _) | (with_reducible refine below_drewN ?_ _) | (with_reducible refine Below.drew ?_)) (Nat.le_refl _))).mono ?_
            rintro e w5 ⟨rfl, b5⟩
            have B5 : Hid (Below w.heap.size w w5) := Lib.hid (Below.trans (by repeat first | (with_reducible exact HB.out) | (with_reducible refine Below.setCell ?_ (by first | exact Nat.le_refl _ | (simp; done) | (simp; omega) | omega) _) | (with_reducible refine Below.alloc ?_ (by first | exact Nat.le_refl _ | (simp; done) | (simp; omega) | omega) _) | (with_reducible refine below_drewN ?_ _) | (with_reducible refine Below.drew ?_)) (b5.mono (by simp [World.drewN]; omega)))
            go_wp2_with fail
            go_roundw
            case rel => exact ⟨j + 1, _, _, by omega, by go_num, rfl, rfl, by rw [HST.out]; exact hmm, by rw [HST.out]; exact hrh, HOB.out, B5.out⟩
            case measure => simp [intOf]; omega
          · have hd : decide ((q : Int) ≤ (t : Int)) = false := decide_eq_false hle
            have hd2 : decide (q ≤ t) = false := decide_eq_false (by omega)
            have hst : PV (j + 1) = (LJ, M) := by rw [HSJ.out, step_high (by rw [← HM.out.1, HCM.out]; exact hle), ← HM.out.1, ← HM.out.2.1]
            have HST := Lib.hid hst
            clear hst hle
            go_wp2_with (refine wpList_farith rfl _ _ _ _ _ rfl rfl _ _ _ rfl rfl (by first | assumption | (with_reducible exact FV.ofInt _ _) | (with_reducible exact FV.neg (by assumption)) | exact FV.lit (by kernel_rfl) (by kernel_rfl)) (by first | assumption | (with_reducible exact FV.ofInt _ _) | (with_reducible exact FV.neg (by assumption)) | exact FV.lit (by kernel_rfl) (by kernel_rfl)) ?_; intro r m hr; have hr1 := hr.1)
            have hmm := FV.of_eq (by assumption) HMM.out
            go_at_call 67
            refine (specFinite_any _ hmm _).mono ?_
            rintro e w4 ⟨rfl, m4, rfl⟩
            go_wp2_with fail
            go_at_call 68
            refine (hcm _ _ hmm (by first | (simp [World.drewN]; omega) | exact hpr) (BoxC.below ⟨x2, x3⟩ (by repeat first | (with_reducible exact Below.refl _ _) | (with_reducible refine Below.setCell ?_ (by first | exact Nat.le_refl _ | (simp; done) | (simp; omega) | omega) _) | (with_reducible refine Below.alloc ?_ (by first | exact Nat.le_refl _ | (simp; done) | (simp; omega) | omega) _) | (with_reducible refine below_drewN ?_ _) | (with_reducible refine Below.drew ?_)) hpr) (F1.below (by repeat first | (with_reducible exact Below.refl _ _) | (with_reducible refine Below.setCell ?_ (by first | exact Nat.le_refl _ | (simp; done) | (simp; omega) | omega) _) | (with_reducible refine Below.alloc ?_ (by first | exact Nat.le_refl _ | (simp; done) | (simp; omega) | omega) _) | (with_reducible refine below_drewN ?_ _) | (with_reducible refine Below.drew ?_)) (Nat.le_refl _)) (F2.below (by repeat first | (with_reducible exact Below.refl _ _) | (with_reducible refine Below.setCell ?_ (by first | exact Nat.le_refl _ | (simp; done) | (simp; omega) | omega) _) | (with_reducible refine Below.alloc ?_ (by first | exact Nat.le_refl _ | (simp; done) | (simp; omega) | omega) _) | (with_reducible refine below_drewN ?_ _) | (with_reducible refine Below.drew ?_)) (Nat.le_refl _))).mono ?_
            rintro e w5 ⟨rfl, b5⟩
            have B5 : Hid (Below w.heap.size w w5) := Lib.hid (Below.trans (by repeat first | (with_reducible exact HB.out) | (with_reducible refine Below.setCell ?_ (by first | exact Nat.le_refl _ | (simp; done) | (simp; omega) | omega) _) | (with_reducible refine Below.alloc ?_ (by first | exact Nat.le_refl _ | (simp; done) | (simp; omega) | omega) _) | (with_reducible refine below_drewN ?_ _) | (with_reducible refine Below.drew ?_)) (b5.mono (by simp [World.drewN]; omega)))
            go_wp2_with fail
            go_roundw
            case rel => exact ⟨j + 1, _, _, by omega, by go_num, rfl, rfl, by rw [HST.out]; exact hrl, by rw [HST.out]; exact hmm, HOB.out, B5.out⟩
            case measure => simp [intOf]; omega
    · obtain rfl : j = 40 := by omega
      go_wp2_with fail
      go_ret2
      exact ValIf.yes (by rw [hob]; rfl) ⟨_, rfl, hrl, (by repeat first | (with_reducible exact HB.out) | (with_reducible refine Below.setCell ?_ (by first | exact Nat.le_refl _ | (simp; done) | (simp; omega) | omega) _) | (with_reducible refine Below.alloc ?_ (by first | exact Nat.le_refl _ | (simp; done) | (simp; omega) | omega) _) | (with_reducible refine below_drewN ?_ _) | (with_reducible refine Below.drew ?_))⟩
end Go.Proofs.Ytffmjfgechdjjab
