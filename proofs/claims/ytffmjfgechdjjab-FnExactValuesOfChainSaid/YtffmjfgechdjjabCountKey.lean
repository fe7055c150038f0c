/- Helper: how many values of a chain are less than a number, of the program and of its reference. Conditions: none. -/
import Derived.Test.YtffmjfgechdjjabChainKey
import Derived.Test.YtffmjfgechdjjabSubZero
import Derived.Test.YtffmjfgechdjjabTri
import Derived.Test.YtffmjfgechdjjabKindSteps
set_option linter.unusedVariables false
set_option linter.unusedSimpArgs false
namespace Go.Proofs.Ytffmjfgechdjjab
open Go.RowKit

/-- The next q, before a nothing is turned. -/
def nextQ (V V2 : Nat → Option Nat) (X : Option Nat) (j : Nat) (Q : Option Nat) : Option Nat :=
  match j with | 0 => fop .sub .f32 (V 0) X | t + 1 => fop .sub .f32 (fop .sub .f32 (V (t + 1)) X) (fop .quo .f32 (fop .mul .f32 (V2 t) (V2 t)) Q)
def fixQ (N : Option Nat) : Option Nat := if isZero N then some 2155872256 else N
def cq (V V2 : Nat → Option Nat) (X : Option Nat) : Nat → Option Nat
  | 0 => some 1065353216
  | j + 1 => fixQ (nextQ V V2 X j (cq V V2 X j))
def lessQ (Q : Option Nat) : Bool := ford .f32 Q (some 0) == some .lt
def cnt (V V2 : Nat → Option Nat) (X : Option Nat) : Nat → Nat
  | 0 => 0
  | j + 1 => if lessQ (cq V V2 X (j + 1)) = true then cnt V V2 X j + 1 else cnt V V2 X j
def numB (V V2 : Nat → Option Nat) (X : Option Nat) : Nat → Bool
  | 0 => true
  | j + 1 => numB V V2 X j && !(cq V V2 X (j + 1)).isNone
theorem cnt_le {V V2 : Nat → Option Nat} {X : Option Nat} : ∀ j, cnt V V2 X j ≤ j
  | 0 => Nat.le_refl _
  | j + 1 => by
    have := cnt_le (V := V) (V2 := V2) (X := X) j
    simp only [cnt]
    split <;> omega
theorem numB_no {V V2 : Nat → Option Nat} {X : Option Nat} {j : Nat} : ∀ {n : Nat}, j < n → (cq V V2 X (j + 1)).isNone = true → numB V V2 X n = false
  | 0, h, _ => by omega
  | n + 1, h, h2 => by
    simp only [numB]
    by_cases e : j = n
    · subst e; rw [h2]; simp
    · rw [numB_no (n := n) (by omega) h2]; rfl
/-- A whole number, and whether it is told. -/
def IntBel (ok : Bool) (X : Int) (w : World) (e : Ending) (w' : World) : Prop := e = .returned (.tuple #[.int .i64 X, .bool ok]) ∧ Below w.heap.size w w'
def pickI (ok : Bool) (x : Int) : Int := if ok then x else 0
theorem less_min : (ford .f32 (some 2155872256) (some 0) == some .lt) = true := by decide +kernel
theorem first_quo : fop .quo .f32 (fop .mul .f32 (some 0) (some 0)) (some 1065353216) = some 0 := by decide +kernel

theorem isNaN_wide (r : Nat) {U : Option Nat} (fr : FV .f64 r (widen U)) (w : World) : Calls Try.prog 84 #[.float .f64 r] w fun e w' => e = .returned (.bool U.isNone) ∧ w = w' := by
  have h := isNaN_any r fr w
  rw [ford_self' fr.clean] at h
  cases U with
  | none => exact h
  | some u => exact h
theorem before_zero (a : Option Addr) (n c : Nat) (a2 : Option Addr) (n2 c2 : Nat) (w : World) :
    Calls Try.prog 83 #[.agg #[.slice a n c, .slice a2 n2 c2], .int .i64 0] w fun e w' => e = .returned (.float .f32 0) ∧ Below w.heap.size w w' := by
  go_enter Try.func83, Try.ntmps83
  go_wp2_with fail
  go_ret
  exact ⟨rfl, (by repeat first | (with_reducible exact Below.refl _ _) | (with_reducible refine Below.setCell ?_ (by first | exact Nat.le_refl _ | (simp; done) | (simp; omega) | omega) _) | (with_reducible refine Below.alloc ?_ (by first | exact Nat.le_refl _ | (simp; done) | (simp; omega) | omega) _) | (with_reducible refine below_drewN ?_ _) | (with_reducible refine Below.drew ?_))⟩
theorem before_some (t b off n c n2 c2 : Nat) (a : Option Addr) (Z2 : Nat → Nat) (w : World) (hn2 : n2 ≤ 1048576) (ht : t < n2) (h2 : FS .f32 w (some ⟨b, off, none⟩) n2 c2 Z2) :
    Calls Try.prog 83 #[.agg #[.slice a n c, .slice (some ⟨b, off, none⟩) n2 c2], .int .i64 ((t + 1 : Nat) : Int)] w fun e w' => e = .returned (.float .f32 (Z2 t)) ∧ Below w.heap.size w w' := by
  obtain ⟨j, hj⟩ : ∃ j, j = t + 1 := ⟨_, rfl⟩
  rw [← hj]
  obtain ⟨b', off', e, hbl, hce, hfv⟩ := h2.at ht
  simp only [Option.some.injEq, Addr.mk.injEq, and_true] at e
  obtain ⟨rfl, rfl⟩ := e
  have d1 : decide ((j : Int) < 1) = false := decide_eq_false (by omega)
  have d2 : decide ((n2 : Int) < (j : Int)) = false := decide_eq_false (by omega)
  have d3 : decide (n2 < j) = false := decide_eq_false (by omega)
  have hW : IntKind.i64.wrap ((j : Int) - 1) = (t : Int) := by
    have e : (j : Int) - 1 = (t : Int) := by omega
    rw [e]; exact IntWalk.i64_in _ (by omega)
  clear hfv h2 hj
  go_enter Try.func83, Try.ntmps83
  go_wp2_with fail
  go_ret
  exact ⟨rfl, (by repeat first | (with_reducible exact Below.refl _ _) | (with_reducible refine Below.setCell ?_ (by first | exact Nat.le_refl _ | (simp; done) | (simp; omega) | omega) _) | (with_reducible refine Below.alloc ?_ (by first | exact Nat.le_refl _ | (simp; done) | (simp; omega) | omega) _) | (with_reducible refine below_drewN ?_ _) | (with_reducible refine Below.drew ?_))⟩
set_option maxRecDepth 20000 in
set_option maxHeartbeats 4000000 in
theorem implCount_yes (b off n c n2 c2 x : Nat) (a2 : Option Addr) (Z Z2 : Nat → Nat) (X : Option Nat) (w : World) (h1 : 1 ≤ n) (h12 : n ≤ 12) (hn2 : n2 + 1 = n) (hv : chainB n (vals Z) n2 (vals Z2) = true) (hf : finite .f32 X = true) (fx : FV .f32 x X)
    (h : FS .f32 w (some ⟨b, off, none⟩) n c Z) (h2 : FS .f32 w a2 n2 c2 Z2) :
    Calls Try.prog 72 #[.agg #[.slice (some ⟨b, off, none⟩) n c, .slice a2 n2 c2], .float .f32 x] w (IntBel (numB (vals Z) (vals Z2) X n) (pickI (numB (vals Z) (vals Z2) X n) (cnt (vals Z) (vals Z2) X n : Nat)) w) := by
  have c0 : cn .f32 0 = some 0 := by kernel_rfl
  have cM : cn .f32 2155872256 = some 2155872256 := by kernel_rfl
  have n0 : FV .f32 0 (some 0) := FV.lit (by kernel_rfl) (by kernel_rfl)
  have n1 : FV .f32 1065353216 (some 1065353216) := FV.lit (by kernel_rfl) (by kernel_rfl)
  have nM : FV .f32 2155872256 (some 2155872256) := FV.lit (by kernel_rfl) (by kernel_rfl)
  have lM := less_min
  obtain ⟨ok, hok⟩ : ∃ ok, ok = numB (vals Z) (vals Z2) X n := ⟨_, rfl⟩
  rw [← hok]
  have HOK := Lib.hid hok
  clear hok
  go_enter Try.func72, Try.ntmps72
  go_wp2_with fail
  go_at_call 38
  refine (implChain_any _ n c Z a2 n2 c2 Z2 _ (by omega) (by omega) (h.below (by repeat first | (with_reducible exact Below.refl _ _) | (with_reducible refine Below.setCell ?_ (by first | exact Nat.le_refl _ | (simp; done) | (simp; omega) | omega) _) | (with_reducible refine Below.alloc ?_ (by first | exact Nat.le_refl _ | (simp; done) | (simp; omega) | omega) _) | (with_reducible refine below_drewN ?_ _) | (with_reducible refine Below.drew ?_)) (Nat.le_refl _)) (h2.below (by repeat first | (with_reducible exact Below.refl _ _) | (with_reducible refine Below.setCell ?_ (by first | exact Nat.le_refl _ | (simp; done) | (simp; omega) | omega) _) | (with_reducible refine Below.alloc ?_ (by first | exact Nat.le_refl _ | (simp; done) | (simp; omega) | omega) _) | (with_reducible refine below_drewN ?_ _) | (with_reducible refine Below.drew ?_)) (Nat.le_refl _))).mono ?_
  rintro e w1 ⟨rfl, b1⟩
  have B1 : Below w.heap.size w w1 := Below.trans (by repeat first | (with_reducible exact Below.refl _ _) | (with_reducible refine Below.setCell ?_ (by first | exact Nat.le_refl _ | (simp; done) | (simp; omega) | omega) _) | (with_reducible refine Below.alloc ?_ (by first | exact Nat.le_refl _ | (simp; done) | (simp; omega) | omega) _) | (with_reducible refine below_drewN ?_ _) | (with_reducible refine Below.drew ?_)) (b1.mono (by simp))
  have s1 : w.heap.size < w1.heap.size := by have := b1.size; simp at this; omega
  have X1 := (BoxC.new _ _ _ _ _ _ _ _).below b1 (by simp)
  have X1' := X1
  obtain ⟨x0, x1⟩ := X1'
  clear b1
  go_wp2_with fail
  go_at_call 58
  refine (implIsFinite_any _ fx _).mono ?_
  rintro e w2 ⟨rfl, m2, rfl⟩
  have B2 := below_drewN B1 m2
  have X2 : BoxC (w1.drewN m2) w.heap.size (some ⟨b, off, none⟩) n c a2 n2 c2 := X1
  have s2 : w.heap.size < (w1.drewN m2).heap.size := s1
  have F1 := h.below B2 (Nat.le_refl _)
  have F2 := h2.below B2 (Nat.le_refl _)
  go_wp2
  generalize w1.drewN m2 = w3 at B2 X2 s2 F1 F2 ⊢
  clear hv hf x0 x1 X1 s1 B1
  go_loopw [6, 7, 22] (fun s q i wr => ∃ j rq : Nat, j ≤ n ∧ i = .int .i64 j ∧ s = .int .i64 (cnt (vals Z) (vals Z2) X j : Nat) ∧ q = .float .f32 rq ∧ FV .f32 rq (cq (vals Z) (vals Z2) X j) ∧ numB (vals Z) (vals Z2) X j = true ∧ Below w3.heap.size w3 wr) (fun _ _ i _ => n - (intOf i).toNat)
  case atStart => exact ⟨0, _, Nat.zero_le _, rfl, rfl, rfl, n1, rfl, Below.refl _ _⟩
  case round =>
    obtain ⟨j, rq, hj, rfl, rfl, rfl, hrq, hnum, hb⟩ := hrel
    have HNUM := Lib.hid hnum
    have hcl := cnt_le (V := vals Z) (V2 := vals Z2) (X := X) j
    clear hnum
    obtain ⟨x0, x1⟩ := X2.below hb s2
    have G1 := F1.below hb (Nat.le_refl _)
    have G2 := F2.below hb (Nat.le_refl _)
    have HB := Lib.hid hb
    clear hb
    by_cases hlt : j < n
    · obtain ⟨b', off', e, hbl, hce, hfv⟩ := G1.at hlt
      simp only [Option.some.injEq, Addr.mk.injEq, and_true] at e
      obtain ⟨rfl, rfl⟩ := e
      obtain ⟨sd, SD, fsd, hbef, hE⟩ : ∃ (sd : Nat) (SD : Option Nat), FV .f32 sd SD ∧ (Calls Try.prog 83 #[.agg #[.slice (some ⟨b, off, none⟩) n c, .slice a2 n2 c2], .int .i64 j] wr fun e w' => e = .returned (.float .f32 sd) ∧ Below wr.heap.size wr w') ∧
          fop .sub .f32 (fop .sub .f32 (vals Z j) X) (fop .quo .f32 (fop .mul .f32 SD SD) (cq (vals Z) (vals Z2) X j)) = nextQ (vals Z) (vals Z2) X j (cq (vals Z) (vals Z2) X j) := by
        cases j with
        | zero =>
          refine ⟨0, some 0, n0, before_zero _ _ _ _ _ _ _, ?_⟩
          have hq0 : cq (vals Z) (vals Z2) X 0 = some 1065353216 := rfl
          rw [hq0, first_quo]
          obtain ⟨r, m, hr, hv⟩ := run_farith (P := Try.prog) w .sub 46 .f32 (Z 0) x rfl
          rw [hfv.1, fx.1] at hv
          exact sub_zero hv.plain
        | succ t =>
          obtain ⟨p2, o2, rfl, _, _, f2⟩ := G2.at (show t < n2 by omega)
          exact ⟨Z2 t, vals Z2 t, f2, before_some t p2 o2 n c n2 c2 _ Z2 wr (by omega) (by omega) G2, rfl⟩
      obtain ⟨N, hN⟩ : ∃ N, N = nextQ (vals Z) (vals Z2) X j (cq (vals Z) (vals Z2) X j) := ⟨_, rfl⟩
      obtain ⟨Q, hQ⟩ : ∃ Q, Q = cq (vals Z) (vals Z2) X j := ⟨_, rfl⟩
      have hnext : cq (vals Z) (vals Z2) X (j + 1) = fixQ N := by rw [hN]; rfl
      rw [← hQ] at hrq hE
      rw [hQ, ← hN, ← hQ] at hE
      have hcs : cnt (vals Z) (vals Z2) X (j + 1) = if lessQ (fixQ N) = true then cnt (vals Z) (vals Z2) X j + 1 else cnt (vals Z) (vals Z2) X j := by rw [← hnext]; rfl
      have hns : numB (vals Z) (vals Z2) X (j + 1) = (numB (vals Z) (vals Z2) X j && !(fixQ N).isNone) := by rw [← hnext]; rfl
      have hno : (fixQ N).isNone = true → ok = false := fun hh => by rw [HOK.out]; exact numB_no hlt (by rw [hnext]; exact hh)
      have HNX := Lib.hid hnext
      have HCS := Lib.hid hcs
      have HNS := Lib.hid hns
      have HNO := Lib.hid hno
      obtain ⟨EE, hEE⟩ : ∃ EE, EE = fop .sub .f32 (fop .sub .f32 (vals Z j) X) (fop .quo .f32 (fop .mul .f32 SD SD) Q) := ⟨_, rfl⟩
      have hEN : EE = N := hEE.trans hE
      generalize cnt (vals Z) (vals Z2) X j = s0 at hcl HCS ⊢
      have fmid : FV .f32 (Z j) (vals Z j) := hfv
      clear hN hQ hnext hcs hns hno hfv hbl G1 G2 hE
      cases hz : isZero N with
      | true =>
        have hfix : fixQ N = some 2155872256 := by unfold fixQ; rw [if_pos hz]
        have hz' : (ford .f32 (fop .sub .f32 (fop .sub .f32 (vals Z j) X) (fop .quo .f32 (fop .mul .f32 SD SD) Q)) (some 0) == some .eq) = true := by rw [← hEE, hEN]; exact hz
        have HFX := Lib.hid hfix
        clear hz hfix hEN hEE
        go_wp2_with fail
        go_at_call 83
        refine hbef.mono ?_
        rintro e w5 ⟨rfl, b5⟩
        have HB5 := Lib.hid (HB.out.trans (b5.mono HB.out.size))
        clear b5 hbef x0 x1
        go_wp2_with (first | (refine wpList_widen rfl _ _ _ rfl _ rfl (by kernel_rfl) Try.underlying51 nM ?_; intro r m hr) | (go_at_call 84; refine (isNaN_wide _ (by assumption) _).mono ?_; rintro e w6 ⟨rfl, rfl⟩; simp only [Option.isNone_some]) | (refine wpList_farith rfl _ _ _ _ _ rfl rfl _ _ _ rfl rfl (by first | assumption | (with_reducible exact FV.ofInt _ _) | (with_reducible exact FV.neg (by assumption)) | exact FV.lit (by kernel_rfl) (by kernel_rfl)) (by first | assumption | (with_reducible exact FV.ofInt _ _) | (with_reducible exact FV.neg (by assumption)) | exact FV.lit (by kernel_rfl) (by kernel_rfl)) ?_; intro r m hr; have hr1 := hr.1))
        go_roundw
        case rel =>
          refine ⟨j + 1, _, by omega, by go_num, ?_, rfl, by rw [HNX.out, HFX.out]; exact nM, by rw [HNS.out, HNUM.out, HFX.out]; rfl, (by repeat first | (with_reducible exact HB5.out) | (with_reducible refine Below.setCell ?_ (by first | exact Nat.le_refl _ | (simp; done) | (simp; omega) | omega) _) | (with_reducible refine Below.alloc ?_ (by first | exact Nat.le_refl _ | (simp; done) | (simp; omega) | omega) _) | (with_reducible refine below_drewN ?_ _) | (with_reducible refine Below.drew ?_))⟩
          rw [HCS.out, HFX.out]
          have : lessQ (some 2155872256) = true := less_min
          rw [if_pos this]
          go_num
        case measure => simp [intOf]; omega
      | false =>
        have hfix : fixQ N = N := by unfold fixQ; rw [if_neg (by rw [hz]; decide)]
        have hz' : (ford .f32 (fop .sub .f32 (fop .sub .f32 (vals Z j) X) (fop .quo .f32 (fop .mul .f32 SD SD) Q)) (some 0) == some .eq) = false := by rw [← hEE, hEN]; exact hz
        have HFX := Lib.hid hfix
        cases hi : N.isNone with
        | true =>
          have hi' : (fop .sub .f32 (fop .sub .f32 (vals Z j) X) (fop .quo .f32 (fop .mul .f32 SD SD) Q)).isNone = true := by rw [← hEE, hEN]; exact hi
          have HO := Lib.hid (HNO.out (by rw [HFX.out]; exact hi))
          clear hz hfix hEN hEE hi
          go_wp2_with fail
          go_at_call 83
          refine hbef.mono ?_
          rintro e w5 ⟨rfl, b5⟩
          have HB5 := Lib.hid (B2.trans ((HB.out.trans (b5.mono HB.out.size)).mono B2.size))
          clear b5 hbef x0 x1
          go_wp2_with (first | (refine wpList_widen rfl _ _ _ rfl _ rfl (by kernel_rfl) Try.underlying51 (by assumption) ?_; intro r m hr) | (go_at_call 84; refine (isNaN_wide _ (by assumption) _).mono ?_; rintro e w6 ⟨rfl, rfl⟩; simp only [hi']) | (refine wpList_farith rfl _ _ _ _ _ rfl rfl _ _ _ rfl rfl (by first | assumption | (with_reducible exact FV.ofInt _ _) | (with_reducible exact FV.neg (by assumption)) | exact FV.lit (by kernel_rfl) (by kernel_rfl)) (by first | assumption | (with_reducible exact FV.ofInt _ _) | (with_reducible exact FV.neg (by assumption)) | exact FV.lit (by kernel_rfl) (by kernel_rfl)) ?_; intro r m hr; have hr1 := hr.1))
          go_ret2
          exact ⟨by rw [HO.out]; rfl, (by repeat first | (with_reducible exact HB5.out) | (with_reducible refine Below.setCell ?_ (by first | exact Nat.le_refl _ | (simp; done) | (simp; omega) | omega) _) | (with_reducible refine Below.alloc ?_ (by first | exact Nat.le_refl _ | (simp; done) | (simp; omega) | omega) _) | (with_reducible refine below_drewN ?_ _) | (with_reducible refine Below.drew ?_))⟩
        | false =>
          have hi' : (fop .sub .f32 (fop .sub .f32 (vals Z j) X) (fop .quo .f32 (fop .mul .f32 SD SD) Q)).isNone = false := by rw [← hEE, hEN]; exact hi
          have HI := Lib.hid hi
          cases hl : lessQ N
          all_goals
            have hl' : (ford .f32 (fop .sub .f32 (fop .sub .f32 (vals Z j) X) (fop .quo .f32 (fop .mul .f32 SD SD) Q)) (some 0) == some .lt) = lessQ N := by rw [← hEE, hEN]; rfl
            rw [hl] at hl'
            have HL := Lib.hid hl
            have HEN : Hid (fop .sub .f32 (fop .sub .f32 (vals Z j) X) (fop .quo .f32 (fop .mul .f32 SD SD) Q) = N) := Lib.hid (by rw [← hEE]; exact hEN)
            clear hz hfix hEN hEE hi hl
            go_wp2_with fail
            go_at_call 83
            refine hbef.mono ?_
            rintro e w5 ⟨rfl, b5⟩
            have HB5 := Lib.hid (HB.out.trans (b5.mono HB.out.size))
            clear b5 hbef x0 x1
            go_wp2_with (first | (refine wpList_widen rfl _ _ _ rfl _ rfl (by kernel_rfl) Try.underlying51 (by assumption) ?_; intro r m hr) | (go_at_call 84; refine (isNaN_wide _ (by assumption) _).mono ?_; rintro e w6 ⟨rfl, rfl⟩; simp only [hi']) | (refine wpList_farith rfl _ _ _ _ _ rfl rfl _ _ _ rfl rfl (by first | assumption | (with_reducible exact FV.ofInt _ _) | (with_reducible exact FV.neg (by assumption)) | exact FV.lit (by kernel_rfl) (by kernel_rfl)) (by first | assumption | (with_reducible exact FV.ofInt _ _) | (with_reducible exact FV.neg (by assumption)) | exact FV.lit (by kernel_rfl) (by kernel_rfl)) ?_; intro r m hr; have hr1 := hr.1))
            go_roundw
            case rel =>
              refine ⟨j + 1, _, by omega, by go_num, ?_, rfl, by rw [HNX.out, HFX.out]; exact FV.of_eq (by assumption) HEN.out, by rw [HNS.out, HNUM.out, HFX.out, HI.out]; rfl, (by repeat first | (with_reducible exact HB5.out) | (with_reducible refine Below.setCell ?_ (by first | exact Nat.le_refl _ | (simp; done) | (simp; omega) | omega) _) | (with_reducible refine Below.alloc ?_ (by first | exact Nat.le_refl _ | (simp; done) | (simp; omega) | omega) _) | (with_reducible refine below_drewN ?_ _) | (with_reducible refine Below.drew ?_))⟩
              rw [HCS.out, HFX.out, HL.out]
              first | go_num | (simp; done) | rfl
            case measure => simp [intOf]; omega
    · obtain rfl : j = n := by omega
      have HB9 := Lib.hid (B2.trans (HB.out.mono B2.size))
      go_wp2
      go_ret2
      exact ⟨by rw [HOK.out, HNUM.out]; rfl, (by repeat first | (with_reducible exact HB9.out) | (with_reducible refine Below.setCell ?_ (by first | exact Nat.le_refl _ | (simp; done) | (simp; omega) | omega) _) | (with_reducible refine Below.alloc ?_ (by first | exact Nat.le_refl _ | (simp; done) | (simp; omega) | omega) _) | (with_reducible refine below_drewN ?_ _) | (with_reducible refine Below.drew ?_))⟩
theorem implCount_no (a : Option Addr) (n c : Nat) (Z : Nat → Nat) (a2 : Option Addr) (n2 c2 : Nat) (Z2 : Nat → Nat) (x : Nat) (X : Option Nat) (w : World) (hn : n ≤ 1048576) (hn2 : n2 ≤ 1048576) (fx : FV .f32 x X)
    (h : FS .f32 w a n c Z) (h2 : FS .f32 w a2 n2 c2 Z2) (ho : (chainB n (vals Z) n2 (vals Z2) && finite .f32 X) = false) :
    Calls Try.prog 72 #[.agg #[.slice a n c, .slice a2 n2 c2], .float .f32 x] w (IntBel false 0 w) := by
  cases hv : chainB n (vals Z) n2 (vals Z2) with
  | false =>
    clear ho
    go_enter Try.func72, Try.ntmps72
    go_wp2_with fail
    go_at_call 38
    refine (implChain_any a n c Z a2 n2 c2 Z2 _ hn hn2 (h.below (by repeat first | (with_reducible exact Below.refl _ _) | (with_reducible refine Below.setCell ?_ (by first | exact Nat.le_refl _ | (simp; done) | (simp; omega) | omega) _) | (with_reducible refine Below.alloc ?_ (by first | exact Nat.le_refl _ | (simp; done) | (simp; omega) | omega) _) | (with_reducible refine below_drewN ?_ _) | (with_reducible refine Below.drew ?_)) (Nat.le_refl _)) (h2.below (by repeat first | (with_reducible exact Below.refl _ _) | (with_reducible refine Below.setCell ?_ (by first | exact Nat.le_refl _ | (simp; done) | (simp; omega) | omega) _) | (with_reducible refine Below.alloc ?_ (by first | exact Nat.le_refl _ | (simp; done) | (simp; omega) | omega) _) | (with_reducible refine below_drewN ?_ _) | (with_reducible refine Below.drew ?_)) (Nat.le_refl _))).mono ?_
    rintro e w1 ⟨rfl, b1⟩
    have B1 : Below w.heap.size w w1 := Below.trans (by repeat first | (with_reducible exact Below.refl _ _) | (with_reducible refine Below.setCell ?_ (by first | exact Nat.le_refl _ | (simp; done) | (simp; omega) | omega) _) | (with_reducible refine Below.alloc ?_ (by first | exact Nat.le_refl _ | (simp; done) | (simp; omega) | omega) _) | (with_reducible refine below_drewN ?_ _) | (with_reducible refine Below.drew ?_)) (b1.mono (by simp))
    go_wp2_with fail
    go_ret2
    exact ⟨rfl, B1⟩
  | true =>
    have hf : finite .f32 X = false := by rw [hv] at ho; simpa using ho
    clear ho
    go_enter Try.func72, Try.ntmps72
    go_wp2_with fail
    go_at_call 38
    refine (implChain_any a n c Z a2 n2 c2 Z2 _ hn hn2 (h.below (by repeat first | (with_reducible exact Below.refl _ _) | (with_reducible refine Below.setCell ?_ (by first | exact Nat.le_refl _ | (simp; done) | (simp; omega) | omega) _) | (with_reducible refine Below.alloc ?_ (by first | exact Nat.le_refl _ | (simp; done) | (simp; omega) | omega) _) | (with_reducible refine below_drewN ?_ _) | (with_reducible refine Below.drew ?_)) (Nat.le_refl _)) (h2.below (by repeat first | (with_reducible exact Below.refl _ _) | (with_reducible refine Below.setCell ?_ (by first | exact Nat.le_refl _ | (simp; done) | (simp; omega) | omega) _) | (with_reducible refine Below.alloc ?_ (by first | exact Nat.le_refl _ | (simp; done) | (simp; omega) | omega) _) | (with_reducible refine below_drewN ?_ _) | (with_reducible refine Below.drew ?_)) (Nat.le_refl _))).mono ?_
    rintro e w1 ⟨rfl, b1⟩
    have B1 : Below w.heap.size w w1 := Below.trans (by repeat first | (with_reducible exact Below.refl _ _) | (with_reducible refine Below.setCell ?_ (by first | exact Nat.le_refl _ | (simp; done) | (simp; omega) | omega) _) | (with_reducible refine Below.alloc ?_ (by first | exact Nat.le_refl _ | (simp; done) | (simp; omega) | omega) _) | (with_reducible refine below_drewN ?_ _) | (with_reducible refine Below.drew ?_)) (b1.mono (by simp))
    go_wp2_with fail
    go_at_call 58
    refine (implIsFinite_any _ fx _).mono ?_
    rintro e w2 ⟨rfl, m2, rfl⟩
    go_wp2_with fail
    go_ret2
    exact ⟨rfl, below_drewN B1 _⟩
theorem fop_clean {op : BinOp} {k : FloatKind} (u v : Option Nat) (x y : Nat) (hx : FV k x u) (hy : FV k y v) (ha : arith op = true) (t : TypeId) (w : World) : clean k (fop op k u v) := by
  obtain ⟨r, m, hr, hv⟩ := run_farith (P := Try.prog) w op t k x y ha
  rw [hx.1, hy.1] at hv
  exact hv.clean
set_option maxRecDepth 20000 in
set_option maxHeartbeats 4000000 in
theorem l04Below_any (pc b off n c n2 c2 x : Nat) (a2 : Option Addr) (Z Z2 : Nat → Nat) (X : Option Nat) (w : World) (h1 : 1 ≤ n) (h12 : n ≤ 12) (hn2 : n2 + 1 = n) (fx : FV .f32 x X) (hpc : pc < w.heap.size) (hbx : BoxC w pc (some ⟨b, off, none⟩) n c a2 n2 c2)
    (h : FS .f32 w (some ⟨b, off, none⟩) n c Z) (h2 : FS .f32 w a2 n2 c2 Z2) :
    Calls Try.prog 68 #[.pointer (some ⟨pc, 0, none⟩), .float .f32 x] w (IntBel (numB (vals Z) (vals Z2) X n) (pickI (numB (vals Z) (vals Z2) X n) (cnt (vals Z) (vals Z2) X n : Nat)) w) := by
  have c0 : cn .f32 0 = some 0 := by kernel_rfl
  have cM : cn .f32 2155872256 = some 2155872256 := by kernel_rfl
  have nM : FV .f32 2155872256 (some 2155872256) := FV.lit (by kernel_rfl) (by kernel_rfl)
  have lM := less_min
  have sM : (ford .f32 (some 2155872256) (some 2155872256) != some .eq) = false := by decide +kernel
  obtain ⟨ok, hok⟩ : ∃ ok, ok = numB (vals Z) (vals Z2) X n := ⟨_, rfl⟩
  rw [← hok]
  have HOK := Lib.hid hok
  clear hok
  go_enter Try.func68, Try.ntmps68
  go_wp2
  go_loopw [6, 7, 8] (fun s q i wr => ∃ j rq : Nat, j ≤ n ∧ i = .int .i64 j ∧ s = .int .i64 (cnt (vals Z) (vals Z2) X j : Nat) ∧ q = .float .f32 rq ∧ (j = 0 ∨ FV .f32 rq (cq (vals Z) (vals Z2) X j)) ∧ numB (vals Z) (vals Z2) X j = true ∧ Below w.heap.size w wr) (fun _ _ i _ => n - (intOf i).toNat)
  case atStart => exact ⟨0, _, Nat.zero_le _, rfl, rfl, rfl, .inl rfl, rfl, Below.refl _ _⟩
  case round =>
    obtain ⟨j, rq, hj, rfl, rfl, rfl, hrq0, hnum, hb⟩ := hrel
    have HNUM := Lib.hid hnum
    have hcl := cnt_le (V := vals Z) (V2 := vals Z2) (X := X) j
    clear hnum
    obtain ⟨x0, x1⟩ := hbx.below hb hpc
    have hpr : pc < wr.heap.size := Nat.lt_of_lt_of_le hpc hb.size
    have G1 := h.below hb (Nat.le_refl _)
    have G2 := h2.below hb (Nat.le_refl _)
    have HB := Lib.hid hb
    clear hb
    by_cases hlt : j < n
    · obtain ⟨b', off', e, hbl, hce, hfv⟩ := G1.at hlt
      simp only [Option.some.injEq, Addr.mk.injEq, and_true] at e
      obtain ⟨rfl, rfl⟩ := e
      obtain ⟨N, hN⟩ : ∃ N, N = nextQ (vals Z) (vals Z2) X j (cq (vals Z) (vals Z2) X j) := ⟨_, rfl⟩
      have hnext : cq (vals Z) (vals Z2) X (j + 1) = fixQ N := by rw [hN]; rfl
      have hcs : cnt (vals Z) (vals Z2) X (j + 1) = if lessQ (fixQ N) = true then cnt (vals Z) (vals Z2) X j + 1 else cnt (vals Z) (vals Z2) X j := by rw [← hnext]; rfl
      have hns : numB (vals Z) (vals Z2) X (j + 1) = (numB (vals Z) (vals Z2) X j && !(fixQ N).isNone) := by rw [← hnext]; rfl
      have hno : (fixQ N).isNone = true → ok = false := fun hh => by rw [HOK.out]; exact numB_no hlt (by rw [hnext]; exact hh)
      have HNX := Lib.hid hnext
      have HCS := Lib.hid hcs
      have HNS := Lib.hid hns
      have HNO := Lib.hid hno
      have fmid : FV .f32 (Z j) (vals Z j) := hfv
      generalize cnt (vals Z) (vals Z2) X j = s0 at hcl HCS ⊢
      clear hnext hcs hns hno hfv G1
      by_cases hj0 : j = 0
      · have hEN : (fop .sub .f32 (vals Z j) X) = N := by rw [hN]; subst hj0; rfl
        have hcl2 : clean .f32 N := by rw [← hEN]; exact fop_clean _ _ _ _ fmid fx rfl 46 w
        have hg : decide ((0 : Int) < (j : Int)) = false := decide_eq_false (by omega)
        have hg2 : decide (0 < j) = false := decide_eq_false (by omega)
        clear hN G2 hrq0 hj0
        cases hz : isZero N with
        | true =>
          have hfix : fixQ N = some 2155872256 := by unfold fixQ; rw [if_pos hz]
          have hz' : (ford .f32 (fop .sub .f32 (vals Z j) X) (some 0) == some .eq) = true := by rw [hEN]; exact hz
          have HFX := Lib.hid hfix
          clear hz hfix hEN
          go_wp2_with (first | (refine wpList_farith rfl _ _ _ _ _ rfl rfl _ _ _ rfl rfl (by first | assumption | (with_reducible exact FV.ofInt _ _) | (with_reducible exact FV.neg (by assumption)) | exact FV.lit (by kernel_rfl) (by kernel_rfl)) (by first | assumption | (with_reducible exact FV.ofInt _ _) | (with_reducible exact FV.neg (by assumption)) | exact FV.lit (by kernel_rfl) (by kernel_rfl)) ?_; intro r m hr; have hr1 := hr.1))
          go_roundw
          case rel =>
            refine ⟨j + 1, _, by omega, by go_num, ?_, rfl, .inr (by rw [HNX.out, HFX.out]; exact nM), by rw [HNS.out, HNUM.out, HFX.out]; rfl, (by repeat first | (with_reducible exact HB.out) | (with_reducible refine Below.setCell ?_ (by first | exact Nat.le_refl _ | (simp; done) | (simp; omega) | omega) _) | (with_reducible refine Below.alloc ?_ (by first | exact Nat.le_refl _ | (simp; done) | (simp; omega) | omega) _) | (with_reducible refine below_drewN ?_ _) | (with_reducible refine Below.drew ?_))⟩
            rw [HCS.out, HFX.out]
            have : lessQ (some 2155872256) = true := less_min
            rw [if_pos this]
            go_num
          case measure => simp [intOf]; omega
        | false =>
          have hfix : fixQ N = N := by unfold fixQ; rw [if_neg (by rw [hz]; decide)]
          have hz' : (ford .f32 (fop .sub .f32 (vals Z j) X) (some 0) == some .eq) = false := by rw [hEN]; exact hz
          have HFX := Lib.hid hfix
          cases hi : N.isNone with
          | true =>
            have hs' : (ford .f32 (fop .sub .f32 (vals Z j) X) (fop .sub .f32 (vals Z j) X) != some .eq) = true := by rw [hEN, ford_self' hcl2]; cases hNc : N with | none => rfl | some u => rw [hNc] at hi; cases hi
            have HO := Lib.hid (HNO.out (by rw [HFX.out]; exact hi))
            have HB5 := Lib.hid (HB.out)
            clear hz hfix hEN hi
            go_wp2_with (first | (refine wpList_farith rfl _ _ _ _ _ rfl rfl _ _ _ rfl rfl (by first | assumption | (with_reducible exact FV.ofInt _ _) | (with_reducible exact FV.neg (by assumption)) | exact FV.lit (by kernel_rfl) (by kernel_rfl)) (by first | assumption | (with_reducible exact FV.ofInt _ _) | (with_reducible exact FV.neg (by assumption)) | exact FV.lit (by kernel_rfl) (by kernel_rfl)) ?_; intro r m hr; have hr1 := hr.1))
            go_ret2
            exact ⟨by rw [HO.out]; rfl, (by repeat first | (with_reducible exact HB.out) | (with_reducible refine Below.setCell ?_ (by first | exact Nat.le_refl _ | (simp; done) | (simp; omega) | omega) _) | (with_reducible refine Below.alloc ?_ (by first | exact Nat.le_refl _ | (simp; done) | (simp; omega) | omega) _) | (with_reducible refine below_drewN ?_ _) | (with_reducible refine Below.drew ?_))⟩
          | false =>
            have hs' : (ford .f32 (fop .sub .f32 (vals Z j) X) (fop .sub .f32 (vals Z j) X) != some .eq) = false := by rw [hEN, ford_self' hcl2]; cases hNc : N with | none => rw [hNc] at hi; cases hi | some u => rfl
            have HI := Lib.hid hi
            cases hl : lessQ N
            all_goals
              have hl' : (ford .f32 (fop .sub .f32 (vals Z j) X) (some 0) == some .lt) = lessQ N := by rw [hEN]; rfl
              rw [hl] at hl'
              have HL := Lib.hid hl
              have HEN : Hid ((fop .sub .f32 (vals Z j) X) = N) := Lib.hid hEN
              clear hz hfix hEN hi hl
              go_wp2_with (first | (refine wpList_farith rfl _ _ _ _ _ rfl rfl _ _ _ rfl rfl (by first | assumption | (with_reducible exact FV.ofInt _ _) | (with_reducible exact FV.neg (by assumption)) | exact FV.lit (by kernel_rfl) (by kernel_rfl)) (by first | assumption | (with_reducible exact FV.ofInt _ _) | (with_reducible exact FV.neg (by assumption)) | exact FV.lit (by kernel_rfl) (by kernel_rfl)) ?_; intro r m hr; have hr1 := hr.1))
              go_roundw
              case rel =>
                refine ⟨j + 1, _, by omega, by go_num, ?_, rfl, .inr (by rw [HNX.out, HFX.out]; exact FV.of_eq (by assumption) HEN.out), by rw [HNS.out, HNUM.out, HFX.out, HI.out]; rfl, (by repeat first | (with_reducible exact HB.out) | (with_reducible refine Below.setCell ?_ (by first | exact Nat.le_refl _ | (simp; done) | (simp; omega) | omega) _) | (with_reducible refine Below.alloc ?_ (by first | exact Nat.le_refl _ | (simp; done) | (simp; omega) | omega) _) | (with_reducible refine below_drewN ?_ _) | (with_reducible refine Below.drew ?_))⟩
                rw [HCS.out, HFX.out, HL.out]
                first | go_num | (simp; done) | rfl
              case measure => simp [intOf]; omega
      · obtain ⟨t, ht⟩ : ∃ t, t + 1 = j := ⟨j - 1, by omega⟩
        have hrq : FV .f32 rq (cq (vals Z) (vals Z2) X j) := hrq0.resolve_left hj0
        obtain ⟨p2, o2, rfl, hbl2, hce2, fs2⟩ := G2.at (show t < n2 by omega)
        obtain ⟨Q, hQ⟩ : ∃ Q, Q = cq (vals Z) (vals Z2) X j := ⟨_, rfl⟩
        rw [← hQ] at hrq
        have hEN : (fop .sub .f32 (fop .sub .f32 (vals Z j) X) (fop .quo .f32 (fop .mul .f32 (vals Z2 t) (vals Z2 t)) Q)) = N := by rw [hN, ← hQ]; subst ht; rfl
        have fs2' : FV .f32 (Z2 t) (vals Z2 t) := fs2
        have hcl2 : clean .f32 N := by
          rw [← hEN]
          obtain ⟨_, _, _, v1⟩ := run_farith (P := Try.prog) w .sub 46 .f32 (Z j) x rfl
          obtain ⟨_, _, _, v2⟩ := run_farith (P := Try.prog) w .mul 46 .f32 (Z2 t) (Z2 t) rfl
          rw [fmid.1, fx.1] at v1
          rw [fs2'.1] at v2
          obtain ⟨_, _, _, v3⟩ := run_farith (P := Try.prog) w .quo 46 .f32 _ rq rfl
          rw [v2.1, hrq.1] at v3
          exact fop_clean _ _ _ _ v1 v3 rfl 46 w
        have hg : decide ((0 : Int) < (j : Int)) = true := decide_eq_true (by omega)
        have hg2 : decide (0 < j) = true := decide_eq_true (by omega)
        have hW1 : IntKind.i64.wrap ((j : Int) - 1) = (t : Int) := by
          have e : (j : Int) - 1 = (t : Int) := by omega
          rw [e]; exact IntWalk.i64_in _ (by omega)
        have htl : (t : Int) < (n2 : Int) := by omega
        have fs2 : FV .f32 (Z2 t) (vals Z2 t) := fs2'
        clear hN hQ G2 hrq0 hj0 fs2'
        cases hz : isZero N with
        | true =>
          have hfix : fixQ N = some 2155872256 := by unfold fixQ; rw [if_pos hz]
          have hz' : (ford .f32 (fop .sub .f32 (fop .sub .f32 (vals Z j) X) (fop .quo .f32 (fop .mul .f32 (vals Z2 t) (vals Z2 t)) Q)) (some 0) == some .eq) = true := by rw [hEN]; exact hz
          have HFX := Lib.hid hfix
          clear hz hfix hEN
          go_wp2_with (first | (refine wpList_farith rfl _ _ _ _ _ rfl rfl _ _ _ rfl rfl (by first | assumption | (with_reducible exact FV.ofInt _ _) | (with_reducible exact FV.neg (by assumption)) | exact FV.lit (by kernel_rfl) (by kernel_rfl)) (by first | assumption | (with_reducible exact FV.ofInt _ _) | (with_reducible exact FV.neg (by assumption)) | exact FV.lit (by kernel_rfl) (by kernel_rfl)) ?_; intro r m hr; have hr1 := hr.1))
          refine wp_region_kinds (fun w' => Below wr.heap.size wr w') (fun j => if j = 17 then 1 else if j = 19 then 1 else if j = 20 then 1 else 0) 21 (by first | exact below_drewN (Below.refl _ _) 1 | exact below_drewN (below_drewN (Below.refl _ _) _) 1) (by kernel_rfl) (by kernel_rfl) (by kernel_rfl) ?_
          simp only [List.take_succ_cons, List.take_zero, List.drop_succ_cons, List.drop_zero]
          (refine wpKinds_plain rfl rfl rfl (fun K hK => ?_); go_big_quiet_op; (first | refine hK _ ?_ | refine ⟨_, fun _ _ => rfl, hK _ ?_⟩); clear hK K)
          (refine wpKinds_plain rfl rfl rfl (fun K hK => ?_); go_big_quiet_op; (first | refine hK _ ?_ | refine ⟨_, fun _ _ => rfl, hK _ ?_⟩); clear hK K)
          (refine wpKinds_run (.pointer (some ⟨pc, 0, none⟩)) rfl rfl (by intro W hW; simp [go_sem, BigFrame.eval_const, BigFrame.eval_global, BigFrame.eval_func]) ?_; simp only [Act.put, List.setIfInBounds_toArray, List.set_cons_succ, List.set_cons_zero])
          (refine wpKinds_plain rfl rfl rfl (fun K hK => ?_); go_big_quiet_op; (first | refine hK _ ?_ | refine ⟨_, fun _ _ => rfl, hK _ ?_⟩); clear hK K)
          (refine wpKinds_run (.slice (some ⟨p2, o2, none⟩) n2 c2) rfl rfl (by intro W hW; have hcell := (hW.cell (p := ⟨pc, 1, none⟩) hpr).trans x1; simp [go_sem, hcell]) ?_; simp only [Act.put, List.setIfInBounds_toArray, List.set_cons_succ, List.set_cons_zero])
          (refine wpKinds_plain rfl rfl rfl (fun K hK => ?_); go_big_quiet_op; (first | refine hK _ ?_ | refine ⟨_, fun _ _ => rfl, hK _ ?_⟩); clear hK K)
          (refine wpKinds_run (.int .i64 t) rfl rfl (by intro W hW; simp [go_sem, hW1]) ?_; simp only [Act.put, List.setIfInBounds_toArray, List.set_cons_succ, List.set_cons_zero])
          (refine wpKinds_plain rfl rfl rfl (fun K hK => ?_); go_big_quiet_op; (first | refine hK _ ?_ | refine ⟨_, fun _ _ => rfl, hK _ ?_⟩); clear hK K)
          (refine wpKinds_run (.float .f32 (Z2 t)) rfl rfl (by intro W hW; have hcell := (hW.cell (p := ⟨p2, o2 + t, none⟩) hbl2).trans hce2; simp [go_sem, hcell]) ?_; simp only [Act.put, List.setIfInBounds_toArray, List.set_cons_succ, List.set_cons_zero])
          (refine wpKinds_plain rfl rfl rfl (fun K hK => ?_); go_big_quiet_op; (first | refine hK _ ?_ | refine ⟨_, fun _ _ => rfl, hK _ ?_⟩); clear hK K)
          (refine wpKinds_run (.pointer (some ⟨pc, 0, none⟩)) rfl rfl (by intro W hW; simp [go_sem, BigFrame.eval_const, BigFrame.eval_global, BigFrame.eval_func]) ?_; simp only [Act.put, List.setIfInBounds_toArray, List.set_cons_succ, List.set_cons_zero])
          (refine wpKinds_plain rfl rfl rfl (fun K hK => ?_); go_big_quiet_op; (first | refine hK _ ?_ | refine ⟨_, fun _ _ => rfl, hK _ ?_⟩); clear hK K)
          (refine wpKinds_run (.slice (some ⟨p2, o2, none⟩) n2 c2) rfl rfl (by intro W hW; have hcell := (hW.cell (p := ⟨pc, 1, none⟩) hpr).trans x1; simp [go_sem, hcell]) ?_; simp only [Act.put, List.setIfInBounds_toArray, List.set_cons_succ, List.set_cons_zero])
          (refine wpKinds_plain rfl rfl rfl (fun K hK => ?_); go_big_quiet_op; (first | refine hK _ ?_ | refine ⟨_, fun _ _ => rfl, hK _ ?_⟩); clear hK K)
          (refine wpKinds_run (.int .i64 t) rfl rfl (by intro W hW; simp [go_sem, hW1]) ?_; simp only [Act.put, List.setIfInBounds_toArray, List.set_cons_succ, List.set_cons_zero])
          (refine wpKinds_plain rfl rfl rfl (fun K hK => ?_); go_big_quiet_op; (first | refine hK _ ?_ | refine ⟨_, fun _ _ => rfl, hK _ ?_⟩); clear hK K)
          (refine wpKinds_run (.float .f32 (Z2 t)) rfl rfl (by intro W hW; have hcell := (hW.cell (p := ⟨p2, o2 + t, none⟩) hbl2).trans hce2; simp [go_sem, hcell]) ?_; simp only [Act.put, List.setIfInBounds_toArray, List.set_cons_succ, List.set_cons_zero])
          refine wpKinds_farith (fun W m hW => below_drewN hW m) rfl rfl _ _ _ _ _ rfl rfl _ _ _ rfl rfl fs2 fs2 (fun r7 hr7 => ?_)
          simp only [Act.put, List.setIfInBounds_toArray, List.set_cons_succ, List.set_cons_zero]
          (refine wpKinds_plain rfl rfl rfl (fun K hK => ?_); go_big_quiet_op; (first | refine hK _ ?_ | refine ⟨_, fun _ _ => rfl, hK _ ?_⟩); clear hK K)
          refine wpKinds_farith (fun W m hW => below_drewN hW m) rfl rfl _ _ _ _ _ rfl rfl _ _ _ rfl rfl hr7 hrq (fun r8 hr8 => ?_)
          simp only [Act.put, List.setIfInBounds_toArray, List.set_cons_succ, List.set_cons_zero]
          refine wpKinds_farith (fun W m hW => below_drewN hW m) rfl rfl _ _ _ _ _ rfl rfl _ _ _ rfl rfl (by assumption) hr8 (fun r9 hr9 => ?_)
          simp only [Act.put, List.setIfInBounds_toArray, List.set_cons_succ, List.set_cons_zero]
          refine wpKinds_nil ?_
          intro w5 hC
          replace HB := Lib.hid (HB.out.trans (hC.mono HB.out.size))
          have hr91 := hr9.1
          clear hC hr7 hr8
          go_wp2_with (first | (refine wpList_farith rfl _ _ _ _ _ rfl rfl _ _ _ rfl rfl (by first | assumption | (with_reducible exact FV.ofInt _ _) | (with_reducible exact FV.neg (by assumption)) | exact FV.lit (by kernel_rfl) (by kernel_rfl)) (by first | assumption | (with_reducible exact FV.ofInt _ _) | (with_reducible exact FV.neg (by assumption)) | exact FV.lit (by kernel_rfl) (by kernel_rfl)) ?_; intro r m hr; have hr1 := hr.1))
          go_roundw
          case rel =>
            refine ⟨j + 1, _, by omega, by go_num, ?_, rfl, .inr (by rw [HNX.out, HFX.out]; exact nM), by rw [HNS.out, HNUM.out, HFX.out]; rfl, (by repeat first | (with_reducible exact HB.out) | (with_reducible refine Below.setCell ?_ (by first | exact Nat.le_refl _ | (simp; done) | (simp; omega) | omega) _) | (with_reducible refine Below.alloc ?_ (by first | exact Nat.le_refl _ | (simp; done) | (simp; omega) | omega) _) | (with_reducible refine below_drewN ?_ _) | (with_reducible refine Below.drew ?_))⟩
            rw [HCS.out, HFX.out]
            have : lessQ (some 2155872256) = true := less_min
            rw [if_pos this]
            go_num
          case measure => simp [intOf]; omega
        | false =>
          have hfix : fixQ N = N := by unfold fixQ; rw [if_neg (by rw [hz]; decide)]
          have hz' : (ford .f32 (fop .sub .f32 (fop .sub .f32 (vals Z j) X) (fop .quo .f32 (fop .mul .f32 (vals Z2 t) (vals Z2 t)) Q)) (some 0) == some .eq) = false := by rw [hEN]; exact hz
          have HFX := Lib.hid hfix
          cases hi : N.isNone with
          | true =>
            have hs' : (ford .f32 (fop .sub .f32 (fop .sub .f32 (vals Z j) X) (fop .quo .f32 (fop .mul .f32 (vals Z2 t) (vals Z2 t)) Q)) (fop .sub .f32 (fop .sub .f32 (vals Z j) X) (fop .quo .f32 (fop .mul .f32 (vals Z2 t) (vals Z2 t)) Q)) != some .eq) = true := by rw [hEN, ford_self' hcl2]; cases hNc : N with | none => rfl | some u => rw [hNc] at hi; cases hi
            have HO := Lib.hid (HNO.out (by rw [HFX.out]; exact hi))
            have HB5 := Lib.hid (HB.out)
            clear hz hfix hEN hi
            go_wp2_with (first | (refine wpList_farith rfl _ _ _ _ _ rfl rfl _ _ _ rfl rfl (by first | assumption | (with_reducible exact FV.ofInt _ _) | (with_reducible exact FV.neg (by assumption)) | exact FV.lit (by kernel_rfl) (by kernel_rfl)) (by first | assumption | (with_reducible exact FV.ofInt _ _) | (with_reducible exact FV.neg (by assumption)) | exact FV.lit (by kernel_rfl) (by kernel_rfl)) ?_; intro r m hr; have hr1 := hr.1))
            refine wp_region_kinds (fun w' => Below wr.heap.size wr w') (fun j => if j = 17 then 1 else if j = 19 then 1 else if j = 20 then 1 else 0) 21 (by first | exact below_drewN (Below.refl _ _) 1 | exact below_drewN (below_drewN (Below.refl _ _) _) 1) (by kernel_rfl) (by kernel_rfl) (by kernel_rfl) ?_
            simp only [List.take_succ_cons, List.take_zero, List.drop_succ_cons, List.drop_zero]
            (refine wpKinds_plain rfl rfl rfl (fun K hK => ?_); go_big_quiet_op; (first | refine hK _ ?_ | refine ⟨_, fun _ _ => rfl, hK _ ?_⟩); clear hK K)
            (refine wpKinds_plain rfl rfl rfl (fun K hK => ?_); go_big_quiet_op; (first | refine hK _ ?_ | refine ⟨_, fun _ _ => rfl, hK _ ?_⟩); clear hK K)
            (refine wpKinds_run (.pointer (some ⟨pc, 0, none⟩)) rfl rfl (by intro W hW; simp [go_sem, BigFrame.eval_const, BigFrame.eval_global, BigFrame.eval_func]) ?_; simp only [Act.put, List.setIfInBounds_toArray, List.set_cons_succ, List.set_cons_zero])
            (refine wpKinds_plain rfl rfl rfl (fun K hK => ?_); go_big_quiet_op; (first | refine hK _ ?_ | refine ⟨_, fun _ _ => rfl, hK _ ?_⟩); clear hK K)
            (refine wpKinds_run (.slice (some ⟨p2, o2, none⟩) n2 c2) rfl rfl (by intro W hW; have hcell := (hW.cell (p := ⟨pc, 1, none⟩) hpr).trans x1; simp [go_sem, hcell]) ?_; simp only [Act.put, List.setIfInBounds_toArray, List.set_cons_succ, List.set_cons_zero])
            (refine wpKinds_plain rfl rfl rfl (fun K hK => ?_); go_big_quiet_op; (first | refine hK _ ?_ | refine ⟨_, fun _ _ => rfl, hK _ ?_⟩); clear hK K)
            (refine wpKinds_run (.int .i64 t) rfl rfl (by intro W hW; simp [go_sem, hW1]) ?_; simp only [Act.put, List.setIfInBounds_toArray, List.set_cons_succ, List.set_cons_zero])
            (refine wpKinds_plain rfl rfl rfl (fun K hK => ?_); go_big_quiet_op; (first | refine hK _ ?_ | refine ⟨_, fun _ _ => rfl, hK _ ?_⟩); clear hK K)
            (refine wpKinds_run (.float .f32 (Z2 t)) rfl rfl (by intro W hW; have hcell := (hW.cell (p := ⟨p2, o2 + t, none⟩) hbl2).trans hce2; simp [go_sem, hcell]) ?_; simp only [Act.put, List.setIfInBounds_toArray, List.set_cons_succ, List.set_cons_zero])
            (refine wpKinds_plain rfl rfl rfl (fun K hK => ?_); go_big_quiet_op; (first | refine hK _ ?_ | refine ⟨_, fun _ _ => rfl, hK _ ?_⟩); clear hK K)
            (refine wpKinds_run (.pointer (some ⟨pc, 0, none⟩)) rfl rfl (by intro W hW; simp [go_sem, BigFrame.eval_const, BigFrame.eval_global, BigFrame.eval_func]) ?_; simp only [Act.put, List.setIfInBounds_toArray, List.set_cons_succ, List.set_cons_zero])
            (refine wpKinds_plain rfl rfl rfl (fun K hK => ?_); go_big_quiet_op; (first | refine hK _ ?_ | refine ⟨_, fun _ _ => rfl, hK _ ?_⟩); clear hK K)
            (refine wpKinds_run (.slice (some ⟨p2, o2, none⟩) n2 c2) rfl rfl (by intro W hW; have hcell := (hW.cell (p := ⟨pc, 1, none⟩) hpr).trans x1; simp [go_sem, hcell]) ?_; simp only [Act.put, List.setIfInBounds_toArray, List.set_cons_succ, List.set_cons_zero])
            (refine wpKinds_plain rfl rfl rfl (fun K hK => ?_); go_big_quiet_op; (first | refine hK _ ?_ | refine ⟨_, fun _ _ => rfl, hK _ ?_⟩); clear hK K)
            (refine wpKinds_run (.int .i64 t) rfl rfl (by intro W hW; simp [go_sem, hW1]) ?_; simp only [Act.put, List.setIfInBounds_toArray, List.set_cons_succ, List.set_cons_zero])
            (refine wpKinds_plain rfl rfl rfl (fun K hK => ?_); go_big_quiet_op; (first | refine hK _ ?_ | refine ⟨_, fun _ _ => rfl, hK _ ?_⟩); clear hK K)
            (refine wpKinds_run (.float .f32 (Z2 t)) rfl rfl (by intro W hW; have hcell := (hW.cell (p := ⟨p2, o2 + t, none⟩) hbl2).trans hce2; simp [go_sem, hcell]) ?_; simp only [Act.put, List.setIfInBounds_toArray, List.set_cons_succ, List.set_cons_zero])
            refine wpKinds_farith (fun W m hW => below_drewN hW m) rfl rfl _ _ _ _ _ rfl rfl _ _ _ rfl rfl fs2 fs2 (fun r7 hr7 => ?_)
            simp only [Act.put, List.setIfInBounds_toArray, List.set_cons_succ, List.set_cons_zero]
            (refine wpKinds_plain rfl rfl rfl (fun K hK => ?_); go_big_quiet_op; (first | refine hK _ ?_ | refine ⟨_, fun _ _ => rfl, hK _ ?_⟩); clear hK K)
            refine wpKinds_farith (fun W m hW => below_drewN hW m) rfl rfl _ _ _ _ _ rfl rfl _ _ _ rfl rfl hr7 hrq (fun r8 hr8 => ?_)
            simp only [Act.put, List.setIfInBounds_toArray, List.set_cons_succ, List.set_cons_zero]
            refine wpKinds_farith (fun W m hW => below_drewN hW m) rfl rfl _ _ _ _ _ rfl rfl _ _ _ rfl rfl (by assumption) hr8 (fun r9 hr9 => ?_)
            simp only [Act.put, List.setIfInBounds_toArray, List.set_cons_succ, List.set_cons_zero]
            refine wpKinds_nil ?_
            intro w5 hC
            replace HB := Lib.hid (HB.out.trans (hC.mono HB.out.size))
            have hr91 := hr9.1
            clear hC hr7 hr8
            go_wp2_with (first | (refine wpList_farith rfl _ _ _ _ _ rfl rfl _ _ _ rfl rfl (by first | assumption | (with_reducible exact FV.ofInt _ _) | (with_reducible exact FV.neg (by assumption)) | exact FV.lit (by kernel_rfl) (by kernel_rfl)) (by first | assumption | (with_reducible exact FV.ofInt _ _) | (with_reducible exact FV.neg (by assumption)) | exact FV.lit (by kernel_rfl) (by kernel_rfl)) ?_; intro r m hr; have hr1 := hr.1))
            go_ret2
            exact ⟨by rw [HO.out]; rfl, (by repeat first | (with_reducible exact HB.out) | (with_reducible refine Below.setCell ?_ (by first | exact Nat.le_refl _ | (simp; done) | (simp; omega) | omega) _) | (with_reducible refine Below.alloc ?_ (by first | exact Nat.le_refl _ | (simp; done) | (simp; omega) | omega) _) | (with_reducible refine below_drewN ?_ _) | (with_reducible refine Below.drew ?_))⟩
          | false =>
            have hs' : (ford .f32 (fop .sub .f32 (fop .sub .f32 (vals Z j) X) (fop .quo .f32 (fop .mul .f32 (vals Z2 t) (vals Z2 t)) Q)) (fop .sub .f32 (fop .sub .f32 (vals Z j) X) (fop .quo .f32 (fop .mul .f32 (vals Z2 t) (vals Z2 t)) Q)) != some .eq) = false := by rw [hEN, ford_self' hcl2]; cases hNc : N with | none => rw [hNc] at hi; cases hi | some u => rfl
            have HI := Lib.hid hi
            cases hl : lessQ N
            all_goals
              have hl' : (ford .f32 (fop .sub .f32 (fop .sub .f32 (vals Z j) X) (fop .quo .f32 (fop .mul .f32 (vals Z2 t) (vals Z2 t)) Q)) (some 0) == some .lt) = lessQ N := by rw [hEN]; rfl
              rw [hl] at hl'
              have HL := Lib.hid hl
              have HEN : Hid ((fop .sub .f32 (fop .sub .f32 (vals Z j) X) (fop .quo .f32 (fop .mul .f32 (vals Z2 t) (vals Z2 t)) Q)) = N) := Lib.hid hEN
              clear hz hfix hEN hi hl
              go_wp2_with (first | (refine wpList_farith rfl _ _ _ _ _ rfl rfl _ _ _ rfl rfl (by first | assumption | (with_reducible exact FV.ofInt _ _) | (with_reducible exact FV.neg (by assumption)) | exact FV.lit (by kernel_rfl) (by kernel_rfl)) (by first | assumption | (with_reducible exact FV.ofInt _ _) | (with_reducible exact FV.neg (by assumption)) | exact FV.lit (by kernel_rfl) (by kernel_rfl)) ?_; intro r m hr; have hr1 := hr.1))
              refine wp_region_kinds (fun w' => Below wr.heap.size wr w') (fun j => if j = 17 then 1 else if j = 19 then 1 else if j = 20 then 1 else 0) 21 (by first | exact below_drewN (Below.refl _ _) 1 | exact below_drewN (below_drewN (Below.refl _ _) _) 1) (by kernel_rfl) (by kernel_rfl) (by kernel_rfl) ?_
              simp only [List.take_succ_cons, List.take_zero, List.drop_succ_cons, List.drop_zero]
              (refine wpKinds_plain rfl rfl rfl (fun K hK => ?_); go_big_quiet_op; (first | refine hK _ ?_ | refine ⟨_, fun _ _ => rfl, hK _ ?_⟩); clear hK K)
              (refine wpKinds_plain rfl rfl rfl (fun K hK => ?_); go_big_quiet_op; (first | refine hK _ ?_ | refine ⟨_, fun _ _ => rfl, hK _ ?_⟩); clear hK K)
              (refine wpKinds_run (.pointer (some ⟨pc, 0, none⟩)) rfl rfl (by intro W hW; simp [go_sem, BigFrame.eval_const, BigFrame.eval_global, BigFrame.eval_func]) ?_; simp only [Act.put, List.setIfInBounds_toArray, List.set_cons_succ, List.set_cons_zero])
              (refine wpKinds_plain rfl rfl rfl (fun K hK => ?_); go_big_quiet_op; (first | refine hK _ ?_ | refine ⟨_, fun _ _ => rfl, hK _ ?_⟩); clear hK K)
              (refine wpKinds_run (.slice (some ⟨p2, o2, none⟩) n2 c2) rfl rfl (by intro W hW; have hcell := (hW.cell (p := ⟨pc, 1, none⟩) hpr).trans x1; simp [go_sem, hcell]) ?_; simp only [Act.put, List.setIfInBounds_toArray, List.set_cons_succ, List.set_cons_zero])
              (refine wpKinds_plain rfl rfl rfl (fun K hK => ?_); go_big_quiet_op; (first | refine hK _ ?_ | refine ⟨_, fun _ _ => rfl, hK _ ?_⟩); clear hK K)
              (refine wpKinds_run (.int .i64 t) rfl rfl (by intro W hW; simp [go_sem, hW1]) ?_; simp only [Act.put, List.setIfInBounds_toArray, List.set_cons_succ, List.set_cons_zero])
              (refine wpKinds_plain rfl rfl rfl (fun K hK => ?_); go_big_quiet_op; (first | refine hK _ ?_ | refine ⟨_, fun _ _ => rfl, hK _ ?_⟩); clear hK K)
              (refine wpKinds_run (.float .f32 (Z2 t)) rfl rfl (by intro W hW; have hcell := (hW.cell (p := ⟨p2, o2 + t, none⟩) hbl2).trans hce2; simp [go_sem, hcell]) ?_; simp only [Act.put, List.setIfInBounds_toArray, List.set_cons_succ, List.set_cons_zero])
              (refine wpKinds_plain rfl rfl rfl (fun K hK => ?_); go_big_quiet_op; (first | refine hK _ ?_ | refine ⟨_, fun _ _ => rfl, hK _ ?_⟩); clear hK K)
              (refine wpKinds_run (.pointer (some ⟨pc, 0, none⟩)) rfl rfl (by intro W hW; simp [go_sem, BigFrame.eval_const, BigFrame.eval_global, BigFrame.eval_func]) ?_; simp only [Act.put, List.setIfInBounds_toArray, List.set_cons_succ, List.set_cons_zero])
              (refine wpKinds_plain rfl rfl rfl (fun K hK => ?_); go_big_quiet_op; (first | refine hK _ ?_ | refine ⟨_, fun _ _ => rfl, hK _ ?_⟩); clear hK K)
              (refine wpKinds_run (.slice (some ⟨p2, o2, none⟩) n2 c2) rfl rfl (by intro W hW; have hcell := (hW.cell (p := ⟨pc, 1, none⟩) hpr).trans x1; simp [go_sem, hcell]) ?_; simp only [Act.put, List.setIfInBounds_toArray, List.set_cons_succ, List.set_cons_zero])
              (refine wpKinds_plain rfl rfl rfl (fun K hK => ?_); go_big_quiet_op; (first | refine hK _ ?_ | refine ⟨_, fun _ _ => rfl, hK _ ?_⟩); clear hK K)
              (refine wpKinds_run (.int .i64 t) rfl rfl (by intro W hW; simp [go_sem, hW1]) ?_; simp only [Act.put, List.setIfInBounds_toArray, List.set_cons_succ, List.set_cons_zero])
              (refine wpKinds_plain rfl rfl rfl (fun K hK => ?_); go_big_quiet_op; (first | refine hK _ ?_ | refine ⟨_, fun _ _ => rfl, hK _ ?_⟩); clear hK K)
              (refine wpKinds_run (.float .f32 (Z2 t)) rfl rfl (by intro W hW; have hcell := (hW.cell (p := ⟨p2, o2 + t, none⟩) hbl2).trans hce2; simp [go_sem, hcell]) ?_; simp only [Act.put, List.setIfInBounds_toArray, List.set_cons_succ, List.set_cons_zero])
              refine wpKinds_farith (fun W m hW => below_drewN hW m) rfl rfl _ _ _ _ _ rfl rfl _ _ _ rfl rfl fs2 fs2 (fun r7 hr7 => ?_)
              simp only [Act.put, List.setIfInBounds_toArray, List.set_cons_succ, List.set_cons_zero]
              (refine wpKinds_plain rfl rfl rfl (fun K hK => ?_); go_big_quiet_op; (first | refine hK _ ?_ | refine ⟨_, fun _ _ => rfl, hK _ ?_⟩); clear hK K)
              refine wpKinds_farith (fun W m hW => below_drewN hW m) rfl rfl _ _ _ _ _ rfl rfl _ _ _ rfl rfl hr7 hrq (fun r8 hr8 => ?_)
              simp only [Act.put, List.setIfInBounds_toArray, List.set_cons_succ, List.set_cons_zero]
              refine wpKinds_farith (fun W m hW => below_drewN hW m) rfl rfl _ _ _ _ _ rfl rfl _ _ _ rfl rfl (by assumption) hr8 (fun r9 hr9 => ?_)
              simp only [Act.put, List.setIfInBounds_toArray, List.set_cons_succ, List.set_cons_zero]
              refine wpKinds_nil ?_
              intro w5 hC
              replace HB := Lib.hid (HB.out.trans (hC.mono HB.out.size))
              have hr91 := hr9.1
              clear hC hr7 hr8
              go_wp2_with (first | (refine wpList_farith rfl _ _ _ _ _ rfl rfl _ _ _ rfl rfl (by first | assumption | (with_reducible exact FV.ofInt _ _) | (with_reducible exact FV.neg (by assumption)) | exact FV.lit (by kernel_rfl) (by kernel_rfl)) (by first | assumption | (with_reducible exact FV.ofInt _ _) | (with_reducible exact FV.neg (by assumption)) | exact FV.lit (by kernel_rfl) (by kernel_rfl)) ?_; intro r m hr; have hr1 := hr.1))
              go_roundw
              case rel =>
                refine ⟨j + 1, _, by omega, by go_num, ?_, rfl, .inr (by rw [HNX.out, HFX.out]; exact FV.of_eq (by assumption) HEN.out), by rw [HNS.out, HNUM.out, HFX.out, HI.out]; rfl, (by repeat first | (with_reducible exact HB.out) | (with_reducible refine Below.setCell ?_ (by first | exact Nat.le_refl _ | (simp; done) | (simp; omega) | omega) _) | (with_reducible refine Below.alloc ?_ (by first | exact Nat.le_refl _ | (simp; done) | (simp; omega) | omega) _) | (with_reducible refine below_drewN ?_ _) | (with_reducible refine Below.drew ?_))⟩
                rw [HCS.out, HFX.out, HL.out]
                first | go_num | (simp; done) | rfl
              case measure => simp [intOf]; omega
    · obtain rfl : j = n := by omega
      go_wp2
      go_ret2
      exact ⟨by rw [HOK.out, HNUM.out]; rfl, (by repeat first | (with_reducible exact HB.out) | (with_reducible refine Below.setCell ?_ (by first | exact Nat.le_refl _ | (simp; done) | (simp; omega) | omega) _) | (with_reducible refine Below.alloc ?_ (by first | exact Nat.le_refl _ | (simp; done) | (simp; omega) | omega) _) | (with_reducible refine below_drewN ?_ _) | (with_reducible refine Below.drew ?_))⟩
end Go.Proofs.Ytffmjfgechdjjab
