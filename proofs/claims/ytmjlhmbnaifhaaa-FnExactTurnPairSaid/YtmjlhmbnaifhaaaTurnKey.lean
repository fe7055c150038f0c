/- Helper: the turn of a pair of rows, of the program and of its reference. Conditions: none. -/
import Derived.Test.YtmjlhmbnaifhaaaTurnWalks
import Derived.Test.YtmjlhmbnaifhaaaSymKey
set_option linter.unusedVariables false
set_option linter.unusedSimpArgs false
namespace Go.Proofs.Ytmjlhmbnaifhaaa
open Go.RowKit

/-- Whether a square has two rows, one behind the other. -/
noncomputable def pairB (R C : Int) (n : Nat) (V : Nat → Option Nat) (i k : Int) : Bool := symB R C n V && (decide (0 ≤ i) && (decide (i < k) && decide (k < R)))
theorem pairB_nat {R C : Int} {n : Nat} {V : Nat → Option Nat} {i k : Int} (h : pairB R C n V i k = true) :
    ∃ r x y : Nat, R = r ∧ C = r ∧ i = x ∧ k = y ∧ x < y ∧ y < r ∧ 1 ≤ r ∧ r ≤ 12 ∧ n = r * r ∧ allFin V n = true ∧ symB r r n V = true := by
  have h' := h
  unfold pairB at h
  simp only [Bool.and_eq_true, decide_eq_true_eq] at h
  obtain ⟨hs, h0, h1, h2⟩ := h
  have hsq : squareB R C n V = true := by
    cases e : squareB R C n V with
    | true => rfl
    | false => rw [symB_no e] at hs; cases hs
  obtain ⟨r, rfl, rfl, hr1, hr, hnr, hfin⟩ := square_nat hsq
  exact ⟨r, i.toNat, k.toNat, rfl, rfl, by omega, by omega, by omega, by omega, hr1, hr, hnr, hfin, hs⟩
/-- The numbers of the turn. -/
def tC (r x y : Nat) (V : Nat → Option Nat) : Option Nat := turnC (fop .sub .f32 (V (y * r + y)) (V (x * r + x))) (V (x * r + y))
def tS (r x y : Nat) (V : Nat → Option Nat) : Option Nat := turnS (fop .sub .f32 (V (y * r + y)) (V (x * r + x))) (V (x * r + y))
def tB (r x y : Nat) (V : Nat → Option Nat) : Bool := finite .f32 (tC r x y V) && finite .f32 (tS r x y V)
/-- Two numbers, and whether they are told. -/
def TwoBel (ok : Bool) (X Y : Option Nat) (w : World) (e : Ending) (w' : World) : Prop :=
  ∃ r s, e = .returned (.tuple #[.float .f32 r, .float .f32 s, .bool ok]) ∧ FV .f32 r X ∧ FV .f32 s Y ∧ Below w.heap.size w w'
def TwoIf (ok : Bool) (X Y : Option Nat) (w : World) (e : Ending) (w' : World) : Prop :=
  match ok with | true => TwoBel true X Y w e w' | false => TwoBel false (some 0) (some 0) w e w'
theorem TwoIf.yes {ok : Bool} {X Y : Option Nat} {w : World} {e : Ending} {w' : World} (h : ok = true) (p : TwoBel true X Y w e w') : TwoIf ok X Y w e w' := by subst h; exact p
theorem TwoIf.no {ok : Bool} {X Y : Option Nat} {w : World} {e : Ending} {w' : World} (h : ok = false) (p : TwoBel false (some 0) (some 0) w e w') : TwoIf ok X Y w e w' := by subst h; exact p
theorem two_no {w w' : World} (h : Below w.heap.size w w') : TwoBel false (some 0) (some 0) w (.returned (.tuple #[.float .f32 0, .float .f32 0, .bool false])) w' :=
  ⟨0, 0, rfl, FV.lit (by kernel_rfl) (by kernel_rfl), FV.lit (by kernel_rfl) (by kernel_rfl), h⟩
theorem sub_fin {x y : Nat} (hx : finite .f32 (cn .f32 x) = true) (hy : finite .f32 (cn .f32 y) = true) : ∃ r, FloatKind.f32.format.sub x y = some r ∧ FV .f32 r (fop .sub .f32 (cn .f32 x) (cn .f32 y)) := by
  obtain ⟨e1, s, m, e, h1⟩ := cn_fin hx
  obtain ⟨e2, t, n, f, h2⟩ := cn_fin hy
  have h3 : fop .sub .f32 (some x) (some y) = ((FloatKind.f32.decode x).sum (FloatKind.f32.decode y).opposite).map FloatKind.f32.encode := rfl
  rw [h1, h2] at h3
  simp only [Ieee.Datum.opposite, Ieee.Datum.sum, Option.map_some] at h3
  refine ⟨_, h3, ?_⟩
  rw [e1, e2, h3]
  exact ⟨cn_number _ _ _ _, floatBits_wf (op := .sub) (k := .f32) (x := x) (y := y) h3⟩

set_option maxRecDepth 20000 in
set_option maxHeartbeats 2000000 in
theorem implTurn_no (R C : Int) (a : Option Addr) (n c : Nat) (Z : Nat → Nat) (i k : Int) (w : World) (hn : n ≤ 1048576) (h : FS .f32 w a n c Z) (ho : pairB R C n (vals Z) i k = false) :
    Calls Try.prog 58 #[.agg #[.int .i64 R, .int .i64 C, .slice a n c], .int .i64 i, .int .i64 k] w (TwoBel false (some 0) (some 0) w) := by
  by_cases h0 : i < 0
  · have hd : decide (i < 0) = true := decide_eq_true h0
    clear ho
    go_enter Try.func58, Try.ntmps58
    go_wp2_with fail
    go_ret3
    exact two_no (by repeat first | (with_reducible exact Below.refl _ _) | (with_reducible refine Below.setCell ?_ (by first | exact Nat.le_refl _ | (simp; done) | (simp; omega) | omega) _) | (with_reducible refine Below.alloc ?_ (by first | exact Nat.le_refl _ | (simp; done) | (simp; omega) | omega) _) | (with_reducible refine below_drewN ?_ _) | (with_reducible refine Below.drew ?_))
  · have hd0 : decide (i < 0) = false := decide_eq_false h0
    by_cases h1 : k ≤ i
    · have hd : decide (k ≤ i) = true := decide_eq_true h1
      clear ho
      go_enter Try.func58, Try.ntmps58
      go_wp2_with fail
      go_ret3
      exact two_no (by repeat first | (with_reducible exact Below.refl _ _) | (with_reducible refine Below.setCell ?_ (by first | exact Nat.le_refl _ | (simp; done) | (simp; omega) | omega) _) | (with_reducible refine Below.alloc ?_ (by first | exact Nat.le_refl _ | (simp; done) | (simp; omega) | omega) _) | (with_reducible refine below_drewN ?_ _) | (with_reducible refine Below.drew ?_))
    · have hd1 : decide (k ≤ i) = false := decide_eq_false h1
      by_cases h2 : R ≤ k
      · have hd : decide (R ≤ k) = true := decide_eq_true h2
        clear ho
        go_enter Try.func58, Try.ntmps58
        go_wp2_with fail
        go_ret3
        exact two_no (by repeat first | (with_reducible exact Below.refl _ _) | (with_reducible refine Below.setCell ?_ (by first | exact Nat.le_refl _ | (simp; done) | (simp; omega) | omega) _) | (with_reducible refine Below.alloc ?_ (by first | exact Nat.le_refl _ | (simp; done) | (simp; omega) | omega) _) | (with_reducible refine below_drewN ?_ _) | (with_reducible refine Below.drew ?_))
      · have hd2 : decide (R ≤ k) = false := decide_eq_false h2
        have hs : symB R C n (vals Z) = false := by
          unfold pairB at ho
          rw [decide_eq_true (show 0 ≤ i by omega), decide_eq_true (show i < k by omega), decide_eq_true (show k < R by omega)] at ho
          simpa using ho
        have hsym := fun W hW => implSym_any R C a n c Z W hn hW
        rw [hs] at hsym
        clear ho hs
        go_enter Try.func58, Try.ntmps58
        go_wp2_with fail
        go_at_call 82
        refine (hsym _ (h.below (by repeat first | (with_reducible exact Below.refl _ _) | (with_reducible refine Below.setCell ?_ (by first | exact Nat.le_refl _ | (simp; done) | (simp; omega) | omega) _) | (with_reducible refine Below.alloc ?_ (by first | exact Nat.le_refl _ | (simp; done) | (simp; omega) | omega) _) | (with_reducible refine below_drewN ?_ _) | (with_reducible refine Below.drew ?_)) (Nat.le_refl _))).mono ?_
        rintro e w1 ⟨rfl, b1⟩
        have B1 := Lib.hid (show Below w.heap.size w w1 from Below.trans (by repeat first | (with_reducible exact Below.refl _ _) | (with_reducible refine Below.setCell ?_ (by first | exact Nat.le_refl _ | (simp; done) | (simp; omega) | omega) _) | (with_reducible refine Below.alloc ?_ (by first | exact Nat.le_refl _ | (simp; done) | (simp; omega) | omega) _) | (with_reducible refine below_drewN ?_ _) | (with_reducible refine Below.drew ?_)) (b1.mono (by simp)))
        clear b1
        go_wp2_with fail
        go_ret3
        exact two_no B1.out
set_option maxRecDepth 20000 in
set_option maxHeartbeats 2000000 in
theorem implTurn_yes (r x y p o n c : Nat) (Z : Nat → Nat) (w : World) (hr1 : 1 ≤ r) (hr : r ≤ 12) (hn : n = r * r) (hxy : x < y) (hy : y < r) (hfin : allFin (vals Z) n = true) (hs : symB r r n (vals Z) = true) (h : FS .f32 w (some ⟨p, o, none⟩) n c Z) :
    Calls Try.prog 58 #[.agg #[.int .i64 r, .int .i64 r, .slice (some ⟨p, o, none⟩) n c], .int .i64 x, .int .i64 y] w (TwoIf (tB r x y (vals Z)) (tC r x y (vals Z)) (tS r x y (vals Z)) w) := by
  have hN := Lib.hid hn
  have hn144 : n ≤ 144 := by have := sides_le hr hr; omega
  have hcap := h.1
  have hmax : c ≤ 9223372036854775807 := by have := h.2.1; unfold maxLen at this; omega
  have hd0 : decide ((x : Int) < 0) = false := decide_eq_false (by omega)
  have hd1 : decide ((y : Int) ≤ (x : Int)) = false := decide_eq_false (by omega)
  have hd2 : decide ((r : Int) ≤ (y : Int)) = false := decide_eq_false (by omega)
  have hsym := fun W hW => implSym_any r r (some ⟨p, o, none⟩) n c Z W (by omega) hW
  rw [hs] at hsym
  have pyy := place_lt hy hy
  have pxx := place_lt (show x < r by omega) (show x < r by omega)
  have pxy := place_lt (show x < r by omega) hy
  rw [← hn] at pyy pxx pxy
  obtain ⟨rs, hrs, fsub⟩ := sub_fin (x := Z (y * r + y)) (y := Z (x * r + x)) (allFin_lt (V := vals Z) hfin pyy) (allFin_lt (V := vals Z) hfin pxx)
  obtain ⟨VC, hVC⟩ : ∃ VC, VC = tC r x y (vals Z) := ⟨_, rfl⟩
  obtain ⟨VS, hVS⟩ : ∃ VS, VS = tS r x y (vals Z) := ⟨_, rfl⟩
  have hVB : tB r x y (vals Z) = (finite .f32 VC && finite .f32 VS) := by unfold tB; rw [hVC, hVS]
  rw [← hVC, ← hVS, hVB]
  have HVC := Lib.hid hVC
  have HVS := Lib.hid hVS
  have hxyz : FV .f32 (Z (x * r + y)) (vals Z (x * r + y)) := FV.mk' ((h.at pxy).elim fun _ q => q.elim fun _ q => q.2.2.2.2)
  have hturn : ∀ W, Calls Try.prog 83 #[.float .f32 rs, .float .f32 (Z (x * r + y))] W (TwoNum VC VS W) := fun W => by
    rw [HVC.out, HVS.out]
    exact turnTo_any _ _ fsub hxyz W
  have hsubrun : ∀ W : World, (binOp .sub 33 (.float .f32 (Z (y * r + y))) (.float .f32 (Z (x * r + x)))).run Try.prog W = .ok (.float .f32 rs) W := fun W => run_float_arith W .sub _ .f32 _ _ _ hrs
  clear hn hs hVC hVS hVB hrs fsub hxyz hfin
  go_enter Try.func58, Try.ntmps58
  go_wp2_with fail
  go_at_call 82
  refine (hsym _ (h.below (by repeat first | (with_reducible exact Below.refl _ _) | (with_reducible refine Below.setCell ?_ (by first | exact Nat.le_refl _ | (simp; done) | (simp; omega) | omega) _) | (with_reducible refine Below.alloc ?_ (by first | exact Nat.le_refl _ | (simp; done) | (simp; omega) | omega) _) | (with_reducible refine below_drewN ?_ _) | (with_reducible refine Below.drew ?_)) (Nat.le_refl _))).mono ?_
  rintro e w1 ⟨rfl, b1⟩
  have B1 : Below w.heap.size w w1 := Below.trans (by repeat first | (with_reducible exact Below.refl _ _) | (with_reducible refine Below.setCell ?_ (by first | exact Nat.le_refl _ | (simp; done) | (simp; omega) | omega) _) | (with_reducible refine Below.alloc ?_ (by first | exact Nat.le_refl _ | (simp; done) | (simp; omega) | omega) _) | (with_reducible refine below_drewN ?_ _) | (with_reducible refine Below.drew ?_)) (b1.mono (by simp))
  have X1 := (Box.new _ _ _ _ _ _ _).below b1 (by simp)
  have s1 : w.heap.size < w1.heap.size := by have := b1.size; simp at this; omega
  obtain ⟨x0, x1, x2⟩ := X1
  clear b1 hsym
  go_wp2_with fail
  go_region_held3 (fun w' => w'.cell? ⟨w.heap.size, 0, none⟩ = some (.int .i64 r) ∧ w'.cell? ⟨w.heap.size, 1, none⟩ = some (.int .i64 r) ∧ w'.cell? ⟨w.heap.size, 2, none⟩ = some (.slice (some ⟨p, o, none⟩) n c) ∧ Below w1.heap.size w1 w')
    (first | exact ⟨x0, x1, x2, (by first | exact (Below.refl _ _).drew | exact (below_drewN (Below.refl _ _) _).drew)⟩ | exact heldB (by assumption) (by assumption) (by omega))
    (first
      | (go_at_call 36; (with_reducible refine (rowOf_any p o r r n c x _ hr hr1 hr hN.out hcap hmax ?_).mono ?_); (exact Nat.lt_trans hxy hy); rintro e wa ⟨rfl, ba⟩)
      | (go_at_call 36; (with_reducible refine (rowOf_any p o r r n c y _ hr hr1 hr hN.out hcap hmax hy).mono ?_); rintro e w0 ⟨rfl, bb⟩))
  have hB2 : Below w1.heap.size w1 w0 := by go_split_ands; assumption
  have B2 : Below w.heap.size w w0 := B1.trans (hB2.mono B1.size)
  have F2 := h.below B2 (Nat.le_refl _)
  obtain ⟨_, _, e, hbl, cyy, _⟩ := F2.at pyy
  simp only [Option.some.injEq, Addr.mk.injEq, and_true] at e
  obtain ⟨rfl, rfl⟩ := e
  obtain ⟨_, _, e, _, cxx, _⟩ := F2.at pxx
  simp only [Option.some.injEq, Addr.mk.injEq, and_true] at e
  obtain ⟨rfl, rfl⟩ := e
  obtain ⟨_, _, e, _, cxy, _⟩ := F2.at pxy
  simp only [Option.some.injEq, Addr.mk.injEq, and_true] at e
  obtain ⟨rfl, rfl⟩ := e
  rw [← Nat.add_assoc] at cyy cxx cxy
  have hyr : (y : Int) < (r : Int) := by omega
  have hxr : (x : Int) < (r : Int) := by omega
  clear F2 x0 x1 x2 hd0 hd1 hd2 bb ba
  go_wp2
  (refine wp_region_kinds (fun w' => Below w0.heap.size w0 w') (fun j => if j = 13 then 2 else 0) 18 (below_drewN (Below.refl _ _) 1) (by kernel_rfl) (by kernel_rfl) (by kernel_rfl) ?_; simp only [List.take_succ_cons, List.take_zero, List.drop_succ_cons, List.drop_zero])
  ((with_reducible refine wpKinds_plain ?hwant ?hkind ?hplain (fun K hK => ?_)); (case hwant => first | (simp [Region.wanted, yielded]; done) | rfl); (case hkind => rfl); (case hplain => rfl); go_big_quiet_op; (first | refine hK _ ?_ | refine ⟨_, fun _ _ => rfl, hK _ ?_⟩); clear hK K)
  ((with_reducible refine wpKinds_plain ?hwant ?hkind ?hplain (fun K hK => ?_)); (case hwant => first | (simp [Region.wanted, yielded]; done) | rfl); (case hkind => rfl); (case hplain => rfl); go_big_quiet_op; (first | refine hK _ ?_ | refine ⟨_, fun _ _ => rfl, hK _ ?_⟩); clear hK K)
  ((with_reducible refine wpKinds_plain ?hwant ?hkind ?hplain (fun K hK => ?_)); (case hwant => first | (simp [Region.wanted, yielded]; done) | rfl); (case hkind => rfl); (case hplain => rfl); go_big_quiet_op; (first | refine hK _ ?_ | refine ⟨_, fun _ _ => rfl, hK _ ?_⟩); clear hK K)
  (refine wpKinds_run (.float .f32 (Z (y * r + y))) rfl rfl (by intro W hW; have hcell := (hW.cell (p := ⟨p, o + y * r + y, none⟩) hbl).trans cyy; simp [go_sem, hcell]) ?_; simp only [Act.put, List.setIfInBounds_toArray, List.set_cons_succ, List.set_cons_zero])
  ((with_reducible refine wpKinds_plain ?hwant ?hkind ?hplain (fun K hK => ?_)); (case hwant => first | (simp [Region.wanted, yielded]; done) | rfl); (case hkind => rfl); (case hplain => rfl); go_big_quiet_op; (first | refine hK _ ?_ | refine ⟨_, fun _ _ => rfl, hK _ ?_⟩); clear hK K)
  ((with_reducible refine wpKinds_plain ?hwant ?hkind ?hplain (fun K hK => ?_)); (case hwant => first | (simp [Region.wanted, yielded]; done) | rfl); (case hkind => rfl); (case hplain => rfl); go_big_quiet_op; (first | refine hK _ ?_ | refine ⟨_, fun _ _ => rfl, hK _ ?_⟩); clear hK K)
  ((with_reducible refine wpKinds_plain ?hwant ?hkind ?hplain (fun K hK => ?_)); (case hwant => first | (simp [Region.wanted, yielded]; done) | rfl); (case hkind => rfl); (case hplain => rfl); go_big_quiet_op; (first | refine hK _ ?_ | refine ⟨_, fun _ _ => rfl, hK _ ?_⟩); clear hK K)
  (refine wpKinds_run (.float .f32 (Z (x * r + x))) rfl rfl (by intro W hW; have hcell := (hW.cell (p := ⟨p, o + x * r + x, none⟩) hbl).trans cxx; simp [go_sem, hcell]) ?_; simp only [Act.put, List.setIfInBounds_toArray, List.set_cons_succ, List.set_cons_zero])
  (refine wpKinds_run (.float .f32 rs) rfl rfl (by intro W hW; simp [go_sem, eqGuard, hsubrun]) ?_; simp only [Act.put, List.setIfInBounds_toArray, List.set_cons_succ, List.set_cons_zero])
  ((with_reducible refine wpKinds_plain ?hwant ?hkind ?hplain (fun K hK => ?_)); (case hwant => first | (simp [Region.wanted, yielded]; done) | rfl); (case hkind => rfl); (case hplain => rfl); go_big_quiet_op; (first | refine hK _ ?_ | refine ⟨_, fun _ _ => rfl, hK _ ?_⟩); clear hK K)
  ((with_reducible refine wpKinds_plain ?hwant ?hkind ?hplain (fun K hK => ?_)); (case hwant => first | (simp [Region.wanted, yielded]; done) | rfl); (case hkind => rfl); (case hplain => rfl); go_big_quiet_op; (first | refine hK _ ?_ | refine ⟨_, fun _ _ => rfl, hK _ ?_⟩); clear hK K)
  ((with_reducible refine wpKinds_plain ?hwant ?hkind ?hplain (fun K hK => ?_)); (case hwant => first | (simp [Region.wanted, yielded]; done) | rfl); (case hkind => rfl); (case hplain => rfl); go_big_quiet_op; (first | refine hK _ ?_ | refine ⟨_, fun _ _ => rfl, hK _ ?_⟩); clear hK K)
  (refine wpKinds_run (.float .f32 (Z (x * r + y))) rfl rfl (by intro W hW; have hcell := (hW.cell (p := ⟨p, o + x * r + y, none⟩) hbl).trans cxy; simp [go_sem, hcell]) ?_; simp only [Act.put, List.setIfInBounds_toArray, List.set_cons_succ, List.set_cons_zero])
  (refine wpKinds_noisy (f := 83) (args := #[.float .f32 rs, .float .f32 (Z (x * r + y))]) (fun u => ∃ rc rs', u = .tuple #[.float .f32 rc, .float .f32 rs'] ∧ FV .f32 rc VC ∧ FV .f32 rs' VS) rfl rfl (by intro W; simp [go_sem, BigFrame.eval_const, BigFrame.eval_global, BigFrame.eval_func]) ?_ ?_)
  · intro W hW
    refine (hturn W).mono ?_
    rintro e w' ⟨rc, rs', rfl, h1, h2, m, rfl⟩
    exact ⟨_, rfl, below_drewN hW m, rc, rs', rfl, h1, h2⟩
  rintro u ⟨rc, rs', rfl, frc, frs⟩
  simp only [Act.put, List.setIfInBounds_toArray, List.set_cons_succ, List.set_cons_zero]
  ((with_reducible refine wpKinds_plain ?hwant ?hkind ?hplain (fun K hK => ?_)); (case hwant => first | (simp [Region.wanted, yielded]; done) | rfl); (case hkind => rfl); (case hplain => rfl); go_big_quiet_op; (first | refine hK _ ?_ | refine ⟨_, fun _ _ => rfl, hK _ ?_⟩); clear hK K)
  ((with_reducible refine wpKinds_run (.float .f32 rc) ?hwant ?hkind ?hrun ?_); (case hwant => first | (simp [Region.wanted, yielded]; done) | rfl); (case hkind => rfl); (case hrun => intro W hW; simp [go_sem, BigFrame.eval_const, BigFrame.eval_global, BigFrame.eval_func]); simp only [Act.put, List.setIfInBounds_toArray, List.set_cons_succ, List.set_cons_zero])
  ((with_reducible refine wpKinds_run (.float .f32 rs') ?hwant ?hkind ?hrun ?_); (case hwant => first | (simp [Region.wanted, yielded]; done) | rfl); (case hkind => rfl); (case hrun => intro W hW; simp [go_sem, BigFrame.eval_const, BigFrame.eval_global, BigFrame.eval_func]); simp only [Act.put, List.setIfInBounds_toArray, List.set_cons_succ, List.set_cons_zero])
  ((with_reducible refine wpKinds_run (.float .f32 rc) ?hwant ?hkind ?hrun ?_); (case hwant => first | (simp [Region.wanted, yielded]; done) | rfl); (case hkind => rfl); (case hrun => intro W hW; simp [go_sem, BigFrame.eval_const, BigFrame.eval_global, BigFrame.eval_func]); simp only [Act.put, List.setIfInBounds_toArray, List.set_cons_succ, List.set_cons_zero])
  refine wpKinds_nil ?_
  intro w4 hC
  have B4 := Lib.hid (B2.trans (hC.mono B2.size))
  clear hC B2 hB2 B1 cyy cxx cxy
  cases hc : finite .f32 VC with
  | false =>
    go_wp2_with (go_at_call 42; refine (implIsFinite_any _ frc _).mono ?_; rintro e w' ⟨rfl, q1, rfl⟩)
    go_ret3
    exact TwoIf.no (by rw [hc]; rfl) (two_no (below_drewN B4.out _))
  | true =>
    cases hc2 : finite .f32 VS with
    | false =>
      go_wp2_with fail
      go_at_call 42
      refine (implIsFinite_any _ frc _).mono ?_
      rintro e w' ⟨rfl, q1, rfl⟩
      go_wp2_with fail
      go_at_call 42
      refine (implIsFinite_any _ frs _).mono ?_
      rintro e w' ⟨rfl, q2, rfl⟩
      go_wp2_with fail
      go_ret3
      exact TwoIf.no (by rw [hc, hc2]; rfl) (two_no (below_drewN B4.out _))
    | true =>
      go_wp2_with fail
      go_at_call 42
      refine (implIsFinite_any _ frc _).mono ?_
      rintro e w' ⟨rfl, q1, rfl⟩
      go_wp2_with fail
      go_at_call 42
      refine (implIsFinite_any _ frs _).mono ?_
      rintro e w' ⟨rfl, q2, rfl⟩
      go_wp2_with fail
      go_ret3
      exact TwoIf.yes (by rw [hc, hc2]; rfl) ⟨_, _, rfl, frc, frs, below_drewN B4.out _⟩
set_option maxHeartbeats 1000000 in
theorem specPair_any (b : Nat) (R C : Int) (a : Option Addr) (n c : Nat) (Z : Nat → Nat) (i k : Int) (w : World) (hn : n ≤ 1048576) (hb : Box w b R C a n c) (h : FS .f32 w a n c Z) :
    Calls Try.prog 54 #[.pointer (some ⟨b, 0, none⟩), .int .i64 i, .int .i64 k] w fun e w' => e = .returned (.bool (pairB R C n (vals Z) i k)) ∧ ∃ m, w' = w.drewN m := by
  have hsym := specSym_any b R C a n c Z w hn hb h
  obtain ⟨hb0, hb1, hb2⟩ := hb
  cases hs : symB R C n (vals Z) with
  | false =>
    have HK : Hid (pairB R C n (vals Z) i k = false) := Lib.hid (by unfold pairB; rw [hs]; rfl)
    rw [hs] at hsym
    clear hs
    go_enter Try.func54, Try.ntmps54
    go_wp2_with fail
    go_at_call 77
    refine hsym.mono ?_
    rintro e w1 ⟨rfl, m1, rfl⟩
    go_wp2_with fail
    go_ret
    exact ⟨by rw [HK.out]; rfl, _, rfl⟩
  | true =>
    have hsq : squareB R C n (vals Z) = true := by
      cases e : squareB R C n (vals Z) with
      | true => rfl
      | false => rw [symB_no e] at hs; cases hs
    obtain ⟨r, rfl, rfl, hr1, hr, hnr, _⟩ := square_nat hsq
    have HK : Hid (pairB r r n (vals Z) i k = (decide (0 ≤ i) && (decide (i < k) && decide (k < (r : Int))))) := Lib.hid (by unfold pairB; rw [hs]; rfl)
    rw [hs] at hsym
    clear hs hsq hnr
    cases h1 : inB i 0 ((r : Int) - 1) with
    | false =>
      have HL : Hid ((decide (0 ≤ i) && (decide (i < k) && decide (k < (r : Int)))) = false) := Lib.hid (by
        unfold inB at h1
        by_cases q1 : 0 ≤ i
        · by_cases q2 : i < k
          · by_cases q3 : k < (r : Int)
            · exfalso
              rw [decide_eq_true q1, decide_eq_true (show i ≤ (r : Int) - 1 by omega)] at h1
              cases h1
            · rw [decide_eq_false q3]; simp
          · rw [decide_eq_false q2]; simp
        · rw [decide_eq_false q1]; rfl)
      go_enter Try.func54, Try.ntmps54
      go_wp2_with fail
      go_at_call 77
      refine hsym.mono ?_
      rintro e w1 ⟨rfl, m1, rfl⟩
      go_wp2_with fail
      go_at_call 78
      refine (l00In_any _ _ _ _).mono ?_
      rintro e w' ⟨rfl, rfl⟩
      go_wp2_with fail
      go_ret
      exact ⟨by rw [HK.out, HL.out]; rfl, _, rfl⟩
    | true =>
      obtain ⟨x, rfl, hx⟩ : ∃ x : Nat, i = x ∧ x < r := by
        unfold inB at h1
        simp only [Bool.and_eq_true, decide_eq_true_eq] at h1
        exact ⟨i.toNat, by omega, by omega⟩
      have HL : Hid ((decide (0 ≤ (x : Int)) && (decide ((x : Int) < k) && decide (k < (r : Int)))) = inB k ((x : Int) + 1) ((r : Int) - 1)) := Lib.hid (by
        unfold inB
        rw [decide_eq_true (show (0 : Int) ≤ x by omega), Bool.true_and]
        congr 1
        all_goals exact decide_eq_decide.2 (by omega))
      go_enter Try.func54, Try.ntmps54
      go_wp2_with fail
      go_at_call 77
      refine hsym.mono ?_
      rintro e w1 ⟨rfl, m1, rfl⟩
      go_wp2_with fail
      go_at_call 78
      refine (l00In_any _ _ _ _).mono ?_
      rintro e w' ⟨rfl, rfl⟩
      go_wp2_with fail
      go_at_call 78
      refine (l00In_any _ _ _ _).mono ?_
      rintro e w' ⟨rfl, rfl⟩
      go_wp2_with fail
      go_ret
      exact ⟨by rw [HK.out, HL.out]; rfl, _, rfl⟩
set_option maxRecDepth 20000 in
set_option maxHeartbeats 1000000 in
theorem specTurn_any (b r x y p o n c : Nat) (Z : Nat → Nat) (w : World) (hr1 : 1 ≤ r) (hr : r ≤ 12) (hn : n = r * r) (hx : x < r) (hy : y < r) (hb : Box w b r r (some ⟨p, o, none⟩) n c) (h : FS .f32 w (some ⟨p, o, none⟩) n c Z) :
    Calls Try.prog 55 #[.pointer (some ⟨b, 0, none⟩), .int .i64 x, .int .i64 y] w fun e w' => ∃ rc rs, e = .returned (.tuple #[.float .f32 rc, .float .f32 rs, .bool (tB r x y (vals Z))]) ∧ FV .f32 rc (tC r x y (vals Z)) ∧ FV .f32 rs (tS r x y (vals Z)) ∧ ∃ m, w' = w.drewN m := by
  have hN := Lib.hid hn
  have pyy := place_lt hy hy
  have pxx := place_lt hx hx
  have pxy := place_lt hx hy
  rw [← hn] at pyy pxx pxy
  have fyy : FV .f32 (Z (y * r + y)) (vals Z (y * r + y)) := FV.mk' ((h.at pyy).elim fun _ q => q.elim fun _ q => q.2.2.2.2)
  have fxx : FV .f32 (Z (x * r + x)) (vals Z (x * r + x)) := FV.mk' ((h.at pxx).elim fun _ q => q.elim fun _ q => q.2.2.2.2)
  have fxy : FV .f32 (Z (x * r + y)) (vals Z (x * r + y)) := FV.mk' ((h.at pxy).elim fun _ q => q.elim fun _ q => q.2.2.2.2)
  have hat : ∀ (i k m : Nat), i < r → k < r → Calls Try.prog 46 #[.pointer (some ⟨b, 0, none⟩), .int .i64 i, .int .i64 k] (w.drewN m) fun e w' => e = .returned (.float .f32 (Z (i * r + k))) ∧ ∃ q, w' = (w.drewN m).drewN q := fun i k m hi hk => specAt_any b p o r r n c i k Z _ hr hr hN.out hb.drewN (FS.drewN h) hi hk
  have hat0 := hat x y 0 hx hy
  have fxyc := fxy.1
  have n1 : FV .f32 1065353216 (some 1065353216) := FV.lit (by kernel_rfl) (by kernel_rfl)
  have n0 : FV .f32 0 (some 0) := FV.lit (by kernel_rfl) (by kernel_rfl)
  have n2 : FV .f32 1073741824 (some 1073741824) := FV.lit (by kernel_rfl) (by kernel_rfl)
  have c0 : cn .f32 0 = some 0 := by kernel_rfl
  unfold tB
  cases hz : isZero (vals Z (x * r + y)) with
  | true =>
    have eC : tC r x y (vals Z) = some 1065353216 := by unfold tC turnC; rw [if_pos hz]
    have eS : tS r x y (vals Z) = some 0 := by unfold tS turnS; rw [if_pos hz]
    have hz' : (ford .f32 (vals Z (x * r + y)) (some 0) == some .eq) = true := hz
    rw [eC, eS]
    clear hz eC eS
    go_enter Try.func55, Try.ntmps55
    go_wp2_with fail
    go_at_call 46
    refine hat0.mono ?_
    rintro e w1 ⟨rfl, m1, rfl⟩
    go_wp2_with fail
    go_ret3
    exact ⟨_, _, rfl, n1, n0, _, rfl⟩
  | false =>
    have hz' : (ford .f32 (vals Z (x * r + y)) (some 0) == some .eq) = false := hz
    have eC : tC r x y (vals Z) = cosC (turnH (fop .sub .f32 (vals Z (y * r + y)) (vals Z (x * r + x))) (vals Z (x * r + y))) := by unfold tC turnC; rw [if_neg (by rw [hz]; decide)]
    have eS : tS r x y (vals Z) = cosS (turnH (fop .sub .f32 (vals Z (y * r + y)) (vals Z (x * r + x))) (vals Z (x * r + y))) := by unfold tS turnS; rw [if_neg (by rw [hz]; decide)]
    rw [eC, eS]
    obtain ⟨H, hH⟩ : ∃ H, H = turnH (fop .sub .f32 (vals Z (y * r + y)) (vals Z (x * r + x))) (vals Z (x * r + y)) := ⟨_, rfl⟩
    rw [← hH]
    have HH := Lib.hid hH
    obtain ⟨VC, hVC⟩ : ∃ VC, VC = cosC H := ⟨_, rfl⟩
    obtain ⟨VS, hVS⟩ : ∃ VS, VS = cosS H := ⟨_, rfl⟩
    rw [← hVC, ← hVS]
    have HVC := Lib.hid hVC
    have HVS := Lib.hid hVS
    clear hz eC eS hH hVC hVS
    go_enter Try.func55, Try.ntmps55
    go_wp2_with fail
    go_at_call 46
    refine hat0.mono ?_
    rintro e w1 ⟨rfl, m1, rfl⟩
    go_wp2_with fail
    go_at_call 46
    refine (hat y y _ hy hy).mono ?_
    rintro e w1 ⟨rfl, m2, rfl⟩
    go_wp2_with fail
    go_at_call 46
    refine (hat x x _ hx hx).mono ?_
    rintro e w1 ⟨rfl, m3, rfl⟩
    go_wp2_with (first | (refine wpList_farith rfl _ _ _ _ _ rfl rfl _ _ _ rfl rfl (by first | assumption | (with_reducible exact FV.ofInt _ _) | (with_reducible exact FV.neg (by assumption)) | exact FV.lit (by kernel_rfl) (by kernel_rfl)) (by first | assumption | (with_reducible exact FV.ofInt _ _) | (with_reducible exact FV.neg (by assumption)) | exact FV.lit (by kernel_rfl) (by kernel_rfl)) ?_; intro r m hr))
    have fh : FV .f32 _ H := FV.of_eq (by assumption) HH.out.symm
    go_at_call 79
    refine (l04Cosine_any _ fh _).mono ?_
    rintro e w1 ⟨rc, rs, rfl, f1, f2, m4, rfl⟩
    rw [← HVC.out] at f1
    rw [← HVS.out] at f2
    clear hz' fyy fxx fxy fxyc hat hat0
    cases hc : finite .f32 VC
    · go_wp2_with fail
      go_at_call 41
      refine (specFinite_any _ f1 _).mono ?_
      rintro e w' ⟨rfl, q1, rfl⟩
      go_wp2_with fail
      go_ret3
      exact ⟨rc, rs, by rw [hc]; rfl, f1, f2, _, rfl⟩
    · cases hc2 : finite .f32 VS
      all_goals
        go_wp2_with fail
        go_at_call 41
        refine (specFinite_any _ f1 _).mono ?_
        rintro e w' ⟨rfl, q1, rfl⟩
        go_wp2_with fail
        go_at_call 41
        refine (specFinite_any _ f2 _).mono ?_
        rintro e w' ⟨rfl, q2, rfl⟩
        go_wp2_with fail
        go_ret3
        exact ⟨rc, rs, by rw [hc, hc2]; rfl, f1, f2, _, rfl⟩
end Go.Proofs.Ytmjlhmbnaifhaaa
