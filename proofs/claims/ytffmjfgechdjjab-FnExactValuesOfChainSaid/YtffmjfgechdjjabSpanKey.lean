/- Helper: the bounds of all values of a chain, of the program and of its reference. Conditions: none. -/
import Derived.Test.YtffmjfgechdjjabCountKey
import Derived.Test.YtffmjfgechdjjabTurnKey
set_option linter.unusedVariables false
set_option linter.unusedSimpArgs false
namespace Go.Proofs.Ytffmjfgechdjjab
open Go.RowKit

/-- The Side before a row, nothing where there is none. -/
def sideZ (n2 : Nat) (Z2 : Nat → Nat) : Nat → Nat
  | 0 => 0
  | t + 1 => if t < n2 then Z2 t else 0
theorem sideZ_zero {n2 : Nat} {Z2 : Nat → Nat} : sideZ n2 Z2 0 = 0 := rfl
theorem sideZ_succ {n2 t : Nat} {Z2 : Nat → Nat} : sideZ n2 Z2 (t + 1) = if t < n2 then Z2 t else 0 := rfl
def reachV (n2 : Nat) (Z2 : Nat → Nat) (j : Nat) : Option Nat := fop .add .f32 (some (sideZ n2 Z2 j % 2147483648)) (some (sideZ n2 Z2 (j + 1) % 2147483648))
def lowV (n2 : Nat) (Z Z2 : Nat → Nat) : Nat → Option Nat
  | 0 => some 0
  | j + 1 => if (decide (j = 0) || lessQ2 (fop .sub .f32 (vals Z j) (reachV n2 Z2 j)) (lowV n2 Z Z2 j)) = true then fop .sub .f32 (vals Z j) (reachV n2 Z2 j) else lowV n2 Z Z2 j
where lessQ2 (A B : Option Nat) : Bool := ford .f32 A B == some .lt
def highV (n2 : Nat) (Z Z2 : Nat → Nat) : Nat → Option Nat
  | 0 => some 0
  | j + 1 => if (decide (j = 0) || moreQ (fop .add .f32 (vals Z j) (reachV n2 Z2 j)) (highV n2 Z Z2 j)) = true then fop .add .f32 (vals Z j) (reachV n2 Z2 j) else highV n2 Z Z2 j
where moreQ (A B : Option Nat) : Bool := ford .f32 A B == some .gt
theorem abs_fin {z : Nat} (h : finite .f32 (cn .f32 z) = true) : fsize (cn .f32 z) = some (z % 2147483648) ∧ FV .f32 (z % 2147483648) (some (z % 2147483648)) := by
  obtain ⟨e, _⟩ := cn_fin h
  refine ⟨by rw [e]; rfl, ?_⟩
  have hp := Pz.size h
  rw [e] at hp
  obtain ⟨q, hq, hq2⟩ := hp
  obtain rfl : z % 2147483648 = q := Option.some.inj hq
  exact ⟨cn_pz hq2, by simp only [Lit.wf]; exact decide_eq_true (by omega)⟩
theorem side_fin {n2 : Nat} {Z2 : Nat → Nat} (h : allFin (vals Z2) n2 = true) (j : Nat) : finite .f32 (cn .f32 (sideZ n2 Z2 j)) = true ∧ True := by
  refine ⟨?_, trivial⟩
  cases j with
  | zero => rw [sideZ_zero]; decide +kernel
  | succ t =>
    rw [sideZ_succ]
    by_cases e : t < n2
    · rw [if_pos e]; exact allFin_lt (V := vals Z2) h e
    · rw [if_neg e]; decide +kernel
theorem absF_any (z : Nat) (hw : (Lit.float .f32 z).wf = true) (h : finite .f32 (cn .f32 z) = true) (w : World) : Calls Try.prog 64 #[.float .f32 z] w fun e w' => e = .returned (.float .f32 (z % 2147483648)) ∧ ∃ m, w' = w.drewN m :=
  (implAbs_all z (FV.mk' hw) w).mono fun e w' hh => by
    obtain ⟨r, he, hr, hm⟩ := hh
    rw [(abs_fin h).1] at hr
    obtain rfl := hr.eq
    exact ⟨he, hm⟩
theorem sizeF_any (z : Nat) (hw : (Lit.float .f32 z).wf = true) (h : finite .f32 (cn .f32 z) = true) (w : World) : Calls Try.prog 61 #[.float .f32 z] w fun e w' => e = .returned (.float .f32 (z % 2147483648)) ∧ ∃ m, w' = w.drewN m :=
  (specSize_all z (FV.mk' hw) w).mono fun e w' hh => by
    obtain ⟨r, he, hr, hm⟩ := hh
    rw [(abs_fin h).1] at hr
    obtain rfl := hr.eq
    exact ⟨he, hm⟩
theorem before_over (a : Option Addr) (n c : Nat) (a2 : Option Addr) (n2 c2 j : Nat) (w : World) (hn2 : n2 ≤ 1048576) (hj : n2 < j) (hj2 : j ≤ 1048577) :
    Calls Try.prog 83 #[.agg #[.slice a n c, .slice a2 n2 c2], .int .i64 j] w fun e w' => e = .returned (.float .f32 0) ∧ Below w.heap.size w w' := by
  have d1 : decide ((j : Int) < 1) = false := decide_eq_false (by omega)
  have d2 : decide ((n2 : Int) < (j : Int)) = true := decide_eq_true (by omega)
  have d3 : decide (n2 < j) = true := decide_eq_true (by omega)
  go_enter Try.func83, Try.ntmps83
  go_wp2_with fail
  go_ret
  exact ⟨rfl, (by repeat first | (with_reducible exact Below.refl _ _) | (with_reducible refine Below.setCell ?_ (by first | exact Nat.le_refl _ | (simp; done) | (simp; omega) | omega) _) | (with_reducible refine Below.alloc ?_ (by first | exact Nat.le_refl _ | (simp; done) | (simp; omega) | omega) _) | (with_reducible refine below_drewN ?_ _) | (with_reducible refine Below.drew ?_))⟩
theorem before_all (a : Option Addr) (n c : Nat) (a2 : Option Addr) (n2 c2 j : Nat) (Z2 : Nat → Nat) (w : World) (hn2 : n2 ≤ 1048576) (hj : j ≤ n2 + 1) (h2 : FS .f32 w a2 n2 c2 Z2) :
    Calls Try.prog 83 #[.agg #[.slice a n c, .slice a2 n2 c2], .int .i64 j] w fun e w' => e = .returned (.float .f32 (sideZ n2 Z2 j)) ∧ Below w.heap.size w w' := by
  cases j with
  | zero => exact before_zero _ _ _ _ _ _ _
  | succ t =>
    rw [sideZ_succ]
    by_cases e : t < n2
    · rw [if_pos e]
      obtain ⟨p2, o2, rfl, _⟩ := h2.at e
      exact before_some t p2 o2 n c n2 c2 a Z2 w hn2 e h2
    · rw [if_neg e]
      exact before_over a n c a2 n2 c2 (t + 1) w hn2 (by omega) (by omega)
set_option maxRecDepth 20000 in
set_option maxHeartbeats 4000000 in
theorem implSpan_yes (b off n c n2 c2 : Nat) (a2 : Option Addr) (Z Z2 : Nat → Nat) (w : World) (h1 : 1 ≤ n) (h12 : n ≤ 12) (hn2 : n2 + 1 = n) (hv : chainB n (vals Z) n2 (vals Z2) = true) (hfs : allFin (vals Z2) n2 = true)
    (h : FS .f32 w (some ⟨b, off, none⟩) n c Z) (h2 : FS .f32 w a2 n2 c2 Z2) :
    Calls Try.prog 71 #[.agg #[.slice (some ⟨b, off, none⟩) n c, .slice a2 n2 c2]] w (TwoIf (finite .f32 (lowV n2 Z Z2 n) && finite .f32 (highV n2 Z Z2 n)) (lowV n2 Z Z2 n) (highV n2 Z Z2 n) w) := by
  have n0 : FV .f32 0 (some 0) := FV.lit (by kernel_rfl) (by kernel_rfl)
  obtain ⟨LV, hLV⟩ : ∃ LV, LV = lowV n2 Z Z2 := ⟨_, rfl⟩
  obtain ⟨GV, hGV⟩ : ∃ GV, GV = highV n2 Z Z2 := ⟨_, rfl⟩
  rw [← hLV, ← hGV]
  have HLV := Lib.hid hLV
  have HGV := Lib.hid hGV
  have HFS := Lib.hid hfs
  clear hLV hGV hfs
  go_enter Try.func71, Try.ntmps71
  go_wp2_with fail
  go_at_call 38
  refine (implChain_any _ n c Z a2 n2 c2 Z2 _ (by omega) (by omega) (h.below (by repeat first | (with_reducible exact Below.refl _ _) | (with_reducible refine Below.setCell ?_ (by first | exact Nat.le_refl _ | (simp; done) | (simp; omega) | omega) _) | (with_reducible refine Below.alloc ?_ (by first | exact Nat.le_refl _ | (simp; done) | (simp; omega) | omega) _) | (with_reducible refine below_drewN ?_ _) | (with_reducible refine Below.drew ?_)) (Nat.le_refl _)) (h2.below (by repeat first | (with_reducible exact Below.refl _ _) | (with_reducible refine Below.setCell ?_ (by first | exact Nat.le_refl _ | (simp; done) | (simp; omega) | omega) _) | (with_reducible refine Below.alloc ?_ (by first | exact Nat.le_refl _ | (simp; done) | (simp; omega) | omega) _) | (with_reducible refine below_drewN ?_ _) | (with_reducible refine Below.drew ?_)) (Nat.le_refl _))).mono ?_
  rintro e w1 ⟨rfl, b1⟩
  have B1 : Below w.heap.size w w1 := Below.trans (by repeat first | (with_reducible exact Below.refl _ _) | (with_reducible refine Below.setCell ?_ (by first | exact Nat.le_refl _ | (simp; done) | (simp; omega) | omega) _) | (with_reducible refine Below.alloc ?_ (by first | exact Nat.le_refl _ | (simp; done) | (simp; omega) | omega) _) | (with_reducible refine below_drewN ?_ _) | (with_reducible refine Below.drew ?_)) (b1.mono (by simp))
  have s1 : w.heap.size < w1.heap.size := by have := b1.size; simp at this; omega
  have X1 := (BoxC.new _ _ _ _ _ _ _ _).below b1 (by simp)
  have F1 := h.below B1 (Nat.le_refl _)
  have F2 := h2.below B1 (Nat.le_refl _)
  have X1' := X1
  obtain ⟨x0, x1⟩ := X1'
  clear b1
  go_wp2
  clear hv x0 x1
  go_loopw [5, 6, 16] (fun s g i wr => ∃ j rl rh : Nat, j ≤ n ∧ i = .int .i64 j ∧ s = .float .f32 rl ∧ g = .float .f32 rh ∧ FV .f32 rl (LV j) ∧ FV .f32 rh (GV j) ∧ Below w1.heap.size w1 wr) (fun _ _ i _ => n - (intOf i).toNat)
  case atStart => exact ⟨0, 0, 0, Nat.zero_le _, rfl, rfl, rfl, by rw [HLV.out]; exact n0, by rw [HGV.out]; exact n0, Below.refl _ _⟩
  case round =>
    obtain ⟨j, rl, rh, hj, rfl, rfl, rfl, hrl, hrh, hb⟩ := hrel
    have XB := X1.below hb s1
    have G1 := F1.below hb (Nat.le_refl _)
    have G2 := F2.below hb (Nat.le_refl _)
    have hsr : w.heap.size < wr.heap.size := Nat.lt_of_lt_of_le s1 hb.size
    have HB := Lib.hid hb
    clear hb
    by_cases hlt : j < n
    · obtain ⟨b', off', e, hbl, hce, hfv⟩ := G1.at hlt
      simp only [Option.some.injEq, Addr.mk.injEq, and_true] at e
      obtain ⟨rfl, rfl⟩ := e
      have fmid : FV .f32 (Z j) (vals Z j) := hfv
      have hwf : ∀ j, (Lit.float .f32 (sideZ n2 Z2 j)).wf = true := by
        intro j
        cases j with
        | zero => rw [sideZ_zero]; decide
        | succ t =>
          rw [sideZ_succ]
          by_cases e : t < n2
          · rw [if_pos e]; exact (G2.at e).elim fun _ q => q.elim fun _ q => q.2.2.2.2
          · rw [if_neg e]; decide
      have hbef := fun (i : Nat) (hi : i ≤ n2 + 1) (W : World) (hW : Below wr.heap.size wr W) => before_all (some ⟨b, off, none⟩) n c a2 n2 c2 i Z2 W (by omega) hi (G2.below hW (Nat.le_refl _))
      have hb1 := hbef j (by omega)
      have hb2 := hbef (j + 1) (by omega)
      have ha1 := fun W => absF_any (sideZ n2 Z2 j) (hwf j) (side_fin HFS.out j).1 W
      have ha2 := fun W => absF_any (sideZ n2 Z2 (j + 1)) (hwf (j + 1)) (side_fin HFS.out (j + 1)).1 W
      have f1 := (abs_fin (side_fin HFS.out j).1).2
      have f2 := (abs_fin (side_fin HFS.out (j + 1)).1).2
      obtain ⟨j1, hj1⟩ : ∃ j1, j1 = j + 1 := ⟨_, rfl⟩
      have hRV : reachV n2 Z2 j = fop .add .f32 (some (sideZ n2 Z2 j % 2147483648)) (some (sideZ n2 Z2 j1 % 2147483648)) := by rw [hj1]; rfl
      have hW1 : IntKind.i64.wrap ((j : Int) + 1) = (j1 : Int) := by
        have e : (j : Int) + 1 = (j1 : Int) := by omega
        rw [e]; exact IntWalk.i64_in _ (by omega)
      rw [← hj1] at hb2 ha2 f2
      obtain ⟨RV, hR⟩ : ∃ RV, RV = reachV n2 Z2 j := ⟨_, rfl⟩
      have hln : LV j1 = if (decide (j = 0) || lowV.lessQ2 (fop .sub .f32 (vals Z j) RV) (LV j)) = true then fop .sub .f32 (vals Z j) RV else LV j := by rw [hj1, HLV.out, hR]; rfl
      have hgn : GV j1 = if (decide (j = 0) || highV.moreQ (fop .add .f32 (vals Z j) RV) (GV j)) = true then fop .add .f32 (vals Z j) RV else GV j := by rw [hj1, HGV.out, hR]; rfl
      rw [← hR] at hRV
      have HRV := Lib.hid hRV
      have HLN := Lib.hid hln
      have HGN := Lib.hid hgn
      have HJ1 := Lib.hid hj1
      generalize sideZ n2 Z2 j = sa at hb1 ha1 f1 HRV
      generalize sideZ n2 Z2 j1 = sb at hb2 ha2 f2 HRV
      have hlc := hrl.1
      have hhc := hrh.1
      generalize LV j = LJ at hrl HLN hlc
      generalize GV j = GJ at hrh HGN hhc
      clear hbef hwf hRV hR hln hgn hfv G1 G2
      have x0 := XB.1
      have x1 := XB.2
      have XBb := Lib.hid XB
      go_wp2_with fail
      generalize hw0 : wr = w0 at hb1 hb2 hsr XB ⊢
      clear x0 x1
      refine wp_region_kinds (fun w' => Below w0.heap.size w0 w') (fun j => if j = 9 then 1 else 0) 10 (below_drewN (Below.refl _ _) 1) (by kernel_rfl) (by kernel_rfl) (by kernel_rfl) ?_
      simp only [List.take_succ_cons, List.take_zero, List.drop_succ_cons, List.drop_zero]
      (refine wpKinds_run (.agg #[.slice (some ⟨b, off, none⟩) n c, .slice a2 n2 c2]) rfl rfl (by intro W hW; obtain ⟨u0, u1⟩ := BoxC.below XB hW hsr; simp [go_sem, BigFrame.eval_const, BigFrame.eval_global, BigFrame.eval_func, u0, u1]) ?_; simp only [Act.put, List.setIfInBounds_toArray, List.set_cons_succ, List.set_cons_zero])
      (refine wpKinds_plain rfl rfl rfl (fun K hK => ?_); go_big_quiet_op; (first | refine hK _ ?_ | refine ⟨_, fun _ _ => rfl, hK _ ?_⟩); clear hK K)
      (refine wpKinds_call (f := 83) (args := #[.agg #[.slice (some ⟨b, off, none⟩) n c, .slice a2 n2 c2], .int .i64 j]) (.float .f32 sa) rfl rfl (by intro W; simp [go_sem, BigFrame.eval_const, BigFrame.eval_global, BigFrame.eval_func]) (by kernel_rfl) (by intro W hW; (refine (hb1 W hW).mono ?_; rintro e w' ⟨rfl, hb⟩; exact ⟨rfl, hW.trans (hb.mono hW.size)⟩)) ?_; simp only [Act.put, List.setIfInBounds_toArray, List.set_cons_succ, List.set_cons_zero])
      (refine wpKinds_call (f := 64) (args := #[.float .f32 sa]) (.float .f32 (sa % 2147483648)) rfl rfl (by intro W; simp [go_sem, BigFrame.eval_const, BigFrame.eval_global, BigFrame.eval_func]) (by kernel_rfl) (by intro W hW; (refine (ha1 W).mono ?_; rintro e w' ⟨rfl, m, rfl⟩; exact ⟨rfl, below_drewN hW m⟩)) ?_; simp only [Act.put, List.setIfInBounds_toArray, List.set_cons_succ, List.set_cons_zero])
      (refine wpKinds_run (.agg #[.slice (some ⟨b, off, none⟩) n c, .slice a2 n2 c2]) rfl rfl (by intro W hW; obtain ⟨u0, u1⟩ := BoxC.below XB hW hsr; simp [go_sem, BigFrame.eval_const, BigFrame.eval_global, BigFrame.eval_func, u0, u1]) ?_; simp only [Act.put, List.setIfInBounds_toArray, List.set_cons_succ, List.set_cons_zero])
      (refine wpKinds_plain rfl rfl rfl (fun K hK => ?_); go_big_quiet_op; (first | refine hK _ ?_ | refine ⟨_, fun _ _ => rfl, hK _ ?_⟩); clear hK K)
      (refine wpKinds_run (.int .i64 j1) rfl rfl (by intro W hW; simp [go_sem, hW1]) ?_; simp only [Act.put, List.setIfInBounds_toArray, List.set_cons_succ, List.set_cons_zero])
      (refine wpKinds_call (f := 83) (args := #[.agg #[.slice (some ⟨b, off, none⟩) n c, .slice a2 n2 c2], .int .i64 j1]) (.float .f32 sb) rfl rfl (by intro W; simp [go_sem, BigFrame.eval_const, BigFrame.eval_global, BigFrame.eval_func]) (by kernel_rfl) (by intro W hW; (refine (hb2 W hW).mono ?_; rintro e w' ⟨rfl, hb⟩; exact ⟨rfl, hW.trans (hb.mono hW.size)⟩)) ?_; simp only [Act.put, List.setIfInBounds_toArray, List.set_cons_succ, List.set_cons_zero])
      (refine wpKinds_call (f := 64) (args := #[.float .f32 sb]) (.float .f32 (sb % 2147483648)) rfl rfl (by intro W; simp [go_sem, BigFrame.eval_const, BigFrame.eval_global, BigFrame.eval_func]) (by kernel_rfl) (by intro W hW; (refine (ha2 W).mono ?_; rintro e w' ⟨rfl, m, rfl⟩; exact ⟨rfl, below_drewN hW m⟩)) ?_; simp only [Act.put, List.setIfInBounds_toArray, List.set_cons_succ, List.set_cons_zero])
      refine wpKinds_farith (fun W m hW => below_drewN hW m) rfl rfl _ _ _ _ _ rfl rfl _ _ _ rfl rfl f1 f2 (fun rr hr9 => ?_)
      simp only [Act.put, List.setIfInBounds_toArray, List.set_cons_succ, List.set_cons_zero]
      refine wpKinds_nil ?_
      intro w5 hC
      subst hw0
      have frr : FV .f32 rr RV := FV.of_eq hr9 HRV.out.symm
      have HB5 := Lib.hid (HB.out.trans (hC.mono HB.out.size))
      clear hb1 hb2 ha1 ha2 f1 f2 hr9 hC XB hsr hce hbl
      by_cases hj0 : j = 0
      · have hd0 : ((j : Int) == 0) = true := beq_iff_eq.2 (by omega)
        have hd1 : (j == 0) = true := beq_iff_eq.2 hj0
        have HA : Hid (LV j1 = fop .sub .f32 (vals Z j) RV ∧ GV j1 = fop .add .f32 (vals Z j) RV) := Lib.hid ⟨by rw [HLN.out, decide_eq_true hj0]; rfl, by rw [HGN.out, decide_eq_true hj0]; rfl⟩
        have HJ0 := Lib.hid hj0
        clear hj0 hlc hhc
        go_wp2_with (first | (refine wpList_farith rfl _ _ _ _ _ rfl rfl _ _ _ rfl rfl (by first | assumption | (with_reducible exact FV.ofInt _ _) | (with_reducible exact FV.neg (by assumption)) | exact FV.lit (by kernel_rfl) (by kernel_rfl)) (by first | assumption | (with_reducible exact FV.ofInt _ _) | (with_reducible exact FV.neg (by assumption)) | exact FV.lit (by kernel_rfl) (by kernel_rfl)) ?_; intro r m hr))
        go_roundw
        case rel => exact ⟨j + 1, _, _, by omega, by go_num, rfl, rfl, by rw [← HJ1.out, HA.out.1]; assumption, by rw [← HJ1.out, HA.out.2]; assumption, (by repeat first | (with_reducible exact HB5.out) | (with_reducible refine Below.setCell ?_ (by first | exact Nat.le_refl _ | (simp; done) | (simp; omega) | omega) _) | (with_reducible refine Below.alloc ?_ (by first | exact Nat.le_refl _ | (simp; done) | (simp; omega) | omega) _) | (with_reducible refine below_drewN ?_ _) | (with_reducible refine Below.drew ?_))⟩
        case measure => simp [intOf]; omega
      · have hd0 : ((j : Int) == 0) = false := beq_eq_false_iff_ne.2 (by omega)
        have hd1 : (j == 0) = false := beq_eq_false_iff_ne.2 hj0
        have HLN2 : Hid (LV j1 = if lowV.lessQ2 (fop .sub .f32 (vals Z j) RV) LJ = true then fop .sub .f32 (vals Z j) RV else LJ) := Lib.hid (by rw [HLN.out, decide_eq_false hj0, Bool.false_or])
        have HGN2 : Hid (GV j1 = if highV.moreQ (fop .add .f32 (vals Z j) RV) GJ = true then fop .add .f32 (vals Z j) RV else GJ) := Lib.hid (by rw [HGN.out, decide_eq_false hj0, Bool.false_or])
        have HJ0 := Lib.hid hj0
        clear hj0
        cases hA : lowV.lessQ2 (fop .sub .f32 (vals Z j) RV) LJ <;> cases hG : highV.moreQ (fop .add .f32 (vals Z j) RV) GJ
        all_goals
          have hA' : (ford .f32 (fop .sub .f32 (vals Z j) RV) LJ == some .lt) = lowV.lessQ2 (fop .sub .f32 (vals Z j) RV) LJ := rfl
          have hG' : (ford .f32 (fop .add .f32 (vals Z j) RV) GJ == some .gt) = highV.moreQ (fop .add .f32 (vals Z j) RV) GJ := rfl
          rw [hA] at hA'
          rw [hG] at hG'
          have HAA := Lib.hid hA
          have HGG := Lib.hid hG
          clear hA hG
          go_wp2_with (first | (refine wpList_farith rfl _ _ _ _ _ rfl rfl _ _ _ rfl rfl (by first | assumption | (with_reducible exact FV.ofInt _ _) | (with_reducible exact FV.neg (by assumption)) | exact FV.lit (by kernel_rfl) (by kernel_rfl)) (by first | assumption | (with_reducible exact FV.ofInt _ _) | (with_reducible exact FV.neg (by assumption)) | exact FV.lit (by kernel_rfl) (by kernel_rfl)) ?_; intro r m hr; have hr1 := hr.1))
          go_roundw
          case rel =>
            refine ⟨j + 1, _, _, by omega, by go_num, rfl, rfl, ?_, ?_, (by repeat first | (with_reducible exact HB5.out) | (with_reducible refine Below.setCell ?_ (by first | exact Nat.le_refl _ | (simp; done) | (simp; omega) | omega) _) | (with_reducible refine Below.alloc ?_ (by first | exact Nat.le_refl _ | (simp; done) | (simp; omega) | omega) _) | (with_reducible refine below_drewN ?_ _) | (with_reducible refine Below.drew ?_))⟩
            · rw [← HJ1.out, HLN2.out, HAA.out]
              first | (rw [if_pos rfl]; assumption) | (rw [if_neg (by decide)]; assumption)
            · rw [← HJ1.out, HGN2.out, HGG.out]
              first | (rw [if_pos rfl]; assumption) | (rw [if_neg (by decide)]; assumption)
          case measure => simp [intOf]; omega
    · obtain rfl : j = n := by omega
      have HB9 := Lib.hid (B1.trans (HB.out.mono B1.size))
      cases hc : finite .f32 (LV j) with
      | false =>
        go_wp2_with fail
        go_at_call 58
        refine (implIsFinite_any _ hrl _).mono ?_
        rintro e w' ⟨rfl, q1, rfl⟩
        go_wp2_with fail
        go_ret3
        exact TwoIf.no (by rw [hc]; rfl) (two_no (below_drewN HB9.out _))
      | true =>
        cases hc2 : finite .f32 (GV j) with
        | false =>
          go_wp2_with fail
          go_at_call 58
          refine (implIsFinite_any _ hrl _).mono ?_
          rintro e w' ⟨rfl, q1, rfl⟩
          go_wp2_with fail
          go_at_call 58
          refine (implIsFinite_any _ hrh _).mono ?_
          rintro e w' ⟨rfl, q2, rfl⟩
          go_wp2_with fail
          go_ret3
          exact TwoIf.no (by rw [hc, hc2]; rfl) (two_no (below_drewN HB9.out _))
        | true =>
          go_wp2_with fail
          go_at_call 58
          refine (implIsFinite_any _ hrl _).mono ?_
          rintro e w' ⟨rfl, q1, rfl⟩
          go_wp2_with fail
          go_at_call 58
          refine (implIsFinite_any _ hrh _).mono ?_
          rintro e w' ⟨rfl, q2, rfl⟩
          go_wp2_with fail
          go_ret3
          exact TwoIf.yes (by rw [hc, hc2]; rfl) ⟨_, _, rfl, hrl, hrh, below_drewN HB9.out _⟩
theorem implSpan_no (a : Option Addr) (n c : Nat) (Z : Nat → Nat) (a2 : Option Addr) (n2 c2 : Nat) (Z2 : Nat → Nat) (w : World) (hn : n ≤ 1048576) (hn2 : n2 ≤ 1048576)
    (h : FS .f32 w a n c Z) (h2 : FS .f32 w a2 n2 c2 Z2) (hv : chainB n (vals Z) n2 (vals Z2) = false) :
    Calls Try.prog 71 #[.agg #[.slice a n c, .slice a2 n2 c2]] w (TwoBel false (some 0) (some 0) w) := by
  go_enter Try.func71, Try.ntmps71
  go_wp2_with fail
  go_at_call 38
  refine (implChain_any a n c Z a2 n2 c2 Z2 _ hn hn2 (h.below (by repeat first | (with_reducible exact Below.refl _ _) | (with_reducible refine Below.setCell ?_ (by first | exact Nat.le_refl _ | (simp; done) | (simp; omega) | omega) _) | (with_reducible refine Below.alloc ?_ (by first | exact Nat.le_refl _ | (simp; done) | (simp; omega) | omega) _) | (with_reducible refine below_drewN ?_ _) | (with_reducible refine Below.drew ?_)) (Nat.le_refl _)) (h2.below (by repeat first | (with_reducible exact Below.refl _ _) | (with_reducible refine Below.setCell ?_ (by first | exact Nat.le_refl _ | (simp; done) | (simp; omega) | omega) _) | (with_reducible refine Below.alloc ?_ (by first | exact Nat.le_refl _ | (simp; done) | (simp; omega) | omega) _) | (with_reducible refine below_drewN ?_ _) | (with_reducible refine Below.drew ?_)) (Nat.le_refl _))).mono ?_
  rintro e w1 ⟨rfl, b1⟩
  have B1 : Below w.heap.size w w1 := Below.trans (by repeat first | (with_reducible exact Below.refl _ _) | (with_reducible refine Below.setCell ?_ (by first | exact Nat.le_refl _ | (simp; done) | (simp; omega) | omega) _) | (with_reducible refine Below.alloc ?_ (by first | exact Nat.le_refl _ | (simp; done) | (simp; omega) | omega) _) | (with_reducible refine below_drewN ?_ _) | (with_reducible refine Below.drew ?_)) (b1.mono (by simp))
  go_wp2_with fail
  go_ret3
  exact two_no B1
set_option maxRecDepth 20000 in
set_option maxHeartbeats 4000000 in
theorem l04Span_any (pc b off n c n2 c2 : Nat) (a2 : Option Addr) (Z Z2 : Nat → Nat) (w : World) (h1 : 1 ≤ n) (h12 : n ≤ 12) (hn2 : n2 + 1 = n) (hfs : allFin (vals Z2) n2 = true) (hpc : pc < w.heap.size) (hbx : BoxC w pc (some ⟨b, off, none⟩) n c a2 n2 c2)
    (h : FS .f32 w (some ⟨b, off, none⟩) n c Z) (h2 : FS .f32 w a2 n2 c2 Z2) :
    Calls Try.prog 66 #[.pointer (some ⟨pc, 0, none⟩)] w (TwoNum (lowV n2 Z Z2 n) (highV n2 Z Z2 n) w) := by
  have n0 : FV .f32 0 (some 0) := FV.lit (by kernel_rfl) (by kernel_rfl)
  have c0 : cn .f32 0 = some 0 := by kernel_rfl
  obtain ⟨LV, hLV⟩ : ∃ LV, LV = lowV n2 Z Z2 := ⟨_, rfl⟩
  obtain ⟨GV, hGV⟩ : ∃ GV, GV = highV n2 Z Z2 := ⟨_, rfl⟩
  rw [← hLV, ← hGV]
  have HLV := Lib.hid hLV
  have HGV := Lib.hid hGV
  have HFS := Lib.hid hfs
  clear hLV hGV hfs
  obtain ⟨x0, x1⟩ := hbx
  go_enter Try.func66, Try.ntmps66
  go_wp2
  go_loopw [4, 5, 6] (fun s g i wr => ∃ j rl rh m : Nat, j ≤ n ∧ i = .int .i64 j ∧ s = .float .f32 rl ∧ g = .float .f32 rh ∧ FV .f32 rl (LV j) ∧ FV .f32 rh (GV j) ∧ wr = w.drewN m) (fun _ _ i _ => n - (intOf i).toNat)
  case atStart => exact ⟨0, 0, 0, 0, Nat.zero_le _, rfl, rfl, rfl, by rw [HLV.out]; exact n0, by rw [HGV.out]; exact n0, rfl⟩
  case round =>
    obtain ⟨j, rl, rh, m0, hj, rfl, rfl, rfl, hrl, hrh, rfl⟩ := hrel
    by_cases hlt : j < n
    · obtain ⟨b', off', e, hbl, hce, hfv⟩ := h.at hlt
      simp only [Option.some.injEq, Addr.mk.injEq, and_true] at e
      obtain ⟨rfl, rfl⟩ := e
      have fmid : FV .f32 (Z j) (vals Z j) := hfv
      obtain ⟨RV, hR⟩ : ∃ RV, RV = reachV n2 Z2 j := ⟨_, rfl⟩
      have hln : LV (j + 1) = if (decide (j = 0) || lowV.lessQ2 (fop .sub .f32 (vals Z j) RV) (LV j)) = true then fop .sub .f32 (vals Z j) RV else LV j := by rw [HLV.out, hR]; rfl
      have hgn : GV (j + 1) = if (decide (j = 0) || highV.moreQ (fop .add .f32 (vals Z j) RV) (GV j)) = true then fop .add .f32 (vals Z j) RV else GV j := by rw [HGV.out, hR]; rfl
      have HLN := Lib.hid hln
      have HGN := Lib.hid hgn
      have hlc := hrl.1
      have hhc := hrh.1
      generalize LV j = LJ at hrl HLN hlc
      generalize GV j = GJ at hrh HGN hhc
      clear hln hgn hfv
      by_cases hj0 : j = 0
      · by_cases hbn : j < n2
        · have hg : decide ((0 : Int) < (j : Int)) = false := decide_eq_false (by omega)
          have hg2 : decide (0 < j) = false := decide_eq_false (by omega)
          have hd0 : ((j : Int) == 0) = true := beq_iff_eq.2 (by omega)
          have hd1 : (j == 0) = true := beq_iff_eq.2 hj0
          have hP : sideZ n2 Z2 j = 0 := by rw [hj0]; rfl
          have fP : FV .f32 0 (some 0) := n0
          have hh1 : decide ((j : Int) < (n2 : Int)) = true := decide_eq_true (by omega)
          have hh2 : decide (j < n2) = true := decide_eq_true hbn
          obtain ⟨p2, o2, rfl, hbl3, hce3, fj⟩ := h2.at hbn
          have hQ : sideZ n2 Z2 (j + 1) = Z2 j := by rw [sideZ_succ, if_pos hbn]
          have hfQ := allFin_lt (V := vals Z2) (j := j) HFS.out hbn
          have hs2 := fun W => sizeF_any (Z2 j) fj.2 hfQ W
          have fQ := (abs_fin hfQ).2
          have HRV : Hid ((fop .add .f32 (some 0) (some (Z2 j % 2147483648))) = RV) := Lib.hid (by rw [hR]; unfold reachV; rw [hP, hQ])
          clear hR hP hQ
          have HA : Hid (LV (j + 1) = (fop .sub .f32 (vals Z j) (fop .add .f32 (some 0) (some (Z2 j % 2147483648)))) ∧ GV (j + 1) = (fop .add .f32 (vals Z j) (fop .add .f32 (some 0) (some (Z2 j % 2147483648))))) := Lib.hid ⟨by rw [HLN.out, decide_eq_true hj0, HRV.out]; rfl, by rw [HGN.out, decide_eq_true hj0, HRV.out]; rfl⟩
          clear hj0 hlc hhc
          go_wp2_with fail
          go_at_call 61
          refine (hs2 _).mono ?_
          rintro e w6 ⟨rfl, m6, rfl⟩
          go_wp2_with (first | (refine wpList_farith rfl _ _ _ _ _ rfl rfl _ _ _ rfl rfl (by first | assumption | (with_reducible exact FV.ofInt _ _) | (with_reducible exact FV.neg (by assumption)) | exact FV.lit (by kernel_rfl) (by kernel_rfl)) (by first | assumption | (with_reducible exact FV.ofInt _ _) | (with_reducible exact FV.neg (by assumption)) | exact FV.lit (by kernel_rfl) (by kernel_rfl)) ?_; intro r m hr))
          go_roundw
          case rel => exact ⟨j + 1, _, _, _, by omega, by go_num, rfl, rfl, by rw [HA.out.1]; assumption, by rw [HA.out.2]; assumption, rfl⟩
          case measure => simp [intOf]; omega
        · have hg : decide ((0 : Int) < (j : Int)) = false := decide_eq_false (by omega)
          have hg2 : decide (0 < j) = false := decide_eq_false (by omega)
          have hd0 : ((j : Int) == 0) = true := beq_iff_eq.2 (by omega)
          have hd1 : (j == 0) = true := beq_iff_eq.2 hj0
          have hP : sideZ n2 Z2 j = 0 := by rw [hj0]; rfl
          have fP : FV .f32 0 (some 0) := n0
          have hh1 : decide ((j : Int) < (n2 : Int)) = false := decide_eq_false (by omega)
          have hh2 : decide (j < n2) = false := decide_eq_false hbn
          have hQ : sideZ n2 Z2 (j + 1) = 0 := by rw [sideZ_succ, if_neg hbn]
          have fQ : FV .f32 0 (some 0) := n0
          have HRV : Hid ((fop .add .f32 (some 0) (some 0)) = RV) := Lib.hid (by rw [hR]; unfold reachV; rw [hP, hQ])
          clear hR hP hQ
          have HA : Hid (LV (j + 1) = (fop .sub .f32 (vals Z j) (fop .add .f32 (some 0) (some 0))) ∧ GV (j + 1) = (fop .add .f32 (vals Z j) (fop .add .f32 (some 0) (some 0)))) := Lib.hid ⟨by rw [HLN.out, decide_eq_true hj0, HRV.out]; rfl, by rw [HGN.out, decide_eq_true hj0, HRV.out]; rfl⟩
          clear hj0 hlc hhc
          go_wp2_with (first | (refine wpList_farith rfl _ _ _ _ _ rfl rfl _ _ _ rfl rfl (by first | assumption | (with_reducible exact FV.ofInt _ _) | (with_reducible exact FV.neg (by assumption)) | exact FV.lit (by kernel_rfl) (by kernel_rfl)) (by first | assumption | (with_reducible exact FV.ofInt _ _) | (with_reducible exact FV.neg (by assumption)) | exact FV.lit (by kernel_rfl) (by kernel_rfl)) ?_; intro r m hr))
          go_roundw
          case rel => exact ⟨j + 1, _, _, _, by omega, by go_num, rfl, rfl, by rw [HA.out.1]; assumption, by rw [HA.out.2]; assumption, rfl⟩
          case measure => simp [intOf]; omega
      · by_cases hbn : j < n2
        · have hg : decide ((0 : Int) < (j : Int)) = true := decide_eq_true (by omega)
          have hg2 : decide (0 < j) = true := decide_eq_true (by omega)
          have hd0 : ((j : Int) == 0) = false := beq_eq_false_iff_ne.2 (by omega)
          have hd1 : (j == 0) = false := beq_eq_false_iff_ne.2 hj0
          obtain ⟨t, ht⟩ : ∃ t, t + 1 = j := ⟨j - 1, by omega⟩
          obtain ⟨p2, o2, rfl, hbl2, hce2, ft⟩ := h2.at (show t < n2 by omega)
          have hP : sideZ n2 Z2 j = Z2 t := by rw [← ht, sideZ_succ, if_pos (by omega)]
          have hfP := allFin_lt (V := vals Z2) (j := t) HFS.out (by omega)
          have hs1 := fun W => sizeF_any (Z2 t) ft.2 hfP W
          have fP := (abs_fin hfP).2
          have hW1 : IntKind.i64.wrap ((j : Int) - 1) = (t : Int) := by
            have e : (j : Int) - 1 = (t : Int) := by omega
            rw [e]; exact IntWalk.i64_in _ (by omega)
          have htl : (t : Int) < (n2 : Int) := by omega
          have hh1 : decide ((j : Int) < (n2 : Int)) = true := decide_eq_true (by omega)
          have hh2 : decide (j < n2) = true := decide_eq_true hbn
          obtain ⟨_, _, e, hbl3, hce3, fj⟩ := h2.at hbn
          simp only [Option.some.injEq, Addr.mk.injEq, and_true] at e
          obtain ⟨rfl, rfl⟩ := e
          have hQ : sideZ n2 Z2 (j + 1) = Z2 j := by rw [sideZ_succ, if_pos hbn]
          have hfQ := allFin_lt (V := vals Z2) (j := j) HFS.out hbn
          have hs2 := fun W => sizeF_any (Z2 j) fj.2 hfQ W
          have fQ := (abs_fin hfQ).2
          have HRV : Hid ((fop .add .f32 (some (Z2 t % 2147483648)) (some (Z2 j % 2147483648))) = RV) := Lib.hid (by rw [hR]; unfold reachV; rw [hP, hQ])
          clear hR hP hQ
          have HLN2 : Hid (LV (j + 1) = if lowV.lessQ2 (fop .sub .f32 (vals Z j) (fop .add .f32 (some (Z2 t % 2147483648)) (some (Z2 j % 2147483648)))) LJ = true then (fop .sub .f32 (vals Z j) (fop .add .f32 (some (Z2 t % 2147483648)) (some (Z2 j % 2147483648)))) else LJ) := Lib.hid (by rw [HLN.out, decide_eq_false hj0, Bool.false_or, HRV.out])
          have HGN2 : Hid (GV (j + 1) = if highV.moreQ (fop .add .f32 (vals Z j) (fop .add .f32 (some (Z2 t % 2147483648)) (some (Z2 j % 2147483648)))) GJ = true then (fop .add .f32 (vals Z j) (fop .add .f32 (some (Z2 t % 2147483648)) (some (Z2 j % 2147483648)))) else GJ) := Lib.hid (by rw [HGN.out, decide_eq_false hj0, Bool.false_or, HRV.out])
          clear hj0
          cases hA : lowV.lessQ2 (fop .sub .f32 (vals Z j) (fop .add .f32 (some (Z2 t % 2147483648)) (some (Z2 j % 2147483648)))) LJ <;> cases hG : highV.moreQ (fop .add .f32 (vals Z j) (fop .add .f32 (some (Z2 t % 2147483648)) (some (Z2 j % 2147483648)))) GJ
          all_goals
            have hA' : (ford .f32 (fop .sub .f32 (vals Z j) (fop .add .f32 (some (Z2 t % 2147483648)) (some (Z2 j % 2147483648)))) LJ == some .lt) = lowV.lessQ2 (fop .sub .f32 (vals Z j) (fop .add .f32 (some (Z2 t % 2147483648)) (some (Z2 j % 2147483648)))) LJ := rfl
            have hG' : (ford .f32 (fop .add .f32 (vals Z j) (fop .add .f32 (some (Z2 t % 2147483648)) (some (Z2 j % 2147483648)))) GJ == some .gt) = highV.moreQ (fop .add .f32 (vals Z j) (fop .add .f32 (some (Z2 t % 2147483648)) (some (Z2 j % 2147483648)))) GJ := rfl
            rw [hA] at hA'
            rw [hG] at hG'
            have HAA := Lib.hid hA
            have HGG := Lib.hid hG
            clear hA hG
            go_wp2_with fail
            go_at_call 61
            refine (hs1 _).mono ?_
            rintro e w5 ⟨rfl, m5, rfl⟩
            go_wp2_with fail
            go_at_call 61
            refine (hs2 _).mono ?_
            rintro e w6 ⟨rfl, m6, rfl⟩
            go_wp2_with (first | (refine wpList_farith rfl _ _ _ _ _ rfl rfl _ _ _ rfl rfl (by first | assumption | (with_reducible exact FV.ofInt _ _) | (with_reducible exact FV.neg (by assumption)) | exact FV.lit (by kernel_rfl) (by kernel_rfl)) (by first | assumption | (with_reducible exact FV.ofInt _ _) | (with_reducible exact FV.neg (by assumption)) | exact FV.lit (by kernel_rfl) (by kernel_rfl)) ?_; intro r m hr; have hr1 := hr.1))
            go_roundw
            case rel =>
              refine ⟨j + 1, _, _, _, by omega, by go_num, rfl, rfl, ?_, ?_, rfl⟩
              · rw [HLN2.out, HAA.out]
                first | (rw [if_pos rfl]; assumption) | (rw [if_neg (by decide)]; assumption)
              · rw [HGN2.out, HGG.out]
                first | (rw [if_pos rfl]; assumption) | (rw [if_neg (by decide)]; assumption)
            case measure => simp [intOf]; omega
        · have hg : decide ((0 : Int) < (j : Int)) = true := decide_eq_true (by omega)
          have hg2 : decide (0 < j) = true := decide_eq_true (by omega)
          have hd0 : ((j : Int) == 0) = false := beq_eq_false_iff_ne.2 (by omega)
          have hd1 : (j == 0) = false := beq_eq_false_iff_ne.2 hj0
          obtain ⟨t, ht⟩ : ∃ t, t + 1 = j := ⟨j - 1, by omega⟩
          obtain ⟨p2, o2, rfl, hbl2, hce2, ft⟩ := h2.at (show t < n2 by omega)
          have hP : sideZ n2 Z2 j = Z2 t := by rw [← ht, sideZ_succ, if_pos (by omega)]
          have hfP := allFin_lt (V := vals Z2) (j := t) HFS.out (by omega)
          have hs1 := fun W => sizeF_any (Z2 t) ft.2 hfP W
          have fP := (abs_fin hfP).2
          have hW1 : IntKind.i64.wrap ((j : Int) - 1) = (t : Int) := by
            have e : (j : Int) - 1 = (t : Int) := by omega
            rw [e]; exact IntWalk.i64_in _ (by omega)
          have htl : (t : Int) < (n2 : Int) := by omega
          have hh1 : decide ((j : Int) < (n2 : Int)) = false := decide_eq_false (by omega)
          have hh2 : decide (j < n2) = false := decide_eq_false hbn
          have hQ : sideZ n2 Z2 (j + 1) = 0 := by rw [sideZ_succ, if_neg hbn]
          have fQ : FV .f32 0 (some 0) := n0
          have HRV : Hid ((fop .add .f32 (some (Z2 t % 2147483648)) (some 0)) = RV) := Lib.hid (by rw [hR]; unfold reachV; rw [hP, hQ])
          clear hR hP hQ
          have HLN2 : Hid (LV (j + 1) = if lowV.lessQ2 (fop .sub .f32 (vals Z j) (fop .add .f32 (some (Z2 t % 2147483648)) (some 0))) LJ = true then (fop .sub .f32 (vals Z j) (fop .add .f32 (some (Z2 t % 2147483648)) (some 0))) else LJ) := Lib.hid (by rw [HLN.out, decide_eq_false hj0, Bool.false_or, HRV.out])
          have HGN2 : Hid (GV (j + 1) = if highV.moreQ (fop .add .f32 (vals Z j) (fop .add .f32 (some (Z2 t % 2147483648)) (some 0))) GJ = true then (fop .add .f32 (vals Z j) (fop .add .f32 (some (Z2 t % 2147483648)) (some 0))) else GJ) := Lib.hid (by rw [HGN.out, decide_eq_false hj0, Bool.false_or, HRV.out])
          clear hj0
          cases hA : lowV.lessQ2 (fop .sub .f32 (vals Z j) (fop .add .f32 (some (Z2 t % 2147483648)) (some 0))) LJ <;> cases hG : highV.moreQ (fop .add .f32 (vals Z j) (fop .add .f32 (some (Z2 t % 2147483648)) (some 0))) GJ
          all_goals
            have hA' : (ford .f32 (fop .sub .f32 (vals Z j) (fop .add .f32 (some (Z2 t % 2147483648)) (some 0))) LJ == some .lt) = lowV.lessQ2 (fop .sub .f32 (vals Z j) (fop .add .f32 (some (Z2 t % 2147483648)) (some 0))) LJ := rfl
            have hG' : (ford .f32 (fop .add .f32 (vals Z j) (fop .add .f32 (some (Z2 t % 2147483648)) (some 0))) GJ == some .gt) = highV.moreQ (fop .add .f32 (vals Z j) (fop .add .f32 (some (Z2 t % 2147483648)) (some 0))) GJ := rfl
            rw [hA] at hA'
            rw [hG] at hG'
            have HAA := Lib.hid hA
            have HGG := Lib.hid hG
            clear hA hG
            go_wp2_with fail
            go_at_call 61
            refine (hs1 _).mono ?_
            rintro e w5 ⟨rfl, m5, rfl⟩
            go_wp2_with (first | (refine wpList_farith rfl _ _ _ _ _ rfl rfl _ _ _ rfl rfl (by first | assumption | (with_reducible exact FV.ofInt _ _) | (with_reducible exact FV.neg (by assumption)) | exact FV.lit (by kernel_rfl) (by kernel_rfl)) (by first | assumption | (with_reducible exact FV.ofInt _ _) | (with_reducible exact FV.neg (by assumption)) | exact FV.lit (by kernel_rfl) (by kernel_rfl)) ?_; intro r m hr; have hr1 := hr.1))
            go_roundw
            case rel =>
              refine ⟨j + 1, _, _, _, by omega, by go_num, rfl, rfl, ?_, ?_, rfl⟩
              · rw [HLN2.out, HAA.out]
                first | (rw [if_pos rfl]; assumption) | (rw [if_neg (by decide)]; assumption)
              · rw [HGN2.out, HGG.out]
                first | (rw [if_pos rfl]; assumption) | (rw [if_neg (by decide)]; assumption)
            case measure => simp [intOf]; omega
    · obtain rfl : j = n := by omega
      go_wp2
      go_ret2
      exact ⟨_, _, rfl, hrl, hrh, _, rfl⟩
end Go.Proofs.Ytffmjfgechdjjab
