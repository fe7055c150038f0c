/- Helper: products whose sums are those of blocks, of the program. Conditions: none. -/
import Derived.Test.YtffmjfgechdjjacMulImpl
set_option linter.unusedVariables false
set_option linter.unusedSimpArgs false
namespace Go.Proofs.Ytffmjfgechdjjac
open Go.RowKit

/-- How many numbers the block m has. -/
def blkN (c s m : Nat) : Nat := min (m * s + s) c - m * s
/-- The sum of the first blocks. -/
def blkS (A B : Nat → Option Nat) (c s : Nat) : Nat → Option Nat
  | 0 => some 0
  | m + 1 => fop .add .f32 (blkS A B c s m) (dotG (fun i => A (m * s + i)) (fun i => B (m * s + i)) (blkN c s m))
/-- How many blocks there are. -/
def blkE (c s : Nat) : Nat := (c + s - 1) / s
def blkV (c k s : Nat) (Z Y : Nat → Nat) (t : Nat) : Option Nat := blkS (vals fun i => Z (t / k * c + i)) (vals fun i => Y (i * k + t % k)) c s (blkE c s)
theorem blk_end {c s m : Nat} (hc : 1 ≤ c) (hs : 1 ≤ s) (h1 : c ≤ m * s) (h2 : m = 0 ∨ (m - 1) * s < c) : m = blkE c s := by
  unfold blkE
  cases m with
  | zero => simp at h1; omega
  | succ q =>
    have h3 : q * s < c := by
      rcases h2 with h2 | h2
      · omega
      · simpa using h2
    rw [Nat.succ_mul] at h1
    symm
    refine Nat.div_eq_of_lt_le ?_ ?_
    · rw [Nat.succ_mul]; omega
    · rw [Nat.succ_mul, Nat.succ_mul]; omega
theorem blkS_congr {A B A' B' : Nat → Option Nat} {c s : Nat} : ∀ {m : Nat}, (∀ j, j < c → A j = A' j ∧ B j = B' j) → blkS A B c s m = blkS A' B' c s m
  | 0, _ => rfl
  | m + 1, h => by
    simp only [blkS]
    rw [blkS_congr (m := m) h]
    refine congrArg _ (dotG_congr fun j hj => h _ ?_)
    unfold blkN at hj
    omega
theorem blkV_at {c k s j q : Nat} {Z Y : Nat → Nat} (hq : q < k) : blkV c k s Z Y (j * k + q) = blkS (vals fun i => Z (j * c + i)) (vals fun i => flipZ c k Y (q * c + i)) c s (blkE c s) := by
  unfold blkV
  obtain ⟨h1, h2⟩ := place_div (j := j) hq
  rw [h1, h2]
  refine blkS_congr fun i hi => ⟨rfl, ?_⟩
  unfold vals flipZ
  obtain ⟨h3, h4⟩ := place_div (c := c) (j := q) (k := i) hi
  simp only [h3, h4]
/-- A part of a slice. -/
theorem FS.sub {w : World} {b off n cap : Nat} {Z : Nat → Nat} (h : FS .f32 w (some ⟨b, off, none⟩) n cap Z) {lo hi : Nat} (h1 : lo ≤ hi) (h2 : hi ≤ n) : FS .f32 w (some ⟨b, off + lo, none⟩) (hi - lo) (cap - lo) (fun i => Z (lo + i)) := by
  have h3 := h.1
  have h4 := h.2.1
  refine ⟨by omega, by omega, fun i hi' => ?_⟩
  obtain ⟨b', off', e, hl, hc, hw⟩ := h.2.2 (lo + i) (by omega)
  simp only [Option.some.injEq, Addr.mk.injEq, and_true] at e
  obtain ⟨rfl, rfl⟩ := e
  exact ⟨b, off + lo, rfl, hl, by rw [Nat.add_assoc]; exact hc, hw⟩
set_option maxRecDepth 20000 in
set_option maxHeartbeats 4000000 in
theorem sumOfBlocks_any (p o d gf o2 d2 c s : Nat) (A F : Nat → Nat) (w : World) (hc1 : 1 ≤ c) (hc : c ≤ 12) (hs1 : 1 ≤ s) (hs : s ≤ 12) (hA : FS .f32 w (some ⟨p, o, none⟩) c d A) (hF : FS .f32 w (some ⟨gf, o2, none⟩) c d2 F) :
    Calls Try.prog 46 #[.slice (some ⟨p, o, none⟩) c d, .slice (some ⟨gf, o2, none⟩) c d2, .int .i64 s] w fun e w' => ∃ x, e = .returned (.float .f32 x) ∧ FV .f32 x (blkS (vals A) (vals F) c s (blkE c s)) ∧ ∃ m, w' = w.drewN m := by
  have hd1 := hA.1
  have hd2 := hF.1
  have hm1 : d ≤ 9223372036854775807 := by have := hA.2.1; unfold maxLen at this; omega
  have hm2 : d2 ≤ 9223372036854775807 := by have := hF.2.1; unfold maxLen at this; omega
  go_enter Try.func46, Try.ntmps46
  go_wp2
  go_loopw [7, 8] (fun a i wr => ∃ m st q x : Nat, st = m * s ∧ (m = 0 ∨ (m - 1) * s < c) ∧ i = .int .i64 st ∧ st ≤ 24 ∧ a = .float .f32 x ∧ FV .f32 x (blkS (vals A) (vals F) c s m) ∧ wr = w.drewN q) (fun _ i _ => c - (intOf i).toNat)
  case atStart => exact ⟨0, 0, 0, 0, by simp, .inl rfl, rfl, by omega, rfl, FV.lit (by kernel_rfl) (by kernel_rfl), rfl⟩
  case round =>
    obtain ⟨m, st, q, x, hst, hme, rfl, hst24, rfl, hx, rfl⟩ := hrel
    by_cases hlt : st < c
    · rcases Nat.lt_or_ge c (st + s) with hcs | hcs
      · have hse : st < c := by omega
        have hec : c ≤ c := by omega
        have hci : (c : Int) < (st : Int) + (s : Int) := by omega
        have hN : Hid (c - st = blkN c s m) := Lib.hid (by unfold blkN; rw [← hst]; omega)
        have HST := Lib.hid hst
        have fa := hA.sub (lo := st) (hi := c) (by omega) hec
        have ff := hF.sub (lo := st) (hi := c) (by omega) hec
        have hdec : decide ((st : Int) < (c : Int)) = true := decide_eq_true (by omega)
        clear hst hme hcs
        go_wp2
        refine wp_region_kinds (fun w' => ∃ z, w' = w.drewN z) (fun k => if k = 9 then 2 else if k = 10 then 1 else 0) 11 ⟨q + 1, drewN_two⟩ (by kernel_rfl) (by kernel_rfl) (by kernel_rfl) ?_
        simp only [List.take_succ_cons, List.take_zero, List.drop_succ_cons, List.drop_zero]
        (refine wpKinds_plain rfl rfl rfl (fun K hK => ?_); go_big_quiet_op; (first | refine hK _ ?_ | refine ⟨_, fun _ _ => rfl, hK _ ?_⟩); clear hK K)
        (refine wpKinds_plain rfl rfl rfl (fun K hK => ?_); go_big_quiet_op; (first | refine hK _ ?_ | refine ⟨_, fun _ _ => rfl, hK _ ?_⟩); clear hK K)
        (refine wpKinds_plain rfl rfl rfl (fun K hK => ?_); go_big_quiet_op; (first | refine hK _ ?_ | refine ⟨_, fun _ _ => rfl, hK _ ?_⟩); clear hK K)
        (refine wpKinds_plain rfl rfl rfl (fun K hK => ?_); go_big_quiet_op; (first | refine hK _ ?_ | refine ⟨_, fun _ _ => rfl, hK _ ?_⟩); clear hK K)
        (refine wpKinds_plain rfl rfl rfl (fun K hK => ?_); go_big_quiet_op; (first | refine hK _ ?_ | refine ⟨_, fun _ _ => rfl, hK _ ?_⟩); clear hK K)
        (refine wpKinds_plain rfl rfl rfl (fun K hK => ?_); go_big_quiet_op; (first | refine hK _ ?_ | refine ⟨_, fun _ _ => rfl, hK _ ?_⟩); clear hK K)
        (refine wpKinds_plain rfl rfl rfl (fun K hK => ?_); go_big_quiet_op; (first | refine hK _ ?_ | refine ⟨_, fun _ _ => rfl, hK _ ?_⟩); clear hK K)
        (refine wpKinds_plain rfl rfl rfl (fun K hK => ?_); go_big_quiet_op; (first | refine hK _ ?_ | refine ⟨_, fun _ _ => rfl, hK _ ?_⟩); clear hK K)
        (refine wpKinds_plain rfl rfl rfl (fun K hK => ?_); go_big_quiet_op; (first | refine hK _ ?_ | refine ⟨_, fun _ _ => rfl, hK _ ?_⟩); clear hK K)
        (refine wpKinds_noisy (f := 73) (args := #[.slice (some ⟨p, o + st, none⟩) (c - st) (d - st), .slice (some ⟨gf, o2 + st, none⟩) (c - st) (d2 - st)]) (fun u => ∃ y, u = .float .f32 y ∧ FV .f32 y (dotG (vals fun i => A (st + i)) (vals fun i => F (st + i)) (c - st))) rfl rfl (by intro W; simp [go_sem, BigFrame.eval_const, BigFrame.eval_global, BigFrame.eval_func]) (by
          rintro W ⟨z, rfl⟩
          refine (implDot_any (some ⟨p, o + st, none⟩) (some ⟨gf, o2 + st, none⟩) (c - st) (d - st) (c - st) (d2 - st) (fun i => A (st + i)) (fun i => F (st + i)) _ (by omega) (Nat.le_refl _) (by omega) (FS.drewN fa) (FS.drewN ff)).mono ?_
          rintro e w' ⟨y, rfl, hy, z2, rfl⟩
          exact ⟨_, rfl, ⟨_, drewN_two⟩, y, rfl, hy⟩) ?_)
        rintro _ ⟨y, rfl, hy⟩
        simp only [Act.put, List.setIfInBounds_toArray, List.set_cons_succ, List.set_cons_zero]
        refine wpKinds_farith (fun W m hW => by obtain ⟨z, rfl⟩ := hW; exact ⟨z + m, drewN_two⟩) rfl rfl _ _ _ _ _ rfl rfl _ _ _ rfl rfl hx hy (fun r5 hr5 => ?_)
        simp only [Act.put, List.setIfInBounds_toArray, List.set_cons_succ, List.set_cons_zero]
        refine wpKinds_nil ?_
        rintro w5 ⟨z5, rfl⟩
        have hv : FV .f32 r5 (blkS (vals A) (vals F) c s (m + 1)) := FV.of_eq hr5 (by
          show _ = fop .add .f32 (blkS (vals A) (vals F) c s m) (dotG (fun i => vals A (m * s + i)) (fun i => vals F (m * s + i)) (blkN c s m))
          rw [← HST.out, ← hN.out]; rfl)
        have he : st + s = (m + 1) * s := by rw [Nat.succ_mul, ← HST.out]
        have hme2 : m + 1 = 0 ∨ (m + 1 - 1) * s < c := .inr (by rw [Nat.add_sub_cancel, ← HST.out]; exact hlt)
        have HE := Lib.hid he
        clear he fa ff hy hr5
        go_wp2
        go_roundw
        case rel => exact ⟨m + 1, st + s, _, _, HE.out, hme2, by go_num, by omega, rfl, hv, rfl⟩
        case measure => simp [intOf]; omega
      · have hse : st < (st + s) := by omega
        have hec : (st + s) ≤ c := by omega
        have hci : ¬ (c : Int) < (st : Int) + (s : Int) := by omega
        have hN : Hid ((st + s) - st = blkN c s m) := Lib.hid (by unfold blkN; rw [← hst]; omega)
        have HST := Lib.hid hst
        have fa := hA.sub (lo := st) (hi := (st + s)) (by omega) hec
        have ff := hF.sub (lo := st) (hi := (st + s)) (by omega) hec
        have hdec : decide ((st : Int) < (c : Int)) = true := decide_eq_true (by omega)
        clear hst hme hcs
        go_wp2
        refine wp_region_kinds (fun w' => ∃ z, w' = w.drewN z) (fun k => if k = 9 then 2 else if k = 10 then 1 else 0) 11 ⟨q + 1, drewN_two⟩ (by kernel_rfl) (by kernel_rfl) (by kernel_rfl) ?_
        simp only [List.take_succ_cons, List.take_zero, List.drop_succ_cons, List.drop_zero]
        (refine wpKinds_plain rfl rfl rfl (fun K hK => ?_); go_big_quiet_op; (first | refine hK _ ?_ | refine ⟨_, fun _ _ => rfl, hK _ ?_⟩); clear hK K)
        (refine wpKinds_plain rfl rfl rfl (fun K hK => ?_); go_big_quiet_op; (first | refine hK _ ?_ | refine ⟨_, fun _ _ => rfl, hK _ ?_⟩); clear hK K)
        (refine wpKinds_plain rfl rfl rfl (fun K hK => ?_); go_big_quiet_op; (first | refine hK _ ?_ | refine ⟨_, fun _ _ => rfl, hK _ ?_⟩); clear hK K)
        (refine wpKinds_plain rfl rfl rfl (fun K hK => ?_); go_big_quiet_op; (first | refine hK _ ?_ | refine ⟨_, fun _ _ => rfl, hK _ ?_⟩); clear hK K)
        (refine wpKinds_plain rfl rfl rfl (fun K hK => ?_); go_big_quiet_op; (first | refine hK _ ?_ | refine ⟨_, fun _ _ => rfl, hK _ ?_⟩); clear hK K)
        (refine wpKinds_plain rfl rfl rfl (fun K hK => ?_); go_big_quiet_op; (first | refine hK _ ?_ | refine ⟨_, fun _ _ => rfl, hK _ ?_⟩); clear hK K)
        (refine wpKinds_plain rfl rfl rfl (fun K hK => ?_); go_big_quiet_op; (first | refine hK _ ?_ | refine ⟨_, fun _ _ => rfl, hK _ ?_⟩); clear hK K)
        (refine wpKinds_plain rfl rfl rfl (fun K hK => ?_); go_big_quiet_op; (first | refine hK _ ?_ | refine ⟨_, fun _ _ => rfl, hK _ ?_⟩); clear hK K)
        (refine wpKinds_plain rfl rfl rfl (fun K hK => ?_); go_big_quiet_op; (first | refine hK _ ?_ | refine ⟨_, fun _ _ => rfl, hK _ ?_⟩); clear hK K)
        (refine wpKinds_noisy (f := 73) (args := #[.slice (some ⟨p, o + st, none⟩) ((st + s) - st) (d - st), .slice (some ⟨gf, o2 + st, none⟩) ((st + s) - st) (d2 - st)]) (fun u => ∃ y, u = .float .f32 y ∧ FV .f32 y (dotG (vals fun i => A (st + i)) (vals fun i => F (st + i)) ((st + s) - st))) rfl rfl (by intro W; simp [go_sem, BigFrame.eval_const, BigFrame.eval_global, BigFrame.eval_func]) (by
          rintro W ⟨z, rfl⟩
          refine (implDot_any (some ⟨p, o + st, none⟩) (some ⟨gf, o2 + st, none⟩) ((st + s) - st) (d - st) ((st + s) - st) (d2 - st) (fun i => A (st + i)) (fun i => F (st + i)) _ (by omega) (Nat.le_refl _) (by omega) (FS.drewN fa) (FS.drewN ff)).mono ?_
          rintro e w' ⟨y, rfl, hy, z2, rfl⟩
          exact ⟨_, rfl, ⟨_, drewN_two⟩, y, rfl, hy⟩) ?_)
        rintro _ ⟨y, rfl, hy⟩
        simp only [Act.put, List.setIfInBounds_toArray, List.set_cons_succ, List.set_cons_zero]
        refine wpKinds_farith (fun W m hW => by obtain ⟨z, rfl⟩ := hW; exact ⟨z + m, drewN_two⟩) rfl rfl _ _ _ _ _ rfl rfl _ _ _ rfl rfl hx hy (fun r5 hr5 => ?_)
        simp only [Act.put, List.setIfInBounds_toArray, List.set_cons_succ, List.set_cons_zero]
        refine wpKinds_nil ?_
        rintro w5 ⟨z5, rfl⟩
        have hv : FV .f32 r5 (blkS (vals A) (vals F) c s (m + 1)) := FV.of_eq hr5 (by
          show _ = fop .add .f32 (blkS (vals A) (vals F) c s m) (dotG (fun i => vals A (m * s + i)) (fun i => vals F (m * s + i)) (blkN c s m))
          rw [← HST.out, ← hN.out]; rfl)
        have he : st + s = (m + 1) * s := by rw [Nat.succ_mul, ← HST.out]
        have hme2 : m + 1 = 0 ∨ (m + 1 - 1) * s < c := .inr (by rw [Nat.add_sub_cancel, ← HST.out]; exact hlt)
        have HE := Lib.hid he
        clear he fa ff hy hr5
        go_wp2
        go_roundw
        case rel => exact ⟨m + 1, st + s, _, _, HE.out, hme2, by go_num, by omega, rfl, hv, rfl⟩
        case measure => simp [intOf]; omega
    · have hE := blk_end hc1 hs1 (by omega) hme
      subst hE
      have hdec : decide ((st : Int) < (c : Int)) = false := decide_eq_false (by omega)
      clear hst hme
      go_wp2
      go_ret
      exact ⟨_, rfl, hx, _, rfl⟩
set_option maxRecDepth 20000 in
set_option maxHeartbeats 4000000 in
theorem implBlocks_yes (s r c k N1 N2 N p1 o1 d1 p2 o2 d2 : Nat) (Z Y : Nat → Nat) (w : World) (hs1 : 1 ≤ s) (hs : s ≤ 12) (hr1 : 1 ≤ r) (hr : r ≤ 12) (hc1 : 1 ≤ c) (hc : c ≤ 12) (hk1 : 1 ≤ k) (hk : k ≤ 12) (hN1 : N1 = r * c) (hN2 : N2 = c * k) (hN : N = r * k)
    (hyes : mulB r c N1 (vals Z) c k N2 (vals Y) = true) (h : FS .f32 w (some ⟨p1, o1, none⟩) N1 d1 Z) (h2 : FS .f32 w (some ⟨p2, o2, none⟩) N2 d2 Y) :
    Calls Try.prog 17 #[.agg #[.int .i64 r, .int .i64 c, .slice (some ⟨p1, o1, none⟩) N1 d1], .agg #[.int .i64 c, .int .i64 k, .slice (some ⟨p2, o2, none⟩) N2 d2], .int .i64 s] w (OwnIf (allFin (blkV c k s Z Y) N) r k N (blkV c k s Z Y) w) := by
  have HN1 := Lib.hid hN1
  have HN2 := Lib.hid hN2
  have HN := Lib.hid hN
  have h1144 : N1 ≤ 144 := by have := sides_le hr hc; omega
  have h2144 : N2 ≤ 144 := by have := sides_le hc hk; omega
  have h144 : N ≤ 144 := by have := sides_le hr hk; omega
  have hpos : 0 < N := by rw [hN]; exact Nat.mul_pos hr1 hk1
  have hcap1 := h.1
  have hmax1 : d1 ≤ 9223372036854775807 := by have := h.2.1; unfold maxLen at this; omega
  obtain ⟨_, _, e, hb1, _, _⟩ := h.at (show 0 < N1 by rw [hN1]; exact Nat.mul_pos hr1 hc1)
  simp only [Option.some.injEq, Addr.mk.injEq, and_true] at e
  obtain ⟨rfl, rfl⟩ := e
  have hcm := fun W q1 q2 => canMul_any r c (some ⟨p1, o1, none⟩) N1 d1 Z c k (some ⟨p2, o2, none⟩) N2 d2 Y W (by omega) (by omega) q1 q2
  rw [hyes] at hcm
  obtain ⟨VV, hVV⟩ : ∃ VV, VV = blkV c k s Z Y := ⟨_, rfl⟩
  rw [← hVV]
  have HVV := Lib.hid hVV
  have hsd : sideB (s : Int) = true := sideB_yes (by omega) (by omega)
  clear hyes hN1 hN2 hN hVV
  go_enter Try.func17, Try.ntmps17
  go_wp2_with fail
  go_at_call 44
  refine (hcm _ (h.below (by repeat first | (with_reducible exact Below.refl _ _) | (with_reducible refine Below.setCell ?_ (by first | exact Nat.le_refl _ | (simp; done) | (simp; omega) | omega) _) | (with_reducible refine Below.alloc ?_ (by first | exact Nat.le_refl _ | (simp; done) | (simp; omega) | omega) _) | (with_reducible refine below_drewN ?_ _) | (with_reducible refine Below.drew ?_)) (Nat.le_refl _)) (h2.below (by repeat first | (with_reducible exact Below.refl _ _) | (with_reducible refine Below.setCell ?_ (by first | exact Nat.le_refl _ | (simp; done) | (simp; omega) | omega) _) | (with_reducible refine Below.alloc ?_ (by first | exact Nat.le_refl _ | (simp; done) | (simp; omega) | omega) _) | (with_reducible refine below_drewN ?_ _) | (with_reducible refine Below.drew ?_)) (Nat.le_refl _))).mono ?_
  rintro e w1 ⟨rfl, b1⟩
  have B1 : Below w.heap.size w w1 := Below.trans (by repeat first | (with_reducible exact Below.refl _ _) | (with_reducible refine Below.setCell ?_ (by first | exact Nat.le_refl _ | (simp; done) | (simp; omega) | omega) _) | (with_reducible refine Below.alloc ?_ (by first | exact Nat.le_refl _ | (simp; done) | (simp; omega) | omega) _) | (with_reducible refine below_drewN ?_ _) | (with_reducible refine Below.drew ?_)) (b1.mono (by simp; omega))
  have s1 : w.heap.size + 1 + 1 + 1 ≤ w1.heap.size := by have := b1.size; simp at this; omega
  have X1 : Box w1 w.heap.size r c (some ⟨p1, o1, none⟩) N1 d1 ∧ Box w1 (w.heap.size + 1) c k (some ⟨p2, o2, none⟩) N2 d2 ∧ Box w1 (w.heap.size + 1 + 1) 0 0 none 0 0 ∧ ∀ i, w1.frozen? ⟨w.heap.size + 1 + 1, i, none⟩ = false := by
    obtain ⟨q, f⟩ := bcell b1
    refine ⟨⟨?_, ?_, ?_⟩, ⟨?_, ?_, ?_⟩, ⟨?_, ?_, ?_⟩, fun i => ?_⟩
    all_goals first | rw [q _ _ (by simp <;> omega)] | rw [f _ _ (by simp <;> omega)]
    all_goals simp [go_sem]
  obtain ⟨XA, XB, XR, IR⟩ := X1
  have XA' := XA
  obtain ⟨a0, a1, a2⟩ := XA'
  have XB' := XB
  obtain ⟨c0, c1, c2⟩ := XB'
  clear b1 hcm
  go_wp2_with (go_at_call 37; refine (isSide_any _ _).mono ?_; rintro e w' ⟨rfl, rfl⟩)
  go_at_call 38
  refine (newMatrix_any r k N _ hr hk HN.out).mono ?_
  rintro e w2 ⟨g, rfl, oP, b2⟩
  have s2 := b2.size
  obtain ⟨_, _, gB, gU, gS, _⟩ := oP.cell hpos
  have XA2 := XA.below b2 (by omega)
  have XB2 := XB.below b2 (by omega)
  have XR2 := XR.below b2 (by omega)
  have IR2 : ∀ i, w2.frozen? ⟨w.heap.size + 1 + 1, i, none⟩ = false := fun i => (b2.frozen (p := ⟨w.heap.size + 1 + 1, i, none⟩) (by show w.heap.size + 1 + 1 < w1.heap.size; omega)).trans (IR i)
  have B2 := B1.trans (b2.mono B1.size)
  clear b2 XA XB XR IR B1 a0 a1 a2 c0 c1 c2
  have XB2' := XB2
  obtain ⟨c0, c1, c2⟩ := XB2'
  have b3 : Below w2.heap.size w2 (w2.alloc (.cells #[.int .i64 r, .int .i64 k, .slice (some ⟨g, 0, none⟩) N N] 26)) := (by repeat first | (with_reducible exact Below.refl _ _) | (with_reducible refine Below.setCell ?_ (by first | exact Nat.le_refl _ | (simp; done) | (simp; omega) | omega) _) | (with_reducible refine Below.alloc ?_ (by first | exact Nat.le_refl _ | (simp; done) | (simp; omega) | omega) _) | (with_reducible refine below_drewN ?_ _) | (with_reducible refine Below.drew ?_))
  have XP3 := Box.new w2 26 r k (some ⟨g, 0, none⟩) N N
  have XB3 := XB2.below b3 (by omega)
  obtain ⟨v0, v1, v2⟩ := XB3
  go_wp2_with fail
  go_at_call 45
  refine (flipped_any c k N2 p2 o2 d2 Y _ hc1 hc hk1 hk HN2.out (h2.below (B2.trans (b3.mono B2.size)) (Nat.le_refl _))).mono ?_
  rintro e w4 ⟨gf, rfl, oF, b4⟩
  have s3 : w2.heap.size + 1 ≤ w4.heap.size := by have := b4.size; simp at this; omega
  obtain ⟨_, _, fB, fU, fS, _⟩ := oF.cell (show 0 < N2 by rw [HN2.out]; exact Nat.mul_pos hc1 hk1)
  have fB' : w2.heap.size + 1 ≤ gf := by simpa using fB
  have b34 : Below w2.heap.size w2 w4 := b3.trans (b4.mono (by simp))
  have XA4 := XA2.below b34 (by omega)
  have XR4 := XR2.below b34 (by omega)
  have XP4 : Box w4 w2.heap.size r k (some ⟨g, 0, none⟩) N N := XP3.below b4 (by simp)
  have IR4 : ∀ i, w4.frozen? ⟨w.heap.size + 1 + 1, i, none⟩ = false := fun i => (b34.frozen (p := ⟨w.heap.size + 1 + 1, i, none⟩) (by show w.heap.size + 1 + 1 < w2.heap.size; omega)).trans (IR2 i)
  have oP4 := oP.kept (below_grew b34) (fun q hq => by cases hq)
  have fF4 := oF.fs
  have B4 := B2.trans (b34.mono B2.size)
  clear b3 b4 b34 XA2 XB2 XR2 XP3 IR2 oP oF c0 c1 c2 v0 v1 v2 fB B2
  have XA4' := XA4
  obtain ⟨a0, a1, a2⟩ := XA4'
  have b5 : Below w4.heap.size w4 (w4.alloc (.cells #[.int .i64 k, .int .i64 c, .slice (some ⟨gf, 0, none⟩) N2 N2] 26)) := (by repeat first | (with_reducible exact Below.refl _ _) | (with_reducible refine Below.setCell ?_ (by first | exact Nat.le_refl _ | (simp; done) | (simp; omega) | omega) _) | (with_reducible refine Below.alloc ?_ (by first | exact Nat.le_refl _ | (simp; done) | (simp; omega) | omega) _) | (with_reducible refine below_drewN ?_ _) | (with_reducible refine Below.drew ?_))
  have XC := Box.new w4 26 k c (some ⟨gf, 0, none⟩) N2 N2
  have s5 : w4.heap.size < (w4.alloc (.cells #[.int .i64 k, .int .i64 c, .slice (some ⟨gf, 0, none⟩) N2 N2] 26)).heap.size := by simp
  have l4 : w.heap.size < w4.heap.size := by omega
  go_wp2
  generalize w4.alloc (.cells #[.int .i64 k, .int .i64 c, .slice (some ⟨gf, 0, none⟩) N2 N2] 26) = w5 at b5 XC s5 ⊢
  have XA5 := XA4.below b5 (by omega)
  have XR5 := XR4.below b5 (by omega)
  have XP5 := XP4.below b5 (by omega)
  have IR5 : ∀ i, w5.frozen? ⟨w.heap.size + 1 + 1, i, none⟩ = false := fun i => (b5.frozen (p := ⟨w.heap.size + 1 + 1, i, none⟩) (by show w.heap.size + 1 + 1 < w4.heap.size; omega)).trans (IR4 i)
  have oP5 := oP4.kept (below_grew b5) (fun q hq => by cases hq)
  have fF5 := fF4.below b5 (Nat.le_refl _)
  have B5 := B4.trans (b5.mono B4.size)
  have fA5 := h.below B5 (Nat.le_refl _)
  clear b5 XA4 XR4 XP4 IR4 oP4 fF4 B4 a0 a1 a2 h h2
  go_loopw [32] (fun i wr => ∃ (j : Nat) (X : Nat → Nat), j ≤ r ∧ i = .int .i64 j ∧ (∀ t, t < j * k → FV .f32 (X t) (VV t)) ∧ Own 48 .f32 w1.heap.size w2.heap.size wr (some ⟨g, 0, none⟩) N N X ∧ w5.grownBy wr (some g)) (fun i _ => r - (intOf i).toNat)
  case atStart => exact ⟨0, _, Nat.zero_le _, rfl, fun t ht => absurd ht (by rw [Nat.zero_mul]; exact Nat.not_lt_zero _), oP5, World.grownBy.refl _ _⟩
  case round =>
    obtain ⟨j, X, hj, rfl, hv, ho, hg⟩ := hrel
    have HV2 := Lib.hid hv
    clear oP5 hv
    have hsr := hg.size
    by_cases hlt : j < r
    · obtain ⟨u0, u1, u2⟩ := XP5.grown hg (by omega) (fun q hq => by cases hq; omega)
      obtain ⟨v0, v1, v2⟩ := XC.grown hg s5 (fun q hq => by cases hq; omega)
      obtain ⟨a0, a1, a2⟩ := XA5.grown hg (by omega) (fun q hq => by cases hq; omega)
      have hO := Lib.hid ho
      have hG := Lib.hid hg
      have XAr : Box wr w.heap.size r c (some ⟨p1, o1, none⟩) N1 d1 := ⟨a0, a1, a2⟩
      have XPr : Box wr w2.heap.size r k (some ⟨g, 0, none⟩) N N := ⟨u0, u1, u2⟩
      have XCr : Box wr w4.heap.size k c (some ⟨gf, 0, none⟩) N2 N2 := ⟨v0, v1, v2⟩
      clear ho hg u0 u1 u2 v0 v1 v2 a0 a1 a2
      have hjk : j * k + k ≤ N := by rw [HN.out]; have := Nat.mul_le_mul_right k hlt; rw [Nat.succ_mul] at this; exact this
      have hjc : j * c + c ≤ N1 := by rw [HN1.out]; have := Nat.mul_le_mul_right c hlt; rw [Nat.succ_mul] at this; exact this
      obtain ⟨u0, u1, u2⟩ := XPr
      go_wp2_with fail
      go_at_call 39
      refine (rowOf_any g 0 r k N N j _ hr hk1 hk HN.out (Nat.le_refl _) (by omega) hlt).mono ?_
      rintro e w6 ⟨rfl, b6⟩
      have hsz := b6.size
      have hG6 : w5.grownBy w6 (some g) := grownBy_trans hG.out ⟨b6.os, b6.tape, b6.output, b6.size, fun q hq _ => b6.block q hq⟩
      have hO6 := hO.out.kept (below_grew b6) (fun q hq => by cases hq)
      have fA6 := fA5.grown hG6 (fun q hq => by cases hq; omega)
      have fF6 := fF5.grown hG6 (fun q hq => by cases hq; omega)
      have XA6 := XAr.below b6 (by omega)
      have XC6 := XCr.below b6 (by omega)
      simp only [Nat.zero_add] at *
      clear hG hO XAr XCr u0 u1 u2 b6
      go_wp2
      go_loopw [40] (fun i wr2 => ∃ (q : Nat) (X2 : Nat → Nat), q ≤ k ∧ i = .int .i64 q ∧ (∀ t, t < j * k + q → FV .f32 (X2 t) (VV t)) ∧ Own 48 .f32 w1.heap.size w2.heap.size wr2 (some ⟨g, 0, none⟩) N N X2 ∧ w6.grownBy wr2 (some g)) (fun i _ => k - (intOf i).toNat)
      case atStart => exact ⟨0, X, Nat.zero_le _, rfl, HV2.out, hO6, World.grownBy.refl _ _⟩
      case round =>
        obtain ⟨q, X2, hq, rfl, hv2, ho2, hg2⟩ := hrel
        have HV3 := Lib.hid hv2
        clear hO6 hv2
        have hsr2 := hg2.size
        by_cases hlt2 : q < k
        · have XAr := XA6.grown hg2 (by omega) (fun q hq => by cases hq; omega)
          have XCr := XC6.grown hg2 (by omega) (fun q hq => by cases hq; omega)
          have fAr := (fA6.grown hg2 (fun q hq => by cases hq; omega)).row HN1.out hlt c (Nat.le_refl _) (by unfold maxLen; omega)
          have fFr := (fF6.grown hg2 (fun q hq => by cases hq; omega)).row (by rw [HN2.out, Nat.mul_comm]) hlt2 c (Nat.le_refl _) (by unfold maxLen; omega)
          have hpl : j * k + q < N := by omega
          have hO2 := Lib.hid ho2
          have hG2 := Lib.hid hg2
          have rowA := fun W => rowOf_any p1 o1 r c N1 d1 j W hr hc1 hc HN1.out hcap1 hmax1 hlt
          have rowC := fun W => rowOf_any gf 0 k c N2 N2 q W hk hc1 hc (by rw [HN2.out, Nat.mul_comm]) (Nat.le_refl _) (by have := sides_le hc hk; have := HN2.out; omega) hlt2
          simp only [Nat.zero_add] at rowC fFr
          have hsv := fun W (hW : Below wr.heap.size wr W) => sumOfBlocks_any p1 (o1 + j * c) c gf (q * c) c c s (fun i => Z (j * c + i)) (fun i => flipZ c k Y (q * c + i)) W hc1 hc hs1 hs (fAr.below hW (Nat.le_refl _)) (fFr.below hW (Nat.le_refl _))
          have hVq : Hid (VV (j * k + q) = blkS (vals fun i => Z (j * c + i)) (vals fun i => flipZ c k Y (q * c + i)) c s (blkE c s)) := Lib.hid (by rw [HVV.out]; exact blkV_at hlt2)
          clear ho2 hg2
          go_wp2
          generalize hw0 : wr = w0 at XAr XCr hsr2 hsv ⊢
          (refine wp_region_kinds (fun w' => Below w0.heap.size w0 w') (fun k => if k = 9 then 2 else 0) 11 (below_drewN (Below.refl _ _) 1) (by kernel_rfl) (by kernel_rfl) (by kernel_rfl) ?_; simp only [List.take_succ_cons, List.take_zero, List.drop_succ_cons, List.drop_zero])
          (refine wpKinds_plain rfl rfl rfl (fun K hK => ?_); go_big_quiet_op; (first | refine hK _ ?_ | refine ⟨_, fun _ _ => rfl, hK _ ?_⟩); clear hK K)
          (refine wpKinds_plain rfl rfl rfl (fun K hK => ?_); go_big_quiet_op; (first | refine hK _ ?_ | refine ⟨_, fun _ _ => rfl, hK _ ?_⟩); clear hK K)
          (refine wpKinds_run (.agg #[.int .i64 r, .int .i64 c, .slice (some ⟨p1, o1, none⟩) N1 d1]) rfl rfl (by intro W hW; obtain ⟨u0, u1, u2⟩ := Box.below XAr hW (by omega); simp [go_sem, BigFrame.eval_const, BigFrame.eval_global, BigFrame.eval_func, u0, u1, u2]) ?_; simp only [Act.put, List.setIfInBounds_toArray, List.set_cons_succ, List.set_cons_zero])
          (refine wpKinds_plain rfl rfl rfl (fun K hK => ?_); go_big_quiet_op; (first | refine hK _ ?_ | refine ⟨_, fun _ _ => rfl, hK _ ?_⟩); clear hK K)
          (refine wpKinds_call (f := 39) (args := #[.agg #[.int .i64 r, .int .i64 c, .slice (some ⟨p1, o1, none⟩) N1 d1], .int .i64 j]) (.slice (some ⟨p1, o1 + j * c, none⟩) c c) rfl rfl (by intro W; simp [go_sem, BigFrame.eval_const, BigFrame.eval_global, BigFrame.eval_func]) (by kernel_rfl) (by intro W hW; (refine (rowA W).mono ?_; rintro e w' ⟨rfl, hb⟩; exact ⟨rfl, hW.trans (hb.mono hW.size)⟩)) ?_; simp only [Act.put, List.setIfInBounds_toArray, List.set_cons_succ, List.set_cons_zero])
          (refine wpKinds_run (.agg #[.int .i64 k, .int .i64 c, .slice (some ⟨gf, 0, none⟩) N2 N2]) rfl rfl (by intro W hW; obtain ⟨u0, u1, u2⟩ := Box.below XCr hW (by omega); simp [go_sem, BigFrame.eval_const, BigFrame.eval_global, BigFrame.eval_func, u0, u1, u2]) ?_; simp only [Act.put, List.setIfInBounds_toArray, List.set_cons_succ, List.set_cons_zero])
          (refine wpKinds_plain rfl rfl rfl (fun K hK => ?_); go_big_quiet_op; (first | refine hK _ ?_ | refine ⟨_, fun _ _ => rfl, hK _ ?_⟩); clear hK K)
          (refine wpKinds_call (f := 39) (args := #[.agg #[.int .i64 k, .int .i64 c, .slice (some ⟨gf, 0, none⟩) N2 N2], .int .i64 q]) (.slice (some ⟨gf, q * c, none⟩) c c) rfl rfl (by intro W; simp [go_sem, BigFrame.eval_const, BigFrame.eval_global, BigFrame.eval_func]) (by kernel_rfl) (by intro W hW; (refine (rowC W).mono ?_; rintro e w' ⟨rfl, hb⟩; exact ⟨rfl, hW.trans (hb.mono hW.size)⟩)) ?_; simp only [Act.put, List.setIfInBounds_toArray, List.set_cons_succ, List.set_cons_zero])
          (refine wpKinds_plain rfl rfl rfl (fun K hK => ?_); go_big_quiet_op; (first | refine hK _ ?_ | refine ⟨_, fun _ _ => rfl, hK _ ?_⟩); clear hK K)
          (refine wpKinds_noisy (f := 46) (args := #[.slice (some ⟨p1, o1 + j * c, none⟩) c c, .slice (some ⟨gf, q * c, none⟩) c c, .int .i64 s]) (fun u => ∃ y, u = .float .f32 y ∧ FV .f32 y (VV (j * k + q))) rfl rfl (by intro W; simp [go_sem, BigFrame.eval_const, BigFrame.eval_global, BigFrame.eval_func]) (by
            intro W hW
            refine (hsv W hW).mono ?_
            rintro e w' ⟨y, rfl, hy, z2, rfl⟩
            exact ⟨_, rfl, below_drewN hW z2, y, rfl, FV.of_eq hy hVq.out.symm⟩) ?_)
          rintro _ ⟨y, rfl, hy⟩
          simp only [Act.put, List.setIfInBounds_toArray, List.set_cons_succ, List.set_cons_zero]
          (refine wpKinds_plain rfl rfl rfl (fun K hK => ?_); go_big_quiet_op; (first | refine hK _ ?_ | refine ⟨_, fun _ _ => rfl, hK _ ?_⟩); clear hK K)
          refine wpKinds_nil ?_
          intro w7 hC
          subst hw0
          have hG7 : w6.grownBy w7 (some g) := grownBy_trans hG2.out ⟨hC.os, hC.tape, hC.output, hC.size, fun q hq _ => hC.block q hq⟩
          have hO7 := hO2.out.kept (below_grew hC) (fun q hq => by cases hq)
          obtain ⟨hce, hfr, _⟩ := hO7.cell hpl
          have hst := Lib.hid (hO7.stored (t := j * k + q) (v := y) hpl hy.2)
          have hG8 := Lib.hid (grownBy_trans hG7 hst.out.2)
          have hvn : Hid (∀ t, t < j * k + (q + 1) → FV .f32 (if t = j * k + q then y else X2 t) (VV t)) := by
            refine Lib.hid fun t ht => ?_
            by_cases e : t = j * k + q
            · subst e; rw [if_pos rfl]; exact hy
            · rw [if_neg e]; exact HV3.out t (by omega)
          generalize X2 (j * k + q) = old at hce
          clear hG7 hO7 hC XAr XCr fAr fFr hsv rowA rowC hy
          go_wp2_with fail
          go_roundw
          case rel => exact ⟨q + 1, _, by omega, by go_num, hvn.out, hst.out.1, hG8.out⟩
          case measure => simp [intOf]; omega
        · obtain rfl : q = k := by omega
          have O7 := Lib.hid ho2
          have G7 := Lib.hid (grownBy_trans hG6 hg2)
          clear ho2 hg2
          go_wp2
          go_roundw
          case rel => exact ⟨j + 1, X2, by omega, by go_num, fun t ht => HV3.out t (by rw [Nat.succ_mul] at ht; exact ht), O7.out, G7.out⟩
          case measure => simp [intOf]; omega
    · obtain rfl : j = r := by omega
      have XPe := XP5.grown hg (by omega) (fun q hq => by cases hq; omega)
      have XRe := XR5.grown hg (by omega) (fun q hq => by cases hq; omega)
      have IRe : ∀ i, wr.frozen? ⟨w.heap.size + 1 + 1, i, none⟩ = false := fun i => (World.frozen?_of_block (a := ⟨w.heap.size + 1 + 1, i, none⟩) (hg.block (w.heap.size + 1 + 1) (by show w.heap.size + 1 + 1 < w5.heap.size; omega) (fun e => by cases e; omega))).trans (IR5 i)
      have Be := B5.grown hg B5.size (fun q hq => by cases hq; omega)
      have fP := ho.fs
      have hVe : ∀ t, t < N → vals X t = VV t := fun t ht => (HV2.out t (by rw [← HN.out]; exact ht)).1
      have hval : validB j k N (vals X) = allFin VV N := (validB_nat hr1 hr hk1 hk HN.out).trans (allFin_congr hVe)
      have XPe' := XPe
      obtain ⟨u0, u1, u2⟩ := XPe'
      have XRe' := XRe
      obtain ⟨z0, z1, z2⟩ := XRe'
      have HVe := Lib.hid hVe
      have HO := Lib.hid ho
      clear ho hg hVe XA5 XC fA5 fF5 XP5 XR5 IR5 HV2
      cases hf : allFin VV N with
      | true =>
        rw [hf] at hval
        go_wp2_with fail
        go_at_call 40
        refine (implGive_yes j k _ N N X _ (by omega) fP hval).mono ?_
        rintro e w7 ⟨rfl, b7⟩
        have Z7 := XRe.below b7 (by omega)
        obtain ⟨y0, y1, y2⟩ := Z7
        have I7 : ∀ i, w7.frozen? ⟨w.heap.size + 1 + 1, i, none⟩ = false := fun i => (b7.frozen (p := ⟨w.heap.size + 1 + 1, i, none⟩) (by show w.heap.size + 1 + 1 < wr.heap.size; omega)).trans (IRe i)
        have B7 := Be.trans (b7.mono Be.size)
        have O7 := HO.out.kept (below_grew b7) (fun q hq => by cases hq)
        have s7 := b7.size
        clear b7 Be z0 z1 z2 u0 u1 u2 XPe XRe IRe fP
        go_wp2_with fail
        refine bodyPost_ret (v := .tuple #[.agg #[.int .i64 j, .int .i64 k, .slice (some ⟨g, 0, none⟩) N N], .bool true]) (by simp [results, Try.results17, go_sem, y0, y1, y2]) rfl ?_
        exact OwnIf.yes hf ⟨_, _, _, rfl, (by refine Own.to O7 (hk := fun g hg1 hg2 => by (try simp at hg1 hg2); repeat (first | rw [Below.heap_setCell _ _ _ _ (by simp; omega)] | rw [Below.heap_alloc _ _ _ (by simp [World.setCell]; omega)])) ?_ ?_ ?_ ?_ <;> (first | exact Nat.le_refl _ | omega | (simp [World.setCell]; done) | (simp [World.setCell]; omega))), HVe.out, (by repeat first | (with_reducible exact B7) | (with_reducible refine Below.setCell ?_ (by first | exact Nat.le_refl _ | (simp; done) | (simp; omega) | omega) _) | (with_reducible refine Below.alloc ?_ (by first | exact Nat.le_refl _ | (simp; done) | (simp; omega) | omega) _) | (with_reducible refine below_drewN ?_ _) | (with_reducible refine Below.drew ?_))⟩
      | false =>
        rw [hf] at hval
        go_wp2_with fail
        go_at_call 40
        refine (implGive_no j k _ N N X _ (by omega) fP hval).mono ?_
        rintro e w7 ⟨rfl, b7⟩
        have Z7 := XRe.below b7 (by omega)
        obtain ⟨y0, y1, y2⟩ := Z7
        have I7 : ∀ i, w7.frozen? ⟨w.heap.size + 1 + 1, i, none⟩ = false := fun i => (b7.frozen (p := ⟨w.heap.size + 1 + 1, i, none⟩) (by show w.heap.size + 1 + 1 < wr.heap.size; omega)).trans (IRe i)
        have B7 := Be.trans (b7.mono Be.size)
        clear b7 Be z0 z1 z2 u0 u1 u2 XPe XRe IRe fP
        go_wp2_with fail
        refine bodyPost_ret (v := .tuple #[.agg #[.int .i64 0, .int .i64 0, .slice none 0 0], .bool false]) (by simp [results, Try.results17, go_sem, y0, y1, y2]) rfl ?_
        exact OwnIf.no hf ⟨none, 0, fun _ => 0, rfl, .inl ⟨rfl, rfl, rfl⟩, fun i hi => by omega, (by repeat first | (with_reducible exact B7) | (with_reducible refine Below.setCell ?_ (by first | exact Nat.le_refl _ | (simp; done) | (simp; omega) | omega) _) | (with_reducible refine Below.alloc ?_ (by first | exact Nat.le_refl _ | (simp; done) | (simp; omega) | omega) _) | (with_reducible refine below_drewN ?_ _) | (with_reducible refine Below.drew ?_))⟩
end Go.Proofs.Ytffmjfgechdjjac
