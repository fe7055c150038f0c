/- Helper: the product of two wholes, of the reference. Conditions: none. -/
import Derived.Test.YtinekdfpgkmbnabFlipAt
set_option linter.unusedVariables false
set_option linter.unusedSimpArgs false
namespace Go.Proofs.Ytinekdfpgkmbnab
open Go.RowKit

/-- The sum of the products of the first numbers of two lists. -/
def dotI (F G : Nat → Int) : Nat → Int
  | 0 => 0
  | n + 1 => dotI F G n + F n * G n
theorem prod_abs {x y : Int} (hx : x.natAbs ≤ 1000000) (hy : y.natAbs ≤ 1000000) : (x * y).natAbs ≤ 1000000000000 := by
  rw [Int.natAbs_mul]
  exact Nat.mul_le_mul hx hy
theorem dotI_abs {F G : Nat → Int} {n B : Nat} (hF : ∀ j, j < n → (F j * G j).natAbs ≤ B) : ∀ m, m ≤ n → (dotI F G m).natAbs ≤ m * B := by
  intro m
  induction m with
  | zero => intro _; exact Nat.zero_le _
  | succ m ih =>
    intro h
    have h1 := ih (by omega)
    have h2 := hF m (by omega)
    rw [Nat.add_mul, Nat.one_mul]
    show (dotI F G m + F m * G m).natAbs ≤ _
    omega
/-- The numbers of the product of two wholes. -/
def mulZ (c k : Nat) (Z Y : Nat → Int) (t : Nat) : Int := dotI (fun j => Z (t / k * c + j)) (fun j => Y (j * k + t % k)) c
/-- Numbers of which the first i rows and q numbers of the next one are told. -/
def partI (k : Nat) (F : Nat → Int) (i q t : Nat) : Int := if t / k < i ∨ (t / k = i ∧ t % k < q) then F t else 0
theorem partI_step {k : Nat} {F : Nat → Int} {i q : Nat} {v : Int} (hq : q < k) (hv : v = F (i * k + q)) (t : Nat) : (if t = i * k + q then v else partI k F i q t) = partI k F i (q + 1) t := by
  unfold partI
  by_cases e : t = i * k + q
  · subst e
    obtain ⟨h1, h2⟩ := placeI_div (c := k) (j := i) (k := q) hq
    rw [if_pos rfl, h1, h2, if_pos (.inr ⟨rfl, by omega⟩), hv]
  · rw [if_neg e]
    have hp := placeI_eq (c := k) (t := t)
    by_cases h : t / k < i ∨ (t / k = i ∧ t % k < q)
    · rw [if_pos h, if_pos (by omega)]
    · rw [if_neg h]
      by_cases h2 : t / k < i ∨ (t / k = i ∧ t % k < q + 1)
      · exfalso
        have e1 : t / k = i := by omega
        have e2 : t % k = q := by omega
        rw [e1, e2] at hp
        exact e hp.symm
      · rw [if_neg h2]
theorem partI_next {k : Nat} {F : Nat → Int} {i : Nat} (hk : 0 < k) (t : Nat) : partI k F i k t = partI k F (i + 1) 0 t := by
  unfold partI
  have h1 : t % k < k := Nat.mod_lt _ hk
  have e : (t / k < i ∨ (t / k = i ∧ t % k < k)) ↔ (t / k < i + 1 ∨ (t / k = i + 1 ∧ t % k < 0)) := by
    generalize t / k = x at *
    generalize t % k = y at *
    omega
  simp only [e]
theorem partI_zero {k : Nat} {F : Nat → Int} (t : Nat) : partI k F 0 0 t = 0 := by
  unfold partI
  rw [if_neg (by rintro (h | ⟨_, h⟩) <;> exact Nat.not_lt_zero _ h)]
theorem partI_end {k r t : Nat} {F : Nat → Int} (ht : t < r * k) : partI k F r 0 t = F t := by
  unfold partI
  rw [if_pos (.inl (Nat.div_lt_of_lt_mul (by rw [Nat.mul_comm]; exact ht)))]
set_option maxRecDepth 20000 in
set_option maxHeartbeats 4000000 in
theorem l06Mul_any (pa pb r c k N1 N2 N p1 f1 d1 p2 f2 d2 : Nat) (Z Y : Nat → Int) (w : World) (hr1 : 1 ≤ r) (hr : r ≤ 6) (hc1 : 1 ≤ c) (hc : c ≤ 6) (hk1 : 1 ≤ k) (hk : k ≤ 6) (hN1 : N1 = r * c) (hN2 : N2 = c * k) (hN : N = r * k)
    (hpa : pa < w.heap.size) (hpb : pb < w.heap.size) (hA : Box w pa r c (some ⟨p1, f1, none⟩) N1 d1) (hB : Box w pb c k (some ⟨p2, f2, none⟩) N2 d2)
    (hZ : ∀ t, t < N1 → (Z t).natAbs ≤ 1000000) (hY : ∀ t, t < N2 → (Y t).natAbs ≤ 1000000) (h : IS .i64 w (some ⟨p1, f1, none⟩) N1 d1 Z) (h2 : IS .i64 w (some ⟨p2, f2, none⟩) N2 d2 Y) :
    Calls Try.prog 46 #[.pointer (some ⟨pa, 0, none⟩), .pointer (some ⟨pb, 0, none⟩)] w (NewW w r k N (mulZ c k Z Y)) := by
  have HN1 := Lib.hid hN1
  have HN2 := Lib.hid hN2
  have HN := Lib.hid hN
  have hn36 : N ≤ 36 := by have : r * k ≤ 6 * 6 := Nat.mul_le_mul hr hk; omega
  have hpos : 0 < N := by rw [hN]; exact Nat.mul_pos hr1 hk1
  have HA := Lib.hid hA
  have HB := Lib.hid hB
  have HI1 := Lib.hid h
  have HI2 := Lib.hid h2
  have HZ := Lib.hid hZ
  have HY := Lib.hid hY
  obtain ⟨x0, x1, x2⟩ := hA
  obtain ⟨v0, v1, v2⟩ := hB
  clear hN1 hN2 hN h h2 hZ hY
  go_enter Try.func46, Try.ntmps46
  go_wp2_with fail
  go_region_held3 (fun w' => w'.cell? ⟨pa, 0, none⟩ = some (.int .i64 r) ∧ w'.cell? ⟨pb, 1, none⟩ = some (.int .i64 k) ∧ Below w.heap.size w w')
    (first | exact ⟨x0, v1, (by first | exact (Below.refl _ _).drew | exact (below_drewN (Below.refl _ _) _).drew)⟩ | exact heldSides (by assumption) (by assumption) hpa hpb | (refine heldSidesB x0 v1 hpa hpb ?_; (repeat first | (with_reducible exact B1) | (with_reducible exact Below.refl _ _) | (with_reducible refine Below.setCell ?_ (by first | exact Nat.le_refl _ | (simp; done) | (simp; omega) | omega) _) | (with_reducible refine Below.alloc ?_ (by first | exact Nat.le_refl _ | (simp; done) | (simp; omega) | omega) _) | (with_reducible refine below_drewN ?_ _) | (with_reducible refine Below.drew ?_)); done) | (refine heldSidesB x0 v1 hpa hpb ?_; (repeat first | (with_reducible exact Below.refl _ _) | (with_reducible exact Below.refl _ _) | (with_reducible refine Below.setCell ?_ (by first | exact Nat.le_refl _ | (simp; done) | (simp; omega) | omega) _) | (with_reducible refine Below.alloc ?_ (by first | exact Nat.le_refl _ | (simp; done) | (simp; omega) | omega) _) | (with_reducible refine below_drewN ?_ _) | (with_reducible refine Below.drew ?_)); done))
    (first | (go_at_call 63; refine (l06Zero_any r k N _ hr hk HN.out).mono ?_; rintro e w1 ⟨g, rfl, o1, b1⟩; have B1 : Below w.heap.size w w1 := Below.trans (by repeat first | (with_reducible exact Below.refl _ _) | (with_reducible refine Below.setCell ?_ (by first | exact Nat.le_refl _ | (simp; done) | (simp; omega) | omega) _) | (with_reducible refine Below.alloc ?_ (by first | exact Nat.le_refl _ | (simp; done) | (simp; omega) | omega) _) | (with_reducible refine below_drewN ?_ _) | (with_reducible refine Below.drew ?_)) (b1.mono (by simp [World.drew] <;> omega)); have s1 : w.heap.size + 1 ≤ w1.heap.size := (by have hh := b1.size; (try simp [World.drew] at hh); omega); obtain ⟨hd1, hf1⟩ := bcell b1))
  have wk0 := WorkI.start (R := (r : Int)) (C := (k : Int)) 24 24 (OwnI.mono (B' := w.heap.size + 1) o1 (by simp [World.drew]) (Nat.le_refl _) (Nat.le_refl _)) ((Below.refl _ _).drew.trans b1)
  generalize hob : w1.heap.size = ob at wk0 ⊢
  obtain ⟨B0, U0, hB0, wk⟩ : ∃ B0 U0, w.heap.size ≤ B0 ∧ WorkI w B0 U0 g ob w.heap.size r k N (partI k (mulZ c k Z Y) 0 0) _ := ⟨_, _, by omega, wk0.same (fun t _ => (partI_zero t).symm)⟩
  clear wk0
  rotate_left
  have wk0 := WorkI.start2 (w := w) (R := (r : Int)) (C := (k : Int)) (Z := fun _ => 0) (by simp [World.drew]) b1 (by refine ⟨?_, ?_, ?_⟩ <;> simp [go_sem]) (by intro i; simp [go_sem]) (by refine ⟨?_, ?_, ?_⟩ <;> simp [go_sem]) (by intro i; simp [go_sem]) (by repeat first | (with_reducible exact Below.refl _ _) | (with_reducible refine Below.setCell ?_ (by first | exact Nat.le_refl _ | (simp; done) | (simp; omega) | omega) _) | (with_reducible refine Below.alloc ?_ (by first | exact Nat.le_refl _ | (simp; done) | (simp; omega) | omega) _) | (with_reducible refine below_drewN ?_ _) | (with_reducible refine Below.drew ?_)) o1
  generalize hob : w.heap.size + 1 = ob at wk0 ⊢
  obtain ⟨B0, U0, hB0, wk⟩ : ∃ B0 U0, w.heap.size ≤ B0 ∧ WorkI w B0 U0 g ob w.heap.size r k N (partI k (mulZ c k Z Y) 0 0) _ := ⟨_, _, by omega, wk0.same (fun t _ => (partI_zero t).symm)⟩
  clear wk0
  rotate_left
  all_goals
    clear hob o1 hd1 hf1 b1 B1 s1
    obtain ⟨MM, hMM⟩ : ∃ MM, MM = mulZ c k Z Y := ⟨_, rfl⟩
    rw [← hMM] at wk ⊢
    have HM := Lib.hid hMM
    clear hMM
    go_wp2
    go_loopw [6] (fun i wr => ∃ j : Nat, j ≤ r ∧ i = .int .i64 j ∧ WorkI w B0 U0 g ob w.heap.size r k N (partI k MM j 0) wr) (fun i _ => r - (intOf i).toNat)
    case atStart => exact ⟨0, Nat.zero_le _, rfl, wk⟩
    case round =>
      obtain ⟨j, hj, rfl, hk3⟩ := hrel
      clear wk
      have q0 := (hk3.bel.cell (p := ⟨pa, 0, none⟩) hpa).trans x0
      by_cases hlt : j < r
      · have hj1 : (j : Int) < (r : Int) := by omega
        go_wp2
        go_loopw [7] (fun i wr => ∃ q : Nat, q ≤ k ∧ i = .int .i64 q ∧ WorkI w B0 U0 g ob w.heap.size r k N (partI k MM j q) wr) (fun i _ => k - (intOf i).toNat)
        case atStart => exact ⟨0, Nat.zero_le _, rfl, hk3⟩
        case round =>
          obtain ⟨q, hq, rfl, hk2⟩ := hrel
          clear hk3 q0
          have t1 := (hk2.bel.cell (p := ⟨pb, 1, none⟩) hpb).trans v1
          by_cases hlt2 : q < k
          · have hq1 : (q : Int) < (k : Int) := by omega
            have BA := HA.out.below hk2.bel hpa
            have BB := HB.out.below hk2.bel hpb
            have I1 := Lib.hid (HI1.out.below hk2.bel (Nat.le_refl _))
            have I2 := Lib.hid (HI2.out.below hk2.bel (Nat.le_refl _))
            have HBA := Lib.hid BA
            have HBB := Lib.hid BB
            have HW := Lib.hid hk2
            obtain ⟨g1, g2, g3, g4⟩ := hk2.facts hpos
            have hpl : j * k + q < N := by rw [HN.out]; exact placeI_lt hlt hlt2
            have hF : ∀ t, t < c → (Z (j * c + t)).natAbs ≤ 1000000 := fun t ht => HZ.out _ (by rw [HN1.out]; exact placeI_lt hlt ht)
            have hG : ∀ t, t < c → (Y (t * k + q)).natAbs ≤ 1000000 := fun t ht => HY.out _ (by rw [HN2.out]; exact placeI_lt ht hlt2)
            have hFG := fun t ht => prod_abs (hF t ht) (hG t ht)
            have hD := Lib.hid (dotI_abs (F := fun t => Z (j * c + t)) (G := fun t => Y (t * k + q)) hFG)
            have HFG := Lib.hid hFG
            have HF := Lib.hid hF
            have HG := Lib.hid hG
            clear hk2 hF hG hFG BA BB
            obtain ⟨wo, rfl⟩ : ∃ wo, wo = wr := ⟨_, rfl⟩
            go_wp2
            go_loopw [8, 9] (fun s i wr' => ∃ p m : Nat, p ≤ c ∧ i = .int .i64 p ∧ s = .int .i64 (dotI (fun t => Z (j * c + t)) (fun t => Y (t * k + q)) p) ∧ Hid (wr' = wo.drewN m)) (fun _ i _ => c - (intOf i).toNat)
            case atStart => exact ⟨0, 0, Nat.zero_le _, rfl, rfl, Lib.hid rfl⟩
            case round =>
              obtain ⟨p, m, hp, rfl, rfl, hw'⟩ := hrel
              clear t1
              by_cases hlt3 : p < c
              · have hp1 : (p : Int) < (c : Int) := by omega
                have hAt1 : ∀ W, (∃ m, W = wo.drewN m) → Calls Try.prog 66 #[.pointer (some ⟨pa, 0, none⟩), .int .i64 j, .int .i64 p] W fun e w' => e = .returned (.int .i64 (Z (j * c + p))) ∧ ∃ m, w' = W.drewN m := by
                  rintro _ ⟨m, rfl⟩
                  exact l06AtF_any pa p1 f1 r c N1 d1 j p Z _ hr hc HN1.out HBA.out.drewN (I1.out.below (by repeat first | (with_reducible exact Below.refl _ _) | (with_reducible refine Below.setCell ?_ (by first | exact Nat.le_refl _ | (simp; done) | (simp; omega) | omega) _) | (with_reducible refine Below.alloc ?_ (by first | exact Nat.le_refl _ | (simp; done) | (simp; omega) | omega) _) | (with_reducible refine below_drewN ?_ _) | (with_reducible refine Below.drew ?_)) (Nat.le_refl _)) hlt hlt3
                have hAt2 : ∀ W, (∃ m, W = wo.drewN m) → Calls Try.prog 66 #[.pointer (some ⟨pb, 0, none⟩), .int .i64 p, .int .i64 q] W fun e w' => e = .returned (.int .i64 (Y (p * k + q))) ∧ ∃ m, w' = W.drewN m := by
                  rintro _ ⟨m, rfl⟩
                  exact l06AtF_any pb p2 f2 c k N2 d2 p q Y _ hc hk HN2.out HBB.out.drewN (I2.out.below (by repeat first | (with_reducible exact Below.refl _ _) | (with_reducible refine Below.setCell ?_ (by first | exact Nat.le_refl _ | (simp; done) | (simp; omega) | omega) _) | (with_reducible refine Below.alloc ?_ (by first | exact Nat.le_refl _ | (simp; done) | (simp; omega) | omega) _) | (with_reducible refine below_drewN ?_ _) | (with_reducible refine Below.drew ?_)) (Nat.le_refl _)) hlt3 hlt2
                have hb1 := hD.out p hp
                have hb2 := hD.out (p + 1) hlt3
                have hb3 := HFG.out p hlt3
                have hnx : Hid (dotI (fun t => Z (j * c + t)) (fun t => Y (t * k + q)) (p + 1) = dotI (fun t => Z (j * c + t)) (fun t => Y (t * k + q)) p + Z (j * c + p) * Y (p * k + q)) := Lib.hid rfl
                rw [hnx.out] at hb2
                have hc6 : p * 1000000000000 ≤ 6 * 1000000000000 := Nat.mul_le_mul_right _ (by omega)
                have hc7 : (p + 1) * 1000000000000 ≤ 6 * 1000000000000 := Nat.mul_le_mul_right _ (by omega)
                have hQ1 := ((HBA.out.drewN (m := m)).2.1)
                try dsimp only at hb3
                generalize dotI (fun t => Z (j * c + t)) (fun t => Y (t * k + q)) p = S at *
                generalize Z (j * c + p) = z at *
                generalize Y (p * k + q) = y at *
                generalize hzy : z * y = zy at *
                have hw1 : IntKind.i64.wrap (z * y) = zy := by rw [hzy]; exact IntWalk.i64_in _ (by omega)
                have hw2 : IntKind.i64.wrap (S + zy) = S + zy := IntWalk.i64_in _ (by omega)
                obtain ⟨M1, hM1⟩ : ∃ M1, M1 = wo.drewN m := ⟨_, rfl⟩
                have HW' := Lib.hid (hw'.out.trans hM1.symm)
                clear hw' hzy
                obtain rfl := HW'.out
                have q1 : wr.cell? ⟨pa, 1, none⟩ = some (.int .i64 c) := by rw [hM1]; exact hQ1
                have HM1 := Lib.hid hM1
                clear hM1 hQ1 HW'
                go_wp2_with fail
                go_at_call 66
                refine (hAt1 _ ⟨m, HM1.out⟩).mono ?_
                rintro e w4 ⟨rfl, m4, rfl⟩
                have hE4 : wr.drewN m4 = wo.drewN (m + m4) := by rw [HM1.out, World.drewN_drewN]
                go_wp2_with fail
                go_at_call 66
                refine (hAt2 _ ⟨m + m4, rfl⟩).mono ?_
                rintro e w5 ⟨rfl, m5, rfl⟩
                clear hE4
                go_wp2
                go_roundw
                case rel => exact ⟨p + 1, m + m4 + m5, by omega, by go_num, by rw [hnx.out], Lib.hid rfl⟩
                case measure => simp [intOf]; omega
              · obtain rfl : p = c := by omega
                have hv : dotI (fun t => Z (j * p + t)) (fun t => Y (t * k + q)) p = MM (j * k + q) := by
                  rw [HM.out]
                  obtain ⟨e1, e2⟩ := placeI_div (c := k) (j := j) (k := q) hlt2
                  unfold mulZ
                  rw [e1, e2]
                have hb1 := hD.out p hp
                have hc6 : p * 1000000000000 ≤ 6 * 1000000000000 := Nat.mul_le_mul_right _ (by omega)
                have hQ1 := (HBA.out.drewN (m := m)).2.1
                have hQ2 := (HBB.out.drewN (m := m)).2.1
                have hwf : (Lit.int .i64 (dotI (fun t => Z (j * p + t)) (fun t => Y (t * k + q)) p)).wf = true := Go.WalkArith.wf_i64 (by omega)
                generalize dotI (fun t => Z (j * p + t)) (fun t => Y (t * k + q)) p = S at *
                have hW := (show WorkI w B0 U0 g ob w.heap.size r k N (partI k MM j q) (wo.drewN m) from HW.out.drewN)
                rw [← hw'.out] at hW hQ1 hQ2
                have hst' := Lib.hid (fun m => WorkI.same ((show WorkI w B0 U0 g ob w.heap.size r k N (partI k MM j q) (wr.drewN m) from hW.drewN).stored (t := j * k + q) (v := S) hpl hwf) (fun t _ => partI_step hlt2 hv t))
                obtain ⟨hce, hfr, _⟩ := hW.own.cell hpl
                obtain ⟨y0, y1, y2⟩ := hW.box
                obtain ⟨G1, G2, G3, G4⟩ := hW.facts hpos
                have he : ((j : Int) * (k : Int) + (q : Int)) = ((j * k + q : Nat) : Int) := by rw [Int.natCast_add, Int.natCast_mul]
                have ht : ((j : Int) * (k : Int) + (q : Int)).toNat = j * k + q := by rw [he]; exact Int.toNat_natCast _
                have hl1 : (j : Int) * (k : Int) + (q : Int) < (N : Int) := by rw [he]; omega
                have h0 : (0 : Int) ≤ (j : Int) * (k : Int) := by rw [← Int.natCast_mul]; omega
                have hw1 : IntKind.i64.wrap ((j : Int) * (k : Int)) = (j : Int) * (k : Int) := IntWalk.i64_in _ (by omega)
                have hw2 : IntKind.i64.wrap ((j : Int) * (k : Int) + (q : Int)) = (j : Int) * (k : Int) + (q : Int) := IntWalk.i64_in _ (by omega)
                clear hW he hv hwf hw' g3 g4
                go_wp2
                (refine wp_region_pivot_tail 99 12 (by kernel_rfl) (by kernel_rfl) ?_; simp only [List.take_succ_cons, List.take_zero, List.drop_succ_cons, List.drop_zero]; (repeat (refine wpPivot_plain rfl rfl rfl (fun K hK => ?_); go_big_quiet_op; refine hK _ ?_; clear hK K)))
                refine wpPivot_run (.pointer (some ⟨pb, 0, none⟩)) rfl rfl (fun W _ => by simp [go_sem, BigFrame.eval_const, BigFrame.eval_global, BigFrame.eval_func]) ?_
                simp only [Act.put, List.setIfInBounds_toArray, List.set_cons_succ, List.set_cons_zero]
                repeat (refine wpPivot_plain rfl rfl rfl (fun K hK => ?_); go_big_quiet_op; refine hK _ ?_; clear hK K)
                refine wpPivot_nil ?_
                rintro _ ⟨kk, rfl⟩
                go_wp2
                go_roundw
                case rel => exact ⟨q + 1, by omega, by go_num, hst'.out kk⟩
                case measure => simp [intOf]; omega
          · obtain rfl : q = k := by omega
            have hnx := Lib.hid (hk2.same (fun t ht => partI_next (i := j) (by omega) t))
            clear hk2
            go_wp2
            go_roundw
            case rel => exact ⟨j + 1, by omega, by go_num, hnx.out⟩
            case measure => simp [intOf]; omega
      · obtain rfl : j = r := by omega
        obtain ⟨y0, y1, y2⟩ := hk3.box
        obtain ⟨z0, z1, z2⟩ := hk3.res
        obtain ⟨g1, g2, g3, g4⟩ := hk3.facts hpos
        have o2 := hk3.own.same (Y := MM) (fun t ht => partI_end (by rw [← HN.out]; exact ht))
        rw [HM.out] at o2
        have B2 := hk3.bel
        have hice := hk3.ice
        have hmid := hk3.mid
        clear hk3
        go_wp2_with fail
        refine bodyPost_ret (v := .agg #[.int .i64 j, .int .i64 k, .slice (some ⟨g, 0, none⟩) N N]) (by simp [results, Try.results46, go_sem, y0, y1, y2, z0, z1, z2]) rfl ?_
        exact ⟨_, rfl, OwnI.mono (B := B0) (U := U0) (by refine OwnI.to o2 (hk := fun g hg1 hg2 => by (try simp at hg1 hg2); repeat (first | rw [Below.heap_setCell _ _ _ _ (by simp; omega)] | rw [Below.heap_alloc _ _ _ (by simp [World.setCell]; omega)])) ?_ ?_ ?_ ?_ <;> (first | exact Nat.le_refl _ | omega | (simp [World.setCell]; done) | (simp [World.setCell]; omega))) hB0 (by simp [World.setCell]; omega) (Nat.le_refl _), (by repeat first | (with_reducible exact B2) | (with_reducible refine Below.setCell ?_ (by first | exact Nat.le_refl _ | (simp; done) | (simp; omega) | omega) _) | (with_reducible refine Below.alloc ?_ (by first | exact Nat.le_refl _ | (simp; done) | (simp; omega) | omega) _) | (with_reducible refine below_drewN ?_ _) | (with_reducible refine Below.drew ?_))⟩
end Go.Proofs.Ytinekdfpgkmbnab
