/- Helper: the product of two matrices, of the reference. Conditions: none. -/
import Derived.Test.YtmjlhmbnaifhaacMulImpl
set_option linter.unusedVariables false
set_option linter.unusedSimpArgs false
namespace Go.Proofs.Ytmjlhmbnaifhaac
open Go.RowKit

set_option maxRecDepth 20000 in
set_option maxHeartbeats 1000000 in
theorem l02Fit_any (pa pb : Nat) (R C : Int) (a : Option Addr) (n c : Nat) (Z : Nat → Nat) (R2 C2 : Int) (b : Option Addr) (n2 d : Nat) (Y : Nat → Nat) (w : World) (hn : n ≤ 1048576) (hm : n2 ≤ 1048576)
    (hA : Box w pa R C a n c) (hB : Box w pb R2 C2 b n2 d) (h : FS .f32 w a n c Z) (h2 : FS .f32 w b n2 d Y) :
    Calls Try.prog 95 #[.pointer (some ⟨pa, 0, none⟩), .pointer (some ⟨pb, 0, none⟩)] w fun e w' => e = .returned (.bool (mulB R C n (vals Z) R2 C2 n2 (vals Y))) ∧ ∃ m, w' = w.drewN m := by
  have hs1 : ∀ m, Calls Try.prog 66 #[.pointer (some ⟨pa, 0, none⟩)] (w.drewN m) fun e w' => e = .returned (.bool (validB R C n (vals Z))) ∧ ∃ q, w' = (w.drewN m).drewN q := fun m => specIs_any pa R C a n c Z _ hn hA.drewN (FS.drewN h)
  have hs2 : ∀ m, Calls Try.prog 66 #[.pointer (some ⟨pb, 0, none⟩)] (w.drewN m) fun e w' => e = .returned (.bool (validB R2 C2 n2 (vals Y))) ∧ ∃ q, w' = (w.drewN m).drewN q := fun m => specIs_any pb R2 C2 b n2 d Y _ hm hB.drewN (FS.drewN h2)
  obtain ⟨a0, a1, a2⟩ := hA
  obtain ⟨c0, c1, c2⟩ := hB
  unfold mulB
  cases hv : validB R C n (vals Z) with
  | false =>
    rw [hv] at hs1
    clear hv
    go_enter Try.func95, Try.ntmps95
    go_wp2
    go_quiet (first | (go_at_call 66; with_reducible exact Calls.quiet_of (hs1 _)))
    go_wp2
    go_ret
    exact ⟨rfl, _, rfl⟩
  | true =>
    cases hv2 : validB R2 C2 n2 (vals Y) with
    | false =>
      rw [hv] at hs1
      rw [hv2] at hs2
      clear hv hv2
      go_enter Try.func95, Try.ntmps95
      go_wp2
      go_quiet (first | (go_at_call 66; with_reducible exact Calls.quiet_of (hs1 _)) | (go_at_call 66; with_reducible exact Calls.quiet_of (hs2 _)))
      go_wp2
      go_ret
      exact ⟨rfl, _, rfl⟩
    | true =>
      rw [hv] at hs1
      rw [hv2] at hs2
      clear hv hv2
      by_cases he : C = R2
      · rw [decide_eq_true he]
        have hd : (C == R2) = true := beq_iff_eq.2 he
        have he' := Lib.hid he
        clear he
        go_enter Try.func95, Try.ntmps95
        go_wp2
        go_quiet (first | (go_at_call 66; with_reducible exact Calls.quiet_of (hs1 _)) | (go_at_call 66; with_reducible exact Calls.quiet_of (hs2 _)))
        go_wp2
        go_ret
        exact ⟨rfl, _, rfl⟩
      · rw [decide_eq_false he]
        have hd : (C == R2) = false := beq_eq_false_iff_ne.2 he
        have he' := Lib.hid he
        clear he
        go_enter Try.func95, Try.ntmps95
        go_wp2
        go_quiet (first | (go_at_call 66; with_reducible exact Calls.quiet_of (hs1 _)) | (go_at_call 66; with_reducible exact Calls.quiet_of (hs2 _)))
        go_wp2
        go_ret
        exact ⟨rfl, _, rfl⟩
/-- What a region keeps that reads a side of each of two boxes beside what makes memory. -/
theorem heldP {w0 W w' : World} {p q : Nat} {u0 u1 : Value} (hs : W.cell? ⟨p, 0, none⟩ = some u0 ∧ W.cell? ⟨q, 1, none⟩ = some u1 ∧ Below w0.heap.size w0 W) (hb : Below W.heap.size W w') (l : p < w0.heap.size) (l2 : q < w0.heap.size) :
    w'.cell? ⟨p, 0, none⟩ = some u0 ∧ w'.cell? ⟨q, 1, none⟩ = some u1 ∧ Below w0.heap.size w0 w' := by
  obtain ⟨h0, h1, h2⟩ := hs
  have e1 : p < W.heap.size := Nat.lt_of_lt_of_le l h2.size
  have e2 : q < W.heap.size := Nat.lt_of_lt_of_le l2 h2.size
  exact ⟨(hb.cell (p := ⟨p, 0, none⟩) e1).trans h0, (hb.cell (p := ⟨q, 1, none⟩) e2).trans h1, h2.trans (hb.mono h2.size)⟩
theorem heldPb {w0 w' : World} {p q : Nat} {u0 u1 : Value} (h0 : w0.cell? ⟨p, 0, none⟩ = some u0) (h1 : w0.cell? ⟨q, 1, none⟩ = some u1) (l : p < w0.heap.size) (l2 : q < w0.heap.size) (hb : Below w0.heap.size w0 w') :
    w'.cell? ⟨p, 0, none⟩ = some u0 ∧ w'.cell? ⟨q, 1, none⟩ = some u1 ∧ Below w0.heap.size w0 w' :=
  ⟨(hb.cell (p := ⟨p, 0, none⟩) l).trans h0, (hb.cell (p := ⟨q, 1, none⟩) l2).trans h1, hb⟩
set_option maxRecDepth 20000 in
set_option maxHeartbeats 4000000 in
theorem l02Mul_any (pa pb r c k N1 N2 N p1 o1 d1 p2 o2 d2 : Nat) (Z Y : Nat → Nat) (w : World) (hr1 : 1 ≤ r) (hr : r ≤ 12) (hc1 : 1 ≤ c) (hc : c ≤ 12) (hk1 : 1 ≤ k) (hk : k ≤ 12) (hN1 : N1 = r * c) (hN2 : N2 = c * k) (hN : N = r * k)
    (hpa : pa < w.heap.size) (hpb : pb < w.heap.size) (hA : Box w pa r c (some ⟨p1, o1, none⟩) N1 d1) (hB : Box w pb c k (some ⟨p2, o2, none⟩) N2 d2)
    (hfa : allFin (vals Z) N1 = true) (hfb : allFin (vals Y) N2 = true) (h : FS .f32 w (some ⟨p1, o1, none⟩) N1 d1 Z) (h2 : FS .f32 w (some ⟨p2, o2, none⟩) N2 d2 Y) :
    Calls Try.prog 96 #[.pointer (some ⟨pa, 0, none⟩), .pointer (some ⟨pb, 0, none⟩)] w (NewRead w r k N (mulV c k Z Y)) := by
  have HN1 := Lib.hid hN1
  have HN2 := Lib.hid hN2
  have HFA := Lib.hid hfa
  have HFB := Lib.hid hfb
  have h144 : N ≤ 144 := by have := sides_le hr hk; omega
  obtain ⟨VV, hVV⟩ : ∃ VV, VV = mulV c k Z Y := ⟨_, rfl⟩
  rw [← hVV]
  have HVV := Lib.hid hVV
  obtain ⟨x0, x1, x2⟩ := hA
  obtain ⟨v0, v1, v2⟩ := hB
  clear hN1 hN2 hfa hfb hVV
  go_enter Try.func96, Try.ntmps96
  go_wp2_with fail
  go_region_held3 (fun w' => w'.cell? ⟨pa, 0, none⟩ = some (.int .i64 r) ∧ w'.cell? ⟨pb, 1, none⟩ = some (.int .i64 k) ∧ Below w.heap.size w w')
    (first | exact ⟨x0, v1, (by first | exact (Below.refl _ _).drew | exact (below_drewN (Below.refl _ _) _).drew)⟩ | exact heldP (by assumption) (by assumption) hpa hpb | (refine heldPb x0 v1 hpa hpb ?_; (repeat first | (with_reducible exact B1) | (with_reducible exact Below.refl _ _) | (with_reducible refine Below.setCell ?_ (by first | exact Nat.le_refl _ | (simp; done) | (simp; omega) | omega) _) | (with_reducible refine Below.alloc ?_ (by first | exact Nat.le_refl _ | (simp; done) | (simp; omega) | omega) _) | (with_reducible refine below_drewN ?_ _) | (with_reducible refine Below.drew ?_)); done) | (refine heldPb x0 v1 hpa hpb ?_; (repeat first | (with_reducible exact Below.refl _ _) | (with_reducible exact Below.refl _ _) | (with_reducible refine Below.setCell ?_ (by first | exact Nat.le_refl _ | (simp; done) | (simp; omega) | omega) _) | (with_reducible refine Below.alloc ?_ (by first | exact Nat.le_refl _ | (simp; done) | (simp; omega) | omega) _) | (with_reducible refine below_drewN ?_ _) | (with_reducible refine Below.drew ?_)); done))
    (first | (go_at_call 135; refine (l02Blank_any _ _ _).mono ?_; rintro e w1 ⟨g, rfl, o1, b1⟩; have B1 : Below w.heap.size w w1 := Below.trans (by repeat first | (with_reducible exact Below.refl _ _) | (with_reducible refine Below.setCell ?_ (by first | exact Nat.le_refl _ | (simp; done) | (simp; omega) | omega) _) | (with_reducible refine Below.alloc ?_ (by first | exact Nat.le_refl _ | (simp; done) | (simp; omega) | omega) _) | (with_reducible refine below_drewN ?_ _) | (with_reducible refine Below.drew ?_)) (b1.mono (by simp [World.drew] <;> omega)); have s1 : w.heap.size + 1 ≤ w1.heap.size := (by have hh := b1.size; (try simp [World.drew] at hh); omega); obtain ⟨hd1, hf1⟩ := bcell b1))
  have hB : Build w w1.heap.size w.heap.size r k 0 VV _ (some ⟨g, 0, none⟩) 0 [] := Build.start1 (T1 := 0) (T2 := 26) (by simp [World.drew]) b1 (by refine ⟨?_, ?_, ?_⟩ <;> simp [go_sem]) (by intro i; simp [go_sem]) (by repeat first | (with_reducible exact Below.refl _ _) | (with_reducible refine Below.setCell ?_ (by first | exact Nat.le_refl _ | (simp; done) | (simp; omega) | omega) _) | (with_reducible refine Below.alloc ?_ (by first | exact Nat.le_refl _ | (simp; done) | (simp; omega) | omega) _) | (with_reducible refine below_drewN ?_ _) | (with_reducible refine Below.drew ?_)) o1
  generalize hob : w1.heap.size = ob at hB ⊢
  rotate_left
  have hB : Build w (w.heap.size + 1) w.heap.size r k 0 VV _ (some ⟨g, 0, none⟩) 0 [] := Build.start2 (by simp [World.drew]) b1 (by refine ⟨?_, ?_, ?_⟩ <;> simp [go_sem]) (by intro i; simp [go_sem]) (by refine ⟨?_, ?_, ?_⟩ <;> simp [go_sem]) (by intro i; simp [go_sem]) (by repeat first | (with_reducible exact Below.refl _ _) | (with_reducible refine Below.setCell ?_ (by first | exact Nat.le_refl _ | (simp; done) | (simp; omega) | omega) _) | (with_reducible refine Below.alloc ?_ (by first | exact Nat.le_refl _ | (simp; done) | (simp; omega) | omega) _) | (with_reducible refine below_drewN ?_ _) | (with_reducible refine Below.drew ?_)) o1
  generalize hob : w.heap.size + 1 = ob at hB ⊢
  rotate_left
  all_goals
    clear hob o1 hd1 hf1 b1 B1 s1
    have HN := Lib.hid hN
    have he : (r : Int) * (k : Int) = ((N : Nat) : Int) := by rw [hN, Int.natCast_mul]
    clear hN
    go_wp2
    go_loopw [6] (fun i wr => ∃ (j : Nat) (a : Option Addr) (cp : Nat) (xs : List Value), j ≤ N ∧ i = .int .i64 j ∧ Build w ob w.heap.size r k j VV wr a cp xs) (fun i _ => N - (intOf i).toNat)
    case atStart => exact ⟨0, _, _, _, Nat.zero_le _, rfl, hB⟩
    case round =>
      obtain ⟨j, a, cp, xs, hj, rfl, hkk⟩ := hrel
      clear hB
      have q0 := (hkk.bel.cell (p := ⟨pa, 0, none⟩) hpa).trans x0
      have q1 := (hkk.bel.cell (p := ⟨pa, 1, none⟩) hpa).trans x1
      have q2 := (hkk.bel.cell (p := ⟨pa, 2, none⟩) hpa).trans x2
      have t0 := (hkk.bel.cell (p := ⟨pb, 0, none⟩) hpb).trans v0
      have t1 := (hkk.bel.cell (p := ⟨pb, 1, none⟩) hpb).trans v1
      have t2 := (hkk.bel.cell (p := ⟨pb, 2, none⟩) hpb).trans v2
      by_cases hlt : j < N
      · have hd : decide ((j : Int) < (N : Int)) = true := decide_eq_true (by omega)
        have hmod : j % k < k := Nat.mod_lt _ hk1
        have hdiv : j / k < r := Nat.div_lt_of_lt_mul (by rw [Nat.mul_comm, ← HN.out]; exact hlt)
        have hr0 : ¬ (k = 0) := by omega
        have ht1 : Int.tmod (j : Int) (k : Int) = (j : Int) % (k : Int) := Int.tmod_eq_emod_of_nonneg (by omega)
        have ht2 : Int.tdiv (j : Int) (k : Int) = (j : Int) / (k : Int) := Int.tdiv_eq_ediv_of_nonneg (by omega)
        have e1 : ((j % k : Nat) : Int) = (j : Int) % (k : Int) := Int.natCast_emod _ _
        have e2 : ((j / k : Nat) : Int) = (j : Int) / (k : Int) := Int.natCast_ediv _ _
        have ht3 : IntKind.i64.wrap ((j : Int) / (k : Int)) = (j : Int) / (k : Int) := IntWalk.i64_in _ (by rw [← e2]; have h5 := Nat.div_le_self j k; generalize j / k = x at h5; omega)
        have FA := h.below hkk.bel (Nat.le_refl _)
        have FB := h2.below hkk.bel (Nat.le_refl _)
        have hAtA : ∀ q m, q < c → Calls Try.prog 105 #[.pointer (some ⟨pa, 0, none⟩), .int .i64 ((j : Int) / (k : Int)), .int .i64 q] (wr.drewN m) fun e w' => e = .returned (.float .f32 (Z (j / k * c + q))) ∧ ∃ x, w' = (wr.drewN m).drewN x := by
          intro q m hq
          have hh := specAt_any pa p1 o1 r c N1 d1 (j / k) q Z (wr.drewN m) hr hc HN1.out ⟨q0, q1, q2⟩ (FS.drewN FA) hdiv hq
          rw [e2] at hh
          exact hh
        have hAtB : ∀ q m, q < c → Calls Try.prog 105 #[.pointer (some ⟨pb, 0, none⟩), .int .i64 q, .int .i64 ((j : Int) % (k : Int))] (wr.drewN m) fun e w' => e = .returned (.float .f32 (Y (q * k + j % k))) ∧ ∃ x, w' = (wr.drewN m).drewN x := by
          intro q m hq
          have hh := specAt_any pb p2 o2 c k N2 d2 q (j % k) Y (wr.drewN m) hc hk HN2.out ⟨t0, t1, t2⟩ (FS.drewN FB) hq hmod
          rw [e1] at hh
          exact hh
        have hmul : ∀ q, q < c → ∃ rm, FloatKind.f32.format.mul (Z (j / k * c + q)) (Y (q * k + j % k)) = some rm ∧ FV .f32 rm (fop .mul .f32 (cn .f32 (Z (j / k * c + q))) (cn .f32 (Y (q * k + j % k)))) := fun q hq =>
          mul_fin (allFin_lt (V := vals Z) HFA.out (by rw [HN1.out]; exact place_lt hdiv hq)) (allFin_lt (V := vals Y) HFB.out (by rw [HN2.out]; exact place_lt hq hmod))
        obtain ⟨AA, hAA⟩ : ∃ AA : Nat → Option Nat, AA = vals fun i => Z (j / k * c + i) := ⟨_, rfl⟩
        obtain ⟨BB, hBB⟩ : ∃ BB : Nat → Option Nat, BB = vals fun i => Y (i * k + j % k) := ⟨_, rfl⟩
        have hVj : Hid (dotG AA BB c = VV j) := Lib.hid (by rw [HVV.out, hAA, hBB]; rfl)
        have hAB : ∀ q, fop .mul .f32 (cn .f32 (Z (j / k * c + q))) (cn .f32 (Y (q * k + j % k))) = fop .mul .f32 (AA q) (BB q) := fun q => by rw [hAA, hBB]; rfl
        have HK := Lib.hid hkk
        clear e1 e2 hkk hAA hBB FA FB
        go_wp2
        go_quiet (fail)
        go_wp2
        go_loopw [7, 8] (fun s i wr2 => ∃ q m rr : Nat, q ≤ c ∧ i = .int .i64 q ∧ s = .float .f32 rr ∧ FV .f32 rr (dotG AA BB q) ∧ wr2 = wr.drewN m) (fun _ i _ => c - (intOf i).toNat)
        case atStart => exact ⟨0, _, 0, Nat.zero_le _, rfl, rfl, FV.lit (by kernel_rfl) (by kernel_rfl), rfl⟩
        case round =>
          obtain ⟨q, m0, rr, hq, rfl, rfl, hrr, rfl⟩ := hrel
          by_cases hlt2 : q < c
          · obtain ⟨rm, hrm, frm⟩ := hmul q hlt2
            have frm' : FV .f32 rm (fop .mul .f32 (AA q) (BB q)) := by rw [← hAB]; exact frm
            have hmr : ∀ W : World, (binOp .mul 38 (.float .f32 (Z (j / k * c + q))) (.float .f32 (Y (q * k + j % k)))).run Try.prog W = .ok (.float .f32 rm) W := fun W => run_float_arith W .mul _ .f32 _ _ _ hrm
            have hA2 := fun m => hAtA q m hlt2
            have hB2 := fun m => hAtB q m hlt2
            generalize Z (j / k * c + q) = za at hmr hA2
            generalize Y (q * k + j % k) = yb at hmr hB2
            clear hrm frm hmul hAtA hAtB
            go_wp2
            refine wp_region_kinds (fun w' => ∃ m, w' = wr.drewN m) (fun j => if j = 20 then 1 else 0) 21 ⟨m0 + 1, drewN_two⟩ (by kernel_rfl) (by kernel_rfl) (by kernel_rfl) ?_
            simp only [List.take_succ_cons, List.take_zero, List.drop_succ_cons, List.drop_zero]
            ((with_reducible refine wpKinds_plain ?hwant ?hkind ?hplain (fun K hK => ?_)); (case hwant => first | (simp [Region.wanted, yielded]; done) | rfl); (case hkind => rfl); (case hplain => rfl); go_big_quiet_op; (first | refine hK _ ?_ | refine ⟨_, fun _ _ => rfl, hK _ ?_⟩); clear hK K)
            ((with_reducible refine wpKinds_plain ?hwant ?hkind ?hplain (fun K hK => ?_)); (case hwant => first | (simp [Region.wanted, yielded]; done) | rfl); (case hkind => rfl); (case hplain => rfl); go_big_quiet_op; (first | refine hK _ ?_ | refine ⟨_, fun _ _ => rfl, hK _ ?_⟩); clear hK K)
            ((with_reducible refine wpKinds_plain ?hwant ?hkind ?hplain (fun K hK => ?_)); (case hwant => first | (simp [Region.wanted, yielded]; done) | rfl); (case hkind => rfl); (case hplain => rfl); go_big_quiet_op; (first | refine hK _ ?_ | refine ⟨_, fun _ _ => rfl, hK _ ?_⟩); clear hK K)
            ((with_reducible refine wpKinds_plain ?hwant ?hkind ?hplain (fun K hK => ?_)); (case hwant => first | (simp [Region.wanted, yielded]; done) | rfl); (case hkind => rfl); (case hplain => rfl); go_big_quiet_op; (first | refine hK _ ?_ | refine ⟨_, fun _ _ => rfl, hK _ ?_⟩); clear hK K)
            ((with_reducible refine wpKinds_run (.pointer (some ⟨pb, 0, none⟩)) ?hwant ?hkind ?hrun ?_); (case hwant => first | (simp [Region.wanted, yielded]; done) | rfl); (case hkind => rfl); (case hrun => intro W hW; simp [go_sem, BigFrame.eval_const, BigFrame.eval_global, BigFrame.eval_func]); simp only [Act.put, List.setIfInBounds_toArray, List.set_cons_succ, List.set_cons_zero])
            ((with_reducible refine wpKinds_plain ?hwant ?hkind ?hplain (fun K hK => ?_)); (case hwant => first | (simp [Region.wanted, yielded]; done) | rfl); (case hkind => rfl); (case hplain => rfl); go_big_quiet_op; (first | refine hK _ ?_ | refine ⟨_, fun _ _ => rfl, hK _ ?_⟩); clear hK K)
            (refine wpKinds_run (.int .i64 k) rfl rfl (by rintro W ⟨m, rfl⟩; simp [go_sem, t1]) ?_; simp only [Act.put, List.setIfInBounds_toArray, List.set_cons_succ, List.set_cons_zero])
            (refine wpKinds_run (.int .i64 ((j : Int) / (k : Int))) rfl rfl (by rintro W ⟨m, rfl⟩; simp [go_sem, hr0, ht2, ht3]) ?_; simp only [Act.put, List.setIfInBounds_toArray, List.set_cons_succ, List.set_cons_zero])
            ((with_reducible refine wpKinds_plain ?hwant ?hkind ?hplain (fun K hK => ?_)); (case hwant => first | (simp [Region.wanted, yielded]; done) | rfl); (case hkind => rfl); (case hplain => rfl); go_big_quiet_op; (first | refine hK _ ?_ | refine ⟨_, fun _ _ => rfl, hK _ ?_⟩); clear hK K)
            (refine wpKinds_call (f := 105) (args := #[.pointer (some ⟨pa, 0, none⟩), .int .i64 ((j : Int) / (k : Int)), .int .i64 q]) (.float .f32 za) rfl rfl (by intro W; simp [go_sem, BigFrame.eval_const, BigFrame.eval_global, BigFrame.eval_func]) (by kernel_rfl) (by rintro W ⟨m, rfl⟩; exact (hA2 m).mono fun e w' hh => ⟨hh.1, by obtain ⟨_, x, hx⟩ := hh; exact ⟨m + x, hx.trans drewN_two⟩⟩) ?_; simp only [Act.put, List.setIfInBounds_toArray, List.set_cons_succ, List.set_cons_zero])
            ((with_reducible refine wpKinds_plain ?hwant ?hkind ?hplain (fun K hK => ?_)); (case hwant => first | (simp [Region.wanted, yielded]; done) | rfl); (case hkind => rfl); (case hplain => rfl); go_big_quiet_op; (first | refine hK _ ?_ | refine ⟨_, fun _ _ => rfl, hK _ ?_⟩); clear hK K)
            ((with_reducible refine wpKinds_plain ?hwant ?hkind ?hplain (fun K hK => ?_)); (case hwant => first | (simp [Region.wanted, yielded]; done) | rfl); (case hkind => rfl); (case hplain => rfl); go_big_quiet_op; (first | refine hK _ ?_ | refine ⟨_, fun _ _ => rfl, hK _ ?_⟩); clear hK K)
            ((with_reducible refine wpKinds_plain ?hwant ?hkind ?hplain (fun K hK => ?_)); (case hwant => first | (simp [Region.wanted, yielded]; done) | rfl); (case hkind => rfl); (case hplain => rfl); go_big_quiet_op; (first | refine hK _ ?_ | refine ⟨_, fun _ _ => rfl, hK _ ?_⟩); clear hK K)
            ((with_reducible refine wpKinds_plain ?hwant ?hkind ?hplain (fun K hK => ?_)); (case hwant => first | (simp [Region.wanted, yielded]; done) | rfl); (case hkind => rfl); (case hplain => rfl); go_big_quiet_op; (first | refine hK _ ?_ | refine ⟨_, fun _ _ => rfl, hK _ ?_⟩); clear hK K)
            ((with_reducible refine wpKinds_run (.pointer (some ⟨pb, 0, none⟩)) ?hwant ?hkind ?hrun ?_); (case hwant => first | (simp [Region.wanted, yielded]; done) | rfl); (case hkind => rfl); (case hrun => intro W hW; simp [go_sem, BigFrame.eval_const, BigFrame.eval_global, BigFrame.eval_func]); simp only [Act.put, List.setIfInBounds_toArray, List.set_cons_succ, List.set_cons_zero])
            ((with_reducible refine wpKinds_plain ?hwant ?hkind ?hplain (fun K hK => ?_)); (case hwant => first | (simp [Region.wanted, yielded]; done) | rfl); (case hkind => rfl); (case hplain => rfl); go_big_quiet_op; (first | refine hK _ ?_ | refine ⟨_, fun _ _ => rfl, hK _ ?_⟩); clear hK K)
            (refine wpKinds_run (.int .i64 k) rfl rfl (by rintro W ⟨m, rfl⟩; simp [go_sem, t1]) ?_; simp only [Act.put, List.setIfInBounds_toArray, List.set_cons_succ, List.set_cons_zero])
            (refine wpKinds_run (.int .i64 ((j : Int) % (k : Int))) rfl rfl (by rintro W ⟨m, rfl⟩; simp [go_sem, hr0, ht1]) ?_; simp only [Act.put, List.setIfInBounds_toArray, List.set_cons_succ, List.set_cons_zero])
            (refine wpKinds_call (f := 105) (args := #[.pointer (some ⟨pb, 0, none⟩), .int .i64 q, .int .i64 ((j : Int) % (k : Int))]) (.float .f32 yb) rfl rfl (by intro W; simp [go_sem, BigFrame.eval_const, BigFrame.eval_global, BigFrame.eval_func]) (by kernel_rfl) (by rintro W ⟨m, rfl⟩; exact (hB2 m).mono fun e w' hh => ⟨hh.1, by obtain ⟨_, x, hx⟩ := hh; exact ⟨m + x, hx.trans drewN_two⟩⟩) ?_; simp only [Act.put, List.setIfInBounds_toArray, List.set_cons_succ, List.set_cons_zero])
            (refine wpKinds_run (.float .f32 rm) rfl rfl (by intro W hW; simp [go_sem, eqGuard, hmr]) ?_; simp only [Act.put, List.setIfInBounds_toArray, List.set_cons_succ, List.set_cons_zero])
            refine wpKinds_farith (fun W m hW => by obtain ⟨x, rfl⟩ := hW; exact ⟨x + m, drewN_two⟩) rfl rfl _ _ _ _ _ rfl rfl _ _ _ rfl rfl hrr frm' (fun r5 hr5 => ?_)
            simp only [Act.put, List.setIfInBounds_toArray, List.set_cons_succ, List.set_cons_zero]
            refine wpKinds_nil ?_
            rintro w5 ⟨m5, rfl⟩
            clear hrr frm' hmr hA2 hB2
            go_wp2
            go_roundw
            case rel => exact ⟨q + 1, _, _, by omega, by go_num, rfl, FV.of_eq hr5 (dotG_succ _ _ _), rfl⟩
            case measure => simp [intOf]; omega
          · obtain rfl : q = c := by omega
            have hrr' := FV.of_eq hrr hVj.out
            obtain ⟨i0, hi, hz0, hz1, hz2⟩ := info_parts info32
            obtain ⟨y0, y1, y2⟩ := HK.out.box
            have hice2 := HK.out.ice2
            have htop := HK.out.top
            have hlo := HK.out.lo
            have hmid := HK.out.mid
            clear hrr hmul hAtA hAtB hAB
            go_wp2_with (first
              | (at_builtin
                 refine wpList_append_lies _ rfl _ _ _ rfl w.heap.size 38 i0 _ 1 4 Try.underlying22 hi hz0 hz1 hz2 rfl (by omega) (.slice a j cp) j xs rfl (by exact ownsRow_below HK.out.own (by repeat first | (with_reducible exact Below.refl _ _) | (with_reducible refine Below.setCell ?_ (by first | exact Nat.le_refl _ | (simp; done) | (simp; omega) | omega) _) | (with_reducible refine Below.alloc ?_ (by first | exact Nat.le_refl _ | (simp; done) | (simp; omega) | omega) _) | (with_reducible refine below_drewN ?_ _) | (with_reducible refine Below.drew ?_))) ⟨wr.heap.size, 0, none⟩ 1 1 [.float .f32 rr] rfl rfl
                   (by exact World.news_of_block (cs := #[.float .f32 rr]) (t := 38) (fr := (0, 0)) (heap_alloc_new _ _)) (by simp [Value.oneCell']) (by omega) (by unfold maxLen; omega) (by omega) (by have := HK.out.bel.size; simp [World.drewN]; omega) (wr.heap.size + 1) (by simp [World.drewN]) ?_
                 intro gg cp2 w2 hown2 hgrow2 hat2 hlt3
                 have hbA := hlt3
                 have q3 := hgrow2.cell (a := ⟨ob, 2, none⟩) (v := .slice a j cp) ((World.cell?_alloc_lt (wr.drewN m0) _ ⟨ob, 2, none⟩ (by exact htop)).trans y2) (by intro e; exact (HK.out.far ob e.symm).1 rfl)
                 have q4 : w2.frozen? ⟨ob, 2, none⟩ = false := (World.frozen?_of_block (a := ⟨ob, 2, none⟩) (hgrow2.block ob (by have := HK.out.top; simp [World.drewN]; omega) (fun e => (HK.out.far ob e.symm).1 rfl))).trans (by rw [frozen?_alloc_cells]; exact hice2 2)
                 have hst := Lib.hid (HK.out.step (by repeat first | (with_reducible exact Below.refl _ _) | (with_reducible refine Below.setCell ?_ (by first | exact Nat.le_refl _ | (simp; done) | (simp; omega) | omega) _) | (with_reducible refine Below.alloc ?_ (by first | exact Nat.le_refl _ | (simp; done) | (simp; omega) | omega) _) | (with_reducible refine below_drewN ?_ _) | (with_reducible refine Below.drew ?_)) hown2 hgrow2 (by simpa [World.drewN] using hat2) hrr')))
            clear q3 q4 hown2 hgrow2 hat2 hlt3 hbA
            go_roundw
            case rel => exact ⟨j + 1, _, _, _, by omega, by go_num, hst.out⟩
            case measure => simp [intOf]; omega
      · obtain rfl : j = N := by omega
        obtain ⟨y0, y1, y2⟩ := hkk.box
        obtain ⟨z0, z1, z2⟩ := hkk.res
        obtain ⟨Y', hY, hV⟩ := hkk.fs
        have B2 := hkk.bel
        have hice := hkk.ice
        have hlo := hkk.lo
        have hmid := hkk.mid
        have hfar : ∀ q, (∃ off, a = some ⟨q, off, none⟩) → q ≠ w.heap.size := by rintro q ⟨off, rfl⟩; exact (hkk.far q rfl).2
        have hlow : ∀ q off, a = some ⟨q, off, none⟩ → w.heap.size ≤ q := by rintro q off rfl; exact (hkk.own.lt q rfl).1
        have hd : decide ((j : Int) < (j : Int)) = false := decide_eq_false (by omega)
        clear hkk
        go_wp2
        go_quiet (fail)
        go_wp2_with fail
        refine bodyPost_ret (v := .agg #[.int .i64 r, .int .i64 k, .slice a j cp]) (by simp [results, Try.results96, go_sem, y0, y1, y2, z0, z1, z2]) rfl ?_
        exact ⟨_, _, Y', rfl, FS.to hY (by simp [World.setCell]) (fun q hq => by have hf := hfar q hq; rw [Below.heap_setCell _ _ _ _ hf, Below.heap_setCell _ _ _ _ hf, Below.heap_setCell _ _ _ _ hf]; rfl), hlow, hV, (by repeat first | (with_reducible exact B2) | (with_reducible refine Below.setCell ?_ (by first | exact Nat.le_refl _ | (simp; done) | (simp; omega) | omega) _) | (with_reducible refine Below.alloc ?_ (by first | exact Nat.le_refl _ | (simp; done) | (simp; omega) | omega) _) | (with_reducible refine below_drewN ?_ _) | (with_reducible refine Below.drew ?_))⟩
set_option maxRecDepth 20000 in
set_option maxHeartbeats 1000000 in
theorem specMul_no (R C : Int) (a : Option Addr) (n c : Nat) (Z : Nat → Nat) (R2 C2 : Int) (b : Option Addr) (n2 d : Nat) (Y : Nat → Nat) (w : World) (hn : n ≤ 1048576) (hm : n2 ≤ 1048576) (h : FS .f32 w a n c Z) (h2 : FS .f32 w b n2 d Y)
    (hno : mulB R C n (vals Z) R2 C2 n2 (vals Y) = false) :
    Calls Try.prog 52 #[.agg #[.int .i64 R, .int .i64 C, .slice a n c], .agg #[.int .i64 R2, .int .i64 C2, .slice b n2 d]] w (MatBel false 0 0 0 (fun _ => none) w) := by
  have hcm := fun pa pb W q1 q2 q3 q4 => l02Fit_any pa pb R C a n c Z R2 C2 b n2 d Y W hn hm q1 q2 q3 q4
  rw [hno] at hcm
  clear hno
  go_enter Try.func52, Try.ntmps52
  go_wp2_with fail
  go_at_call 95
  refine (hcm w.heap.size (w.heap.size + 1) _ (by refine ⟨?_, ?_, ?_⟩ <;> simp [go_sem]) (by refine ⟨?_, ?_, ?_⟩ <;> simp [go_sem]) (h.below (by repeat first | (with_reducible exact Below.refl _ _) | (with_reducible refine Below.setCell ?_ (by first | exact Nat.le_refl _ | (simp; done) | (simp; omega) | omega) _) | (with_reducible refine Below.alloc ?_ (by first | exact Nat.le_refl _ | (simp; done) | (simp; omega) | omega) _) | (with_reducible refine below_drewN ?_ _) | (with_reducible refine Below.drew ?_)) (Nat.le_refl _)) (h2.below (by repeat first | (with_reducible exact Below.refl _ _) | (with_reducible refine Below.setCell ?_ (by first | exact Nat.le_refl _ | (simp; done) | (simp; omega) | omega) _) | (with_reducible refine Below.alloc ?_ (by first | exact Nat.le_refl _ | (simp; done) | (simp; omega) | omega) _) | (with_reducible refine below_drewN ?_ _) | (with_reducible refine Below.drew ?_)) (Nat.le_refl _))).mono ?_
  rintro e w1 ⟨rfl, m1, rfl⟩
  go_wp2_with fail
  refine bodyPost_ret (v := .tuple #[.agg #[.int .i64 0, .int .i64 0, .slice none 0 0], .bool false]) (by simp [results, Try.results52, go_sem]) rfl ?_
  exact ⟨none, 0, fun _ => 0, rfl, ⟨Nat.le_refl _, Nat.zero_le _, fun i hi => by omega⟩, fun i hi => by omega, (by repeat first | (with_reducible exact Below.refl _ _) | (with_reducible refine Below.setCell ?_ (by first | exact Nat.le_refl _ | (simp; done) | (simp; omega) | omega) _) | (with_reducible refine Below.alloc ?_ (by first | exact Nat.le_refl _ | (simp; done) | (simp; omega) | omega) _) | (with_reducible refine below_drewN ?_ _) | (with_reducible refine Below.drew ?_))⟩
set_option maxRecDepth 20000 in
set_option maxHeartbeats 2000000 in
theorem specMul_yes (r c k N1 N2 N p1 o1 d1 p2 o2 d2 : Nat) (Z Y : Nat → Nat) (w : World) (hr1 : 1 ≤ r) (hr : r ≤ 12) (hc1 : 1 ≤ c) (hc : c ≤ 12) (hk1 : 1 ≤ k) (hk : k ≤ 12) (hN1 : N1 = r * c) (hN2 : N2 = c * k) (hN : N = r * k)
    (hyes : mulB r c N1 (vals Z) c k N2 (vals Y) = true) (hfa : allFin (vals Z) N1 = true) (hfb : allFin (vals Y) N2 = true) (h : FS .f32 w (some ⟨p1, o1, none⟩) N1 d1 Z) (h2 : FS .f32 w (some ⟨p2, o2, none⟩) N2 d2 Y) :
    Calls Try.prog 52 #[.agg #[.int .i64 r, .int .i64 c, .slice (some ⟨p1, o1, none⟩) N1 d1], .agg #[.int .i64 c, .int .i64 k, .slice (some ⟨p2, o2, none⟩) N2 d2]] w (BelIf (allFin (mulV c k Z Y) N) r k N (mulV c k Z Y) w) := by
  have h144 : N ≤ 144 := by have := sides_le hr hk; omega
  have h1144 : N1 ≤ 144 := by have := sides_le hr hc; omega
  have h2144 : N2 ≤ 144 := by have := sides_le hc hk; omega
  have hcm := fun pa pb W q1 q2 q3 q4 => l02Fit_any pa pb r c (some ⟨p1, o1, none⟩) N1 d1 Z c k (some ⟨p2, o2, none⟩) N2 d2 Y W (by omega) (by omega) q1 q2 q3 q4
  rw [hyes] at hcm
  have hmu := fun pa pb W q1 q2 q3 q4 q5 q6 => l02Mul_any pa pb r c k N1 N2 N p1 o1 d1 p2 o2 d2 Z Y W hr1 hr hc1 hc hk1 hk hN1 hN2 hN q1 q2 q3 q4 hfa hfb q5 q6
  have HN := Lib.hid hN
  generalize mulV c k Z Y = VV at hmu ⊢
  clear hyes hN1 hN2 hN hfa hfb
  go_enter Try.func52, Try.ntmps52
  go_wp2_with fail
  go_at_call 95
  refine (hcm w.heap.size (w.heap.size + 1) _ (by refine ⟨?_, ?_, ?_⟩ <;> simp [go_sem]) (by refine ⟨?_, ?_, ?_⟩ <;> simp [go_sem]) (h.below (by repeat first | (with_reducible exact Below.refl _ _) | (with_reducible refine Below.setCell ?_ (by first | exact Nat.le_refl _ | (simp; done) | (simp; omega) | omega) _) | (with_reducible refine Below.alloc ?_ (by first | exact Nat.le_refl _ | (simp; done) | (simp; omega) | omega) _) | (with_reducible refine below_drewN ?_ _) | (with_reducible refine Below.drew ?_)) (Nat.le_refl _)) (h2.below (by repeat first | (with_reducible exact Below.refl _ _) | (with_reducible refine Below.setCell ?_ (by first | exact Nat.le_refl _ | (simp; done) | (simp; omega) | omega) _) | (with_reducible refine Below.alloc ?_ (by first | exact Nat.le_refl _ | (simp; done) | (simp; omega) | omega) _) | (with_reducible refine below_drewN ?_ _) | (with_reducible refine Below.drew ?_)) (Nat.le_refl _))).mono ?_
  rintro e w1 ⟨rfl, m1, rfl⟩
  clear hcm
  go_wp2_with fail
  go_at_call 96
  refine (hmu w.heap.size (w.heap.size + 1) _ (by simp [World.drewN]; omega) (by simp [World.drewN]) (by refine ⟨?_, ?_, ?_⟩ <;> simp [go_sem]) (by refine ⟨?_, ?_, ?_⟩ <;> simp [go_sem]) (h.below (by repeat first | (with_reducible exact Below.refl _ _) | (with_reducible refine Below.setCell ?_ (by first | exact Nat.le_refl _ | (simp; done) | (simp; omega) | omega) _) | (with_reducible refine Below.alloc ?_ (by first | exact Nat.le_refl _ | (simp; done) | (simp; omega) | omega) _) | (with_reducible refine below_drewN ?_ _) | (with_reducible refine Below.drew ?_)) (Nat.le_refl _)) (h2.below (by repeat first | (with_reducible exact Below.refl _ _) | (with_reducible refine Below.setCell ?_ (by first | exact Nat.le_refl _ | (simp; done) | (simp; omega) | omega) _) | (with_reducible refine Below.alloc ?_ (by first | exact Nat.le_refl _ | (simp; done) | (simp; omega) | omega) _) | (with_reducible refine below_drewN ?_ _) | (with_reducible refine Below.drew ?_)) (Nat.le_refl _))).mono ?_
  rintro e w3 ⟨g, cp, X, rfl, fX, hlow, hX, b3⟩
  have B3 : Below w.heap.size w w3 := Below.trans (by repeat first | (with_reducible exact Below.refl _ _) | (with_reducible refine Below.setCell ?_ (by first | exact Nat.le_refl _ | (simp; done) | (simp; omega) | omega) _) | (with_reducible refine Below.alloc ?_ (by first | exact Nat.le_refl _ | (simp; done) | (simp; omega) | omega) _) | (with_reducible refine below_drewN ?_ _) | (with_reducible refine Below.drew ?_)) (b3.mono (by simp [World.drewN]; omega))
  have s3 : w.heap.size + 1 + 1 + 1 ≤ w3.heap.size := by have := b3.size; simp [World.drewN] at this; omega
  have X3 : Box w3 (w.heap.size + 1 + 1) 0 0 none 0 0 ∧ ∀ i, w3.frozen? ⟨w.heap.size + 1 + 1, i, none⟩ = false := by
    obtain ⟨q, f⟩ := bcell b3
    refine ⟨⟨?_, ?_, ?_⟩, fun i => ?_⟩
    all_goals first | rw [q _ _ (by simp [World.drewN] <;> omega)] | rw [f _ _ (by simp [World.drewN] <;> omega)]
    all_goals simp [go_sem]
  obtain ⟨XR, IR⟩ := X3
  have hval : validB r k N (vals X) = allFin VV N := (validB_nat hr1 hr hk1 hk HN.out).trans (allFin_congr hX)
  have hfarg : ∀ q off, g = some ⟨q, off, none⟩ → q ≠ w.heap.size + 1 + 1 := by
    intro q off e
    have := hlow q off e
    simp [World.drewN] at this
    omega
  have HX := Lib.hid hX
  clear b3 hmu hX h h2
  cases hf : allFin VV N with
  | true =>
    rw [hf] at hval
    go_wp2_with fail
    go_at_call 53
    refine (specGive_yes r k g N cp X _ (by omega) fX hval).mono ?_
    rintro e w7 ⟨rfl, b7⟩
    obtain ⟨y0, y1, y2⟩ := XR.below b7 (by omega)
    have I7 : ∀ i, w7.frozen? ⟨w.heap.size + 1 + 1, i, none⟩ = false := fun i => (b7.frozen (p := ⟨w.heap.size + 1 + 1, i, none⟩) (by show w.heap.size + 1 + 1 < w3.heap.size; omega)).trans (IR i)
    have B7 := B3.trans (b7.mono B3.size)
    have fX7 := fX.below b7 (Nat.le_refl _)
    clear b7 B3 fX
    go_wp2_with fail
    refine bodyPost_ret (v := .tuple #[.agg #[.int .i64 r, .int .i64 k, .slice g N cp], .bool true]) (by simp [results, Try.results52, go_sem, y0, y1, y2]) rfl ?_
    exact BelIf.yes hf ⟨_, _, X, rfl, FS.to fX7 (by simp [World.setCell]) (fun q hq => by obtain ⟨off, e⟩ := hq; have hf := hfarg q off e; rw [Below.heap_setCell _ _ _ _ hf, Below.heap_setCell _ _ _ _ hf, Below.heap_setCell _ _ _ _ hf]), HX.out, (by repeat first | (with_reducible exact B7) | (with_reducible refine Below.setCell ?_ (by first | exact Nat.le_refl _ | (simp; done) | (simp; omega) | omega) _) | (with_reducible refine Below.alloc ?_ (by first | exact Nat.le_refl _ | (simp; done) | (simp; omega) | omega) _) | (with_reducible refine below_drewN ?_ _) | (with_reducible refine Below.drew ?_))⟩
  | false =>
    rw [hf] at hval
    go_wp2_with fail
    go_at_call 53
    refine (specGive_no r k g N cp X _ (by omega) fX hval).mono ?_
    rintro e w7 ⟨rfl, b7⟩
    obtain ⟨y0, y1, y2⟩ := XR.below b7 (by omega)
    have I7 : ∀ i, w7.frozen? ⟨w.heap.size + 1 + 1, i, none⟩ = false := fun i => (b7.frozen (p := ⟨w.heap.size + 1 + 1, i, none⟩) (by show w.heap.size + 1 + 1 < w3.heap.size; omega)).trans (IR i)
    have B7 := B3.trans (b7.mono B3.size)
    clear b7 B3 fX
    go_wp2_with fail
    refine bodyPost_ret (v := .tuple #[.agg #[.int .i64 0, .int .i64 0, .slice none 0 0], .bool false]) (by simp [results, Try.results52, go_sem, y0, y1, y2]) rfl ?_
    exact BelIf.no hf ⟨none, 0, fun _ => 0, rfl, ⟨Nat.le_refl _, Nat.zero_le _, fun i hi => by omega⟩, fun i hi => by omega, (by repeat first | (with_reducible exact B7) | (with_reducible refine Below.setCell ?_ (by first | exact Nat.le_refl _ | (simp; done) | (simp; omega) | omega) _) | (with_reducible refine Below.alloc ?_ (by first | exact Nat.le_refl _ | (simp; done) | (simp; omega) | omega) _) | (with_reducible refine below_drewN ?_ _) | (with_reducible refine Below.drew ?_))⟩
end Go.Proofs.Ytmjlhmbnaifhaac
