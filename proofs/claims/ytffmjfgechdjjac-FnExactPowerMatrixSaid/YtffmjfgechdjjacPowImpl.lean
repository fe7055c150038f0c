/- Helper: powers of a square, of the program. Conditions: none. -/
import Derived.Test.YtffmjfgechdjjacPowFrame
set_option linter.unusedVariables false
set_option linter.unusedSimpArgs false
namespace Go.Proofs.Ytffmjfgechdjjac
open Go.RowKit

theorem allFin_all {V : Nat → Option Nat} : ∀ {n : Nat}, (∀ i, i < n → finite .f32 (V i) = true) → allFin V n = true
  | 0, _ => rfl
  | n + 1, h => by
    have h1 := allFin_all (V := V) (n := n) fun i hi => h i (by omega)
    simp only [allFin, h1, h n (by omega), Bool.and_self]
theorem unit_fin (c n : Nat) : allFin (unitV c) n = true := allFin_all fun i _ => by
  show finite .f32 (cn .f32 (unitZ c c i)) = true
  unfold unitZ
  by_cases h : i / c = i % c ∧ i / c < c
  · rw [if_pos h]; decide +kernel
  · rw [if_neg h]; decide +kernel
theorem mulB_sq {c n : Nat} {U V : Nat → Option Nat} (h1 : 1 ≤ c) (h12 : c ≤ 12) (hn : n = c * c) (hu : allFin U n = true) (hv : allFin V n = true) : mulB c c n U c c n V = true := by
  unfold mulB
  rw [validB_nat h1 h12 h1 h12 hn, validB_nat h1 h12 h1 h12 hn, hu, hv, decide_eq_true rfl]; rfl
theorem implMulSq (c n p1 o1 d1 p2 o2 d2 : Nat) (Z Y : Nat → Nat) (U V : Nat → Option Nat) (w : World) (h1 : 1 ≤ c) (h12 : c ≤ 12) (hn : n = c * c) (hu : ∀ i, i < n → vals Z i = U i) (hv : ∀ i, i < n → vals Y i = V i) (hfu : allFin U n = true) (hfv : allFin V n = true)
    (h : FS .f32 w (some ⟨p1, o1, none⟩) n d1 Z) (h2 : FS .f32 w (some ⟨p2, o2, none⟩) n d2 Y) :
    Calls Try.prog 53 #[.agg #[.int .i64 c, .int .i64 c, .slice (some ⟨p1, o1, none⟩) n d1], .agg #[.int .i64 c, .int .i64 c, .slice (some ⟨p2, o2, none⟩) n d2]] w (OwnIf (allFin (mulW c U V) n) c c n (mulW c U V) w) := by
  have hh := implMul_yes c c c n n n p1 o1 d1 p2 o2 d2 Z Y w h1 h12 h1 h12 h1 h12 hn hn hn (mulB_sq h1 h12 hn ((allFin_congr hu).trans hfu) ((allFin_congr hv).trans hfv)) h h2
  have e : allFin (mulV c c Z Y) n = allFin (mulW c U V) n := allFin_congr fun t ht => mulW_congr hn hu hv ht
  rw [e] at hh
  cases hf : allFin (mulW c U V) n with
  | false => rw [hf] at hh; exact hh
  | true =>
    rw [hf] at hh
    refine hh.mono fun e w' q => ?_
    obtain ⟨g, d, X, e1, o, v, b⟩ := q
    exact ⟨g, d, X, e1, o, fun i hi => (v i hi).trans (mulW_congr hn hu hv hi), b⟩
set_option maxRecDepth 20000 in
set_option maxHeartbeats 8000000 in
theorem implPow_yes (c n b off cap p0 : Nat) (Z : Nat → Nat) (w : World) (OK : Bool) (VV : Nat → Option Nat) (h1 : 1 ≤ c) (h12 : c ≤ 12) (hn : n = c * c) (hsq : squareB c c n (vals Z) = true) (hfin : allFin (vals Z) n = true) (hp : p0 ≤ 64)
    (ht : pwF c n 7 p0 (unitV c) (vals Z) = (OK, VV)) (h : FS .f32 w (some ⟨b, off, none⟩) n cap Z) :
    Calls Try.prog 19 #[.agg #[.int .i64 c, .int .i64 c, .slice (some ⟨b, off, none⟩) n cap], .int .i64 p0] w (OwnIf OK c c n VV w) := by
  have hN := Lib.hid hn
  have hn144 : n ≤ 144 := by have := sides_le h12 h12; omega
  have hpos : 0 < n := by rw [hn]; exact Nat.mul_pos h1 h1
  have HSQ := Lib.hid hsq
  have HFIN := Lib.hid hfin
  have HT := Lib.hid ht
  obtain ⟨_, _, e, hbw, _, _⟩ := h.at hpos
  simp only [Option.some.injEq, Addr.mk.injEq, and_true] at e
  obtain ⟨rfl, rfl⟩ := e
  have hd1 : decide ((p0 : Int) < 0) = false := decide_eq_false (by omega)
  have hd2 : decide ((64 : Int) < (p0 : Int)) = false := decide_eq_false (by omega)
  clear hn hsq hfin ht
  go_enter Try.func19, Try.ntmps19
  go_wp2_with fail
  generalize hwa : w.alloc (.cells #[.int .i64 c, .int .i64 c, .slice (some ⟨b, off, none⟩) n cap] 26) = wa
  have Ba : Below w.heap.size w wa := by rw [← hwa]; exact (by repeat first | (with_reducible exact Below.refl _ _) | (with_reducible refine Below.setCell ?_ (by first | exact Nat.le_refl _ | (simp; done) | (simp; omega) | omega) _) | (with_reducible refine Below.alloc ?_ (by first | exact Nat.le_refl _ | (simp; done) | (simp; omega) | omega) _) | (with_reducible refine below_drewN ?_ _) | (with_reducible refine Below.drew ?_))
  have sa : wa.heap.size = w.heap.size + 1 := by rw [← hwa]; simp
  have Xa : Box wa w.heap.size c c (some ⟨b, off, none⟩) n cap := by rw [← hwa]; exact Box.new _ _ _ _ _ _ _
  have Ia : ∀ i, wa.frozen? ⟨w.heap.size, i, none⟩ = false := fun i => by rw [← hwa]; simp [go_sem]
  have Fa := h.below Ba (Nat.le_refl _)
  rw [← sa]
  clear hwa h
  have la : w.heap.size < wa.heap.size := by omega
  go_at_call 51
  refine (implSquare_any c c _ n cap Z _ (by omega) (Fa.below (by repeat first | (with_reducible exact Below.refl _ _) | (with_reducible refine Below.setCell ?_ (by first | exact Nat.le_refl _ | (simp; done) | (simp; omega) | omega) _) | (with_reducible refine Below.alloc ?_ (by first | exact Nat.le_refl _ | (simp; done) | (simp; omega) | omega) _) | (with_reducible refine below_drewN ?_ _) | (with_reducible refine Below.drew ?_)) (Nat.le_refl _))).mono ?_
  rintro e w2 ⟨rfl, b1⟩
  rw [HSQ.out]
  have s2 : wa.heap.size + 1 ≤ w2.heap.size := by have := b1.size; simpa using this
  have B02 : Below wa.heap.size wa w2 := Below.trans (by repeat first | (with_reducible exact Below.refl _ _) | (with_reducible refine Below.setCell ?_ (by first | exact Nat.le_refl _ | (simp; done) | (simp; omega) | omega) _) | (with_reducible refine Below.alloc ?_ (by first | exact Nat.le_refl _ | (simp; done) | (simp; omega) | omega) _) | (with_reducible refine below_drewN ?_ _) | (with_reducible refine Below.drew ?_)) (b1.mono (by simp))
  have XR2 : Box w2 wa.heap.size 0 0 none 0 0 := (Box.new _ _ _ _ _ _ _).below b1 (by simp)
  have IR2 : ∀ i, w2.frozen? ⟨wa.heap.size, i, none⟩ = false := fun i => (b1.frozen (p := ⟨wa.heap.size, i, none⟩) (by simp)).trans (by simp [go_sem])
  obtain ⟨x0, x1, x2⟩ := Xa.below B02 la
  clear b1
  go_wp2_with fail
  go_at_call 52
  refine (implUnit_yes c n _ h1 h12 hN.out).mono ?_
  rintro e w3 ⟨ga, d, Y, rfl, oY, vY, b3⟩
  obtain ⟨g, rfl, hg1, hg2, hg3⟩ := oY.place hpos
  have s3 := b3.size
  have B03 := B02.trans (b3.mono B02.size)
  have b4 : Below w3.heap.size w3 (w3.alloc (.cells #[.int .i64 c, .int .i64 c, .slice (some ⟨g, 0, none⟩) n d] 26)) := (by repeat first | (with_reducible exact Below.refl _ _) | (with_reducible refine Below.setCell ?_ (by first | exact Nat.le_refl _ | (simp; done) | (simp; omega) | omega) _) | (with_reducible refine Below.alloc ?_ (by first | exact Nat.le_refl _ | (simp; done) | (simp; omega) | omega) _) | (with_reducible refine below_drewN ?_ _) | (with_reducible refine Below.drew ?_))
  have FR : PwFrame w w.heap.size (w.heap.size + 1) w3.heap.size (w3.alloc (.cells #[.int .i64 c, .int .i64 c, .slice (some ⟨g, 0, none⟩) n d] 26)) := by
    refine ⟨?_, fun i => ?_, fun i => ?_, fun i => by simp [go_sem], (Ba.trans (B03.mono (by omega))).trans (b4.mono (by have := B03.size; omega)), Nat.le_refl _, by omega, by omega, by simp⟩
    · rw [← sa]; exact (XR2.below b3 (by omega)).below b4 (by omega)
    · exact (b4.frozen (p := ⟨w.heap.size, i, none⟩) (by show w.heap.size < w3.heap.size; omega)).trans ((B03.frozen (p := ⟨w.heap.size, i, none⟩) la).trans (Ia i))
    · rw [← sa]; exact (b4.frozen (p := ⟨wa.heap.size, i, none⟩) (by show wa.heap.size < w3.heap.size; omega)).trans ((b3.frozen (p := ⟨wa.heap.size, i, none⟩) (by show wa.heap.size < w2.heap.size; omega)).trans (IR2 i))
  have MR : PwMat w.heap.size w3.heap.size w3.heap.size c n (unitV c) (w3.alloc (.cells #[.int .i64 c, .int .i64 c, .slice (some ⟨g, 0, none⟩) n d] 26)) g 0 d Y :=
    ⟨Box.new _ _ _ _ _ _ _, oY.fs.below b4 (Nat.le_refl _), vY, unit_fin c n, by omega, by omega⟩
  have MA : PwMat w.heap.size w3.heap.size w.heap.size c n (vals Z) (w3.alloc (.cells #[.int .i64 c, .int .i64 c, .slice (some ⟨g, 0, none⟩) n d] 26)) b off cap Z :=
    ⟨(Xa.below B03 la).below b4 (by omega), (Fa.below B03 (Nat.le_refl _)).below b4 (Nat.le_refl _), fun i _ => rfl, HFIN.out, by omega, by omega⟩
  have OR : Own 48 .f32 w2.heap.size w3.heap.size (w3.alloc (.cells #[.int .i64 c, .int .i64 c, .slice (some ⟨g, 0, none⟩) n d] 26)) (some ⟨g, 0, none⟩) n d Y := oY.kept (below_grew b4) (fun q hq => by cases hq)
  clear oY b3 b4 B03 B02 XR2 IR2 x0 x1 x2 Ia Xa Fa hd1 hd2 vY
  go_wp2
  generalize w3.alloc (.cells #[.int .i64 c, .int .i64 c, .slice (some ⟨g, 0, none⟩) n d] 26) = wz at FR MR MA OR ⊢
  go_loopw [1, 7] (fun x k wr => (∃ (f p : Nat) (VR VA : Nat → Option Nat) (gR dR : Nat) (ZR : Nat → Nat) (gA oA dA : Nat) (ZA : Nat → Nat) (B U : Nat), x = .int .i64 p ∧ k = .bool true ∧ p ≤ 64 ∧ p < 2 ^ f ∧ pwF c n f p VR VA = (OK, VV) ∧ PwFrame w w.heap.size (w.heap.size + 1) w3.heap.size wr ∧ PwMat w.heap.size w3.heap.size w3.heap.size c n VR wr gR 0 dR ZR ∧ PwMat w.heap.size w3.heap.size w.heap.size c n VA wr gA oA dA ZA ∧ Own 48 .f32 B U wr (some ⟨gR, 0, none⟩) n dR ZR ∧ w.heap.size + 1 < B ∧ (w3.heap.size < B ∨ U ≤ w3.heap.size)) ∨ (∃ p : Nat, x = .int .i64 p ∧ k = .bool false ∧ p ≤ 64 ∧ OK = false ∧ PwFrame w w.heap.size (w.heap.size + 1) w3.heap.size wr)) (fun x _ _ => (intOf x).toNat)
  case atStart => exact .inl ⟨7, p0, unitV c, vals Z, g, d, Y, b, off, cap, Z, _, _, rfl, rfl, hp, by omega, HT.out, FR, MR, MA, OR, by omega, .inr (Nat.le_refl _)⟩
  case round =>
    clear FR MR MA OR
    rcases hrel with ⟨f, p, VR, VA, gR, dR, ZR, gA, oA, dA, ZA, B, U, rfl, rfl, hp64, hpf, hpw, FR, MR, MA, OR, hB, hBU⟩ | ⟨p, rfl, rfl, hp64, hok, FR⟩
    · by_cases hp0 : p = 0
      · subst hp0
        rw [pw_zero] at hpw
        obtain ⟨rfl, rfl⟩ := Prod.mk.inj hpw
        obtain ⟨y0, y1, y2⟩ := MR.box
        obtain ⟨z0, z1, z2⟩ := FR.res
        have hice := FR.ib
        have o2 := OR
        have hUw := (OR.cell (t := 0) hpos).2.2.2.2.1
        have B2 := FR.bel
        have hv := MR.val
        clear MR MA FR OR
        go_wp2_with fail
        refine bodyPost_ret (v := .tuple #[.agg #[.int .i64 c, .int .i64 c, .slice (some ⟨gR, 0, none⟩) n dR], .bool true]) (by simp [results, Try.results19, go_sem, y0, y1, y2, z0, z1, z2]) rfl ?_
        exact OwnIf.yes rfl ⟨_, _, _, rfl, (by refine Own.to o2 (hk := fun g hg1 hg2 => by (try simp at hg1 hg2); repeat (first | rw [Below.heap_setCell _ _ _ _ (by simp; omega)] | rw [Below.heap_alloc _ _ _ (by simp [World.setCell]; omega)])) ?_ ?_ ?_ ?_ <;> (first | exact Nat.le_refl _ | omega | (simp [World.setCell]; done) | (simp [World.setCell]; omega))), hv, (by repeat first | (with_reducible exact B2) | (with_reducible refine Below.setCell ?_ (by first | exact Nat.le_refl _ | (simp; done) | (simp; omega) | omega) _) | (with_reducible refine Below.alloc ?_ (by first | exact Nat.le_refl _ | (simp; done) | (simp; omega) | omega) _) | (with_reducible refine below_drewN ?_ _) | (with_reducible refine Below.drew ?_))⟩
      · obtain ⟨f', rfl⟩ : ∃ f', f = f' + 1 := by
          cases f with
          | zero => simp at hpf; omega
          | succ f' => exact ⟨f', rfl⟩
        obtain ⟨q, hq⟩ : ∃ q, q = p / 2 := ⟨_, rfl⟩
        have HQ := Lib.hid hq
        have hq64 : q ≤ 64 := by omega
        have hqf : q < 2 ^ f' := by rw [Nat.pow_succ] at hpf; omega
        have hqp : q < p := by omega
        have hd : decide ((0 : Int) < (p : Int)) = true := decide_eq_true (by omega)
        have hd0 : (0 < p) = True := eq_true (by omega)
        have hq2 : Int.tdiv (p : Int) 2 = (q : Int) := by rw [Int.tdiv_eq_ediv_of_nonneg (by omega)]; omega
        have hq3 : IntKind.i64.wrap (q : Int) = (q : Int) := IntWalk.i64_in _ (by omega)
        have htop := FR.top
        have hab := FR.ab_rb
        have hrb := FR.rb_rr
        have bR := MR.box
        have bA := MA.box
        obtain ⟨y0, y1, y2⟩ := bR
        obtain ⟨v0, v1, v2⟩ := bA
        by_cases hodd : p % 2 = 1
        · have hm : Int.tmod (p : Int) 2 = 1 := by rw [Int.tmod_eq_emod_of_nonneg (by omega)]; omega
          cases hf : allFin (mulW c VR VA) n with
          | false =>
            have HO : Hid (OK = false) := Lib.hid (by rw [pw_odd_no hodd hf] at hpw; exact (Prod.mk.inj hpw).1.symm)
            have hmul := implMulSq c n gR 0 dR gA oA dA ZR ZA VR VA _ h1 h12 hN.out MR.val MA.val MR.fin MA.fin MR.fs MA.fs
            rw [hf] at hmul
            clear hodd hq hf hpw
            go_wp2_with fail
            go_at_call 53
            refine hmul.mono ?_
            rintro e w4 ⟨g4, d4, Y4, rfl, o4, v4, b4⟩
            have FR4 := FR.below b4
            obtain ⟨t0, t1, t2⟩ := MR.box.below b4 htop
            have hi4 := FR4.ir
            have FR5 := Lib.hid (FR4.put (.inr rfl) 0 0 g4 0 d4)
            clear hmul o4 b4 FR FR4 MR MA OR y0 y1 y2 v0 v1 v2
            go_wp2_with fail
            go_roundw
            case rel => exact .inr ⟨q, by first | rfl | go_num, rfl, hq64, HO.out, FR5.out⟩
            case measure => simp [intOf]; omega
          | true =>
            have HF := Lib.hid hf
            have hmul := implMulSq c n gR 0 dR gA oA dA ZR ZA VR VA _ h1 h12 hN.out MR.val MA.val MR.fin MA.fin MR.fs MA.fs
            rw [hf] at hmul
            by_cases hq0 : q = 0
            · have HP : Hid (pwF c n f' q (mulW c VR VA) VA = (OK, VV)) := Lib.hid (by rw [pw_odd_end hodd hf (by omega)] at hpw; rw [hq0, pw_zero]; exact hpw)
              subst hq0
              have hdq : decide ((0 : Int) < ((0 : Nat) : Int)) = false := by decide
              clear hodd hf hpw hq HQ
              go_wp2_with fail
              go_at_call 53
              refine hmul.mono ?_
              rintro e w4 ⟨ga4, d4, Y4, rfl, o4, v4, b4⟩
              obtain ⟨g4, rfl, hg41, hg42, hg43⟩ := o4.place hpos
              have FR4 := FR.below b4
              obtain ⟨t0, t1, t2⟩ := MR.box.below b4 htop
              have hi4 := FR4.ir
              have FR5 := Lib.hid (FR4.put (.inr rfl) c c (some ⟨g4, 0, none⟩) n d4)
              have MR5 : Hid (PwMat w.heap.size w3.heap.size w3.heap.size c n (mulW c VR VA) _ g4 0 d4 Y4) := Lib.hid (PwMat.new (MR.box.below b4 htop) o4.fs v4 HF.out (by omega) (by omega) (.inr rfl))
              have MA5 := Lib.hid ((MA.below b4 (by omega)).put (by have := b4.size; omega) (by omega) (.inr rfl) c c (some ⟨g4, 0, none⟩) n d4)
              have OR5 := Lib.hid (o4.kept (put_grown w4 w3.heap.size c c (some ⟨g4, 0, none⟩) n d4) (fun q hq => by cases hq; left; omega))
              clear hmul o4 b4 FR FR4 MR MA OR y0 y1 y2 v0 v1 v2
              go_wp2_with fail
              go_roundw
              case rel => exact .inl ⟨f', 0, _, _, _, _, _, _, _, _, _, _, _, by first | rfl | go_num, rfl, by omega, hqf, HP.out, FR5.out, MR5.out, MA5.out, OR5.out, by omega, by omega⟩
              case measure => simp [intOf]; omega
            · have hq0' : ¬ p / 2 = 0 := by omega
              have hdq : decide ((0 : Int) < (q : Int)) = true := decide_eq_true (by omega)
              have hdq0 : (0 < q) = True := eq_true (by omega)
              go_wp2_with fail
              go_at_call 53
              refine hmul.mono ?_
              rintro e w4 ⟨ga4, d4, Y4, rfl, o4, v4, b4⟩
              obtain ⟨g4, rfl, hg41, hg42, hg43⟩ := o4.place hpos
              have s4 := b4.size
              have FR4 := FR.below b4
              obtain ⟨t0, t1, t2⟩ := MR.box.below b4 htop
              have hi4 := FR4.ir
              have FRw := FR4.put (.inr rfl) c c (some ⟨g4, 0, none⟩) n d4
              have MRw : PwMat w.heap.size w3.heap.size w3.heap.size c n (mulW c VR VA) _ g4 0 d4 Y4 := PwMat.new (MR.box.below b4 htop) o4.fs v4 HF.out (by omega) (by omega) (.inr rfl)
              have MAw := (MA.below b4 (by omega)).put (by omega) (by omega) (.inr rfl) c c (some ⟨g4, 0, none⟩) n d4
              have ORw := o4.kept (put_grown w4 w3.heap.size c c (some ⟨g4, 0, none⟩) n d4) (fun q hq => by cases hq; left; omega)
              obtain ⟨w5, hw5⟩ : ∃ w5, w5 = (((w4.setCell ⟨w3.heap.size, 0, none⟩ (.int .i64 c)).setCell ⟨w3.heap.size, 1, none⟩ (.int .i64 c)).setCell ⟨w3.heap.size, 2, none⟩ (.slice (some ⟨g4, 0, none⟩) n d4)) := ⟨_, rfl⟩
              have hs5 : w5.heap.size = w4.heap.size := by rw [hw5]; simp [World.setCell]
              rw [← hw5] at FRw MRw MAw ORw
              obtain ⟨e0, e1, e2⟩ := MAw.box
              rw [hw5] at e0 e1 e2
              clear hmul o4 b4 FR FR4 MR MA OR y0 y1 y2 v0 v1 v2
              have hmul2 := implMulSq c n gA oA dA gA oA dA ZA ZA VA VA _ h1 h12 hN.out MAw.val MAw.val MAw.fin MAw.fin MAw.fs MAw.fs
              cases hf2 : allFin (mulW c VA VA) n with
              | false =>
                have HO : Hid (OK = false) := Lib.hid (by rw [pw_odd_bad hodd hf hq0' hf2] at hpw; exact (Prod.mk.inj hpw).1.symm)
                rw [hf2] at hmul2
                obtain ⟨v0, v1, v2⟩ := MAw.box
                clear hodd hf2 hpw HQ hf hq hq0'
                go_wp2_with fail
                go_at_call 53
                rw [← hw5]
                refine hmul2.mono ?_
                rintro e w6 ⟨g6, d6, Y6, rfl, o6, v6, b6⟩
                have FR6 := FRw.below b6
                obtain ⟨t0, t1, t2⟩ := MAw.box.below b6 (by omega)
                have hi6 := FR6.ia
                have FR7 := Lib.hid (FR6.put (.inl rfl) 0 0 g6 0 d6)
                clear hmul2 o6 b6 FR6 MRw MAw ORw v0 v1 v2
                go_wp2_with fail
                go_roundw
                case rel => exact .inr ⟨q, by first | rfl | go_num, rfl, hq64, HO.out, FR7.out⟩
                case measure => simp [intOf]; omega
              | true =>
                have HP : Hid (pwF c n f' q (mulW c VR VA) (mulW c VA VA) = (OK, VV)) := Lib.hid (by rw [pw_odd hodd hf hq0' hf2] at hpw; rw [hq]; exact hpw)
                have HF2 := Lib.hid hf2
                rw [hf2] at hmul2
                obtain ⟨v0, v1, v2⟩ := MAw.box
                clear hodd hf2 hpw HQ hf hq hq0'
                go_wp2_with fail
                go_at_call 53
                rw [← hw5]
                refine hmul2.mono ?_
                rintro e w6 ⟨ga6, d6, Y6, rfl, o6, v6, b6⟩
                obtain ⟨g6, rfl, hg61, hg62, hg63⟩ := o6.place hpos
                have FR6 := FRw.below b6
                obtain ⟨t0, t1, t2⟩ := MAw.box.below b6 (by omega)
                have hi6 := FR6.ia
                have FR7 := Lib.hid (FR6.put (.inl rfl) c c (some ⟨g6, 0, none⟩) n d6)
                have MR7 := Lib.hid ((MRw.below b6 (by omega)).put (by have := b6.size; omega) (by omega) (.inl rfl) c c (some ⟨g6, 0, none⟩) n d6)
                have MA7 : Hid (PwMat w.heap.size w3.heap.size w.heap.size c n (mulW c VA VA) _ g6 0 d6 Y6) := Lib.hid (PwMat.new (MAw.box.below b6 (by omega)) o6.fs v6 HF2.out (by omega) (by omega) (.inl rfl))
                have OR7 := Lib.hid ((ORw.kept (below_grew b6) (fun q hq => by cases hq)).kept (put_grown w6 w.heap.size c c (some ⟨g6, 0, none⟩) n d6) (fun q hq => by cases hq; left; omega))
                clear hmul2 o6 b6 FR6 MRw MAw ORw v0 v1 v2
                go_wp2_with fail
                go_roundw
                case rel => exact .inl ⟨f', q, _, _, _, _, _, _, _, _, _, _, _, by first | rfl | go_num, rfl, hq64, hqf, HP.out, FR7.out, MR7.out, MA7.out, OR7.out, by omega, by omega⟩
                case measure => simp [intOf]; omega
        · have hm : Int.tmod (p : Int) 2 = 0 := by rw [Int.tmod_eq_emod_of_nonneg (by omega)]; omega
          have hdq : decide ((0 : Int) < (q : Int)) = true := decide_eq_true (by omega)
          have hdq0 : (0 < q) = True := eq_true (by omega)
          have FRw := FR
          have MRw := MR
          have MAw := MA
          have ORw := OR
          clear FR MR MA OR y0 y1 y2 v0 v1 v2
          have hmul2 := implMulSq c n gA oA dA gA oA dA ZA ZA VA VA _ h1 h12 hN.out MAw.val MAw.val MAw.fin MAw.fin MAw.fs MAw.fs
          cases hf2 : allFin (mulW c VA VA) n with
          | false =>
            have HO : Hid (OK = false) := Lib.hid (by rw [pw_even_bad hodd hp0 hf2] at hpw; exact (Prod.mk.inj hpw).1.symm)
            rw [hf2] at hmul2
            obtain ⟨v0, v1, v2⟩ := MAw.box
            clear hodd hf2 hpw HQ hq
            go_wp2_with fail
            go_at_call 53
            refine hmul2.mono ?_
            rintro e w6 ⟨g6, d6, Y6, rfl, o6, v6, b6⟩
            have FR6 := FRw.below b6
            obtain ⟨t0, t1, t2⟩ := MAw.box.below b6 (by omega)
            have hi6 := FR6.ia
            have FR7 := Lib.hid (FR6.put (.inl rfl) 0 0 g6 0 d6)
            clear hmul2 o6 b6 FR6 MRw MAw ORw v0 v1 v2
            go_wp2_with fail
            go_roundw
            case rel => exact .inr ⟨q, by first | rfl | go_num, rfl, hq64, HO.out, FR7.out⟩
            case measure => simp [intOf]; omega
          | true =>
            have HP : Hid (pwF c n f' q VR (mulW c VA VA) = (OK, VV)) := Lib.hid (by rw [pw_even hodd hp0 hf2] at hpw; rw [hq]; exact hpw)
            have HF2 := Lib.hid hf2
            rw [hf2] at hmul2
            obtain ⟨v0, v1, v2⟩ := MAw.box
            clear hodd hf2 hpw HQ hq
            go_wp2_with fail
            go_at_call 53
            refine hmul2.mono ?_
            rintro e w6 ⟨ga6, d6, Y6, rfl, o6, v6, b6⟩
            obtain ⟨g6, rfl, hg61, hg62, hg63⟩ := o6.place hpos
            have FR6 := FRw.below b6
            obtain ⟨t0, t1, t2⟩ := MAw.box.below b6 (by omega)
            have hi6 := FR6.ia
            have FR7 := Lib.hid (FR6.put (.inl rfl) c c (some ⟨g6, 0, none⟩) n d6)
            have MR7 := Lib.hid ((MRw.below b6 (by omega)).put (by have := b6.size; omega) (by omega) (.inl rfl) c c (some ⟨g6, 0, none⟩) n d6)
            have MA7 : Hid (PwMat w.heap.size w3.heap.size w.heap.size c n (mulW c VA VA) _ g6 0 d6 Y6) := Lib.hid (PwMat.new (MAw.box.below b6 (by omega)) o6.fs v6 HF2.out (by omega) (by omega) (.inl rfl))
            have OR7 := Lib.hid ((ORw.kept (below_grew b6) (fun q hq => by cases hq)).kept (put_grown w6 w.heap.size c c (some ⟨g6, 0, none⟩) n d6) (fun q hq => by cases hq; left; omega))
            clear hmul2 o6 b6 FR6 MRw MAw ORw v0 v1 v2
            go_wp2_with fail
            go_roundw
            case rel => exact .inl ⟨f', q, _, _, _, _, _, _, _, _, _, _, _, by first | rfl | go_num, rfl, hq64, hqf, HP.out, FR7.out, MR7.out, MA7.out, OR7.out, by omega, by omega⟩
            case measure => simp [intOf]; omega
    · subst hok
      obtain ⟨z0, z1, z2⟩ := FR.res
      have hice := FR.ib
      have B2 := FR.bel
      clear FR
      go_wp2_with fail
      refine bodyPost_ret (v := .tuple #[.agg #[.int .i64 0, .int .i64 0, .slice none 0 0], .bool false]) (by simp [results, Try.results19, go_sem, z0, z1, z2]) rfl ?_
      exact OwnIf.no rfl ⟨none, 0, fun _ => 0, rfl, .inl ⟨rfl, rfl, rfl⟩, fun i hi => absurd hi (Nat.not_lt_zero _), (by repeat first | (with_reducible exact B2) | (with_reducible refine Below.setCell ?_ (by first | exact Nat.le_refl _ | (simp; done) | (simp; omega) | omega) _) | (with_reducible refine Below.alloc ?_ (by first | exact Nat.le_refl _ | (simp; done) | (simp; omega) | omega) _) | (with_reducible refine below_drewN ?_ _) | (with_reducible refine Below.drew ?_))⟩
end Go.Proofs.Ytffmjfgechdjjac
