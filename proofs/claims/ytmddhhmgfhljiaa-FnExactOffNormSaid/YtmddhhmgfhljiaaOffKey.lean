/- Helper: the root of the sum of the squares beside the middle, of the program and of its reference. Conditions: none. -/
import Derived.Test.YtmddhhmgfhljiaaClearMid
import Derived.Test.YtmddhhmgfhljiaaWholeKey
import Derived.Test.YtmddhhmgfhljiaaSizeFacts
import Derived.Test.YtmddhhmgfhljiaaSquare
set_option linter.unusedVariables false
set_option linter.unusedSimpArgs false
namespace Go.Proofs.Ytmddhhmgfhljiaa
open Go.RowKit
section
open Ieee
theorem pz_sq {X : Option Nat} (h : finite .f32 X = true) : Pz (fop .mul .f32 X X) := by
  cases X with
  | none => cases h
  | some x =>
    rcases read_single x with ⟨s, hr⟩ | ⟨s, t, hr⟩ | ⟨s, m, e, hr, hm, h1, h2⟩
    · exfalso; unfold finite at h; simp only at h; have hr' : FloatKind.f32.decode x = .infinity s := hr; rw [hr'] at h; cases h
    · exfalso; unfold finite at h; simp only at h; have hr' : FloatKind.f32.decode x = .nan s t := hr; rw [hr'] at h; cases h
    · have es : fop .mul .f32 (some x) (some x) = ((single.read x).product (single.read x)).map single.write := rfl
      rw [es, hr]
      refine ⟨_, rfl, ?_⟩
      have e0 : (s != s) = false := by cases s <;> rfl
      show single.nearest (s != s) (m * m) (e + e) ≤ 2139095040
      rw [e0]
      exact nearest_pz _ _
theorem add_zero {X : Option Nat} (h : Pz X) : fop .add .f32 X (some 0) = X := by
  obtain ⟨q, rfl, hq⟩ := h
  have e0 : single.read 0 = .number false 0 (-149) := by decide +kernel
  have es : fop .add .f32 (some q) (some 0) = ((single.read q).sum (single.read 0)).map single.write := rfl
  rw [es, e0]
  by_cases hi : q = 2139095040
  · subst hi; decide +kernel
  rcases read_single q with ⟨s, hr⟩ | ⟨s, t, hr⟩ | ⟨s, m, e, hr, hm, h1, h2⟩
  · exfalso
    obtain ⟨e1, e2, e3, e4⟩ := single_consts
    have hmq : q % 2147483648 = q := Nat.mod_eq_of_lt (by omega)
    unfold Format.read at hr
    simp only [e1, e2, e3, e4, hmq] at hr
    split at hr
    · cases hr
    · rw [if_pos (by omega)] at hr; cases hr
  · exfalso
    rcases read_pz hq with h | ⟨m, e, h⟩ <;> rw [h] at hr <;> cases hr
  · obtain ⟨w1, w2, w3, _⟩ := write_read_single hr
    have hmq : q % 2147483648 = q := Nat.mod_eq_of_lt (by omega)
    have hs : s = false := by
      rcases read_pz hq with h | ⟨m', e', h⟩
      · rw [h] at hr; cases hr
      · rw [h] at hr; simp only [Datum.number.injEq] at hr; exact hr.1.symm
    subst hs
    have em : min e (-149 : Int) = -149 := by omega
    have et : (e - -149).toNat = (e + 149).toNat := by omega
    have hsub : single.nearest false (m <<< (e + 149).toNat) (-149) = q := by
      have := nearest_shift single false m e (e + 149).toNat
      have hee : e - (((e + 149).toNat : Nat) : Int) = -149 := by omega
      rw [hee] at this
      rw [this, w1, hmq]
    have hsgn : signed false m (e + 149).toNat = ((m <<< (e + 149).toNat : Nat) : Int) := rfl
    rw [hr]
    simp only [Datum.sum, em, signed_zero, Int.add_zero, et, Option.map_some]
    rw [hsgn]
    generalize m <<< (e + 149).toNat = T at hsub
    have hnum : (if (T : Int) = 0 then (false && false) else decide ((T : Int) < 0)) = false := by
      split
      · rfl
      · exact decide_eq_false (by omega)
    rw [hnum]
    show some (single.nearest false ((T : Int)).natAbs (-149)) = some q
    rw [Int.natAbs_natCast, hsub]
end
theorem allFin_allO {V : Nat → Option Nat} : ∀ {n : Nat}, (∀ i, i < n → finite .f32 (V i) = true) → allFin V n = true
  | 0, _ => rfl
  | n + 1, h => by
    have h1 := allFin_allO (V := V) (n := n) fun i hi => h i (by omega)
    simp only [allFin, h1, h n (by omega), Bool.and_self]
/-- The sum of the squares beside the middle. -/
def offS (c : Nat) (V : Nat → Option Nat) : Nat → Option Nat
  | 0 => some 0
  | j + 1 => if j % c = j / c then offS c V j else fop .add .f32 (offS c V j) (fop .mul .f32 (V j) (V j))
theorem offS_pz {c : Nat} {V : Nat → Option Nat} : ∀ {j : Nat}, (∀ t, t < j → finite .f32 (V t) = true) → Pz (offS c V j)
  | 0, _ => Pz.zero
  | j + 1, h => by
    show Pz (if j % c = j / c then offS c V j else _)
    split
    · exact offS_pz fun t ht => h t (by omega)
    · exact Pz.add (offS_pz fun t ht => h t (by omega)) (pz_sq (h j (by omega)))
theorem mul_zero_zero : fop .mul .f32 (some 0) (some 0) = some 0 := by decide +kernel
theorem dot_off {c : Nat} {V W : Nat → Option Nat} : ∀ {j : Nat}, (∀ t, t < j → finite .f32 (V t) = true) → (∀ t, t < j → W t = if t % c = t / c then some 0 else V t) → dotG W W j = offS c V j
  | 0, _, _ => rfl
  | j + 1, h, hw => by
    show fop .add .f32 (dotG W W j) (fop .mul .f32 (W j) (W j)) = if j % c = j / c then offS c V j else _
    rw [dot_off (fun t ht => h t (by omega)) (fun t ht => hw t (by omega)), hw j (by omega)]
    split
    · rw [mul_zero_zero, add_zero (offS_pz fun t ht => h t (by omega))]
    · rfl
def offN (c n : Nat) (V : Nat → Option Nat) : Option Nat := narrow (fsqrt (widen (offS c V n)))
def offOk (R C : Int) (n : Nat) (V : Nat → Option Nat) : Bool := squareB R C n V && finite .f32 (offN R.toNat n V)
def offV (R C : Int) (n : Nat) (V : Nat → Option Nat) : Option Nat := pick (offOk R C n V) (offN R.toNat n V)
theorem mid_vals {c n : Nat} {Z : Nat → Nat} (hn : n = c * c) : ∀ t, t < n → vals (clearZ c isMi Z c 0) t = if t % c = t / c then some 0 else vals Z t := by
  intro t ht
  have c0 : cn .f32 0 = some 0 := by kernel_rfl
  show cn .f32 (clearZ c isMi Z c 0 t) = _
  unfold clearZ isMi
  by_cases e : t % c = t / c
  · rw [if_pos e, if_pos ⟨told_all hn ht, decide_eq_true e.symm⟩, c0]
  · rw [if_neg e, if_neg (fun q => e (of_decide_eq_true q.2).symm)]; rfl
set_option maxRecDepth 20000 in
set_option maxHeartbeats 2000000 in
theorem implOff_any (R C : Int) (a : Option Addr) (n cap : Nat) (Z : Nat → Nat) (w : World) (hn : n ≤ 1048576) (h : FS .f32 w a n cap Z) :
    Calls Try.prog 32 #[.agg #[.int .i64 R, .int .i64 C, .slice a n cap]] w (NumBel (offOk R C n (vals Z)) (offV R C n (vals Z)) w) := by
  unfold offV
  cases hv : squareB R C n (vals Z) with
  | false =>
    have HK : Hid (offOk R C n (vals Z) = false) := Lib.hid (by unfold offOk; rw [hv]; rfl)
    go_enter Try.func32, Try.ntmps32
    go_wp2_with fail
    go_at_call 71
    refine (implSquare_any R C a n cap Z _ hn (h.below (by repeat first | (with_reducible exact Below.refl _ _) | (with_reducible refine Below.setCell ?_ (by first | exact Nat.le_refl _ | (simp; done) | (simp; omega) | omega) _) | (with_reducible refine Below.alloc ?_ (by first | exact Nat.le_refl _ | (simp; done) | (simp; omega) | omega) _) | (with_reducible refine below_drewN ?_ _) | (with_reducible refine Below.drew ?_)) (Nat.le_refl _))).mono ?_
    rintro e w1 ⟨rfl, b1⟩
    rw [hv]
    have B1 : Below w.heap.size w w1 := Below.trans (by repeat first | (with_reducible exact Below.refl _ _) | (with_reducible refine Below.setCell ?_ (by first | exact Nat.le_refl _ | (simp; done) | (simp; omega) | omega) _) | (with_reducible refine Below.alloc ?_ (by first | exact Nat.le_refl _ | (simp; done) | (simp; omega) | omega) _) | (with_reducible refine below_drewN ?_ _) | (with_reducible refine Below.drew ?_)) (b1.mono (by simp))
    go_wp2_with fail
    go_ret2
    rw [HK.out]
    exact ⟨_, rfl, pick_no _ rfl, B1⟩
  | true =>
    obtain ⟨r, rfl, rfl, h1, h12, hN, hf⟩ := square_nat hv
    have HK : Hid (offOk r r n (vals Z) = finite .f32 (offN r n (vals Z))) := Lib.hid (by unfold offOk; rw [hv]; rfl)
    have HN := Lib.hid hN
    have HF := Lib.hid hf
    obtain ⟨b0, off, rfl, _, _, _⟩ := h.at (show 0 < n by rw [hN]; exact Nat.mul_pos h1 h1)
    clear hN hf
    go_enter Try.func32, Try.ntmps32
    go_wp2_with fail
    go_at_call 71
    refine (implSquare_any r r _ n cap Z _ hn (h.below (by repeat first | (with_reducible exact Below.refl _ _) | (with_reducible refine Below.setCell ?_ (by first | exact Nat.le_refl _ | (simp; done) | (simp; omega) | omega) _) | (with_reducible refine Below.alloc ?_ (by first | exact Nat.le_refl _ | (simp; done) | (simp; omega) | omega) _) | (with_reducible refine below_drewN ?_ _) | (with_reducible refine Below.drew ?_)) (Nat.le_refl _))).mono ?_
    rintro e w1 ⟨rfl, b1⟩
    rw [hv]
    have B1 : Below w.heap.size w w1 := Below.trans (by repeat first | (with_reducible exact Below.refl _ _) | (with_reducible refine Below.setCell ?_ (by first | exact Nat.le_refl _ | (simp; done) | (simp; omega) | omega) _) | (with_reducible refine Below.alloc ?_ (by first | exact Nat.le_refl _ | (simp; done) | (simp; omega) | omega) _) | (with_reducible refine below_drewN ?_ _) | (with_reducible refine Below.drew ?_)) (b1.mono (by simp))
    obtain ⟨x0, x1, x2⟩ := (Box.new _ _ _ _ _ _ _).below b1 (by simp)
    have f1 := h.below B1 (Nat.le_refl _)
    clear b1 hv
    go_wp2_with fail
    go_at_call 73
    refine (clearedMiddle_any r n b0 off cap Z _ h1 h12 HN.out f1).mono ?_
    rintro e w2 ⟨g, d, rfl, o2, b2⟩
    have B2 := B1.trans (b2.mono B1.size)
    have f2 := o2.fs
    have hmv := mid_vals (Z := Z) HN.out
    have hvB : validB r r n (vals (clearZ r isMi Z r 0)) = true := by
      rw [validB_nat h1 h12 h1 h12 HN.out]
      refine allFin_allO fun t ht => ?_
      rw [hmv t ht]
      split
      · decide +kernel
      · exact allFin_lt HF.out ht
    have hdot : dotG (vals (clearZ r isMi Z r 0)) (vals (clearZ r isMi Z r 0)) n = offS r (vals Z) n := dot_off (fun t ht => allFin_lt HF.out ht) hmv
    have hwn : wholeN n (clearZ r isMi Z r 0) = offN r n (vals Z) := by unfold wholeN offN; rw [hdot]
    have hwo : wholeOk r r n (clearZ r isMi Z r 0) = finite .f32 (offN r n (vals Z)) := by unfold wholeOk; rw [hvB, hwn]; rfl
    have hwv : wholeV r r n (clearZ r isMi Z r 0) = pick (finite .f32 (offN r n (vals Z))) (offN r n (vals Z)) := by unfold wholeV; rw [hwo, hwn]
    clear b2 x0 x1 x2 o2 hmv hvB hdot hwn
    go_wp2_with fail
    go_at_call 72
    refine (implWhole_any r r _ n d _ _ hn f2).mono ?_
    rw [hwo, hwv]
    rintro e w3 ⟨q, rfl, hq, b3⟩
    have B3 := B2.trans (b3.mono B2.size)
    clear b3 hwo hwv
    go_wp2_with fail
    go_ret2
    rw [HK.out]
    exact ⟨_, rfl, hq, B3⟩
set_option maxRecDepth 20000 in
set_option maxHeartbeats 2000000 in
theorem specOff_any (R C : Int) (a : Option Addr) (n cap : Nat) (Z : Nat → Nat) (w : World) (hn : n ≤ 1048576) (h : FS .f32 w a n cap Z) :
    Calls Try.prog 31 #[.agg #[.int .i64 R, .int .i64 C, .slice a n cap]] w (NumBel (offOk R C n (vals Z)) (offV R C n (vals Z)) w) := by
  unfold offV
  cases hv : squareB R C n (vals Z) with
  | false =>
    have HK : Hid (offOk R C n (vals Z) = false) := Lib.hid (by unfold offOk; rw [hv]; rfl)
    go_enter Try.func31, Try.ntmps31
    go_wp2_with fail
    go_at_call 69
    refine (specSquare_any _ R C a n cap Z _ hn (Box.new _ _ _ _ _ _ _) (h.below (by repeat first | (with_reducible exact Below.refl _ _) | (with_reducible refine Below.setCell ?_ (by first | exact Nat.le_refl _ | (simp; done) | (simp; omega) | omega) _) | (with_reducible refine Below.alloc ?_ (by first | exact Nat.le_refl _ | (simp; done) | (simp; omega) | omega) _) | (with_reducible refine below_drewN ?_ _) | (with_reducible refine Below.drew ?_)) (Nat.le_refl _))).mono ?_
    rintro e w1 ⟨rfl, m1, rfl⟩
    rw [hv]
    go_wp2_with fail
    go_ret2
    rw [HK.out]
    exact ⟨_, rfl, pick_no _ rfl, (by repeat first | (with_reducible exact Below.refl _ _) | (with_reducible refine Below.setCell ?_ (by first | exact Nat.le_refl _ | (simp; done) | (simp; omega) | omega) _) | (with_reducible refine Below.alloc ?_ (by first | exact Nat.le_refl _ | (simp; done) | (simp; omega) | omega) _) | (with_reducible refine below_drewN ?_ _) | (with_reducible refine Below.drew ?_))⟩
  | true =>
    obtain ⟨r, rfl, rfl, h1, h12, hN, hf⟩ := square_nat hv
    have HK : Hid (offOk r r n (vals Z) = finite .f32 (offN r n (vals Z))) := Lib.hid (by unfold offOk; rw [hv]; rfl)
    have HN := Lib.hid hN
    have hn144 : n ≤ 144 := by have := sides_le h12 h12; omega
    obtain ⟨b0, off, rfl, _, _, _⟩ := h.at (show 0 < n by rw [hN]; exact Nat.mul_pos h1 h1)
    have hrr : (r : Int) * (r : Int) = (n : Int) := by rw [hN]; simp
    clear hN hf
    go_enter Try.func31, Try.ntmps31
    go_wp2_with fail
    go_at_call 69
    refine (specSquare_any _ r r _ n cap Z _ hn (Box.new _ _ _ _ _ _ _) (h.below (by repeat first | (with_reducible exact Below.refl _ _) | (with_reducible refine Below.setCell ?_ (by first | exact Nat.le_refl _ | (simp; done) | (simp; omega) | omega) _) | (with_reducible refine Below.alloc ?_ (by first | exact Nat.le_refl _ | (simp; done) | (simp; omega) | omega) _) | (with_reducible refine below_drewN ?_ _) | (with_reducible refine Below.drew ?_)) (Nat.le_refl _))).mono ?_
    rintro e w' ⟨rfl, m1, rfl⟩
    rw [hv]
    clear hv
    have x0 : (w.alloc (.cells #[.int .i64 (r : Int), .int .i64 (r : Int), .slice (some ⟨b0, off, none⟩) n cap] 31)).cell? ⟨w.heap.size, 0, none⟩ = some (.int .i64 (r : Int)) := by simp [go_sem]
    have x2 : (w.alloc (.cells #[.int .i64 (r : Int), .int .i64 (r : Int), .slice (some ⟨b0, off, none⟩) n cap] 31)).cell? ⟨w.heap.size, 2, none⟩ = some (.slice (some ⟨b0, off, none⟩) n cap) := by simp [go_sem]
    have F1 := h.below (show Below w.heap.size w (w.alloc (.cells #[.int .i64 (r : Int), .int .i64 (r : Int), .slice (some ⟨b0, off, none⟩) n cap] 31)) from (by repeat first | (with_reducible exact Below.refl _ _) | (with_reducible refine Below.setCell ?_ (by first | exact Nat.le_refl _ | (simp; done) | (simp; omega) | omega) _) | (with_reducible refine Below.alloc ?_ (by first | exact Nat.le_refl _ | (simp; done) | (simp; omega) | omega) _) | (with_reducible refine below_drewN ?_ _) | (with_reducible refine Below.drew ?_))) (Nat.le_refl _)
    have B1 : Below w.heap.size w (w.alloc (.cells #[.int .i64 (r : Int), .int .i64 (r : Int), .slice (some ⟨b0, off, none⟩) n cap] 31)) := (by repeat first | (with_reducible exact Below.refl _ _) | (with_reducible refine Below.setCell ?_ (by first | exact Nat.le_refl _ | (simp; done) | (simp; omega) | omega) _) | (with_reducible refine Below.alloc ?_ (by first | exact Nat.le_refl _ | (simp; done) | (simp; omega) | omega) _) | (with_reducible refine below_drewN ?_ _) | (with_reducible refine Below.drew ?_))
    have s1 : w.heap.size < (w.alloc (.cells #[.int .i64 (r : Int), .int .i64 (r : Int), .slice (some ⟨b0, off, none⟩) n cap] 31)).heap.size := by simp
    generalize w.alloc (.cells #[.int .i64 (r : Int), .int .i64 (r : Int), .slice (some ⟨b0, off, none⟩) n cap] 31) = w1 at x0 x2 F1 B1 s1 ⊢
    go_wp2
    go_loopw [4, 5] (fun s i wr => ∃ j m q : Nat, j ≤ n ∧ i = .int .i64 j ∧ s = .float .f32 q ∧ FV .f32 q (offS r (vals Z) j) ∧ wr = w1.drewN m) (fun _ i _ => n - (intOf i).toNat)
    case atStart => exact ⟨0, _, 0, Nat.zero_le _, rfl, rfl, FV.lit (by kernel_rfl) (by kernel_rfl), rfl⟩
    case round =>
      obtain ⟨j, m0, q0, hj, rfl, rfl, hq0, rfl⟩ := hrel
      by_cases hlt : j < n
      · have hd : decide ((j : Int) < (r : Int) * (r : Int)) = true := decide_eq_true (by rw [hrr]; omega)
        obtain ⟨b1, off1, e, hbl1, hc1, hfv1⟩ := F1.at hlt
        simp only [Option.some.injEq, Addr.mk.injEq, and_true] at e
        obtain ⟨rfl, rfl⟩ := e
        clear hbl1
        have hr0 : ¬ (r = 0) := by omega
        have hq1 : (j : Int) % (r : Int) = ((j % r : Nat) : Int) := by simp
        have hq2 : wrap64 ((j : Int) / (r : Int)) = ((j / r : Nat) : Int) := by
          have h3 : (j : Int) / (r : Int) = ((j / r : Nat) : Int) := by simp
          have h4 : j / r ≤ j := Nat.div_le_self _ _
          rw [h3]
          generalize j / r = q at h4
          unfold wrap64
          omega
        have ht1 : Int.tmod (j : Int) (r : Int) = (j : Int) % (r : Int) := Int.tmod_eq_emod_of_nonneg (by omega)
        have ht2 : Int.tdiv (j : Int) (r : Int) = (j : Int) / (r : Int) := Int.tdiv_eq_ediv_of_nonneg (by omega)
        by_cases e : j % r = j / r
        · have HV : Hid (offS r (vals Z) (j + 1) = offS r (vals Z) j) := Lib.hid (by show (if j % r = j / r then _ else _) = _; rw [if_pos e])
          have e1 : (((j % r : Nat) : Int) != ((j / r : Nat) : Int)) = false := by rw [e]; simp
          have e2 : (((j : Int) % (r : Int)) != wrap64 ((j : Int) / (r : Int))) = false := by rw [hq1, hq2]; exact e1
          have e3 : ((j % r : Nat) != (j / r : Nat)) = false := by rw [e]; simp
          clear e hc1 hfv1 hq1 hq2
          go_wp2
          go_quiet (fail)
          go_wp2
          go_roundw
          case rel => exact ⟨j + 1, _, _, by omega, by go_num, rfl, FV.of_eq hq0 HV.out.symm, rfl⟩
          case measure => simp [intOf]; omega
        · have HV : Hid (offS r (vals Z) (j + 1) = fop .add .f32 (offS r (vals Z) j) (fop .mul .f32 (cn .f32 (Z j)) (cn .f32 (Z j)))) := Lib.hid (by show (if j % r = j / r then _ else _) = _; rw [if_neg e]; rfl)
          have e1 : (((j % r : Nat) : Int) != ((j / r : Nat) : Int)) = true := by simp only [bne_iff_ne, ne_eq]; omega
          have e2 : (((j : Int) % (r : Int)) != wrap64 ((j : Int) / (r : Int))) = true := by rw [hq1, hq2]; exact e1
          have e3 : ((j % r : Nat) != (j / r : Nat)) = true := by simp [e]
          clear e hq1 hq2
          go_wp2
          go_quiet (fail)
          go_wp2
          refine wp_region_loose (by kernel_rfl) (by kernel_rfl) ?_
          (repeat (refine wpLoose_want rfl (fun K hK => ?_); first | (refine loose_farith _ _ _ _ _ rfl rfl _ _ _ rfl rfl (by assumption) (by assumption) ?_; intro r hr; refine hK _ ?_; clear hK K; simp only [Act.put, List.setIfInBounds_toArray, List.set_cons_succ, List.set_cons_zero]) | (refine loose_of_quiet rfl ?_; go_big_quiet_op; refine hK _ ?_; clear hK K)))
          refine wpLoose_nil ?_
          rintro _ ⟨nq, rfl⟩
          go_wp2
          go_roundw
          case rel => exact ⟨j + 1, _, _, by omega, by go_num, rfl, FV.of_eq (by assumption) HV.out.symm, rfl⟩
          case measure => simp [intOf]; omega
      · obtain rfl : j = n := by omega
        have hd : decide ((j : Int) < (r : Int) * (r : Int)) = false := decide_eq_false (by rw [hrr]; omega)
        go_wp2_with fail
        go_at_call 70
        refine (specRoot_any _ hq0 _).mono ?_
        rintro e w3 ⟨r3, rfl, hr3, m3, rfl⟩
        have hr4 : FV .f32 r3 (offN r j (vals Z)) := hr3
        clear hr3 hd
        go_wp2_with fail
        go_at_call 59
        refine (specNumber_any _ hr4 _).mono ?_
        rintro e w4 ⟨q, rfl, hq, m4, rfl⟩
        go_wp2_with fail
        go_ret2
        rw [HK.out]
        exact ⟨_, rfl, hq, (by repeat first | (with_reducible exact B1) | (with_reducible refine Below.setCell ?_ (by first | exact Nat.le_refl _ | (simp; done) | (simp; omega) | omega) _) | (with_reducible refine Below.alloc ?_ (by first | exact Nat.le_refl _ | (simp; done) | (simp; omega) | omega) _) | (with_reducible refine below_drewN ?_ _) | (with_reducible refine Below.drew ?_))⟩
theorem keyOffNorm (R C : Int) (n : Nat) (Z : Nat → Nat) (wR : (Lit.int .i64 R).wf = true) (wC : (Lit.int .i64 C).wf = true) (hn : n ≤ 1048576) : ∃ (ok : Bool) (X : Option Nat),
    (∀ a c W, FS .f32 W a n c Z → Calls Try.prog 31 #[.agg #[.int .i64 R, .int .i64 C, .slice a n c]] W (NumBel ok X W)) ∧
    (∀ a c W, FS .f32 W a n c Z → Calls Try.prog 32 #[.agg #[.int .i64 R, .int .i64 C, .slice a n c]] W (NumBel ok X W)) :=
  ⟨_, _, fun a c W h => specOff_any R C a n c Z W hn h, fun a c W h => implOff_any R C a n c Z W hn h⟩
end Go.Proofs.Ytmddhhmgfhljiaa
