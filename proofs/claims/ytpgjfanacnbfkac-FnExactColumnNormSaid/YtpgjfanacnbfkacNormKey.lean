/- Helper: the greatest sums of rows and columns, of the program and of its reference. Conditions: none. -/
import Derived.Test.YtpgjfanacnbfkacMatWalks
import Derived.Test.YtpgjfanacnbfkacVecSums
import Derived.Test.YtpgjfanacnbfkacRootWalks
import Derived.Test.YtpgjfanacnbfkacSizeFacts
set_option linter.unusedVariables false
namespace Go.Proofs.Ytpgjfanacnbfkac
open Go.RowKit

theorem implAbs_any (x : Nat) {X : Option Nat} (fx : FV .f32 x X) (hx : finite .f32 X = true) (w : World) :
    Calls Try.prog 56 #[.float .f32 x] w fun e w' => ∃ r, e = .returned (.float .f32 r) ∧ FV .f32 r (fsize X) ∧ ∃ n, w' = w.drewN n := by
  have hf := fits_size hx
  have hE := Lib.hid (abs_size hx)
  go_enter Try.func56, Try.ntmps56
  go_wp2_with (first | (refine wpList_widen rfl _ _ _ rfl _ rfl (by kernel_rfl) Try.underlying32 (by assumption) ?_; intro r m hr) | (go_at_call 63; refine (abs_any _ (by assumption) _).mono ?_; rintro e w' ⟨r, rfl, hr, rfl⟩) | (refine wpList_narrow rfl _ _ _ rfl _ rfl (by kernel_rfl) Try.underlying26 (by assumption) (by assumption) ?_; intro r m hr))
  go_ret
  exact ⟨_, rfl, FV.of_eq (by assumption) hE.out, _, rfl⟩
theorem specSize_any (x : Nat) {X : Option Nat} (fx : FV .f32 x X) (hx : finite .f32 X = true) (w : World) :
    Calls Try.prog 51 #[.float .f32 x] w fun e w' => ∃ r, e = .returned (.float .f32 r) ∧ FV .f32 r (fsize X) ∧ ∃ n, w' = w.drewN n := by
  have hE := Lib.hid (neg_size hx (fun y hy => by
    subst hy
    obtain rfl := fx.eq
    have := fx.2
    simpa [Lit.wf] using this))
  obtain ⟨o, ho⟩ := ford_some hx
  have h1 := fx.1
  have c0 : cn .f32 0 = some 0 := cn_of (by decide +kernel)
  cases o
  all_goals
    have hL : Hid (leZero X = _) := Lib.hid (by unfold leZero; rw [ho])
    clear hx
    go_enter Try.func51, Try.ntmps51
    go_wp2_with (first | (refine wpList_farith rfl _ _ _ _ _ rfl rfl _ _ _ rfl rfl (by first | assumption | (with_reducible exact FV.ofInt _ _) | exact FV.lit (by kernel_rfl) (by kernel_rfl)) (by first | assumption | (with_reducible exact FV.ofInt _ _) | exact FV.lit (by kernel_rfl) (by kernel_rfl)) ?_; intro r m hr))
    go_ret
    refine ⟨_, rfl, ?_, by first | exact ⟨_, rfl⟩ | exact ⟨0, rfl⟩⟩
    have hE' := hE.out
    rw [hL.out] at hE'
    first | exact FV.of_eq (by assumption) hE'

theorem run_maxF {P : Program} (ts : Array TypeId) (t : TypeId) (a b : Nat) (o : Ordering) (ho : FloatKind.f32.format.order a b = some o) (hn : (FloatKind.f32.decode a).neg = false) (w : World) :
    (Builtin.max_ ts t #[.float .f32 a, .float .f32 b]).run P w = .ok (.float .f32 (match o with | .lt => b | .gt => a | .eq => a)) w := by
  cases o <;> simp [Builtin.max_, Builtin.max2, ho, hn]
theorem sizeAt {Z : Nat → Nat} {n i : Nat} (h : allFin (vals Z) n = true) (hi : i < n) (hw : (Lit.float .f32 (Z i)).wf = true) : FV .f32 (Z i) (vals Z i) ∧ finite .f32 (vals Z i) = true := ⟨FV.mk' hw, allFin_lt h hi⟩

set_option maxHeartbeats 1000000 in
theorem greatestRow_any (r c n b off cap : Nat) (Z : Nat → Nat) (w : World) (hr1 : 1 ≤ r) (hr : r ≤ 12) (hc1 : 1 ≤ c) (hc : c ≤ 12) (hn : n = r * c) (hv : allFin (vals Z) n = true) (h : FS .f32 w (some ⟨b, off, none⟩) n cap Z) :
    Calls Try.prog 33 #[.agg #[.int .i64 r, .int .i64 c, .slice (some ⟨b, off, none⟩) n cap]] w fun e w' => ∃ q, e = .returned (.float .f32 q) ∧ FV .f32 q (gr (vals Z) c r) ∧ Below w.heap.size w w' := by
  have hN := Lib.hid hn
  have hV := Lib.hid hv
  have hn144 : n ≤ 144 := by have := sides_le hr hc; omega
  have hcap := h.1
  have hmax : cap ≤ 9223372036854775807 := by have := h.2.1; unfold maxLen at this; omega
  clear hn hv
  go_enter Try.func33, Try.ntmps33
  go_wp2
  have X0 := Box.new w 29 r c (some ⟨b, off, none⟩) n cap
  have B0 : Below w.heap.size w (w.alloc (.cells #[.int .i64 r, .int .i64 c, .slice (some ⟨b, off, none⟩) n cap] 29)) := (by repeat first | (with_reducible exact Below.refl _ _) | (with_reducible refine Below.setCell ?_ (by first | exact Nat.le_refl _ | (simp; done) | (simp; omega) | omega) _) | (with_reducible refine Below.alloc ?_ (by first | exact Nat.le_refl _ | (simp; done) | (simp; omega) | omega) _) | (with_reducible refine below_drewN ?_ _) | (with_reducible refine Below.drew ?_))
  have F0 := h.below B0 (Nat.le_refl _)
  have hs0 : w.heap.size < (w.alloc (.cells #[.int .i64 r, .int .i64 c, .slice (some ⟨b, off, none⟩) n cap] 29)).heap.size := by simp
  generalize hw0 : w.alloc (.cells #[.int .i64 r, .int .i64 c, .slice (some ⟨b, off, none⟩) n cap] 29) = w0 at X0 B0 F0 hs0 ⊢
  clear hw0 h
  obtain ⟨x0, x1, x2⟩ := X0
  go_loopw [3, 10] (fun s i wr => ∃ j q : Nat, j ≤ r ∧ i = .int .i64 j ∧ s = .float .f32 q ∧ FV .f32 q (gr (vals Z) c j) ∧ Below w0.heap.size w0 wr) (fun _ i _ => r - (intOf i).toNat)
  case atStart => exact ⟨0, 0, Nat.zero_le _, rfl, rfl, FV.lit (by kernel_rfl) (by kernel_rfl), Below.refl _ _⟩
  case round =>
    obtain ⟨j, q0, hj, rfl, rfl, hq0, hb⟩ := hrel
    by_cases hlt : j < r
    · have hjc : (j + 1) * c ≤ n := by rw [hN.out]; exact Nat.mul_le_mul_right c hlt
      rw [Nat.add_mul, Nat.one_mul] at hjc
      have hQ := Lib.hid hq0
      obtain ⟨y0, y1, y2⟩ := (show Box w0 w.heap.size r c (some ⟨b, off, none⟩) n cap from ⟨x0, x1, x2⟩).below hb hs0
      have hb' := Lib.hid hb
      clear hb hq0
      go_wp2_with fail
      go_at_call 55
      refine (rowOf_any b off r c n cap j _ hr hc1 hc hN.out hcap hmax hlt).mono ?_
      rintro e w2 ⟨rfl, b2⟩
      have B2 := Lib.hid (hb'.out.trans (b2.mono hb'.out.size))
      have F2 := F0.below B2.out (Nat.le_refl _)
      clear b2 hb' y0 y1 y2
      go_wp2
      go_loopw [5, 17] (fun s k wr => ∃ t q : Nat, t ≤ c ∧ k = .int .i64 t ∧ s = .float .f32 q ∧ FV .f32 q (rowS (vals Z) c j t) ∧ ∃ m, wr = w2.drewN m) (fun _ k _ => c - (intOf k).toNat)
      case atStart => exact ⟨0, 0, Nat.zero_le _, rfl, rfl, FV.lit (by kernel_rfl) (by kernel_rfl), 0, rfl⟩
      case round =>
        obtain ⟨t, q1, ht, rfl, rfl, hq1, m0, rfl⟩ := hrel
        by_cases hlt2 : t < c
        · obtain ⟨b', off', e, hbl, hce, hfv⟩ := F2.at (show j * c + t < n by omega)
          simp only [Option.some.injEq, Addr.mk.injEq, and_true] at e
          obtain ⟨rfl, rfl⟩ := e
          rw [← Nat.add_assoc] at hce
          obtain ⟨fz, ff⟩ := sizeAt hV.out (show j * c + t < n by omega) hfv.2
          clear hbl hfv
          go_wp2_with fail
          go_at_call 56
          refine (implAbs_any _ fz ff _).mono ?_
          rintro e w3 ⟨r1, rfl, hr1', m1, rfl⟩
          clear fz ff hce
          go_wp2_with (first | (refine wpList_farith rfl _ _ _ _ _ rfl rfl _ _ _ rfl rfl hq1 hr1' ?_; intro rr mm hrr))
          go_roundw
          case rel => exact ⟨t + 1, _, by omega, by go_num, rfl, FV.of_eq hrr (rowS_succ _ _ _ _), by first | exact ⟨_, rfl⟩ | exact ⟨_, by simp only [World.drewN_drewN]; rfl⟩⟩
          case measure => simp [intOf]; omega
        · obtain rfl : t = c := by omega
          obtain ⟨a1, ea, ha⟩ := Pz.gr (V := vals Z) (c := t) (i := j) (fun k hk => allFin_lt hV.out (by omega))
          obtain ⟨a2, eb, hb2⟩ := Pz.rowS (V := vals Z) (c := t) (i := j) (k := t) (fun k hk => allFin_lt hV.out (by omega))
          have g1 : q0 = a1 := FV.eq (ea ▸ hQ.out)
          have g2 : q1 = a2 := FV.eq (eb ▸ hq1)
          subst g1 g2
          have hQ1 := Lib.hid hq1
          clear hq1
          have hG : gr (vals Z) t (j + 1) = pickMax (some q0) (some q1) := by rw [← ea, ← eb]; rfl
          have hG' := Lib.hid hG
          have k1 := cn_pz ha
          have k2 := cn_pz hb2
          have k3 := neg_pz ha
          clear hG
          rcases Pz.order ha hb2 with ⟨o1, o2⟩ | ⟨o1, o2⟩ | ⟨o1, o2⟩
          all_goals
            have hO := Lib.hid o2
            have hmx := fun W => run_maxF (P := Try.prog) #[26, 26] 26 q0 q1 _ o1 k3 W
            clear o2
            go_wp2
            go_roundw
            case rel =>
              refine ⟨j + 1, _, by omega, by go_num, rfl, ?_, below_drewN B2.out _⟩
              rw [hG'.out]
              unfold pickMax
              rw [hO.out]
              first | exact ⟨k2, hQ1.out.2⟩ | exact ⟨k1, hQ.out.2⟩
            case measure => simp [intOf]; omega
    · obtain rfl : j = r := by omega
      have hb' := Lib.hid hb
      have hQ := Lib.hid hq0
      clear hb hq0
      go_wp2
      go_ret
      exact ⟨_, rfl, hQ.out, B0.trans (hb'.out.mono B0.size)⟩

set_option maxHeartbeats 1000000 in
theorem specGreatest_any (p r c n b off cap : Nat) (Z : Nat → Nat) (w : World) (hr1 : 1 ≤ r) (hr : r ≤ 12) (hc1 : 1 ≤ c) (hc : c ≤ 12) (hn : n = r * c) (hv : allFin (vals Z) n = true) (hbx : Box w p r c (some ⟨b, off, none⟩) n cap) (h : FS .f32 w (some ⟨b, off, none⟩) n cap Z) :
    Calls Try.prog 30 #[.pointer (some ⟨p, 0, none⟩)] w fun e w' => ∃ q, e = .returned (.float .f32 q) ∧ FV .f32 q (gr (vals Z) c r) ∧ ∃ m, w' = w.drewN m := by
  have hN := Lib.hid hn
  have hV := Lib.hid hv
  have hn144 : n ≤ 144 := by have := sides_le hr hc; omega
  have hbx' := Lib.hid hbx
  obtain ⟨x0, x1, x2⟩ := hbx
  clear hn hv
  go_enter Try.func30, Try.ntmps30
  go_wp2
  go_loopw [3, 4] (fun s i wr => ∃ j q m : Nat, j ≤ r ∧ i = .int .i64 j ∧ s = .float .f32 q ∧ FV .f32 q (gr (vals Z) c j) ∧ wr = w.drewN m) (fun _ i _ => r - (intOf i).toNat)
  case atStart => exact ⟨0, 0, 0, Nat.zero_le _, rfl, rfl, FV.lit (by kernel_rfl) (by kernel_rfl), rfl⟩
  case round =>
    obtain ⟨j, q0, m0, hj, rfl, rfl, hq0, rfl⟩ := hrel
    have hQ := Lib.hid hq0
    clear hq0
    by_cases hlt : j < r
    · have hjc : (j + 1) * c ≤ n := by rw [hN.out]; exact Nat.mul_le_mul_right c hlt
      rw [Nat.add_mul, Nat.one_mul] at hjc
      go_wp2
      go_loopw [5, 6] (fun s k wr => ∃ t q m : Nat, t ≤ c ∧ k = .int .i64 t ∧ s = .float .f32 q ∧ FV .f32 q (rowS (vals Z) c j t) ∧ wr = w.drewN m) (fun _ k _ => c - (intOf k).toNat)
      case atStart => exact ⟨0, 0, _, Nat.zero_le _, rfl, rfl, FV.lit (by kernel_rfl) (by kernel_rfl), rfl⟩
      case round =>
        obtain ⟨t, q1, m1, ht, rfl, rfl, hq1, rfl⟩ := hrel
        by_cases hlt2 : t < c
        · obtain ⟨b', off', e, hbl, hce, hfv⟩ := h.at (show j * c + t < n by omega)
          obtain ⟨fz, ff⟩ := sizeAt hV.out (show j * c + t < n by omega) hfv.2
          clear e hbl hce hfv
          go_wp2_with fail
          go_at_call 52
          refine (specAt_any p b off r c n cap j t Z _ hr hc hN.out hbx'.out.drewN (FS.drewN h) hlt hlt2).mono ?_
          rintro e w3 ⟨rfl, m2, rfl⟩
          go_wp2_with fail
          go_at_call 51
          refine (specSize_any _ fz ff _).mono ?_
          rintro e w3 ⟨r1, rfl, hr1', m3, rfl⟩
          clear fz ff
          go_wp2_with (first | (refine wpList_farith rfl _ _ _ _ _ rfl rfl _ _ _ rfl rfl hq1 hr1' ?_; intro rr mm hrr))
          go_roundw
          case rel => exact ⟨t + 1, _, _, by omega, by go_num, rfl, FV.of_eq hrr (rowS_succ _ _ _ _), by first | rfl | (simp only [World.drewN_drewN]; rfl)⟩
          case measure => simp [intOf]; omega
        · obtain rfl : t = c := by omega
          obtain ⟨a1, ea, ha⟩ := Pz.gr (V := vals Z) (c := t) (i := j) (fun k hk => allFin_lt hV.out (by omega))
          obtain ⟨a2, eb, hb2⟩ := Pz.rowS (V := vals Z) (c := t) (i := j) (k := t) (fun k hk => allFin_lt hV.out (by omega))
          have g1 : q0 = a1 := FV.eq (ea ▸ hQ.out)
          have g2 : q1 = a2 := FV.eq (eb ▸ hq1)
          subst g1 g2
          have hQ1 := Lib.hid hq1
          clear hq1
          have hG : gr (vals Z) t (j + 1) = pickMax (some q0) (some q1) := by rw [← ea, ← eb]; rfl
          have hG' := Lib.hid hG
          have k1 := cn_pz ha
          have k2 := cn_pz hb2
          clear hG
          rcases Pz.order ha hb2 with ⟨o2, o1⟩ | ⟨o2, o1⟩ | ⟨o2, o1⟩
          all_goals
            have hO := Lib.hid o1
            clear o2
            go_wp2
            go_roundw
            case rel =>
              refine ⟨j + 1, _, _, by omega, by go_num, rfl, ?_, rfl⟩
              rw [hG'.out]
              unfold pickMax
              rw [hO.out]
              first | exact ⟨k2, hQ1.out.2⟩ | exact ⟨k1, hQ.out.2⟩
            case measure => simp [intOf]; omega
    · obtain rfl : j = r := by omega
      go_wp2
      go_ret
      exact ⟨_, rfl, hQ.out, _, rfl⟩

theorem NumBel.of {ok : Bool} {X : Option Nat} {w W w' : World} {e : Ending} (h : NumPost ok X W e w') (hb : Below w.heap.size w W) : NumBel ok (pick ok X) w e w' := by
  obtain ⟨r, he, hr, m, hw⟩ := h
  exact ⟨r, he, hr, by rw [hw]; exact below_drewN hb m⟩
def normOk (R C : Int) (n : Nat) (Z : Nat → Nat) : Bool := validB R C n (vals Z) && finite .f32 (gr (vals Z) C.toNat R.toNat)
def normV (R C : Int) (n : Nat) (Z : Nat → Nat) : Option Nat := pick (normOk R C n Z) (gr (vals Z) C.toNat R.toNat)
set_option maxHeartbeats 1000000 in
theorem implRowNorm_any (R C : Int) (a : Option Addr) (n cap : Nat) (Z : Nat → Nat) (w : World) (hn : n ≤ 1048576) (h : FS .f32 w a n cap Z) :
    Calls Try.prog 12 #[.agg #[.int .i64 R, .int .i64 C, .slice a n cap]] w (NumBel (normOk R C n Z) (normV R C n Z) w) := by
  unfold normV
  cases hv : validB R C n (vals Z) with
  | false =>
    have HK : Hid (normOk R C n Z = false) := Lib.hid (by unfold normOk; rw [hv]; rfl)
    go_enter Try.func12, Try.ntmps12
    go_wp2_with fail
    go_at_call 31
    refine (implValid_any R C a n cap Z _ hn (h.below (by repeat first | (with_reducible exact Below.refl _ _) | (with_reducible refine Below.setCell ?_ (by first | exact Nat.le_refl _ | (simp; done) | (simp; omega) | omega) _) | (with_reducible refine Below.alloc ?_ (by first | exact Nat.le_refl _ | (simp; done) | (simp; omega) | omega) _) | (with_reducible refine below_drewN ?_ _) | (with_reducible refine Below.drew ?_)) (Nat.le_refl _))).mono ?_
    rintro e w1 ⟨rfl, b1⟩
    have B1 : Below w.heap.size w w1 := Below.trans (by repeat first | (with_reducible exact Below.refl _ _) | (with_reducible refine Below.setCell ?_ (by first | exact Nat.le_refl _ | (simp; done) | (simp; omega) | omega) _) | (with_reducible refine Below.alloc ?_ (by first | exact Nat.le_refl _ | (simp; done) | (simp; omega) | omega) _) | (with_reducible refine below_drewN ?_ _) | (with_reducible refine Below.drew ?_)) (b1.mono (by simp))
    go_wp2_with fail
    go_ret2
    rw [HK.out]
    exact ⟨_, rfl, pick_no _ rfl, B1⟩
  | true =>
    have hv' := hv
    obtain ⟨r, c, rfl, rfl, hr1, hr, hc1, hc, hnr, hall⟩ := valid_nat hv
    have HK : Hid (normOk r c n Z = finite .f32 (gr (vals Z) c r)) := Lib.hid (by unfold normOk; rw [hv']; simp)
    have h0 : 0 < n := by rw [hnr]; exact Nat.mul_pos hr1 hc1
    obtain ⟨b, off, rfl, _, _, _⟩ := h.at h0
    have hnr' := Lib.hid hnr
    have hall' := Lib.hid hall
    clear hnr h0 hv' hall
    go_enter Try.func12, Try.ntmps12
    go_wp2_with fail
    go_at_call 31
    refine (implValid_any r c _ n cap Z _ hn (h.below (by repeat first | (with_reducible exact Below.refl _ _) | (with_reducible refine Below.setCell ?_ (by first | exact Nat.le_refl _ | (simp; done) | (simp; omega) | omega) _) | (with_reducible refine Below.alloc ?_ (by first | exact Nat.le_refl _ | (simp; done) | (simp; omega) | omega) _) | (with_reducible refine below_drewN ?_ _) | (with_reducible refine Below.drew ?_)) (Nat.le_refl _))).mono ?_
    rintro e w1 ⟨rfl, b1⟩
    have B1 : Below w.heap.size w w1 := Below.trans (by repeat first | (with_reducible exact Below.refl _ _) | (with_reducible refine Below.setCell ?_ (by first | exact Nat.le_refl _ | (simp; done) | (simp; omega) | omega) _) | (with_reducible refine Below.alloc ?_ (by first | exact Nat.le_refl _ | (simp; done) | (simp; omega) | omega) _) | (with_reducible refine below_drewN ?_ _) | (with_reducible refine Below.drew ?_)) (b1.mono (by simp))
    obtain ⟨x0, x1, x2⟩ := (Box.new _ _ _ _ _ _ _).below b1 (by simp)
    have f1 := h.below B1 (Nat.le_refl _)
    clear b1
    go_wp2_with fail
    go_at_call 33
    refine (greatestRow_any r c n b off cap Z _ hr1 hr hc1 hc hnr'.out hall'.out f1).mono ?_
    rintro e w2 ⟨q, rfl, hq, b2⟩
    have B2 := Lib.hid (B1.trans (b2.mono B1.size))
    clear b2 x0 x1 x2
    go_wp2_with fail
    go_at_call 32
    refine (implNumber_any _ hq _).mono ?_
    intro e w4 hp
    have hp' := Lib.hid (NumBel.of hp B2.out)
    obtain ⟨q, rfl, hv, m, rfl⟩ := hp
    go_wp2_with fail
    go_ret2
    rw [HK.out]
    exact hp'.out
set_option maxHeartbeats 1000000 in
theorem specRowNorm_any (R C : Int) (a : Option Addr) (n cap : Nat) (Z : Nat → Nat) (w : World) (hn : n ≤ 1048576) (h : FS .f32 w a n cap Z) :
    Calls Try.prog 10 #[.agg #[.int .i64 R, .int .i64 C, .slice a n cap]] w (NumBel (normOk R C n Z) (normV R C n Z) w) := by
  unfold normV
  cases hv : validB R C n (vals Z) with
  | false =>
    have HK : Hid (normOk R C n Z = false) := Lib.hid (by unfold normOk; rw [hv]; rfl)
    go_enter Try.func10, Try.ntmps10
    go_wp2_with fail
    go_at_call 28
    refine (specIs_any _ R C a n cap Z _ hn (Box.new _ _ _ _ _ _ _) (h.below (by repeat first | (with_reducible exact Below.refl _ _) | (with_reducible refine Below.setCell ?_ (by first | exact Nat.le_refl _ | (simp; done) | (simp; omega) | omega) _) | (with_reducible refine Below.alloc ?_ (by first | exact Nat.le_refl _ | (simp; done) | (simp; omega) | omega) _) | (with_reducible refine below_drewN ?_ _) | (with_reducible refine Below.drew ?_)) (Nat.le_refl _))).mono ?_
    rintro e w1 ⟨rfl, m1, rfl⟩
    go_wp2_with fail
    go_ret2
    rw [HK.out]
    exact ⟨_, rfl, pick_no _ rfl, (by repeat first | (with_reducible exact Below.refl _ _) | (with_reducible refine Below.setCell ?_ (by first | exact Nat.le_refl _ | (simp; done) | (simp; omega) | omega) _) | (with_reducible refine Below.alloc ?_ (by first | exact Nat.le_refl _ | (simp; done) | (simp; omega) | omega) _) | (with_reducible refine below_drewN ?_ _) | (with_reducible refine Below.drew ?_))⟩
  | true =>
    have hv' := hv
    obtain ⟨r, c, rfl, rfl, hr1, hr, hc1, hc, hnr, hall⟩ := valid_nat hv
    have HK : Hid (normOk r c n Z = finite .f32 (gr (vals Z) c r)) := Lib.hid (by unfold normOk; rw [hv']; simp)
    have h0 : 0 < n := by rw [hnr]; exact Nat.mul_pos hr1 hc1
    obtain ⟨b, off, rfl, _, _, _⟩ := h.at h0
    have hnr' := Lib.hid hnr
    have hall' := Lib.hid hall
    clear hnr h0 hv' hall
    go_enter Try.func10, Try.ntmps10
    go_wp2_with fail
    go_at_call 28
    refine (specIs_any _ r c _ n cap Z _ hn (Box.new _ _ _ _ _ _ _) (h.below (by repeat first | (with_reducible exact Below.refl _ _) | (with_reducible refine Below.setCell ?_ (by first | exact Nat.le_refl _ | (simp; done) | (simp; omega) | omega) _) | (with_reducible refine Below.alloc ?_ (by first | exact Nat.le_refl _ | (simp; done) | (simp; omega) | omega) _) | (with_reducible refine below_drewN ?_ _) | (with_reducible refine Below.drew ?_)) (Nat.le_refl _))).mono ?_
    rintro e w1 ⟨rfl, m1, rfl⟩
    go_wp2_with fail
    go_at_call 30
    refine (specGreatest_any _ r c n b off cap Z _ hr1 hr hc1 hc hnr'.out hall'.out (Box.new _ _ _ _ _ _ _).drewN (h.below (by repeat first | (with_reducible exact Below.refl _ _) | (with_reducible refine Below.setCell ?_ (by first | exact Nat.le_refl _ | (simp; done) | (simp; omega) | omega) _) | (with_reducible refine Below.alloc ?_ (by first | exact Nat.le_refl _ | (simp; done) | (simp; omega) | omega) _) | (with_reducible refine below_drewN ?_ _) | (with_reducible refine Below.drew ?_)) (Nat.le_refl _))).mono ?_
    rintro e w2 ⟨q, rfl, hq, m2, rfl⟩
    go_wp2_with fail
    go_at_call 29
    refine (specNumber_any _ hq _).mono ?_
    intro e w4 hp
    obtain ⟨q, rfl, hv, m, rfl⟩ := hp
    go_wp2_with fail
    go_ret2
    rw [HK.out]
    exact ⟨_, rfl, hv, (by repeat first | (with_reducible exact Below.refl _ _) | (with_reducible refine Below.setCell ?_ (by first | exact Nat.le_refl _ | (simp; done) | (simp; omega) | omega) _) | (with_reducible refine Below.alloc ?_ (by first | exact Nat.le_refl _ | (simp; done) | (simp; omega) | omega) _) | (with_reducible refine below_drewN ?_ _) | (with_reducible refine Below.drew ?_))⟩
theorem keyRowNorm (R C : Int) (n : Nat) (Z : Nat → Nat) (hn : n ≤ 1048576) : ∃ (ok : Bool) (X : Option Nat),
    (∀ a c W, FS .f32 W a n c Z → Calls Try.prog 10 #[.agg #[.int .i64 R, .int .i64 C, .slice a n c]] W (NumBel ok X W)) ∧
    (∀ a c W, FS .f32 W a n c Z → Calls Try.prog 12 #[.agg #[.int .i64 R, .int .i64 C, .slice a n c]] W (NumBel ok X W)) :=
  ⟨_, _, fun a c W h => specRowNorm_any R C a n c Z W hn h, fun a c W h => implRowNorm_any R C a n c Z W hn h⟩
end Go.Proofs.Ytpgjfanacnbfkac
