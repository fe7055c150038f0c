/- Helper: the product of each number of a matrix with another matrix, of the reference. Conditions: none. -/
import Derived.Test.YtmddhhmgfhljiaaKronImpl
import Derived.Test.YtmddhhmgfhljiaaAppend
set_option linter.unusedVariables false
set_option linter.unusedSimpArgs false
namespace Go.Proofs.Ytmddhhmgfhljiaa
open Go.RowKit

theorem twoCells {w : World} {m : Nat} {R C R2 C2 : Int} {a b : Option Addr} {n c n2 d : Nat} {T1 T2 T3 : TypeId} :
    Box ((((w.alloc (.cells #[.int .i64 R, .int .i64 C, .slice a n c] T1)).alloc (.cells #[.int .i64 R2, .int .i64 C2, .slice b n2 d] T2)).alloc (.cells #[.int .i64 0, .int .i64 0, .slice none 0 0] T3)).drewN m) w.heap.size R C a n c ∧ Box ((((w.alloc (.cells #[.int .i64 R, .int .i64 C, .slice a n c] T1)).alloc (.cells #[.int .i64 R2, .int .i64 C2, .slice b n2 d] T2)).alloc (.cells #[.int .i64 0, .int .i64 0, .slice none 0 0] T3)).drewN m) (w.heap.size + 1) R2 C2 b n2 d := by
  refine ⟨⟨?_, ?_, ?_⟩, ⟨?_, ?_, ?_⟩⟩ <;> simp [go_sem]
theorem specKron_bad (R C : Int) (a : Option Addr) (n c : Nat) (Z : Nat → Nat) (R2 C2 : Int) (b : Option Addr) (n2 d : Nat) (Y : Nat → Nat) (w : World) (hn : n ≤ 1048576) (hm : n2 ≤ 1048576) (h : FS .f32 w a n c Z) (h2 : FS .f32 w b n2 d Y)
    (hno : (validB R C n (vals Z) && validB R2 C2 n2 (vals Y)) = false) :
    Calls Try.prog 33 #[.agg #[.int .i64 R, .int .i64 C, .slice a n c], .agg #[.int .i64 R2, .int .i64 C2, .slice b n2 d]] w (MatBel false 0 0 0 (fun _ => none) w) := by
  cases hv : validB R C n (vals Z) with
  | false =>
    go_enter Try.func33, Try.ntmps33
    go_wp2_with fail
    go_at_call 55
    refine (specIs_any w.heap.size R C a n c Z _ hn (by refine ⟨?_, ?_, ?_⟩ <;> simp [go_sem]) (h.below (by repeat first | (with_reducible exact Below.refl _ _) | (with_reducible refine Below.setCell ?_ (by first | exact Nat.le_refl _ | (simp; done) | (simp; omega) | omega) _) | (with_reducible refine Below.alloc ?_ (by first | exact Nat.le_refl _ | (simp; done) | (simp; omega) | omega) _) | (with_reducible refine below_drewN ?_ _) | (with_reducible refine Below.drew ?_)) (Nat.le_refl _))).mono ?_
    rintro e w1 ⟨rfl, m1, rfl⟩
    rw [hv]
    go_wp2_with fail
    refine bodyPost_ret (v := .tuple #[.agg #[.int .i64 0, .int .i64 0, .slice none 0 0], .bool false]) (by simp [results, Try.results33, go_sem]) rfl ?_
    exact ⟨none, 0, fun _ => 0, rfl, ⟨Nat.le_refl _, Nat.zero_le _, fun i hi => by omega⟩, fun i hi => by omega, (by repeat first | (with_reducible exact Below.refl _ _) | (with_reducible refine Below.setCell ?_ (by first | exact Nat.le_refl _ | (simp; done) | (simp; omega) | omega) _) | (with_reducible refine Below.alloc ?_ (by first | exact Nat.le_refl _ | (simp; done) | (simp; omega) | omega) _) | (with_reducible refine below_drewN ?_ _) | (with_reducible refine Below.drew ?_))⟩
  | true =>
    have hv2 : validB R2 C2 n2 (vals Y) = false := by rw [hv] at hno; simpa using hno
    go_enter Try.func33, Try.ntmps33
    go_wp2_with fail
    go_at_call 55
    refine (specIs_any w.heap.size R C a n c Z _ hn (by refine ⟨?_, ?_, ?_⟩ <;> simp [go_sem]) (h.below (by repeat first | (with_reducible exact Below.refl _ _) | (with_reducible refine Below.setCell ?_ (by first | exact Nat.le_refl _ | (simp; done) | (simp; omega) | omega) _) | (with_reducible refine Below.alloc ?_ (by first | exact Nat.le_refl _ | (simp; done) | (simp; omega) | omega) _) | (with_reducible refine below_drewN ?_ _) | (with_reducible refine Below.drew ?_)) (Nat.le_refl _))).mono ?_
    rintro e w1 ⟨rfl, m1, rfl⟩
    rw [hv]
    go_wp2_with fail
    go_at_call 55
    refine (specIs_any (w.heap.size + 1) R2 C2 b n2 d Y _ hm (by refine ⟨?_, ?_, ?_⟩ <;> simp [go_sem]) (h2.below (by repeat first | (with_reducible exact Below.refl _ _) | (with_reducible refine Below.setCell ?_ (by first | exact Nat.le_refl _ | (simp; done) | (simp; omega) | omega) _) | (with_reducible refine Below.alloc ?_ (by first | exact Nat.le_refl _ | (simp; done) | (simp; omega) | omega) _) | (with_reducible refine below_drewN ?_ _) | (with_reducible refine Below.drew ?_)) (Nat.le_refl _))).mono ?_
    rintro e w2 ⟨rfl, m2, rfl⟩
    rw [hv2]
    go_wp2_with fail
    refine bodyPost_ret (v := .tuple #[.agg #[.int .i64 0, .int .i64 0, .slice none 0 0], .bool false]) (by simp [results, Try.results33, go_sem]) rfl ?_
    exact ⟨none, 0, fun _ => 0, rfl, ⟨Nat.le_refl _, Nat.zero_le _, fun i hi => by omega⟩, fun i hi => by omega, (by repeat first | (with_reducible exact Below.refl _ _) | (with_reducible refine Below.setCell ?_ (by first | exact Nat.le_refl _ | (simp; done) | (simp; omega) | omega) _) | (with_reducible refine Below.alloc ?_ (by first | exact Nat.le_refl _ | (simp; done) | (simp; omega) | omega) _) | (with_reducible refine below_drewN ?_ _) | (with_reducible refine Below.drew ?_))⟩
set_option maxRecDepth 20000 in
set_option maxHeartbeats 1000000 in
theorem specKron_no (r c r2 c2 RR CC N1 N2 : Nat) (a b : Option Addr) (d1 d2 : Nat) (Z Y : Nat → Nat) (w : World) (hr : r ≤ 12) (hc : c ≤ 12) (hr2 : r2 ≤ 12) (hc2 : c2 ≤ 12) (hRR : RR = r * r2) (hCC : CC = c * c2) (hn : N1 ≤ 1048576) (hm : N2 ≤ 1048576)
    (hv : validB r c N1 (vals Z) = true) (hv2 : validB r2 c2 N2 (vals Y) = true) (hno : (sideB (RR : Int) && sideB (CC : Int)) = false) (h : FS .f32 w a N1 d1 Z) (h2 : FS .f32 w b N2 d2 Y) :
    Calls Try.prog 33 #[.agg #[.int .i64 r, .int .i64 c, .slice a N1 d1], .agg #[.int .i64 r2, .int .i64 c2, .slice b N2 d2]] w (MatBel false 0 0 0 (fun _ => none) w) := by
  have b1' := sides_le hr hr2
  have b2' := sides_le hc hc2
  have he1 : (r : Int) * (r2 : Int) = (RR : Int) := by rw [hRR, Int.natCast_mul]
  have he2 : (c : Int) * (c2 : Int) = (CC : Int) := by rw [hCC, Int.natCast_mul]
  have hw1 : IntKind.i64.wrap (RR : Int) = (RR : Int) := IntWalk.i64_in _ (by omega)
  have hw2 : IntKind.i64.wrap (CC : Int) = (CC : Int) := IntWalk.i64_in _ (by omega)
  clear b1' b2' hRR hCC
  go_enter Try.func33, Try.ntmps33
  go_wp2_with fail
  go_at_call 55
  refine (specIs_any w.heap.size r c a N1 d1 Z _ hn (by refine ⟨?_, ?_, ?_⟩ <;> simp [go_sem]) (h.below (by repeat first | (with_reducible exact Below.refl _ _) | (with_reducible refine Below.setCell ?_ (by first | exact Nat.le_refl _ | (simp; done) | (simp; omega) | omega) _) | (with_reducible refine Below.alloc ?_ (by first | exact Nat.le_refl _ | (simp; done) | (simp; omega) | omega) _) | (with_reducible refine below_drewN ?_ _) | (with_reducible refine Below.drew ?_)) (Nat.le_refl _))).mono ?_
  rintro e w1 ⟨rfl, m1, rfl⟩
  rw [hv]
  go_wp2_with fail
  go_at_call 55
  refine (specIs_any (w.heap.size + 1) r2 c2 b N2 d2 Y _ hm (by refine ⟨?_, ?_, ?_⟩ <;> simp [go_sem]) (h2.below (by repeat first | (with_reducible exact Below.refl _ _) | (with_reducible refine Below.setCell ?_ (by first | exact Nat.le_refl _ | (simp; done) | (simp; omega) | omega) _) | (with_reducible refine Below.alloc ?_ (by first | exact Nat.le_refl _ | (simp; done) | (simp; omega) | omega) _) | (with_reducible refine below_drewN ?_ _) | (with_reducible refine Below.drew ?_)) (Nat.le_refl _))).mono ?_
  rintro e w2 ⟨rfl, m2, rfl⟩
  rw [hv2]
  clear hv hv2
  go_wp2_with fail
  go_at_call 75
  refine (specSides_any _ _ _).mono ?_
  rintro e w3 ⟨rfl, rfl⟩
  rw [hno]
  clear he1 he2 hw1 hw2
  go_wp2_with fail
  refine bodyPost_ret (v := .tuple #[.agg #[.int .i64 0, .int .i64 0, .slice none 0 0], .bool false]) (by simp [results, Try.results33, go_sem]) rfl ?_
  exact ⟨none, 0, fun _ => 0, rfl, ⟨Nat.le_refl _, Nat.zero_le _, fun i hi => by omega⟩, fun i hi => by omega, (by repeat first | (with_reducible exact Below.refl _ _) | (with_reducible refine Below.setCell ?_ (by first | exact Nat.le_refl _ | (simp; done) | (simp; omega) | omega) _) | (with_reducible refine Below.alloc ?_ (by first | exact Nat.le_refl _ | (simp; done) | (simp; omega) | omega) _) | (with_reducible refine below_drewN ?_ _) | (with_reducible refine Below.drew ?_))⟩
set_option maxRecDepth 20000 in
set_option maxHeartbeats 4000000 in
theorem specKron_yes (r c r2 c2 RR CC N1 N2 N p1 o1 d1 p2 o2 d2 : Nat) (Z Y : Nat → Nat) (w : World) (hr1 : 1 ≤ r) (hr : r ≤ 12) (hc1 : 1 ≤ c) (hc : c ≤ 12) (hr21 : 1 ≤ r2) (hr2 : r2 ≤ 12) (hc21 : 1 ≤ c2) (hc2 : c2 ≤ 12) (hRR : RR = r * r2) (hCC : CC = c * c2)
    (hRR1 : 1 ≤ RR) (hRR12 : RR ≤ 12) (hCC1 : 1 ≤ CC) (hCC12 : CC ≤ 12) (hN1 : N1 = r * c) (hN2 : N2 = r2 * c2) (hN : N = RR * CC)
    (hv : validB r c N1 (vals Z) = true) (hv2 : validB r2 c2 N2 (vals Y) = true) (hfa : allFin (vals Z) N1 = true) (hfb : allFin (vals Y) N2 = true) (h : FS .f32 w (some ⟨p1, o1, none⟩) N1 d1 Z) (h2 : FS .f32 w (some ⟨p2, o2, none⟩) N2 d2 Y) :
    Calls Try.prog 33 #[.agg #[.int .i64 r, .int .i64 c, .slice (some ⟨p1, o1, none⟩) N1 d1], .agg #[.int .i64 r2, .int .i64 c2, .slice (some ⟨p2, o2, none⟩) N2 d2]] w (BelIf (allFin (kronV c r2 c2 CC Z Y) N) RR CC N (kronV c r2 c2 CC Z Y) w) := by
  have HN1 := Lib.hid hN1
  have HN2 := Lib.hid hN2
  have HN := Lib.hid hN
  have HRR := Lib.hid hRR
  have HCC := Lib.hid hCC
  have HFA := Lib.hid hfa
  have HFB := Lib.hid hfb
  have h1144 : N1 ≤ 144 := by have := sides_le hr hc; omega
  have h2144 : N2 ≤ 144 := by have := sides_le hr2 hc2; omega
  have h144 : N ≤ 144 := by have := sides_le hRR12 hCC12; omega
  have hpos : 0 < N := by rw [hN]; exact Nat.mul_pos hRR1 hCC1
  have he1 : (r : Int) * (r2 : Int) = (RR : Int) := by rw [hRR, Int.natCast_mul]
  have he2 : (c : Int) * (c2 : Int) = (CC : Int) := by rw [hCC, Int.natCast_mul]
  have hw1 : IntKind.i64.wrap (RR : Int) = (RR : Int) := IntWalk.i64_in _ (by omega)
  have hw2 : IntKind.i64.wrap (CC : Int) = (CC : Int) := IntWalk.i64_in _ (by omega)
  have hs12 : (sideB (RR : Int) && sideB (CC : Int)) = true := by rw [sideB_yes (by omega) (by omega), sideB_yes (by omega) (by omega)]; rfl
  obtain ⟨VV, hVV⟩ : ∃ VV, VV = kronV c r2 c2 CC Z Y := ⟨_, rfl⟩
  rw [← hVV]
  have HVV := Lib.hid hVV
  clear hN1 hN2 hN hVV hRR hCC hfa hfb
  go_enter Try.func33, Try.ntmps33
  go_wp2_with fail
  generalize hwa : (w.alloc (.cells #[.int .i64 r, .int .i64 c, .slice (some ⟨p1, o1, none⟩) N1 d1] 31)).alloc (.cells #[.int .i64 r2, .int .i64 c2, .slice (some ⟨p2, o2, none⟩) N2 d2] 31) = wa
  have Ba : Below w.heap.size w wa := by rw [← hwa]; exact (by repeat first | (with_reducible exact Below.refl _ _) | (with_reducible refine Below.setCell ?_ (by first | exact Nat.le_refl _ | (simp; done) | (simp; omega) | omega) _) | (with_reducible refine Below.alloc ?_ (by first | exact Nat.le_refl _ | (simp; done) | (simp; omega) | omega) _) | (with_reducible refine below_drewN ?_ _) | (with_reducible refine Below.drew ?_))
  have sa : wa.heap.size = w.heap.size + 1 + 1 := by rw [← hwa]; simp
  have Xa : Box wa w.heap.size r c (some ⟨p1, o1, none⟩) N1 d1 := by rw [← hwa]; refine ⟨?_, ?_, ?_⟩ <;> simp [go_sem]
  have Xb : Box wa (w.heap.size + 1) r2 c2 (some ⟨p2, o2, none⟩) N2 d2 := by rw [← hwa]; refine ⟨?_, ?_, ?_⟩ <;> simp [go_sem]
  have Fa := h.below Ba (Nat.le_refl _)
  have Fb := h2.below Ba (Nat.le_refl _)
  try rw [← sa]
  clear hwa h h2
  have la : w.heap.size < wa.heap.size := by omega
  have lb : w.heap.size + 1 < wa.heap.size := by omega
  have B1 : Below wa.heap.size wa (wa.alloc (.cells #[.int .i64 0, .int .i64 0, .slice none 0 0] 31)) := (by repeat first | (with_reducible exact Below.refl _ _) | (with_reducible refine Below.setCell ?_ (by first | exact Nat.le_refl _ | (simp; done) | (simp; omega) | omega) _) | (with_reducible refine Below.alloc ?_ (by first | exact Nat.le_refl _ | (simp; done) | (simp; omega) | omega) _) | (with_reducible refine below_drewN ?_ _) | (with_reducible refine Below.drew ?_))
  go_at_call 55
  refine (specIs_any w.heap.size r c _ N1 d1 Z _ (by omega) (Xa.below B1 la) (Fa.below B1 (Nat.le_refl _))).mono ?_
  rintro e w1 ⟨rfl, m1, rfl⟩
  rw [hv]
  go_wp2_with fail
  go_at_call 55
  refine (specIs_any (w.heap.size + 1) r2 c2 _ N2 d2 Y _ (by omega) (Box.drewN (Xb.below B1 lb)) (FS.drewN (Fb.below B1 (Nat.le_refl _)))).mono ?_
  rintro e w2 ⟨rfl, m2, rfl⟩
  rw [hv2]
  obtain ⟨x0, x1, x2⟩ := (Xa.below B1 la).drewN (m := m1 + m2)
  obtain ⟨v0, v1, v2⟩ := (Xb.below B1 lb).drewN (m := m1 + m2)
  clear hv hv2
  go_wp2_with fail
  go_at_call 75
  refine (specSides_any _ _ _).mono ?_
  rintro e w3 ⟨rfl, rfl⟩
  rw [hs12]
  go_wp2_with fail
  go_at_call 76
  refine (l02Blank_any _ _ _).mono ?_
  rintro e w3 ⟨g, rfl, o3, b3⟩
  have s3 : wa.heap.size + 1 ≤ w3.heap.size := (by have hh := b3.size; (try simp [World.drewN] at hh); omega)
  have hB : Build wa w3.heap.size wa.heap.size RR CC 0 VV _ (some ⟨g, 0, none⟩) 0 [] := Build.start1 (T1 := 0) (T2 := 31) (by simp [World.drewN]) b3 (by refine ⟨?_, ?_, ?_⟩ <;> simp [go_sem]) (by intro i; simp [go_sem]) (by repeat first | (with_reducible exact Below.refl _ _) | (with_reducible refine Below.setCell ?_ (by first | exact Nat.le_refl _ | (simp; done) | (simp; omega) | omega) _) | (with_reducible refine Below.alloc ?_ (by first | exact Nat.le_refl _ | (simp; done) | (simp; omega) | omega) _) | (with_reducible refine below_drewN ?_ _) | (with_reducible refine Below.drew ?_)) o3
  generalize hob : w3.heap.size = ob at hB s3
  have hob' := Lib.hid hob
  clear o3 b3 x0 x1 x2 v0 v1 v2 he1 he2 hw1 hw2 hs12
  go_wp2
  clear hob
  go_loopw [7] (fun i wr => ∃ (j : Nat) (a : Option Addr) (cp : Nat) (xs : List Value), j ≤ RR ∧ i = .int .i64 j ∧ Build wa ob wa.heap.size RR CC (j * CC) VV wr a cp xs) (fun i _ => RR - (intOf i).toNat)
  case atStart => exact ⟨0, _, _, _, Nat.zero_le _, rfl, by rw [Nat.zero_mul]; exact hB⟩
  case round =>
    obtain ⟨j, a, cp, xs, hj, rfl, hk⟩ := hrel
    clear hB
    obtain ⟨y0, y1, y2⟩ := hk.box
    have HK := Lib.hid hk
    by_cases hlt : j < RR
    · have hd : decide ((j : Int) < (RR : Int)) = true := decide_eq_true (by omega)
      have hjk : j * CC + CC ≤ N := by rw [HN.out]; have := Nat.mul_le_mul_right CC hlt; rw [Nat.succ_mul] at this; exact this
      have hQr : j / r2 < r := Nat.div_lt_of_lt_mul (by rw [Nat.mul_comm, ← HRR.out]; exact hlt)
      have hMr : j % r2 < r2 := Nat.mod_lt _ hr21
      obtain ⟨Q, hQ⟩ : ∃ Q, Q = j / r2 := ⟨_, rfl⟩
      obtain ⟨M, hM⟩ : ∃ M, M = j % r2 := ⟨_, rfl⟩
      have hr0 : ¬ (r2 = 0) := by omega
      have ht1 : Int.tmod (j : Int) (r2 : Int) = (M : Int) := by rw [hM]; exact tmod_n
      have ht2 : Int.tdiv (j : Int) (r2 : Int) = (Q : Int) := by rw [hQ]; exact tdiv_n
      have ht3 : IntKind.i64.wrap (Q : Int) = (Q : Int) := IntWalk.i64_in _ (by rw [hQ]; omega)
      rw [← hQ] at hQr
      rw [← hM] at hMr
      have HQ := Lib.hid hQ
      have HM := Lib.hid hM
      have T1 := Lib.hid ht1
      have T2 := Lib.hid ht2
      have T3 := Lib.hid ht3
      clear hQ hM hk ht1 ht2 ht3
      go_wp2
      clear y0 y1 y2
      go_loopw [8] (fun i wr2 => ∃ (q : Nat) (a : Option Addr) (cp : Nat) (xs : List Value), q ≤ CC ∧ i = .int .i64 q ∧ Build wa ob wa.heap.size RR CC (j * CC + q) VV wr2 a cp xs) (fun i _ => CC - (intOf i).toNat)
      case atStart => exact ⟨0, a, cp, xs, Nat.zero_le _, rfl, HK.out⟩
      case round =>
        obtain ⟨q, a, cp, xs, hq, rfl, hk⟩ := hrel
        clear HK
        have hlo := hk.lo
        have hmid := hk.mid
        have htop := hk.top
        obtain ⟨y0, y1, y2⟩ := hk.box
        by_cases hlt2 : q < CC
        · have hd2 : decide ((q : Int) < (CC : Int)) = true := decide_eq_true (by omega)
          have hQ2r : q / c2 < c := Nat.div_lt_of_lt_mul (by rw [Nat.mul_comm, ← HCC.out]; exact hlt2)
          have hM2r : q % c2 < c2 := Nat.mod_lt _ hc21
          obtain ⟨Q2, hQ2⟩ : ∃ Q, Q = q / c2 := ⟨_, rfl⟩
          obtain ⟨M2, hM2⟩ : ∃ M, M = q % c2 := ⟨_, rfl⟩
          have hc0 : ¬ (c2 = 0) := by omega
          have hu1 : Int.tmod (q : Int) (c2 : Int) = (M2 : Int) := by rw [hM2]; exact tmod_n
          have hu2 : Int.tdiv (q : Int) (c2 : Int) = (Q2 : Int) := by rw [hQ2]; exact tdiv_n
          have hu3 : IntKind.i64.wrap (Q2 : Int) = (Q2 : Int) := IntWalk.i64_in _ (by rw [hQ2]; omega)
          rw [← hQ2] at hQ2r
          rw [← hM2] at hM2r
          obtain ⟨p2', hmul, hfm⟩ := mul_fin (x := Z (Q * c + Q2)) (y := Y (M * c2 + M2)) (allFin_lt (V := vals Z) HFA.out (by rw [HN1.out]; exact place_lt hQr hQ2r)) (allFin_lt (V := vals Y) HFB.out (by rw [HN2.out]; exact place_lt hMr hM2r))
          have HP : Hid (FV .f32 p2' (VV (j * CC + q))) := Lib.hid (FV.of_eq hfm (by rw [HVV.out, kronV_at hlt2, ← HQ.out, ← HM.out, ← hQ2, ← hM2]))
          obtain ⟨i0, hi, hz0, hz1, hz2⟩ := info_parts info32
          have hice2 := hk.ice2
          obtain ⟨J, hJ⟩ : ∃ J, J = j * CC + q := ⟨_, rfl⟩
          have hJN : J < N := by omega
          have HJ := Lib.hid hJ
          rw [← hJ] at hk y2 HP
          have hal : ∀ m o, ((wr.drewN m).alloc o).cell? ⟨ob, 2, none⟩ = some (.slice a J cp) := fun m o => (World.cell?_alloc_lt (wr.drewN m) o ⟨ob, 2, none⟩ (by exact htop)).trans y2
          have hAtA : ∀ W, Below wa.heap.size wa W → Calls Try.prog 37 #[.pointer (some ⟨w.heap.size, 0, none⟩), .int .i64 Q, .int .i64 Q2] W fun e w' => e = .returned (.float .f32 (Z (Q * c + Q2))) ∧ ∃ q, w' = W.drewN q := fun W hW => specAt_any w.heap.size p1 o1 r c N1 d1 Q Q2 Z W hr hc HN1.out (Xa.below hW la) (Fa.below hW (Nat.le_refl _)) hQr hQ2r
          have hAtB : ∀ W, Below wa.heap.size wa W → Calls Try.prog 37 #[.pointer (some ⟨w.heap.size + 1, 0, none⟩), .int .i64 M, .int .i64 M2] W fun e w' => e = .returned (.float .f32 (Y (M * c2 + M2))) ∧ ∃ q, w' = W.drewN q := fun W hW => specAt_any (w.heap.size + 1) p2 o2 r2 c2 N2 d2 M M2 Y W hr2 hc2 HN2.out (Xb.below hW lb) (Fb.below hW (Nat.le_refl _)) hMr hM2r
          clear hfm hQ2 hM2 hJ
          generalize Z (Q * c + Q2) = za at hmul hAtA
          generalize Y (M * c2 + M2) = yb at hmul hAtB
          generalize p2' = p2 at *
          have hq2 : ∀ W, (binOp .mul 44 (.float .f32 za) (.float .f32 yb)).run Try.prog W = .ok (.float .f32 p2) W := fun W => run_float_arith W .mul _ .f32 za yb p2 hmul
          have ht1 := T1.out
          have ht2 := T2.out
          have ht3 := T3.out
          clear hmul
          go_wp2
          have hD0 : ∀ m, Below wa.heap.size wa (wr.drewN m) ∧ (wr.drewN m).cell? ⟨ob, 2, none⟩ = some (.slice a J cp) := fun m => ⟨below_drewN hk.bel m, by rw [← y2]; rfl⟩
          have hD1 : ∀ m k r, Below wa.heap.size wa (((wr.drewN m).alloc (.cells #[.float .f32 r] 44)).drewN k) ∧ (((wr.drewN m).alloc (.cells #[.float .f32 r] 44)).drewN k).cell? ⟨ob, 2, none⟩ = some (.slice a J cp) := fun m k r =>
            ⟨below_drewN (Below.alloc (hD0 m).1 hk.bel.size _) k, hal m _⟩
          refine wp_region_heavy (fun W => Below wa.heap.size wa W ∧ W.cell? ⟨ob, 2, none⟩ = some (.slice a J cp)) (fun s a' W => (fun s l W => AppF wa wr ob a J cp xs (s + 1) (.float .f32 p2 :: l) W) s ([75].map fun d => a'.tmps.getD d undef) W) (fun i => if i = 21 then some 0 else if i = 22 then some 1 else none) 24 2
            (HClass.of (slots := [75]) (F := fun s l W => AppF wa wr ob a J cp xs (s + 1) (.float .f32 p2 :: l) W) (by kernel_rfl) (fun s l W h => h.1) (fun s l W m h => AppF.drew (s + 1) _ W m h)) ⟨hD0 1, 1, rfl⟩ (by kernel_rfl) (by kernel_rfl) (by kernel_rfl) (by kernel_rfl) ?_
          simp only [List.take_succ_cons, List.take_zero, List.drop_succ_cons, List.drop_zero]
          (refine wpHeavy_plain rfl rfl rfl (fun K hK => ?_); go_big_quiet_op; (first | refine hK _ ?_ | refine ⟨_, fun _ _ => rfl, hK _ ?_⟩ | refine ⟨_, fun _ _ _ => rfl, hK _ ?_⟩); clear hK K)
          (refine wpHeavy_run (.slice a J cp) rfl rfl (by rintro W ⟨hW, hO⟩; simp [go_sem, BigFrame.eval_const, BigFrame.eval_global, BigFrame.eval_func, hO]) ?_; simp only [Act.put, List.setIfInBounds_toArray, List.set_cons_succ, List.set_cons_zero])
          (refine wpHeavy_plain rfl rfl rfl (fun K hK => ?_); go_big_quiet_op; (first | refine hK _ ?_ | refine ⟨_, fun _ _ => rfl, hK _ ?_⟩ | refine ⟨_, fun _ _ _ => rfl, hK _ ?_⟩); clear hK K)
          (refine wpHeavy_plain rfl rfl rfl (fun K hK => ?_); go_big_quiet_op; (first | refine hK _ ?_ | refine ⟨_, fun _ _ => rfl, hK _ ?_⟩ | refine ⟨_, fun _ _ _ => rfl, hK _ ?_⟩); clear hK K)
          (refine wpHeavy_run (.int .i64 r2) rfl rfl (by rintro W ⟨hW, hO⟩; have hcell := (hW.cell (p := _) lb).trans Xb.1; simp [go_sem, BigFrame.eval_const, BigFrame.eval_global, BigFrame.eval_func, hcell]) ?_; simp only [Act.put, List.setIfInBounds_toArray, List.set_cons_succ, List.set_cons_zero])
          (refine wpHeavy_run (.int .i64 Q) rfl rfl (by rintro W ⟨hW, hO⟩; simp [go_sem, BigFrame.eval_const, BigFrame.eval_global, BigFrame.eval_func, hr0, ht2, ht3]) ?_; simp only [Act.put, List.setIfInBounds_toArray, List.set_cons_succ, List.set_cons_zero])
          (refine wpHeavy_plain rfl rfl rfl (fun K hK => ?_); go_big_quiet_op; (first | refine hK _ ?_ | refine ⟨_, fun _ _ => rfl, hK _ ?_⟩ | refine ⟨_, fun _ _ _ => rfl, hK _ ?_⟩); clear hK K)
          (refine wpHeavy_plain rfl rfl rfl (fun K hK => ?_); go_big_quiet_op; (first | refine hK _ ?_ | refine ⟨_, fun _ _ => rfl, hK _ ?_⟩ | refine ⟨_, fun _ _ _ => rfl, hK _ ?_⟩); clear hK K)
          (refine wpHeavy_run (.int .i64 c2) rfl rfl (by rintro W ⟨hW, hO⟩; have hcell := (hW.cell (p := _) lb).trans Xb.2.1; simp [go_sem, BigFrame.eval_const, BigFrame.eval_global, BigFrame.eval_func, hcell]) ?_; simp only [Act.put, List.setIfInBounds_toArray, List.set_cons_succ, List.set_cons_zero])
          (refine wpHeavy_run (.int .i64 Q2) rfl rfl (by rintro W ⟨hW, hO⟩; simp [go_sem, BigFrame.eval_const, BigFrame.eval_global, BigFrame.eval_func, hc0, hu2, hu3]) ?_; simp only [Act.put, List.setIfInBounds_toArray, List.set_cons_succ, List.set_cons_zero])
          (refine wpHeavy_call (f := 37) (args := #[.pointer (some ⟨w.heap.size, 0, none⟩), .int .i64 Q, .int .i64 Q2]) (.float .f32 za) rfl rfl (by intro W; simp [go_sem, BigFrame.eval_const, BigFrame.eval_global, BigFrame.eval_func]) (by kernel_rfl) (by rintro W ⟨hW, hO⟩; exact hAtA W hW) ?_; simp only [Act.put, List.setIfInBounds_toArray, List.set_cons_succ, List.set_cons_zero])
          (refine wpHeavy_plain rfl rfl rfl (fun K hK => ?_); go_big_quiet_op; (first | refine hK _ ?_ | refine ⟨_, fun _ _ => rfl, hK _ ?_⟩ | refine ⟨_, fun _ _ _ => rfl, hK _ ?_⟩); clear hK K)
          (refine wpHeavy_plain rfl rfl rfl (fun K hK => ?_); go_big_quiet_op; (first | refine hK _ ?_ | refine ⟨_, fun _ _ => rfl, hK _ ?_⟩ | refine ⟨_, fun _ _ _ => rfl, hK _ ?_⟩); clear hK K)
          (refine wpHeavy_run (.int .i64 r2) rfl rfl (by rintro W ⟨hW, hO⟩; have hcell := (hW.cell (p := _) lb).trans Xb.1; simp [go_sem, BigFrame.eval_const, BigFrame.eval_global, BigFrame.eval_func, hcell]) ?_; simp only [Act.put, List.setIfInBounds_toArray, List.set_cons_succ, List.set_cons_zero])
          (refine wpHeavy_run (.int .i64 M) rfl rfl (by rintro W ⟨hW, hO⟩; simp [go_sem, BigFrame.eval_const, BigFrame.eval_global, BigFrame.eval_func, hr0, ht1]) ?_; simp only [Act.put, List.setIfInBounds_toArray, List.set_cons_succ, List.set_cons_zero])
          (refine wpHeavy_plain rfl rfl rfl (fun K hK => ?_); go_big_quiet_op; (first | refine hK _ ?_ | refine ⟨_, fun _ _ => rfl, hK _ ?_⟩ | refine ⟨_, fun _ _ _ => rfl, hK _ ?_⟩); clear hK K)
          (refine wpHeavy_plain rfl rfl rfl (fun K hK => ?_); go_big_quiet_op; (first | refine hK _ ?_ | refine ⟨_, fun _ _ => rfl, hK _ ?_⟩ | refine ⟨_, fun _ _ _ => rfl, hK _ ?_⟩); clear hK K)
          (refine wpHeavy_run (.int .i64 c2) rfl rfl (by rintro W ⟨hW, hO⟩; have hcell := (hW.cell (p := _) lb).trans Xb.2.1; simp [go_sem, BigFrame.eval_const, BigFrame.eval_global, BigFrame.eval_func, hcell]) ?_; simp only [Act.put, List.setIfInBounds_toArray, List.set_cons_succ, List.set_cons_zero])
          (refine wpHeavy_run (.int .i64 M2) rfl rfl (by rintro W ⟨hW, hO⟩; simp [go_sem, BigFrame.eval_const, BigFrame.eval_global, BigFrame.eval_func, hc0, hu1]) ?_; simp only [Act.put, List.setIfInBounds_toArray, List.set_cons_succ, List.set_cons_zero])
          (refine wpHeavy_call (f := 37) (args := #[.pointer (some ⟨w.heap.size + 1, 0, none⟩), .int .i64 M, .int .i64 M2]) (.float .f32 yb) rfl rfl (by intro W; simp [go_sem, BigFrame.eval_const, BigFrame.eval_global, BigFrame.eval_func]) (by kernel_rfl) (by rintro W ⟨hW, hO⟩; exact hAtB W hW) ?_; simp only [Act.put, List.setIfInBounds_toArray, List.set_cons_succ, List.set_cons_zero])
          (refine wpHeavy_run (.float .f32 p2) rfl rfl (by rintro W ⟨hW, hO⟩; simp [go_sem, BigFrame.eval_const, BigFrame.eval_global, BigFrame.eval_func, eqGuard, hq2]) ?_; simp only [Act.put, List.setIfInBounds_toArray, List.set_cons_succ, List.set_cons_zero])
          refine wpHeavy_step rfl rfl ⟨wr.drewN 1, hD0 1, 1, rfl⟩ ?_
          rintro W ⟨hD, m0, rfl⟩
          refine heavyUpon_run (v := .slice (some ⟨wr.heap.size, 0, none⟩) 1 1) (w' := (wr.drewN m0).alloc (.cells #[.float .f32 p2] 44)) (by simp [go_sem, BigFrame.eval_const, BigFrame.eval_global, BigFrame.eval_func]) ⟨hD1 m0 0 p2, m0, 0, p2, rfl, rfl⟩ ?_
          simp only [Act.put, List.setIfInBounds_toArray, List.set_cons_succ, List.set_cons_zero]
          refine wpHeavy_step rfl rfl ⟨_, hD1 0 0 p2, 0, 0, p2, rfl, rfl⟩ ?_
          rintro W ⟨hD, m1', k1, r6, hl0, rfl⟩
          have hr65 : r6 = p2 := by simpa using hl0.symm
          subst hr65
          refine heavy_append_lies _ _ _ _ rfl wa.heap.size 44 i0 _ 1 4 Try.underlying22 hi hz0 hz1 hz2 rfl (by omega) (.slice a J cp) J xs rfl (ownsRow_below hk.own (by repeat first | (with_reducible exact Below.refl _ _) | (with_reducible refine Below.setCell ?_ (by first | exact Nat.le_refl _ | (simp; done) | (simp; omega) | omega) _) | (with_reducible refine Below.alloc ?_ (by first | exact Nat.le_refl _ | (simp; done) | (simp; omega) | omega) _) | (with_reducible refine below_drewN ?_ _) | (with_reducible refine Below.drew ?_))) ⟨wr.heap.size, 0, none⟩ 1 1 [.float .f32 r6] rfl rfl
            (by exact World.news_of_block (cs := #[.float .f32 r6]) (t := 44) (fr := (0, 0)) (heap_alloc_new _ _)) (by simp [Value.oneCell']) (by omega) (by unfold maxLen; omega) (by omega) (by have := hk.bel.size; simp [World.drewN]; omega) (wr.heap.size + 1) (by simp [World.drewN]) ?_
          intro gg cp2 W2 hown2 hgrow2 hat2 hlt3
          have hbx : Below wr.heap.size wr (((wr.drewN m1').alloc (.cells #[.float .f32 r6] 44)).drewN k1) := (by repeat first | (with_reducible exact Below.refl _ _) | (with_reducible refine Below.setCell ?_ (by first | exact Nat.le_refl _ | (simp; done) | (simp; omega) | omega) _) | (with_reducible refine Below.alloc ?_ (by first | exact Nat.le_refl _ | (simp; done) | (simp; omega) | omega) _) | (with_reducible refine below_drewN ?_ _) | (with_reducible refine Below.drew ?_))
          refine ⟨⟨⟨hD.1.grown hgrow2 hD.1.size (fun q hq => (hk.own.lt q hq).1), ?_⟩, gg, cp2, r6, _, rfl, rfl, hbx, hown2, hgrow2, by simpa [World.drewN] using hat2, hlt3⟩, ?_⟩
          · exact hgrow2.cell (a := ⟨ob, 2, none⟩) (v := .slice a J cp) hD.2 (by intro e; exact (hk.far ob e.symm).1 rfl)
          clear hown2 hgrow2 hat2 hlt3 hbx hD
          simp only [Act.put, List.setIfInBounds_toArray, List.set_cons_succ, List.set_cons_zero]
          (refine wpHeavy_plain rfl rfl rfl (fun K hK => ?_); go_big_quiet_op; (first | refine hK _ ?_ | refine ⟨_, fun _ _ => rfl, hK _ ?_⟩ | refine ⟨_, fun _ _ _ => rfl, hK _ ?_⟩); clear hK K)
          refine wpHeavy_nil ?_
          rintro W ⟨hD, g2, c3, r7, wx2, hl1, hl2, hbx, hown2, hgrow2, hat2, hlt3⟩
          have hr7 : r7 = r6 := by simpa using hl1.symm
          subst hr7
          obtain ⟨rfl, rfl⟩ : gg = g2 ∧ cp2 = c3 := by simpa using hl2
          have q3 := hD.2
          have q4 : W.frozen? ⟨ob, 2, none⟩ = false := (World.frozen?_of_block (a := ⟨ob, 2, none⟩) (hgrow2.block ob (Nat.lt_of_lt_of_le htop hbx.size) (fun e => (hk.far ob e.symm).1 rfl))).trans ((hbx.frozen (p := ⟨ob, 2, none⟩) htop).trans (hk.ice2 2))
          have hst0 := hk.step hbx hown2 hgrow2 hat2 HP.out
          have hst : Hid (Build wa ob wa.heap.size RR CC (j * CC + (q + 1)) VV (W.setCell ⟨ob, 2, none⟩ (.slice (some ⟨gg, 0, none⟩) (J + 1) cp2)) (some ⟨gg, 0, none⟩) cp2 (xs ++ [.float .f32 r7])) := Lib.hid (by rw [← Nat.add_assoc, ← HJ.out]; exact hst0)
          clear hk hst0 hown2 hgrow2 hat2 hbx hD hD0 hD1 hl1 hl2 hal hAtA hAtB ht1 ht2 ht3 hu1 hu2 hu3 hq2 y0 y1 y2 HP
          go_wp2
          go_roundw
          case rel => exact ⟨q + 1, _, _, _, by omega, by go_num, hst.out⟩
          case measure => simp [intOf]; omega
        · obtain rfl : q = CC := by omega
          have hd2 : decide ((q : Int) < (q : Int)) = false := decide_eq_false (by omega)
          have HK := Lib.hid hk
          clear hk
          go_wp2
          go_roundw
          case rel => exact ⟨j + 1, a, cp, xs, by omega, by go_num, by rw [Nat.succ_mul]; exact HK.out⟩
          case measure => simp [intOf]; omega
    · obtain rfl : j = RR := by omega
      rw [← HN.out] at hk y2
      obtain ⟨X, hX, hV⟩ := hk.fs
      have hvB : validB j CC N (vals X) = allFin VV N := (validB_nat hRR1 hRR12 hCC1 hCC12 HN.out).trans (allFin_congr hV)
      have hlow : ∀ q off, a = some ⟨q, off, none⟩ → wa.heap.size ≤ q := by rintro q off rfl; exact (hk.own.lt q rfl).1
      have hfar : ∀ q, (∃ off, a = some ⟨q, off, none⟩) → q ≠ w.heap.size + 1 + 1 := by rintro q ⟨off, rfl⟩; rw [← sa]; exact (hk.far q rfl).2
      have hd : decide ((j : Int) < (j : Int)) = false := decide_eq_false (by omega)
      have hmid := hk.mid
      have hlo := hk.lo
      have htop := hk.top
      have HV := Lib.hid hV
      clear HK hV
      cases hf : allFin VV N with
      | true =>
        rw [hf] at hvB
        go_wp2_with fail
        go_at_call 64
        refine (specGive_yes _ _ _ _ _ X _ (by omega) hX hvB).mono ?_
        rintro e w4 ⟨rfl, b4⟩
        have hk2 := hk.below b4
        have hX3 := hX.below b4 (Nat.le_refl _)
        clear hk y0 y1 y2 hX
        obtain ⟨z0, z1, z2⟩ := hk2.res
        have B2 := Ba.trans (hk2.bel.mono (by omega))
        have hice : ∀ i, w4.frozen? ⟨w.heap.size + 1 + 1, i, none⟩ = false := fun i => by have hh := hk2.ice i; rwa [sa] at hh
        rw [sa] at z0 z1 z2
        clear hk2
        go_wp2_with fail
        refine bodyPost_ret (v := .tuple #[.agg #[.int .i64 j, .int .i64 CC, .slice a N cp], .bool true]) (by simp [results, Try.results33, go_sem, z0, z1, z2]) rfl ?_
        exact BelIf.yes hf ⟨_, _, X, rfl, FS.to hX3 (by simp [World.setCell]) (fun q hq => by have hf := hfar q hq; rw [Below.heap_setCell _ _ _ _ hf, Below.heap_setCell _ _ _ _ hf, Below.heap_setCell _ _ _ _ hf]), HV.out, (by repeat first | (with_reducible exact B2) | (with_reducible refine Below.setCell ?_ (by first | exact Nat.le_refl _ | (simp; done) | (simp; omega) | omega) _) | (with_reducible refine Below.alloc ?_ (by first | exact Nat.le_refl _ | (simp; done) | (simp; omega) | omega) _) | (with_reducible refine below_drewN ?_ _) | (with_reducible refine Below.drew ?_))⟩
      | false =>
        rw [hf] at hvB
        go_wp2_with fail
        go_at_call 64
        refine (specGive_no _ _ _ _ _ X _ (by omega) hX hvB).mono ?_
        rintro e w4 ⟨rfl, b4⟩
        have hk2 := hk.below b4
        clear hk y0 y1 y2 hX
        obtain ⟨z0, z1, z2⟩ := hk2.res
        have B2 := Ba.trans (hk2.bel.mono (by omega))
        have hice : ∀ i, w4.frozen? ⟨w.heap.size + 1 + 1, i, none⟩ = false := fun i => by have hh := hk2.ice i; rwa [sa] at hh
        rw [sa] at z0 z1 z2
        clear hk2
        go_wp2_with fail
        refine bodyPost_ret (v := .tuple #[.agg #[.int .i64 0, .int .i64 0, .slice none 0 0], .bool false]) (by simp [results, Try.results33, go_sem, z0, z1, z2]) rfl ?_
        exact BelIf.no hf ⟨none, 0, fun _ => 0, rfl, ⟨Nat.le_refl _, Nat.zero_le _, fun i hi => absurd hi (Nat.not_lt_zero _)⟩, fun i hi => absurd hi (Nat.not_lt_zero _), (by repeat first | (with_reducible exact B2) | (with_reducible refine Below.setCell ?_ (by first | exact Nat.le_refl _ | (simp; done) | (simp; omega) | omega) _) | (with_reducible refine Below.alloc ?_ (by first | exact Nat.le_refl _ | (simp; done) | (simp; omega) | omega) _) | (with_reducible refine below_drewN ?_ _) | (with_reducible refine Below.drew ?_))⟩
end Go.Proofs.Ytmddhhmgfhljiaa
