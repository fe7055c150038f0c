/- Helper: the adjoint of a low square, of the reference. Conditions: none. -/
import Derived.Test.YtinekdfpgkmbnacAdjImpl
import Derived.Test.YtinekdfpgkmbnacWorkI
set_option linter.unusedVariables false
set_option linter.unusedSimpArgs false
namespace Go.Proofs.Ytinekdfpgkmbnac
open Go.RowKit

theorem whole_sq {m : Int} {r c n : Nat} {Y : Nat → Int} (h1 : 1 ≤ r) (h2 : r ≤ 6) (h3 : 1 ≤ c) (h4 : c ≤ 6) (hn : n = r * c) : wholeB m r c n Y = withB m Y n := by
  have e : ((n : Nat) : Int) = (r : Int) * (c : Int) := by rw [hn, Int.natCast_mul]
  unfold wholeB
  rw [side6_yes (by omega) (by omega), side6_yes (by omega) (by omega), decide_eq_true e]
  simp only [Bool.true_and]
/-- The numbers of which the first i rows and k numbers of the next one are told. -/
def adjI (r : Nat) (Z : Nat → Int) (i k t : Nat) : Int := if t / r < i ∨ (t / r = i ∧ t % r < k) then adjY r Z (t / r) (t % r) else 0
theorem adjI_step {r : Nat} {Z : Nat → Int} {i k : Nat} (hk : k < r) (t : Nat) : (if t = i * r + k then adjY r Z i k else adjI r Z i k t) = adjI r Z i (k + 1) t := by
  unfold adjI
  by_cases e : t = i * r + k
  · subst e
    obtain ⟨h1, h2⟩ := placeI_div (c := r) (j := i) (k := k) hk
    rw [if_pos rfl, h1, h2, if_pos (.inr ⟨rfl, by omega⟩)]
  · rw [if_neg e]
    have hp := placeI_eq (c := r) (t := t)
    by_cases h : t / r < i ∨ (t / r = i ∧ t % r < k)
    · rw [if_pos h, if_pos (by omega)]
    · rw [if_neg h]
      by_cases h2 : t / r < i ∨ (t / r = i ∧ t % r < k + 1)
      · exfalso
        have e1 : t / r = i := by omega
        have e2 : t % r = k := by omega
        rw [e1, e2] at hp
        exact e hp.symm
      · rw [if_neg h2]
theorem adjI_next {r : Nat} {Z : Nat → Int} {i : Nat} (hr : 0 < r) (t : Nat) : adjI r Z i r t = adjI r Z (i + 1) 0 t := by
  unfold adjI
  have h1 : t % r < r := Nat.mod_lt _ hr
  have e : (t / r < i ∨ (t / r = i ∧ t % r < r)) ↔ (t / r < i + 1 ∨ (t / r = i + 1 ∧ t % r < 0)) := by
    generalize t / r = x at *
    generalize t % r = y at *
    omega
  simp only [e]
theorem adjI_zero {r : Nat} {Z : Nat → Int} (t : Nat) : adjI r Z 0 0 t = 0 := by
  unfold adjI
  rw [if_neg (by rintro (h | ⟨_, h⟩) <;> exact Nat.not_lt_zero _ h)]
theorem adjI_end {r t : Nat} {Z : Nat → Int} (ht : t < r * r) : adjI r Z r 0 t = joinZ r (adjY r Z) t := by
  unfold adjI
  rw [if_pos (.inl (Nat.div_lt_of_lt_mul ht))]; rfl

set_option maxHeartbeats 1000000 in
theorem giveI_no (R C : Int) (a : Option Addr) (n cap : Nat) (Z : Nat → Int) (w : World) (hn : n ≤ 1048576) (hv : wholeB 1000000 R C n Z = false) (h : IS .i64 w a n cap Z) :
    Calls Try.prog 42 #[.agg #[.int .i64 R, .int .i64 C, .slice a n cap]] w fun e w' => e = .returned (.tuple #[.agg #[.int .i64 0, .int .i64 0, .slice none 0 0], .bool false]) ∧ Below w.heap.size w w' := by
  have HV := Lib.hid hv
  clear hv
  go_enter Try.func42, Try.ntmps42
  go_wp2_with fail
  go_at_call 56
  refine (specWhole_any 1000000 w.heap.size R C a n cap Z _ (by omega) hn ⟨by simp [go_sem], by simp [go_sem], by simp [go_sem]⟩ (h.below (by repeat first | (with_reducible exact Below.refl _ _) | (with_reducible refine Below.setCell ?_ (by first | exact Nat.le_refl _ | (simp; done) | (simp; omega) | omega) _) | (with_reducible refine Below.alloc ?_ (by first | exact Nat.le_refl _ | (simp; done) | (simp; omega) | omega) _) | (with_reducible refine below_drewN ?_ _) | (with_reducible refine Below.drew ?_)) (Nat.le_refl _))).mono ?_
  rintro e w1 ⟨rfl, m1, rfl⟩
  rw [show wholeB ((1000000 : Nat) : Int) R C n Z = false from HV.out]
  go_wp2_with fail
  refine bodyPost_ret (v := .tuple #[.agg #[.int .i64 0, .int .i64 0, .slice none 0 0], .bool false]) (by simp [results, Try.results42, go_sem]) rfl ?_
  exact ⟨rfl, (by repeat first | (with_reducible exact Below.refl _ _) | (with_reducible refine Below.setCell ?_ (by first | exact Nat.le_refl _ | (simp; done) | (simp; omega) | omega) _) | (with_reducible refine Below.alloc ?_ (by first | exact Nat.le_refl _ | (simp; done) | (simp; omega) | omega) _) | (with_reducible refine below_drewN ?_ _) | (with_reducible refine Below.drew ?_))⟩
set_option maxHeartbeats 1000000 in
theorem giveI_yes (R C : Int) (a : Option Addr) (n cap : Nat) (Z : Nat → Int) (w : World) (hn : n ≤ 1048576) (hv : wholeB 1000000 R C n Z = true) (h : IS .i64 w a n cap Z) :
    Calls Try.prog 42 #[.agg #[.int .i64 R, .int .i64 C, .slice a n cap]] w fun e w' => e = .returned (.tuple #[.agg #[.int .i64 R, .int .i64 C, .slice a n cap], .bool true]) ∧ Below w.heap.size w w' := by
  have HV := Lib.hid hv
  clear hv
  go_enter Try.func42, Try.ntmps42
  go_wp2_with fail
  go_at_call 56
  refine (specWhole_any 1000000 w.heap.size R C a n cap Z _ (by omega) hn ⟨by simp [go_sem], by simp [go_sem], by simp [go_sem]⟩ (h.below (by repeat first | (with_reducible exact Below.refl _ _) | (with_reducible refine Below.setCell ?_ (by first | exact Nat.le_refl _ | (simp; done) | (simp; omega) | omega) _) | (with_reducible refine Below.alloc ?_ (by first | exact Nat.le_refl _ | (simp; done) | (simp; omega) | omega) _) | (with_reducible refine below_drewN ?_ _) | (with_reducible refine Below.drew ?_)) (Nat.le_refl _))).mono ?_
  rintro e w1 ⟨rfl, m1, rfl⟩
  rw [show wholeB ((1000000 : Nat) : Int) R C n Z = true from HV.out]
  go_wp2_with fail
  refine bodyPost_ret (v := .tuple #[.agg #[.int .i64 R, .int .i64 C, .slice a n cap], .bool true]) (by simp [results, Try.results42, go_sem]) rfl ?_
  exact ⟨rfl, (by repeat first | (with_reducible exact Below.refl _ _) | (with_reducible refine Below.setCell ?_ (by first | exact Nat.le_refl _ | (simp; done) | (simp; omega) | omega) _) | (with_reducible refine Below.alloc ?_ (by first | exact Nat.le_refl _ | (simp; done) | (simp; omega) | omega) _) | (with_reducible refine below_drewN ?_ _) | (with_reducible refine Below.drew ?_))⟩
set_option maxHeartbeats 1000000 in
theorem specAdj_no (R C : Int) (a : Option Addr) (n cap : Nat) (Z : Nat → Int) (w : World) (hn : n ≤ 1048576) (hv : lowSq R C n Z = false ∨ 4 < R) (h : IS .i64 w a n cap Z) :
    Calls Try.prog 18 #[.agg #[.int .i64 R, .int .i64 C, .slice a n cap]] w (WholeBel false 0 0 0 (fun _ => 0) w) := by
  have hL := fun W (g : Box W w.heap.size R C a n cap) (f : IS .i64 W a n cap Z) => specLow_any w.heap.size R C a n cap Z W hn g f
  cases v1 : wholeB 100 R C n Z with
  | false =>
    rw [v1] at hL
    clear v1 hv
    go_enter Try.func18, Try.ntmps18
    go_wp2_with fail
    go_at_call 31
    refine (hL _ ⟨by simp [go_sem], by simp [go_sem], by simp [go_sem]⟩ (h.below (by repeat first | (with_reducible exact Below.refl _ _) | (with_reducible refine Below.setCell ?_ (by first | exact Nat.le_refl _ | (simp; done) | (simp; omega) | omega) _) | (with_reducible refine Below.alloc ?_ (by first | exact Nat.le_refl _ | (simp; done) | (simp; omega) | omega) _) | (with_reducible refine below_drewN ?_ _) | (with_reducible refine Below.drew ?_)) (Nat.le_refl _))).mono ?_
    rintro e w1 ⟨rfl, m1, rfl⟩
    go_wp2_with fail
    refine bodyPost_ret (v := .tuple #[.agg #[.int .i64 0, .int .i64 0, .slice none 0 0], .bool false]) (by simp [results, Try.results18, go_sem]) rfl ?_
    exact ⟨none, 0, fun _ => 0, rfl, ⟨Nat.le_refl _, Nat.zero_le _, fun i hi => by omega⟩, fun i hi => by omega, (by repeat first | (with_reducible exact Below.refl _ _) | (with_reducible refine Below.setCell ?_ (by first | exact Nat.le_refl _ | (simp; done) | (simp; omega) | omega) _) | (with_reducible refine Below.alloc ?_ (by first | exact Nat.le_refl _ | (simp; done) | (simp; omega) | omega) _) | (with_reducible refine below_drewN ?_ _) | (with_reducible refine Below.drew ?_))⟩
  | true =>
    rw [v1] at hL
    by_cases hRC : R = C
    case neg =>
      have e1 : (R == C) = false := beq_eq_false_iff_ne.2 hRC
      have e2 : (R != C) = true := bne_iff_ne.2 hRC
      clear v1 hv
      go_enter Try.func18, Try.ntmps18
      go_wp2_with fail
      go_at_call 31
      refine (hL _ ⟨by simp [go_sem], by simp [go_sem], by simp [go_sem]⟩ (h.below (by repeat first | (with_reducible exact Below.refl _ _) | (with_reducible refine Below.setCell ?_ (by first | exact Nat.le_refl _ | (simp; done) | (simp; omega) | omega) _) | (with_reducible refine Below.alloc ?_ (by first | exact Nat.le_refl _ | (simp; done) | (simp; omega) | omega) _) | (with_reducible refine below_drewN ?_ _) | (with_reducible refine Below.drew ?_)) (Nat.le_refl _))).mono ?_
      rintro e w1 ⟨rfl, m1, rfl⟩
      go_wp2_with fail
      refine bodyPost_ret (v := .tuple #[.agg #[.int .i64 0, .int .i64 0, .slice none 0 0], .bool false]) (by simp [results, Try.results18, go_sem]) rfl ?_
      exact ⟨none, 0, fun _ => 0, rfl, ⟨Nat.le_refl _, Nat.zero_le _, fun i hi => by omega⟩, fun i hi => by omega, (by repeat first | (with_reducible exact Below.refl _ _) | (with_reducible refine Below.setCell ?_ (by first | exact Nat.le_refl _ | (simp; done) | (simp; omega) | omega) _) | (with_reducible refine Below.alloc ?_ (by first | exact Nat.le_refl _ | (simp; done) | (simp; omega) | omega) _) | (with_reducible refine below_drewN ?_ _) | (with_reducible refine Below.drew ?_))⟩
    case pos =>
      subst hRC
      have h4 : 4 < R := by
        rcases hv with e | e
        · unfold lowSq at e; rw [v1] at e; simp at e
        · exact e
      clear v1 hv
      go_enter Try.func18, Try.ntmps18
      go_wp2_with fail
      go_at_call 31
      refine (hL _ ⟨by simp [go_sem], by simp [go_sem], by simp [go_sem]⟩ (h.below (by repeat first | (with_reducible exact Below.refl _ _) | (with_reducible refine Below.setCell ?_ (by first | exact Nat.le_refl _ | (simp; done) | (simp; omega) | omega) _) | (with_reducible refine Below.alloc ?_ (by first | exact Nat.le_refl _ | (simp; done) | (simp; omega) | omega) _) | (with_reducible refine below_drewN ?_ _) | (with_reducible refine Below.drew ?_)) (Nat.le_refl _))).mono ?_
      rintro e w1 ⟨rfl, m1, rfl⟩
      go_wp2_with fail
      refine bodyPost_ret (v := .tuple #[.agg #[.int .i64 0, .int .i64 0, .slice none 0 0], .bool false]) (by simp [results, Try.results18, go_sem]) rfl ?_
      exact ⟨none, 0, fun _ => 0, rfl, ⟨Nat.le_refl _, Nat.zero_le _, fun i hi => by omega⟩, fun i hi => by omega, (by repeat first | (with_reducible exact Below.refl _ _) | (with_reducible refine Below.setCell ?_ (by first | exact Nat.le_refl _ | (simp; done) | (simp; omega) | omega) _) | (with_reducible refine Below.alloc ?_ (by first | exact Nat.le_refl _ | (simp; done) | (simp; omega) | omega) _) | (with_reducible refine below_drewN ?_ _) | (with_reducible refine Below.drew ?_))⟩
set_option maxRecDepth 20000 in
set_option maxHeartbeats 4000000 in
theorem specAdj_run (r n ab ao cap : Nat) (Z : Nat → Int) (w : World) (h1 : 1 ≤ r) (h4 : r ≤ 4) (hn : n = r * r) (hv : wholeB 100 r r n Z = true) (hZ : ∀ i, i < n → (Z i).natAbs ≤ 100) (h : IS .i64 w (some ⟨ab, ao, none⟩) n cap Z)
    (ok : Bool) (hok : wholeB 1000000 r r n (joinZ r (adjY r Z)) = ok) :
    Calls Try.prog 18 #[.agg #[.int .i64 r, .int .i64 r, .slice (some ⟨ab, ao, none⟩) n cap]] w (WholeBel ok (bif ok then (r : Int) else 0) (bif ok then (r : Int) else 0) (bif ok then n else 0) (fun t => bif ok then joinZ r (adjY r Z) t else 0) w) := by
  have hL := fun W (g : Box W w.heap.size r r (some ⟨ab, ao, none⟩) n cap) (f : IS .i64 W (some ⟨ab, ao, none⟩) n cap Z) => specLow_any w.heap.size r r _ n cap Z W (by have : r * r ≤ 4 * 4 := Nat.mul_le_mul h4 h4; omega) g f
  rw [hv] at hL
  have hn16 : n ≤ 16 := by have : r * r ≤ 4 * 4 := Nat.mul_le_mul h4 h4; omega
  have hpos : 0 < n := by rw [hn]; exact Nat.mul_pos h1 h1
  have HN := Lib.hid hn
  have HZ := Lib.hid hZ
  have HOK := Lib.hid hok
  have hr4 : ¬ (4 < (r : Int)) := by omega
  clear hn hv hZ hok
  go_enter Try.func18, Try.ntmps18
  go_wp2_with fail
  generalize hwa : w.alloc (.cells #[.int .i64 r, .int .i64 r, .slice (some ⟨ab, ao, none⟩) n cap] 28) = wa
  have Ba : Below w.heap.size w wa := by rw [← hwa]; exact (by repeat first | (with_reducible exact Below.refl _ _) | (with_reducible refine Below.setCell ?_ (by first | exact Nat.le_refl _ | (simp; done) | (simp; omega) | omega) _) | (with_reducible refine Below.alloc ?_ (by first | exact Nat.le_refl _ | (simp; done) | (simp; omega) | omega) _) | (with_reducible refine below_drewN ?_ _) | (with_reducible refine Below.drew ?_))
  have sa : wa.heap.size = w.heap.size + 1 := by rw [← hwa]; simp
  have Xa : Box wa w.heap.size r r (some ⟨ab, ao, none⟩) n cap := by rw [← hwa]; exact Box.new _ _ _ _ _ _ _
  have Fa := h.below Ba (Nat.le_refl _)
  rw [← sa]
  clear hwa h
  have la : w.heap.size < wa.heap.size := by omega
  go_at_call 31
  refine (hL _ (Xa.below (by repeat first | (with_reducible exact Below.refl _ _) | (with_reducible refine Below.setCell ?_ (by first | exact Nat.le_refl _ | (simp; done) | (simp; omega) | omega) _) | (with_reducible refine Below.alloc ?_ (by first | exact Nat.le_refl _ | (simp; done) | (simp; omega) | omega) _) | (with_reducible refine below_drewN ?_ _) | (with_reducible refine Below.drew ?_)) la) (Fa.below (by repeat first | (with_reducible exact Below.refl _ _) | (with_reducible refine Below.setCell ?_ (by first | exact Nat.le_refl _ | (simp; done) | (simp; omega) | omega) _) | (with_reducible refine Below.alloc ?_ (by first | exact Nat.le_refl _ | (simp; done) | (simp; omega) | omega) _) | (with_reducible refine below_drewN ?_ _) | (with_reducible refine Below.drew ?_)) (Nat.le_refl _))).mono ?_
  rintro e w2 ⟨rfl, m1, rfl⟩
  obtain ⟨x0, x1, x2⟩ := (Xa.below (show Below wa.heap.size wa (wa.alloc (.cells #[.int .i64 0, .int .i64 0, .slice none 0 0] 28)) from (by repeat first | (with_reducible exact Below.refl _ _) | (with_reducible refine Below.setCell ?_ (by first | exact Nat.le_refl _ | (simp; done) | (simp; omega) | omega) _) | (with_reducible refine Below.alloc ?_ (by first | exact Nat.le_refl _ | (simp; done) | (simp; omega) | omega) _) | (with_reducible refine below_drewN ?_ _) | (with_reducible refine Below.drew ?_))) la).drewN (m := m1)
  go_wp2_with fail
  go_at_call 40
  refine (l06Zero_any r r n _ (by omega) (by omega) HN.out).mono ?_
  rintro e w3 ⟨g, rfl, o3, b3⟩
  have s3 : wa.heap.size + 1 ≤ w3.heap.size := by have := b3.size; simp [World.drewN] at this; omega
  have wk := WorkI.start (w := wa) (R := (r : Int)) (C := (r : Int)) 28 28 (OwnI.mono (B' := wa.heap.size + 1) o3 (by simp [World.drewN]) (Nat.le_refl _) (Nat.le_refl _)) ((below_drewN (Below.refl _ _) m1).trans b3)
  have wk0 := wk.same (Y := adjI r Z 0 0) (fun t _ => (adjI_zero t).symm)
  clear o3 b3 x0 x1 x2 wk
  go_wp2
  go_loopw [6] (fun i wr => ∃ j : Nat, j ≤ r ∧ i = .int .i64 j ∧ WorkI wa (wa.heap.size + 1) w3.heap.size g w3.heap.size wa.heap.size r r n (adjI r Z j 0) wr) (fun i _ => r - (intOf i).toNat)
  case atStart => exact ⟨0, Nat.zero_le _, rfl, wk0⟩
  case round =>
    obtain ⟨j, hj, rfl, hk⟩ := hrel
    clear wk0
    by_cases hlt : j < r
    · have hj1 : (j : Int) < (r : Int) := by omega
      go_wp2
      go_loopw [7] (fun i wr => ∃ q : Nat, q ≤ r ∧ i = .int .i64 q ∧ WorkI wa (wa.heap.size + 1) w3.heap.size g w3.heap.size wa.heap.size r r n (adjI r Z j q) wr) (fun i _ => r - (intOf i).toNat)
      case atStart => exact ⟨0, Nat.zero_le _, rfl, hk⟩
      case round =>
        obtain ⟨q, hq, rfl, hk2⟩ := hrel
        clear hk
        by_cases hlt2 : q < r
        · have hq1 : (q : Int) < (r : Int) := by omega
          have hm : ∀ W a1 c1 a2 c2, Below wr.heap.size wr W → IS .i64 W a1 (r - 1) c1 (without natI q) → IS .i64 W a2 (r - 1) c2 (without natI j) → Calls Try.prog 32 #[.pointer (some ⟨w.heap.size, 0, none⟩), .slice a1 (r - 1) c1, .slice a2 (r - 1) c2] W fun e w' => e = .returned (.int .i64 (adjX r Z j q)) ∧ Below W.heap.size W w' :=
            fun W a1 c1 a2 c2 k1 k2 k3 => by
              rw [without_nat] at k2 k3
              have hbW := hk2.bel.trans (k1.mono hk2.bel.size)
              exact specMinor_any w.heap.size ab ao r r n cap Z (by omega) (by omega) HN.out HZ.out (r - 1) (by omega) a1 a2 c1 c2 _ _ W (Nat.lt_of_lt_of_le la hbW.size) (Xa.below hbW la) (Fa.below hbW (Nat.le_refl _)) k2 k3 (without_id h1 hlt2) (without_id h1 hlt)
          have hXb := adjX_abs h1 (by omega) HN.out HZ.out hlt hlt2
          have hYw : Hid ((Lit.int .i64 (adjY r Z j q)).wf = true) := Lib.hid (Go.WalkArith.wf_i64 (by have := adjY_abs h1 (by omega) HN.out HZ.out hlt hlt2; omega))
          have hYX : ((j + q) % 2 = 1 ∧ adjY r Z j q = -adjX r Z j q) ∨ ((j + q) % 2 = 0 ∧ adjY r Z j q = adjX r Z j q) := by
            unfold adjY
            by_cases ho : (j + q) % 2 = 1
            · exact .inl ⟨ho, if_pos ho⟩
            · exact .inr ⟨by omega, if_neg ho⟩
          have hpl : j * r + q < n := by rw [HN.out]; exact placeI_lt hlt hlt2
          obtain ⟨g1, g2, g3, g4⟩ := hk2.facts hpos
          have HK := Lib.hid hk2
          generalize adjX r Z j q = X at hm hXb hYX
          generalize hYe : adjY r Z j q = Y at hYw hYX
          have HYE := Lib.hid hYe
          clear hk2 hYe
          have hw0 : IntKind.i64.wrap ((j : Int) + (q : Int)) = (j : Int) + (q : Int) := IntWalk.i64_in _ (by omega)
          have hw1 : IntKind.i64.wrap (-X) = -X := IntWalk.i64_in _ (by omega)
          have hmod : ((j : Int) + (q : Int)) % 2 = (((j + q) % 2 : Nat) : Int) := by rw [Int.natCast_emod, Int.natCast_add]; rfl
          have he : ((j : Int) * (r : Int) + (q : Int)) = ((j * r + q : Nat) : Int) := by rw [Int.natCast_add, Int.natCast_mul]
          have ht : ((j : Int) * (r : Int) + (q : Int)).toNat = j * r + q := by rw [he]; exact Int.toNat_natCast _
          have hl1 : (j : Int) * (r : Int) + (q : Int) < (n : Int) := by rw [he]; omega
          have h0 : (0 : Int) ≤ (j : Int) * (r : Int) := by rw [← Int.natCast_mul]; omega
          have hw3 : IntKind.i64.wrap ((j : Int) * (r : Int)) = (j : Int) * (r : Int) := IntWalk.i64_in _ (by omega)
          have hw2 : IntKind.i64.wrap ((j : Int) * (r : Int) + (q : Int)) = (j : Int) * (r : Int) + (q : Int) := IntWalk.i64_in _ (by omega)
          clear he
          rcases hYX with ⟨ho, rfl⟩ | ⟨ho, rfl⟩
          all_goals
            rw [ho] at hmod
            clear ho
            go_wp2_with fail
            go_at_call 33
            refine (specAll_any r _ (by omega)).mono ?_
            rintro e w4 ⟨pa, pc, rfl, pI, pB⟩
            obtain ⟨pb, po, rfl, _⟩ := pI.at (show 0 < r by omega)
            go_wp2_with fail
            go_at_call 41
            refine (specWithout_any pb po r pc q natI _ hlt2 (by omega) pI).mono ?_
            rintro e w5 ⟨qa, qc, rfl, qI, qB⟩
            have B5 := pB.trans (qB.mono pB.size)
            clear pI
            go_wp2_with fail
            go_at_call 33
            refine (specAll_any r _ (by omega)).mono ?_
            rintro e w6 ⟨sa2, sc, rfl, sI, sB⟩
            obtain ⟨sb, so, rfl, _⟩ := sI.at (show 0 < r by omega)
            go_wp2_with fail
            go_at_call 41
            refine (specWithout_any sb so r sc j natI _ hlt (by omega) sI).mono ?_
            rintro e w7 ⟨ra, rc, rfl, rI, rB⟩
            have B57 := sB.trans (rB.mono sB.size)
            have B7 := B5.trans (B57.mono B5.size)
            have qI7 := qI.below B57 (Nat.le_refl _)
            clear sI qI
            go_wp2_with fail
            go_at_call 32
            refine (hm _ _ _ _ _ B7 qI7 rI).mono ?_
            rintro e w8 ⟨rfl, mB⟩
            have B8 := B7.trans (mB.mono B7.size)
            have hk8 := HK.out.below B8 g3 g4
            obtain ⟨y0, y1, y2⟩ := hk8.box
            have hst := hk8.stored (t := j * r + q) (v := _) hpl hYw.out
            obtain ⟨hce, hfr, _⟩ := hk8.own.cell hpl
            have hst' := Lib.hid (hst.same (Y := adjI r Z j (q + 1)) (fun t _ => by rw [← HYE.out]; exact adjI_step hlt2 t))
            clear hst hk8 B8 B7 B57 B5 pB qB sB rB mB qI7 rI
            go_wp2
            go_roundw
            case rel => exact ⟨q + 1, by omega, by go_num, hst'.out⟩
            case measure => simp [intOf]; omega
        · obtain rfl : q = r := by omega
          have hnx := Lib.hid (hk2.same (fun t ht => adjI_next (i := j) (by omega) t))
          clear hk2
          go_wp2
          go_roundw
          case rel => exact ⟨j + 1, by omega, by go_num, hnx.out⟩
          case measure => simp [intOf]; omega
    · obtain rfl : j = r := by omega
      obtain ⟨y0, y1, y2⟩ := hk.box
      obtain ⟨g1, g2, g3, g4⟩ := hk.facts hpos
      have o2 := hk.own.same (Y := joinZ j (adjY j Z)) (fun t ht => adjI_end (by rw [← HN.out]; exact ht))
      have F2 := o2.is
      have hres := hk.res
      have hice := hk.ice
      have B2 := Ba.trans (hk.bel.mono (by omega))
      clear hk
      cases ok with
      | false =>
        go_wp2_with fail
        go_at_call 42
        refine (giveI_no j j _ n n _ _ (by omega) HOK.out F2).mono ?_
        rintro e w9 ⟨rfl, b9⟩
        obtain ⟨z0, z1, z2⟩ := hres.below b9 g4
        obtain ⟨hc, hf⟩ := bcell b9
        have hice9 : ∀ i, w9.frozen? ⟨w.heap.size + 1, i, none⟩ = false := fun i => by rw [← sa]; exact (hf wa.heap.size i g4).trans (hice i)
        have B9 := B2.trans (b9.mono B2.size)
        rw [sa] at z0 z1 z2
        clear hc hf b9 hice
        go_wp2_with fail
        refine bodyPost_ret (v := .tuple #[.agg #[.int .i64 0, .int .i64 0, .slice none 0 0], .bool false]) (by simp [results, Try.results18, go_sem, z0, z1, z2]) rfl ?_
        exact ⟨none, 0, fun _ => 0, rfl, ⟨Nat.le_refl _, Nat.zero_le _, fun i hi => absurd hi (Nat.not_lt_zero i)⟩, fun i hi => absurd hi (Nat.not_lt_zero i), (by repeat first | (with_reducible exact B9) | (with_reducible refine Below.setCell ?_ (by first | exact Nat.le_refl _ | (simp; done) | (simp; omega) | omega) _) | (with_reducible refine Below.alloc ?_ (by first | exact Nat.le_refl _ | (simp; done) | (simp; omega) | omega) _) | (with_reducible refine below_drewN ?_ _) | (with_reducible refine Below.drew ?_))⟩
      | true =>
        go_wp2_with fail
        go_at_call 42
        refine (giveI_yes j j _ n n _ _ (by omega) HOK.out F2).mono ?_
        rintro e w9 ⟨rfl, b9⟩
        obtain ⟨z0, z1, z2⟩ := hres.below b9 g4
        obtain ⟨hc, hf⟩ := bcell b9
        have hice9 : ∀ i, w9.frozen? ⟨w.heap.size + 1, i, none⟩ = false := fun i => by rw [← sa]; exact (hf wa.heap.size i g4).trans (hice i)
        have B9 := B2.trans (b9.mono B2.size)
        have o9 := o2.kept (below_grew b9) (fun q hq => by cases hq)
        rw [sa] at z0 z1 z2 o9
        have hs9 := b9.size
        clear hc hf b9 hice
        go_wp2_with fail
        refine bodyPost_ret (v := .tuple #[.agg #[.int .i64 j, .int .i64 j, .slice (some ⟨g, 0, none⟩) n n], .bool true]) (by simp [results, Try.results18, go_sem, z0, z1, z2]) rfl ?_
        exact ⟨_, _, _, rfl, OwnI.is (B := w.heap.size + 1 + 1) (U := w3.heap.size) (by refine OwnI.to o9 (hk := fun g hg1 hg2 => by (try simp at hg1 hg2); repeat (first | rw [Below.heap_setCell _ _ _ _ (by simp; omega)] | rw [Below.heap_alloc _ _ _ (by simp [World.setCell]; omega)])) ?_ ?_ ?_ ?_ <;> (first | exact Nat.le_refl _ | omega | (simp [World.setCell]; done) | (simp [World.setCell]; omega))), fun i hi => rfl, (by repeat first | (with_reducible exact B9) | (with_reducible refine Below.setCell ?_ (by first | exact Nat.le_refl _ | (simp; done) | (simp; omega) | omega) _) | (with_reducible refine Below.alloc ?_ (by first | exact Nat.le_refl _ | (simp; done) | (simp; omega) | omega) _) | (with_reducible refine below_drewN ?_ _) | (with_reducible refine Below.drew ?_))⟩
end Go.Proofs.Ytinekdfpgkmbnac
