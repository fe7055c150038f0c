/- Helper: determinants of low squares, of the program and of its reference. Conditions: none. -/
import Derived.Test.YtinekdfpgkmbnacMinorOfKey
import Derived.Deep.AppendLies
set_option linter.unusedVariables false
set_option linter.unusedSimpArgs false
namespace Go.Proofs.Ytinekdfpgkmbnac
open Go.RowKit

def natI (t : Nat) : Int := (t : Int)
theorem natI_wf {n : Nat} (hn : n ≤ 1048576) : ∀ j, j < n → (Lit.int .i64 (natI j)).wf = true := fun j hj => wf64 (by unfold natI; omega) (by unfold natI; omega)
theorem cellsI_snoc (Z : Nat → Int) (j : Nat) : cellsOfI Z j ++ [.int .i64 (Z j)] = cellsOfI Z (j + 1) := by
  unfold cellsOfI
  rw [List.range_succ, List.map_append]; rfl
def lowSq (R C : Int) (n : Nat) (Z : Nat → Int) : Bool := wholeB 100 R C n Z && decide (R = C)
def detVal (R C : Int) (n : Nat) (Z : Nat → Int) : Int := if lowSq R C n Z = true then minI Z C.toNat C.toNat (fun t => t) (fun t => t) else 0

set_option maxRecDepth 20000 in
set_option maxHeartbeats 1000000 in
theorem specAll_any (n : Nat) (w : World) (hn : n ≤ 1048576) : Calls Try.prog 33 #[.int .i64 n] w (ListNew w n natI) := by
  obtain ⟨i0, hi, hz0, hz1, hz2⟩ := info_parts info64
  go_enter Try.func33, Try.ntmps33
  go_wp2
  go_loopw [3, 4] (fun v i wr => ∃ j : Nat, j ≤ n ∧ i = .int .i64 j ∧ wr.ownsRow w.heap.size 2 1 v j (cellsOfI natI j) ∧ Below w.heap.size w wr) (fun _ i _ => n - (intOf i).toNat)
  case atStart => exact ⟨0, Nat.zero_le _, rfl, World.ownsRow_lit w #[] 0 (Nat.le_refl _) (Nat.zero_le _) (by simp), (by repeat first | (with_reducible exact Below.refl _ _) | (with_reducible refine Below.setCell ?_ (by first | exact Nat.le_refl _ | (simp; done) | (simp; omega) | omega) _) | (with_reducible refine Below.alloc ?_ (by first | exact Nat.le_refl _ | (simp; done) | (simp; omega) | omega) _) | (with_reducible refine below_drewN ?_ _) | (with_reducible refine Below.drew ?_))⟩
  case round =>
    obtain ⟨j, hj, rfl, hown, hb⟩ := hrel
    by_cases hlt : j < n
    · have hd : decide ((j : Int) < (n : Int)) = true := decide_eq_true (by omega)
      have hS : Hid (cellsOfI natI j ++ [.int .i64 (j : Int)] = cellsOfI natI (j + 1)) := Lib.hid (cellsI_snoc natI j)
      have hbs := Lib.hid hb.size
      have HB := Lib.hid hb
      have HO := Lib.hid hown
      clear hb hown
      go_wp2_with (at_builtin; refine wpList_append_own _ rfl _ _ 22 rfl w.heap.size 2 i0 (.int .i64 0) 1 8 Try.underlying22 hi hz0 hz1 hz2 rfl (by decide) _ _ _ rfl (HO.out.alloc _) ⟨wr.heap.size, 0, none⟩ 1 1 [.int .i64 (j : Int)] rfl rfl ?c1 ?c2 ?c3 ?c4 ?c5 ?_)
      case c1 => exact World.news_of_block (cs := #[.int .i64 (j : Int)]) (t := 2) (fr := (0, 0)) (heap_alloc_new _ _)
      case c2 => simp [Value.oneCell']
      case c3 => unfold maxLen; omega
      case c4 => omega
      case c5 => have := hbs.out; simp; omega
      intro v2 w2 hown2 hgrow hnil
      rw [hS.out] at hown2
      have HO2 := Lib.hid hown2
      have HB2 : Hid (Below w.heap.size w w2) := Lib.hid ((HB.out.alloc hbs.out _).grown hgrow (by have := hbs.out; simp; omega) (fun q hq => (HO.out.lt q hq).1))
      clear hown2 hgrow hnil
      go_wp2
      go_roundw
      case rel => exact ⟨j + 1, by omega, by go_num, HO2.out, HB2.out⟩
      case measure => simp [intOf]; omega
    · obtain rfl : j = n := by omega
      obtain ⟨a, c, rfl, f⟩ := IS.ofRow (Z := natI) hown (fun t ht => cellsI_at ht) (natI_wf hn)
      have F := Lib.hid f
      have HB := Lib.hid hb
      clear hown hb f
      go_wp2
      go_ret
      exact ⟨_, _, rfl, F.out, HB.out⟩
theorem ownI_made {w' : World} {g B U n : Nat} (h : w'.ownsRow B 2 1 (.slice (some ⟨g, 0, none⟩) n n) n (madeCells #[Value.int .i64 0] n).toList) (hB : B ≤ g) (hU : g < U) (hs : U ≤ w'.heap.size) (hn : n ≤ maxLen) : OwnI 2 .i64 B U w' (some ⟨g, 0, none⟩) n n (fun _ => 0) := by
  refine .inr ⟨g, _, rfl, Nat.le_refl _, hn, hB, hU, hs, h, fun j hj => ?_, fun j _ => (by decide : (Lit.int .i64 0).wf = true)⟩
  rw [toList_madeCells_one, List.getElem?_replicate, if_pos hj]
def upTo (j t : Nat) : Int := if t < j then (t : Int) else 0
theorem up_step {j : Nat} (t : Nat) : (if t = j then (j : Int) else upTo j t) = upTo (j + 1) t := by
  unfold upTo
  by_cases e : t = j
  · subst e; rw [if_pos rfl, if_pos (by omega)]
  · rw [if_neg e]
    by_cases h : t < j
    · rw [if_pos h, if_pos (by omega)]
    · rw [if_neg h, if_neg (by omega)]
set_option maxHeartbeats 1000000 in
theorem plainOrder_any (n : Nat) (w : World) (hn : n ≤ 1048576) : Calls Try.prog 36 #[.int .i64 n] w (ListNew w n natI) := by
  obtain ⟨i0, hi, hz0, hz1, hz2⟩ := info_parts info64
  go_enter Try.func36, Try.ntmps36
  go_wp2_with (at_make; refine wpList_make_full _ rfl _ _ 22 rfl w.heap.size 2 i0 (.int .i64 0) 1 Try.underlying22 hi hz0 hz1 _ _ _ _ n rfl rfl rfl rfl ?b2 ?b3 (Nat.le_refl _) ?_)
  case b2 => rw [hz2]; omega
  case b3 => unfold maxLen; omega
  intro w0 hown0 hgrow0
  have hU := (hown0.lt w.heap.size rfl).2
  have o0 := ownI_made (U := w0.heap.size) hown0 (Nat.le_refl _) hU (Nat.le_refl _) (by unfold maxLen; omega)
  have b0 : Below w.heap.size w w0 := (Below.refl _ _).grown hgrow0 (Nat.le_refl _) (fun k h => by cases h)
  clear hown0 hgrow0
  go_wp2
  go_loopw [9] (fun i wr => ∃ j : Nat, j ≤ n ∧ i = .int .i64 j ∧ OwnI 2 .i64 w.heap.size w0.heap.size wr (some ⟨w.heap.size, 0, none⟩) n n (upTo j) ∧ Below w.heap.size w wr) (fun i _ => n - (intOf i).toNat)
  case atStart => exact ⟨0, Nat.zero_le _, rfl, o0.same (fun j _ => by unfold upTo; rw [if_neg (by omega)]), b0⟩
  case round =>
    obtain ⟨j, hj, rfl, hk, hb⟩ := hrel
    clear o0 b0
    by_cases hlt : j < n
    · obtain ⟨hce, hfr, _⟩ := hk.cell hlt
      obtain ⟨ho2, hg2⟩ := hk.stored (t := j) (v := (j : Int)) hlt (wf64 (by omega) (by omega))
      have ho3 := Lib.hid (ho2.same (fun t _ => up_step t))
      have hb2 := Lib.hid (hb.grown hg2 hb.size (fun q hq => by cases hq; exact Nat.le_refl _))
      clear ho2 hg2 hk hb
      generalize upTo j j = old at hce
      go_wp2
      go_roundw
      case rel => exact ⟨j + 1, by omega, by go_num, ho3.out, hb2.out⟩
      case measure => simp [intOf]; omega
    · obtain rfl : j = n := by omega
      have hk' := Lib.hid (hk.is.sameI (Y := natI) (fun t ht => by unfold upTo natI; rw [if_pos ht]))
      have hb' := Lib.hid hb
      clear hk hb
      go_wp2
      go_ret
      exact ⟨_, _, rfl, hk'.out, hb'.out⟩
set_option maxHeartbeats 1000000 in
theorem isLowSquare_any (R C : Int) (a : Option Addr) (n c : Nat) (Z : Nat → Int) (w : World) (hn : n ≤ 1048576) (h : IS .i64 w a n c Z) :
    Calls Try.prog 34 #[.agg #[.int .i64 R, .int .i64 C, .slice a n c]] w (BoolBel (lowSq R C n Z) w) := by
  unfold lowSq
  have hL := fun W (f : IS .i64 W a n c Z) => isLow_any R C a n c Z W hn f
  cases hv : wholeB 100 R C n Z
  · rw [hv] at hL
    clear hv
    go_enter Try.func34, Try.ntmps34
    go_wp2_with fail
    go_at_call 38
    refine (hL _ (h.below (by repeat first | (with_reducible exact Below.refl _ _) | (with_reducible refine Below.setCell ?_ (by first | exact Nat.le_refl _ | (simp; done) | (simp; omega) | omega) _) | (with_reducible refine Below.alloc ?_ (by first | exact Nat.le_refl _ | (simp; done) | (simp; omega) | omega) _) | (with_reducible refine below_drewN ?_ _) | (with_reducible refine Below.drew ?_)) (Nat.le_refl _))).mono ?_
    rintro e w1 ⟨rfl, b1⟩
    have B1 : Hid (Below w.heap.size w w1) := Lib.hid (Below.trans (by repeat first | (with_reducible exact Below.refl _ _) | (with_reducible refine Below.setCell ?_ (by first | exact Nat.le_refl _ | (simp; done) | (simp; omega) | omega) _) | (with_reducible refine Below.alloc ?_ (by first | exact Nat.le_refl _ | (simp; done) | (simp; omega) | omega) _) | (with_reducible refine below_drewN ?_ _) | (with_reducible refine Below.drew ?_)) (b1.mono (by simp)))
    clear b1
    go_wp2_with fail
    go_ret
    exact ⟨rfl, B1.out⟩
  · rw [hv] at hL
    clear hv
    by_cases hRC : R = C
    · subst hRC
      go_enter Try.func34, Try.ntmps34
      go_wp2_with fail
      go_at_call 38
      refine (hL _ (h.below (by repeat first | (with_reducible exact Below.refl _ _) | (with_reducible refine Below.setCell ?_ (by first | exact Nat.le_refl _ | (simp; done) | (simp; omega) | omega) _) | (with_reducible refine Below.alloc ?_ (by first | exact Nat.le_refl _ | (simp; done) | (simp; omega) | omega) _) | (with_reducible refine below_drewN ?_ _) | (with_reducible refine Below.drew ?_)) (Nat.le_refl _))).mono ?_
      rintro e w1 ⟨rfl, b1⟩
      obtain ⟨x0, x1, x2⟩ : Box w1 w.heap.size R R a n c := Box.below (Box.new _ _ _ _ _ _ _) b1 (by simp)
      have B1 : Hid (Below w.heap.size w w1) := Lib.hid (Below.trans (by repeat first | (with_reducible exact Below.refl _ _) | (with_reducible refine Below.setCell ?_ (by first | exact Nat.le_refl _ | (simp; done) | (simp; omega) | omega) _) | (with_reducible refine Below.alloc ?_ (by first | exact Nat.le_refl _ | (simp; done) | (simp; omega) | omega) _) | (with_reducible refine below_drewN ?_ _) | (with_reducible refine Below.drew ?_)) (b1.mono (by simp)))
      clear b1
      go_wp2_with fail
      go_ret
      exact ⟨by simp, B1.out⟩
    · have e1 : (R == C) = false := beq_eq_false_iff_ne.2 hRC
      have HD : Hid (decide (R = C) = false) := Lib.hid (decide_eq_false hRC)
      go_enter Try.func34, Try.ntmps34
      go_wp2_with fail
      go_at_call 38
      refine (hL _ (h.below (by repeat first | (with_reducible exact Below.refl _ _) | (with_reducible refine Below.setCell ?_ (by first | exact Nat.le_refl _ | (simp; done) | (simp; omega) | omega) _) | (with_reducible refine Below.alloc ?_ (by first | exact Nat.le_refl _ | (simp; done) | (simp; omega) | omega) _) | (with_reducible refine below_drewN ?_ _) | (with_reducible refine Below.drew ?_)) (Nat.le_refl _))).mono ?_
      rintro e w1 ⟨rfl, b1⟩
      obtain ⟨x0, x1, x2⟩ : Box w1 w.heap.size R C a n c := Box.below (Box.new _ _ _ _ _ _ _) b1 (by simp)
      have B1 : Hid (Below w.heap.size w w1) := Lib.hid (Below.trans (by repeat first | (with_reducible exact Below.refl _ _) | (with_reducible refine Below.setCell ?_ (by first | exact Nat.le_refl _ | (simp; done) | (simp; omega) | omega) _) | (with_reducible refine Below.alloc ?_ (by first | exact Nat.le_refl _ | (simp; done) | (simp; omega) | omega) _) | (with_reducible refine below_drewN ?_ _) | (with_reducible refine Below.drew ?_)) (b1.mono (by simp)))
      clear b1
      go_wp2_with fail
      go_ret
      exact ⟨by rw [HD.out]; rfl, B1.out⟩
set_option maxHeartbeats 2000000 in
theorem implDet_any (R C : Int) (a : Option Addr) (n cap : Nat) (Z : Nat → Int) (w : World) (hn : n ≤ 1048576) (h : IS .i64 w a n cap Z) :
    Calls Try.prog 12 #[.agg #[.int .i64 R, .int .i64 C, .slice a n cap]] w (NumTell (lowSq R C n Z) (detVal R C n Z) w) := by
  have hL := fun W (f : IS .i64 W a n cap Z) => isLowSquare_any R C a n cap Z W hn f
  cases v0 : lowSq R C n Z with
  | false =>
    have HO : Hid (detVal R C n Z = 0) := Lib.hid (by unfold detVal; rw [v0]; rfl)
    rw [v0] at hL
    rw [HO.out]
    clear v0 HO
    go_enter Try.func12, Try.ntmps12
    go_wp2_with fail
    go_at_call 34
    refine (hL _ (h.below (by repeat first | (with_reducible exact Below.refl _ _) | (with_reducible refine Below.setCell ?_ (by first | exact Nat.le_refl _ | (simp; done) | (simp; omega) | omega) _) | (with_reducible refine Below.alloc ?_ (by first | exact Nat.le_refl _ | (simp; done) | (simp; omega) | omega) _) | (with_reducible refine below_drewN ?_ _) | (with_reducible refine Below.drew ?_)) (Nat.le_refl _))).mono ?_
    rintro e w1 ⟨rfl, b1⟩
    have B1 : Hid (Below w.heap.size w w1) := Lib.hid (Below.trans (by repeat first | (with_reducible exact Below.refl _ _) | (with_reducible refine Below.setCell ?_ (by first | exact Nat.le_refl _ | (simp; done) | (simp; omega) | omega) _) | (with_reducible refine Below.alloc ?_ (by first | exact Nat.le_refl _ | (simp; done) | (simp; omega) | omega) _) | (with_reducible refine below_drewN ?_ _) | (with_reducible refine Below.drew ?_)) (b1.mono (by simp)))
    clear b1
    go_wp2_with fail
    go_ret2
    exact ⟨rfl, B1.out⟩
  | true =>
    have v1 := v0
    unfold lowSq at v1
    simp only [Bool.and_eq_true, decide_eq_true_eq] at v1
    obtain ⟨v1, rfl⟩ := v1
    obtain ⟨r, c, rfl, rc, g1, g2, g3, g4, g5, g6⟩ := whole_nat v1
    obtain rfl : r = c := by omega
    have hpos : 0 < n := by rw [g5]; exact Nat.mul_pos g1 g3
    obtain ⟨ab, ao, rfl, _⟩ := h.at hpos
    have HO : Hid (detVal r r n Z = minI Z r r (fun t => t) (fun t => t)) := Lib.hid (by unfold detVal; rw [if_pos v0, Int.toNat_natCast])
    rw [v0] at hL
    rw [HO.out]
    have hm : ∀ W a1 c1 a2 c2, IS .i64 W (some ⟨ab, ao, none⟩) n cap Z → IS .i64 W a1 r c1 natI → IS .i64 W a2 r c2 natI → Calls Try.prog 35 #[.agg #[.int .i64 r, .int .i64 r, .slice (some ⟨ab, ao, none⟩) n cap], .slice a1 r c1, .slice a2 r c2] W fun e w' => e = .returned (.int .i64 (minI Z r r (fun t => t) (fun t => t))) ∧ Below W.heap.size W w' :=
      fun W a1 c1 a2 c2 k1 k2 k3 => implMinor_any ab ao r r n cap Z g2 g4 g5 (low_abs (R := (0 : Int)) (C := (0 : Int)) g6) r g2 a1 a2 c1 c2 (fun t => t) (fun t => t) W k1 k2 k3 (fun t ht => ht) (fun t ht => ht)
    generalize minI Z r r (fun t => t) (fun t => t) = X at hm
    clear HO v0 v1 rc g5
    go_enter Try.func12, Try.ntmps12
    go_wp2_with fail
    go_at_call 34
    refine (hL _ (h.below (by repeat first | (with_reducible exact Below.refl _ _) | (with_reducible refine Below.setCell ?_ (by first | exact Nat.le_refl _ | (simp; done) | (simp; omega) | omega) _) | (with_reducible refine Below.alloc ?_ (by first | exact Nat.le_refl _ | (simp; done) | (simp; omega) | omega) _) | (with_reducible refine below_drewN ?_ _) | (with_reducible refine Below.drew ?_)) (Nat.le_refl _))).mono ?_
    rintro e w1 ⟨rfl, b1⟩
    obtain ⟨x0, x1, x2⟩ : Box w1 w.heap.size r r (some ⟨ab, ao, none⟩) n cap := Box.below (Box.new _ _ _ _ _ _ _) b1 (by simp)
    have b2 : Below w.heap.size w w1 := Below.trans (by repeat first | (with_reducible exact Below.refl _ _) | (with_reducible refine Below.setCell ?_ (by first | exact Nat.le_refl _ | (simp; done) | (simp; omega) | omega) _) | (with_reducible refine Below.alloc ?_ (by first | exact Nat.le_refl _ | (simp; done) | (simp; omega) | omega) _) | (with_reducible refine below_drewN ?_ _) | (with_reducible refine Below.drew ?_)) (b1.mono (by simp))
    have l1 : w.heap.size < w1.heap.size := by have := b1.size; simp at this; omega
    have F1 := h.below b2 (Nat.le_refl _)
    have B1 := Lib.hid b2
    clear b1 b2 h
    go_wp2_with fail
    go_region_held3 (fun w' => w'.cell? ⟨w.heap.size, 0, none⟩ = some (.int .i64 r) ∧ w'.cell? ⟨w.heap.size, 1, none⟩ = some (.int .i64 r) ∧ w'.cell? ⟨w.heap.size, 2, none⟩ = some (.slice (some ⟨ab, ao, none⟩) n cap) ∧ Below w1.heap.size w1 w')
      (first | exact ⟨x0, x1, x2, (by first | exact (Below.refl _ _).drew | exact (below_drewN (Below.refl _ _) _).drew)⟩ | exact heldX (by assumption) (by assumption) l1)
      (first | ((fail_if_success (have hq := qA)); go_at_call 36; refine (plainOrder_any r _ (by omega)).mono ?_; rintro e w2 ⟨qa, qc, rfl, qA, qB⟩) | (have hq := qA; clear hq; go_at_call 36; refine (plainOrder_any r _ (by omega)).mono ?_; rintro e w3 ⟨ra, rc, rfl, rA, rB⟩) | (go_at_call 35; refine (hm _ _ _ _ _ (F1.below (by go_split_ands; assumption) (Nat.le_refl _)) (qA.below rB (Nat.le_refl _)) rA).mono ?_; rintro e w4 ⟨rfl, mB⟩))
    have B3 : Below w1.heap.size w1 w4 := by go_split_ands; assumption
    have B4 := Lib.hid (B1.out.trans (B3.mono B1.out.size))
    clear B3 mB rB rA qA qB
    go_wp2_with fail
    go_ret2
    exact ⟨rfl, B4.out⟩
set_option maxHeartbeats 2000000 in
theorem specDet_any (R C : Int) (a : Option Addr) (n cap : Nat) (Z : Nat → Int) (w : World) (hn : n ≤ 1048576) (h : IS .i64 w a n cap Z) :
    Calls Try.prog 10 #[.agg #[.int .i64 R, .int .i64 C, .slice a n cap]] w (NumTell (lowSq R C n Z) (detVal R C n Z) w) := by
  have hL := fun W (g : Box W w.heap.size R C a n cap) (f : IS .i64 W a n cap Z) => specLow_any w.heap.size R C a n cap Z W hn g f
  have hno : lowSq R C n Z = false → Hid (NumTell (lowSq R C n Z) (detVal R C n Z) w = NumTell false 0 w) := fun e => Lib.hid (by unfold detVal; rw [e]; rfl)
  cases v1 : wholeB 100 R C n Z with
  | false =>
    have HO := hno (by unfold lowSq; rw [v1]; rfl)
    rw [v1] at hL
    rw [HO.out]
    clear v1 HO hno
    go_enter Try.func10, Try.ntmps10
    go_wp2_with fail
    go_at_call 31
    refine (hL _ ⟨by simp [go_sem], by simp [go_sem], by simp [go_sem]⟩ (h.below (by repeat first | (with_reducible exact Below.refl _ _) | (with_reducible refine Below.setCell ?_ (by first | exact Nat.le_refl _ | (simp; done) | (simp; omega) | omega) _) | (with_reducible refine Below.alloc ?_ (by first | exact Nat.le_refl _ | (simp; done) | (simp; omega) | omega) _) | (with_reducible refine below_drewN ?_ _) | (with_reducible refine Below.drew ?_)) (Nat.le_refl _))).mono ?_
    rintro e w1 ⟨rfl, m1, rfl⟩
    go_wp2_with fail
    go_ret2
    exact ⟨rfl, (by repeat first | (with_reducible exact Below.refl _ _) | (with_reducible refine Below.setCell ?_ (by first | exact Nat.le_refl _ | (simp; done) | (simp; omega) | omega) _) | (with_reducible refine Below.alloc ?_ (by first | exact Nat.le_refl _ | (simp; done) | (simp; omega) | omega) _) | (with_reducible refine below_drewN ?_ _) | (with_reducible refine Below.drew ?_))⟩
  | true =>
    rw [v1] at hL
    by_cases hRC : R = C
    case neg =>
      have HO := hno (by unfold lowSq; rw [decide_eq_false hRC]; simp)
      have e1 : (R == C) = false := beq_eq_false_iff_ne.2 hRC
      have e2 : (R != C) = true := bne_iff_ne.2 hRC
      rw [HO.out]
      clear v1 HO hno
      go_enter Try.func10, Try.ntmps10
      go_wp2_with fail
      go_at_call 31
      refine (hL _ ⟨by simp [go_sem], by simp [go_sem], by simp [go_sem]⟩ (h.below (by repeat first | (with_reducible exact Below.refl _ _) | (with_reducible refine Below.setCell ?_ (by first | exact Nat.le_refl _ | (simp; done) | (simp; omega) | omega) _) | (with_reducible refine Below.alloc ?_ (by first | exact Nat.le_refl _ | (simp; done) | (simp; omega) | omega) _) | (with_reducible refine below_drewN ?_ _) | (with_reducible refine Below.drew ?_)) (Nat.le_refl _))).mono ?_
      rintro e w1 ⟨rfl, m1, rfl⟩
      go_wp2_with fail
      go_ret2
      exact ⟨rfl, (by repeat first | (with_reducible exact Below.refl _ _) | (with_reducible refine Below.setCell ?_ (by first | exact Nat.le_refl _ | (simp; done) | (simp; omega) | omega) _) | (with_reducible refine Below.alloc ?_ (by first | exact Nat.le_refl _ | (simp; done) | (simp; omega) | omega) _) | (with_reducible refine below_drewN ?_ _) | (with_reducible refine Below.drew ?_))⟩
    subst hRC
    obtain ⟨r, c, rfl, rc, g1, g2, g3, g4, g5, g6⟩ := whole_nat v1
    obtain rfl : r = c := by omega
    have hpos : 0 < n := by rw [g5]; exact Nat.mul_pos g1 g3
    obtain ⟨ab, ao, rfl, _⟩ := h.at hpos
    have v0 : lowSq r r n Z = true := by unfold lowSq; rw [v1]; simp
    have HO : Hid (NumTell (lowSq r r n Z) (detVal r r n Z) w = NumTell true (minI Z r r (fun t => t) (fun t => t)) w) := Lib.hid (by unfold detVal; rw [v0, if_pos rfl, Int.toNat_natCast])
    rw [HO.out]
    have hm : ∀ W a1 c1 a2 c2, w.heap.size < W.heap.size → Box W w.heap.size r r (some ⟨ab, ao, none⟩) n cap → IS .i64 W (some ⟨ab, ao, none⟩) n cap Z → IS .i64 W a1 r c1 natI → IS .i64 W a2 r c2 natI → Calls Try.prog 32 #[.pointer (some ⟨w.heap.size, 0, none⟩), .slice a1 r c1, .slice a2 r c2] W fun e w' => e = .returned (.int .i64 (minI Z r r (fun t => t) (fun t => t))) ∧ Below W.heap.size W w' :=
      fun W a1 c1 a2 c2 k0 kb k1 k2 k3 => specMinor_any w.heap.size ab ao r r n cap Z g2 g4 g5 (low_abs (R := (0 : Int)) (C := (0 : Int)) g6) r g2 a1 a2 c1 c2 (fun t => t) (fun t => t) W k0 kb k1 k2 k3 (fun t ht => ht) (fun t ht => ht)
    generalize minI Z r r (fun t => t) (fun t => t) = X at hm
    clear HO v0 v1 rc g5 hno
    go_enter Try.func10, Try.ntmps10
    go_wp2_with fail
    generalize hwa : w.alloc (.cells #[.int .i64 r, .int .i64 r, .slice (some ⟨ab, ao, none⟩) n cap] 28) = wa
    have Ba : Below w.heap.size w wa := by rw [← hwa]; exact (by repeat first | (with_reducible exact Below.refl _ _) | (with_reducible refine Below.setCell ?_ (by first | exact Nat.le_refl _ | (simp; done) | (simp; omega) | omega) _) | (with_reducible refine Below.alloc ?_ (by first | exact Nat.le_refl _ | (simp; done) | (simp; omega) | omega) _) | (with_reducible refine below_drewN ?_ _) | (with_reducible refine Below.drew ?_))
    have sa : wa.heap.size = w.heap.size + 1 := by rw [← hwa]; simp
    have Xa : Box wa w.heap.size r r (some ⟨ab, ao, none⟩) n cap := by rw [← hwa]; exact Box.new _ _ _ _ _ _ _
    have la : w.heap.size < wa.heap.size := by omega
    have f0 := h.below Ba (Nat.le_refl _)
    have HBA := Lib.hid Ba
    clear hwa Ba h
    go_at_call 31
    refine (hL _ Xa f0).mono ?_
    rintro e w1 ⟨rfl, m1, rfl⟩
    generalize hw1 : wa.drewN m1 = w1
    have b2 : Below w.heap.size w w1 := by rw [← hw1]; exact below_drewN HBA.out _
    obtain ⟨x0, x1, x2⟩ : Box w1 w.heap.size r r (some ⟨ab, ao, none⟩) n cap := by rw [← hw1]; exact Xa.drewN
    have l1 : w.heap.size < w1.heap.size := by rw [← hw1]; exact la
    have F1 : IS .i64 w1 (some ⟨ab, ao, none⟩) n cap Z := by rw [← hw1]; exact IS.drewN f0
    have B1 := Lib.hid b2
    clear b2 hw1 Xa
    go_wp2_with fail
    go_region_held3 (fun w' => w'.cell? ⟨w.heap.size, 0, none⟩ = some (.int .i64 r) ∧ w'.cell? ⟨w.heap.size, 1, none⟩ = some (.int .i64 r) ∧ w'.cell? ⟨w.heap.size, 2, none⟩ = some (.slice (some ⟨ab, ao, none⟩) n cap) ∧ Below w1.heap.size w1 w')
      (first | exact ⟨x0, x1, x2, (by first | exact (Below.refl _ _).drew | exact (below_drewN (Below.refl _ _) _).drew)⟩ | exact heldX (by assumption) (by assumption) l1)
      (first | ((fail_if_success (have hq := qA)); go_at_call 33; refine (specAll_any r _ (by omega)).mono ?_; rintro e w2 ⟨qa, qc, rfl, qA, qB⟩) | (have hq := qA; clear hq; go_at_call 33; refine (specAll_any r _ (by omega)).mono ?_; rintro e w3 ⟨ra, rc, rfl, rA, rB⟩) | (go_at_call 32; refine (hm _ _ _ _ _ (by have hh : Below w1.heap.size w1 w3 := (by go_split_ands; assumption); exact Nat.lt_of_lt_of_le l1 hh.size) (by go_split_ands; exact ⟨by assumption, by assumption, by assumption⟩) (F1.below (by go_split_ands; assumption) (Nat.le_refl _)) (qA.below rB (Nat.le_refl _)) rA).mono ?_; rintro e w4 ⟨rfl, mB⟩))
    have B3 : Below w1.heap.size w1 w4 := by go_split_ands; assumption
    have B4 := Lib.hid (B1.out.trans (B3.mono B1.out.size))
    clear B3 mB rB rA qA qB
    go_wp2_with fail
    go_ret2
    exact ⟨rfl, B4.out⟩
theorem keyDetOfWhole (R C : Int) (n : Nat) (Z : Nat → Int) (wR : (Lit.int .i64 R).wf = true) (wC : (Lit.int .i64 C).wf = true) (hn : n ≤ 1048576) : ∃ (ok : Bool) (X : Int),
    (∀ a c W, IS .i64 W a n c Z → Calls Try.prog 10 #[.agg #[.int .i64 R, .int .i64 C, .slice a n c]] W (NumTell ok X W)) ∧
    (∀ a c W, IS .i64 W a n c Z → Calls Try.prog 12 #[.agg #[.int .i64 R, .int .i64 C, .slice a n c]] W (NumTell ok X W)) :=
  ⟨_, _, fun a c W h => specDet_any R C a n c Z W hn h, fun a c W h => implDet_any R C a n c Z W hn h⟩
end Go.Proofs.Ytinekdfpgkmbnac
