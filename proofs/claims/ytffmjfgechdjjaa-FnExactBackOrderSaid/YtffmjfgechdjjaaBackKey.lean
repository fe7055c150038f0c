/- Helper: the orders that lead back, of the program and of its reference. Conditions: none. -/
import Derived.Test.YtffmjfgechdjjaaOrderKey
set_option linter.unusedVariables false
set_option linter.unusedSimpArgs false
namespace Go.Proofs.Ytffmjfgechdjjaa
open Go.RowKit

/-- The numbers of the order that leads back, behind j rounds. -/
def bk (Z : Nat → Int) : Nat → Nat → Int
  | 0, _ => 0
  | j + 1, t => if Z j = t then j else bk Z j t
theorem bk_step {Z : Nat → Int} {j k : Nat} (e : Z j = k) (t : Nat) : (if t = k then (j : Int) else bk Z j t) = bk Z (j + 1) t := by
  simp only [bk, e]
  by_cases h : t = k
  · rw [if_pos h, if_pos (by omega)]
  · rw [if_neg h, if_neg (by omega)]
theorem ownI_zero {w' : World} {g B U n : Nat} (h : w'.ownsRow B 2 1 (.slice (some ⟨g, 0, none⟩) n n) n (madeCells #[Value.int .i64 0] n).toList) (hB : B ≤ g) (hU : g < U) (hs : U ≤ w'.heap.size) (hn : n ≤ maxLen) : OwnI 2 .i64 B U w' (some ⟨g, 0, none⟩) n n (fun _ => 0) := by
  refine .inr ⟨g, _, rfl, rfl, hn, hB, hU, hs, h, fun j hj => ?_, fun j _ => (by decide : (Lit.int .i64 0).wf = true)⟩
  rw [toList_madeCells_one, List.getElem?_replicate, if_pos hj]
/-- A list of whole numbers, and whether it is told. -/
def IntsBel (ok : Bool) (n : Nat) (V : Nat → Int) (w : World) (e : Ending) (w' : World) : Prop :=
  ∃ g d Y, e = .returned (.tuple #[.slice g n d, .bool ok]) ∧ IS .i64 w' g n d Y ∧ (∀ i, i < n → Y i = V i) ∧ Below w.heap.size w w'
def IntsOwn (ok : Bool) (n : Nat) (V : Nat → Int) (w : World) (e : Ending) (w' : World) : Prop :=
  ∃ g d Y, e = .returned (.tuple #[.slice g n d, .bool ok]) ∧ OwnI 2 .i64 w.heap.size w'.heap.size w' g n d Y ∧ (∀ i, i < n → Y i = V i) ∧ Below w.heap.size w w'

set_option maxHeartbeats 1000000 in
theorem implBackOf_any (b off n c : Nat) (Z : Nat → Int) (w : World) (hn : n ≤ 1048576) (h : IS .i64 w (some ⟨b, off, none⟩) n c Z) (hlts : ∀ j, j < n → 0 ≤ Z j ∧ Z j < n) :
    Calls Try.prog 33 #[.slice (some ⟨b, off, none⟩) n c] w fun e w' => ∃ g d, e = .returned (.slice g n d) ∧ OwnI 2 .i64 w.heap.size w'.heap.size w' g n d (bk Z n) ∧ Below w.heap.size w w' := by
  obtain ⟨i0, hi, hz0, hz1, hz2⟩ := info_parts info64
  go_enter Try.func33, Try.ntmps33
  go_wp2_with (at_make; refine wpList_make_full _ rfl _ _ 22 rfl w.heap.size 2 i0 (.int .i64 0) 1 Try.underlying22 hi hz0 hz1 _ _ _ _ n rfl rfl rfl rfl ?b2 ?b3 (Nat.le_refl _) ?_)
  case b2 => rw [hz2]; omega
  case b3 => unfold maxLen; omega
  intro w0 hown0 hgrow0
  have hU := (hown0.lt w.heap.size rfl).2
  have o0 := ownI_zero (U := w0.heap.size) hown0 (Nat.le_refl _) hU (Nat.le_refl _) (by unfold maxLen; omega)
  have b0 : Below w.heap.size w w0 := (Below.refl _ _).grown hgrow0 (Nat.le_refl _) (fun k h => by cases h)
  clear hown0 hgrow0
  go_wp2
  go_loopw [11] (fun i wr => ∃ j : Nat, j ≤ n ∧ i = .int .i64 j ∧ OwnI 2 .i64 w.heap.size w0.heap.size wr (some ⟨w.heap.size, 0, none⟩) n n (bk Z j) ∧ Below w.heap.size w wr) (fun i _ => n - (intOf i).toNat)
  case atStart => exact ⟨0, Nat.zero_le _, rfl, o0.same (fun j _ => rfl), b0⟩
  case round =>
    obtain ⟨j, hj, rfl, hk, hb⟩ := hrel
    clear o0 b0
    by_cases hlt : j < n
    · obtain ⟨b', off', e, hbl, hc, hw⟩ := IS.at (h.below hb (Nat.le_refl _)) hlt
      simp only [Option.some.injEq, Addr.mk.injEq, and_true] at e
      obtain ⟨rfl, rfl⟩ := e
      obtain ⟨z0, z1⟩ := hlts j hlt
      obtain ⟨k, ek⟩ : ∃ k : Nat, Z j = k := ⟨(Z j).toNat, by omega⟩
      have hkn : k < n := by omega
      rw [ek] at hc
      obtain ⟨hce, hfr, _⟩ := hk.cell hkn
      obtain ⟨ho2, hg2⟩ := hk.stored (t := k) (v := (j : Int)) hkn (wf64 (by omega) (by omega))
      have ho3 := Lib.hid (ho2.same (fun t _ => bk_step ek t))
      have hb2 := Lib.hid (hb.grown hg2 hb.size (fun q hq => by cases hq; exact Nat.le_refl _))
      clear ho2 hg2 hk hb hbl hw z0 z1 ek
      generalize bk Z j k = old at hce
      go_wp2
      go_roundw
      case rel => exact ⟨j + 1, by omega, by go_num, ho3.out, hb2.out⟩
      case measure => simp [intOf]; omega
    · obtain rfl : j = n := by omega
      have hk' := Lib.hid hk
      have hb' := Lib.hid hb
      clear hk hb
      go_wp2
      go_ret
      exact ⟨_, _, rfl, hk'.out.mono (Nat.le_refl _) (by have hh := hk'.out; rcases hh with ⟨e, _⟩ | ⟨_, _, _, _, _, _, _, hs, _⟩ <;> first | exact hs | cases e) (Nat.le_refl _), hb'.out⟩
set_option maxHeartbeats 1000000 in
theorem implBack_no (a : Option Addr) (n c : Nat) (Z : Nat → Int) (w : World) (hn : n ≤ 1048576) (h : IS .i64 w a n c Z) (ho : ordB Z n = false) :
    Calls Try.prog 14 #[.slice a n c] w (IntsOwn false 0 (fun _ => 0) w) := by
  go_enter Try.func14, Try.ntmps14
  go_wp2_with fail
  go_at_call 11
  refine (implOrder_any a n c Z _ hn h).mono ?_
  rintro e w1 ⟨rfl, b1⟩
  go_wp2_with fail
  go_ret2
  exact ⟨none, 0, fun _ => 0, rfl, .inl ⟨rfl, rfl, rfl⟩, fun i hi => by omega, b1⟩
set_option maxHeartbeats 1000000 in
theorem implBack_yes (b off n c : Nat) (Z : Nat → Int) (w : World) (hn : n ≤ 12) (h : IS .i64 w (some ⟨b, off, none⟩) n c Z) (ho : ordB Z n = true) :
    Calls Try.prog 14 #[.slice (some ⟨b, off, none⟩) n c] w (IntsOwn true n (bk Z n) w) := by
  have hlts : ∀ j, j < n → 0 ≤ Z j ∧ Z j < n := fun j hj => by
    have ho' := ho
    unfold ordB at ho'
    simp only [Bool.and_eq_true] at ho'
    exact okTo_lt ho'.2.2 hj
  go_enter Try.func14, Try.ntmps14
  go_wp2_with fail
  go_at_call 11
  refine (implOrder_any _ n c Z _ (by omega) h).mono ?_
  rintro e w1 ⟨rfl, b1⟩
  have h1 := h.below b1 (Nat.le_refl _)
  have B1 := Lib.hid b1
  clear h b1
  rw [ho]
  go_wp2_with fail
  go_at_call 33
  refine (implBackOf_any b off n c Z _ (by omega) h1 hlts).mono ?_
  rintro e w2 ⟨g, d, rfl, og, b2⟩
  have og2 := Lib.hid og
  have B2 := Lib.hid (B1.out.trans (b2.mono B1.out.size))
  clear og b2 h1 hlts
  go_wp2_with fail
  go_ret2
  exact ⟨_, _, _, rfl, og2.out.mono B1.out.size (Nat.le_refl _) (Nat.le_refl _), fun i _ => rfl, B2.out⟩
set_option maxHeartbeats 1000000 in
theorem specBack_no (a : Option Addr) (n c : Nat) (Z : Nat → Int) (w : World) (hn : n ≤ 1048576) (h : IS .i64 w a n c Z) (ho : ordB Z n = false) :
    Calls Try.prog 13 #[.slice a n c] w (IntsBel false 0 (fun _ => 0) w) := by
  go_enter Try.func13, Try.ntmps13
  go_wp2_with fail
  go_at_call 30
  refine (specOrder_any a n c Z _ hn h).mono ?_
  rintro e w1 ⟨rfl, b1⟩
  go_wp2_with fail
  go_ret2
  exact ⟨none, 0, fun _ => 0, rfl, ⟨Nat.le_refl _, Nat.zero_le _, fun i hi => by omega⟩, fun i hi => by omega, b1⟩
set_option maxHeartbeats 1000000 in
theorem specBack_yes (b off n c : Nat) (Z : Nat → Int) (w : World) (hn : n ≤ 12) (h : IS .i64 w (some ⟨b, off, none⟩) n c Z) (ho : ordB Z n = true) :
    Calls Try.prog 13 #[.slice (some ⟨b, off, none⟩) n c] w (IntsBel true n (bk Z n) w) := by
  have hlts : ∀ j, j < n → 0 ≤ Z j ∧ Z j < n := fun j hj => by
    have ho' := ho
    unfold ordB at ho'
    simp only [Bool.and_eq_true] at ho'
    exact okTo_lt ho'.2.2 hj
  obtain ⟨i0, hi, hz0, hz1, hz2⟩ := info_parts info64
  go_enter Try.func13, Try.ntmps13
  go_wp2_with fail
  go_at_call 30
  refine (specOrder_any _ n c Z _ (by omega) h).mono ?_
  rintro e w1 ⟨rfl, b1⟩
  have h1 := h.below b1 (Nat.le_refl _)
  have B1 := Lib.hid b1
  clear h b1
  go_wp2_with (at_make; refine wpList_make_full _ rfl _ _ 22 rfl w1.heap.size 2 i0 (.int .i64 0) 1 Try.underlying22 hi hz0 hz1 _ _ _ _ n rfl rfl rfl rfl ?b2 ?b3 (Nat.le_refl _) ?_)
  case b2 => rw [hz2]; omega
  case b3 => unfold maxLen; omega
  intro w0 hown0 hgrow0
  have hU := (hown0.lt w1.heap.size rfl).2
  have o0 := ownI_zero (U := w0.heap.size) hown0 (Nat.le_refl _) hU (Nat.le_refl _) (by unfold maxLen; omega)
  have b0 : Below w1.heap.size w1 w0 := (Below.refl _ _).grown hgrow0 (Nat.le_refl _) (fun k h => by cases h)
  clear hown0 hgrow0
  clear ho
  go_wp2
  go_loopw [5] (fun i wr => ∃ j : Nat, j ≤ n ∧ i = .int .i64 j ∧ OwnI 2 .i64 w1.heap.size w0.heap.size wr (some ⟨w1.heap.size, 0, none⟩) n n (bk Z j) ∧ Below w1.heap.size w1 wr) (fun i _ => n - (intOf i).toNat)
  case atStart => exact ⟨0, Nat.zero_le _, rfl, o0.same (fun j _ => rfl), b0⟩
  case round =>
    obtain ⟨j, hj, rfl, hk, hb⟩ := hrel
    clear o0 b0
    by_cases hlt : j < n
    · obtain ⟨b', off', e, hbl, hc, hw⟩ := IS.at (h1.below hb (Nat.le_refl _)) hlt
      simp only [Option.some.injEq, Addr.mk.injEq, and_true] at e
      obtain ⟨rfl, rfl⟩ := e
      obtain ⟨z0, z1⟩ := hlts j hlt
      obtain ⟨k, ek⟩ : ∃ k : Nat, Z j = k := ⟨(Z j).toNat, by omega⟩
      have hkn : k < n := by omega
      rw [ek] at hc
      obtain ⟨hce, hfr, _⟩ := hk.cell hkn
      obtain ⟨ho2, hg2⟩ := hk.stored (t := k) (v := (j : Int)) hkn (wf64 (by omega) (by omega))
      have ho3 := Lib.hid (ho2.same (fun t _ => bk_step ek t))
      have hb2 := Lib.hid (hb.grown hg2 hb.size (fun q hq => by cases hq; exact Nat.le_refl _))
      clear ho2 hg2 hk hb hbl hw z0 z1 ek
      generalize bk Z j k = old at hce
      go_wp2
      go_roundw
      case rel => exact ⟨j + 1, by omega, by go_num, ho3.out, hb2.out⟩
      case measure => simp [intOf]; omega
    · obtain rfl : j = n := by omega
      have hk' := Lib.hid hk
      have hb' := Lib.hid hb
      clear hk hb
      go_wp2
      go_ret2
      exact ⟨_, _, _, rfl, hk'.out.is, fun i _ => rfl, B1.out.trans (hb'.out.mono B1.out.size)⟩
theorem keyBackOrder (n : Nat) (Z : Nat → Int) (hn : n ≤ 1048576) : ∃ (ok : Bool) (nr : Nat) (V : Nat → Int), nr ≤ 12 ∧
    (∀ a c W, IS .i64 W a n c Z → Calls Try.prog 13 #[.slice a n c] W (IntsBel ok nr V W)) ∧
    (∀ a c W, IS .i64 W a n c Z → Calls Try.prog 14 #[.slice a n c] W (IntsOwn ok nr V W)) := by
  cases ho : ordB Z n with
  | false => exact ⟨false, 0, fun _ => 0, by omega, fun a c W h => specBack_no a n c Z W hn h ho, fun a c W h => implBack_no a n c Z W hn h ho⟩
  | true =>
    have ho' := ho
    unfold ordB at ho'
    simp only [Bool.and_eq_true, decide_eq_true_eq] at ho'
    refine ⟨true, n, bk Z n, ho'.2.1, fun a c W h => ?_, fun a c W h => ?_⟩
    all_goals obtain ⟨b, off, rfl, _⟩ := IS.at h (show 0 < n by omega)
    · exact specBack_yes b off n c Z W ho'.2.1 h ho
    · exact implBack_yes b off n c Z W ho'.2.1 h ho
end Go.Proofs.Ytffmjfgechdjjaa
