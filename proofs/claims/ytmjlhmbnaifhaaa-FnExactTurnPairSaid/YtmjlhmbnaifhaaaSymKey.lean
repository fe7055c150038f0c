/- Helper: whether a square is symmetric, of the program and of its reference. Conditions: none. -/
import Derived.Test.YtmjlhmbnaifhaaaFlipWalks
import Derived.Test.YtmjlhmbnaifhaaaMid
import Derived.Test.YtmjlhmbnaifhaaaKindSteps
set_option linter.unusedVariables false
set_option linter.unusedSimpArgs false
namespace Go.Proofs.Ytmjlhmbnaifhaaa
open Go.RowKit

/-- Two numbers that are equal. -/
def eqN (X Y : Option Nat) : Bool := ford .f32 X Y == some .eq
theorem ford_swap (X Y : Option Nat) : ford .f32 Y X = (ford .f32 X Y).map Ordering.swap := by
  cases X with
  | none => cases Y <;> rfl
  | some x =>
    cases Y with
    | none => rfl
    | some y => exact datum_swap (FloatKind.f32.format.read x) (FloatKind.f32.format.read y)
theorem eqN_comm (X Y : Option Nat) : eqN X Y = eqN Y X := by
  unfold eqN
  rw [ford_swap X Y]
  cases ford .f32 X Y with
  | none => rfl
  | some o => cases o <;> rfl
theorem eqN_self {x : Nat} (h : finite .f32 (cn .f32 x) = true) : eqN (cn .f32 x) (cn .f32 x) = true := by
  unfold eqN
  rw [ford_self]
  unfold cn at h ⊢
  split at h
  · cases h
  · rename_i hn
    rw [if_neg hn]; rfl
/-- All numbers are equal to those with their indices exchanged. -/
def symP (c : Nat) (V : Nat → Option Nat) : Prop := ∀ i k, i < c → k < c → eqN (V (i * c + k)) (V (k * c + i)) = true
open Classical in
noncomputable def symB (R C : Int) (n : Nat) (V : Nat → Option Nat) : Bool := squareB R C n V && decide (symP R.toNat V)
theorem symB_no {R C : Int} {n : Nat} {V : Nat → Option Nat} (h : squareB R C n V = false) : symB R C n V = false := by unfold symB; rw [h]; rfl
open Classical in
theorem symB_yes {r n : Nat} {V : Nat → Option Nat} (h : squareB r r n V = true) (h2 : symP r V) : symB r r n V = true := by
  unfold symB
  rw [h, Int.toNat_natCast, decide_eq_true h2]; rfl
open Classical in
theorem symB_off {r n : Nat} {V : Nat → Option Nat} (h2 : ¬ symP r V) : symB r r n V = false := by
  unfold symB
  rw [Int.toNat_natCast, decide_eq_false h2, Bool.and_false]
theorem sym_flip {c : Nat} {Z : Nat → Nat} (hc : 0 < c) : (∀ t, t < c * c → eqN (vals Z t) (vals (flipZ c c Z) t) = true) ↔ symP c (vals Z) := by
  constructor
  · intro h i k hi hk
    have hh := h (i * c + k) (place_lt hi hk)
    obtain ⟨h1, h2⟩ := place_div (j := i) hk
    unfold vals flipZ at hh
    rw [h1, h2] at hh
    exact hh
  · intro h t ht
    have h1 : t / c < c := Nat.div_lt_of_lt_mul ht
    have h2 := Nat.mod_lt t hc
    have hh := h (t / c) (t % c) h1 h2
    rw [place_eq] at hh
    exact hh

set_option maxHeartbeats 1000000 in
theorem equalF_any (a b : Option Addr) (n c d : Nat) (Z Y : Nat → Nat) (w : World) (hn : n ≤ 1048576) (h : FS .f32 w a n c Z) (h2 : FS .f32 w b n d Y) :
    Calls Try.prog 102 #[.slice a n c, .slice b n d] w fun e w' => (∃ m, w' = w.drewN m) ∧ (((∀ t, t < n → eqN (vals Z t) (vals Y t) = true) ∧ e = .returned (.bool true)) ∨ (¬ (∀ t, t < n → eqN (vals Z t) (vals Y t) = true) ∧ e = .returned (.bool false))) := by
  go_enter Try.func102, Try.ntmps102
  go_wp2
  go_loopw [5, 13] (fun _ i wr => ∃ k m : Nat, k ≤ n ∧ i = .int .i64 k ∧ (∀ j, j < k → eqN (vals Z j) (vals Y j) = true) ∧ wr = w.drewN m) (fun _ i _ => n - (intOf i).toNat)
  case atStart => exact ⟨0, 0, Nat.zero_le _, rfl, fun j hj => absurd hj (Nat.not_lt_zero _), rfl⟩
  case round =>
    obtain ⟨k, m0, hk, rfl, hne, rfl⟩ := hrel
    have hne' := Lib.hid hne
    clear hne
    by_cases hlt : k < n
    · obtain ⟨b1, off1, rfl, hbl1, hc1, hfv1⟩ := h.at hlt
      obtain ⟨b2, off2, rfl, hbl2, hc2, hfv2⟩ := h2.at hlt
      have hx : cn .f32 (Z k) = vals Z k := rfl
      have hy : cn .f32 (Y k) = vals Y k := rfl
      clear hbl1 hbl2 hfv1 hfv2 h h2
      cases hz : eqN (vals Z k) (vals Y k) with
      | true =>
        have hs : (ford .f32 (vals Z k) (vals Y k) == some .eq) = true := hz
        have hs2 : (ford .f32 (vals Z k) (vals Y k) != some .eq) = false := by unfold bne; rw [hs]; rfl
        have hz' := Lib.hid hz
        clear hz
        go_wp2
        go_quiet (fail)
        go_wp2
        go_roundw
        case rel =>
          refine ⟨k + 1, _, by omega, by go_num, fun j hj => ?_, rfl⟩
          by_cases e : j = k
          · subst e; exact hz'.out
          · exact hne'.out j (by omega)
        case measure => simp [intOf]; omega
      | false =>
        have hs : (ford .f32 (vals Z k) (vals Y k) == some .eq) = false := hz
        have hs2 : (ford .f32 (vals Z k) (vals Y k) != some .eq) = true := by unfold bne; rw [hs]; rfl
        have hz' := Lib.hid hz
        clear hz
        go_wp2
        go_quiet (fail)
        go_wp2
        go_ret
        exact ⟨⟨_, drewN_two⟩, .inr ⟨fun hh => (by have := hh k hlt; rw [hz'.out] at this; cases this), rfl⟩⟩
    · obtain rfl : k = n := by omega
      go_wp2
      go_ret
      exact ⟨⟨_, rfl⟩, .inl ⟨hne'.out, rfl⟩⟩
/-- What a region keeps that reads one box beside what makes memory. -/
theorem heldB {w0 W w' : World} {b1 : Nat} {u0 u1 u2 : Value} (hs : W.cell? ⟨b1, 0, none⟩ = some u0 ∧ W.cell? ⟨b1, 1, none⟩ = some u1 ∧ W.cell? ⟨b1, 2, none⟩ = some u2 ∧ Below w0.heap.size w0 W)
    (hb : Below W.heap.size W w') (l1 : b1 < w0.heap.size) : w'.cell? ⟨b1, 0, none⟩ = some u0 ∧ w'.cell? ⟨b1, 1, none⟩ = some u1 ∧ w'.cell? ⟨b1, 2, none⟩ = some u2 ∧ Below w0.heap.size w0 w' := by
  obtain ⟨h0, h1, h2, h6⟩ := hs
  have e1 : b1 < W.heap.size := Nat.lt_of_lt_of_le l1 h6.size
  exact ⟨(hb.cell (p := ⟨b1, 0, none⟩) e1).trans h0, (hb.cell (p := ⟨b1, 1, none⟩) e1).trans h1, (hb.cell (p := ⟨b1, 2, none⟩) e1).trans h2, h6.trans (hb.mono h6.size)⟩
set_option maxRecDepth 20000 in
set_option maxHeartbeats 2000000 in
theorem implSym_any (R C : Int) (a : Option Addr) (n c : Nat) (Z : Nat → Nat) (w : World) (hn : n ≤ 1048576) (h : FS .f32 w a n c Z) :
    Calls Try.prog 82 #[.agg #[.int .i64 R, .int .i64 C, .slice a n c]] w (BoolBel (symB R C n (vals Z)) w) := by
  cases hs : squareB R C n (vals Z) with
  | false =>
    rw [symB_no hs]
    go_enter Try.func82, Try.ntmps82
    go_wp2_with fail
    obtain ⟨x0, x1, x2⟩ := (Box.new w 26 R C a n c)
    have hsz : w.heap.size < (w.alloc (.cells #[.int .i64 R, .int .i64 C, .slice a n c] 26)).heap.size := by simp
    have hW0 : Below w.heap.size w (w.alloc (.cells #[.int .i64 R, .int .i64 C, .slice a n c] 26)) := (by repeat first | (with_reducible exact Below.refl _ _) | (with_reducible refine Below.setCell ?_ (by first | exact Nat.le_refl _ | (simp; done) | (simp; omega) | omega) _) | (with_reducible refine Below.alloc ?_ (by first | exact Nat.le_refl _ | (simp; done) | (simp; omega) | omega) _) | (with_reducible refine below_drewN ?_ _) | (with_reducible refine Below.drew ?_))
    generalize w.alloc (.cells #[.int .i64 R, .int .i64 C, .slice a n c] 26) = w0 at x0 x1 x2 hsz hW0 ⊢
    have XA : Box w0 w.heap.size R C a n c := ⟨x0, x1, x2⟩
    clear x0 x1 x2
    (refine wp_region_kinds (fun w' => Below w0.heap.size w0 w') (fun _ => 0) 10 (below_drewN (Below.refl _ _) 1) (by kernel_rfl) (by kernel_rfl) (by kernel_rfl) ?_; simp only [List.take_succ_cons, List.take_zero, List.drop_succ_cons, List.drop_zero])
    ((with_reducible refine wpKinds_run (.agg #[.int .i64 R, .int .i64 C, .slice a n c]) ?hwant ?hkind ?hrun ?_); (case hwant => first | (simp [Region.wanted, yielded]; done) | rfl); (case hkind => rfl); (case hrun => intro W hW; obtain ⟨u0, u1, u2⟩ := Box.below XA hW (by omega); simp [go_sem, BigFrame.eval_const, BigFrame.eval_global, BigFrame.eval_func, u0, u1, u2]); simp only [Act.put, List.setIfInBounds_toArray, List.set_cons_succ, List.set_cons_zero])
    ((with_reducible refine wpKinds_call (f := 34) (args := #[.agg #[.int .i64 R, .int .i64 C, .slice a n c]]) (.bool false) ?hwant ?hkind ?hrun ?hinit ?hcall ?_); (case hwant => first | (simp [Region.wanted, yielded]; done) | rfl); (case hkind => rfl); (case hrun => intro W; simp [go_sem, BigFrame.eval_const, BigFrame.eval_global, BigFrame.eval_func]); (case hinit => kernel_rfl); (case hcall => intro W hW; (refine (implSquare_any R C a n c Z W hn (h.below (hW0.trans (hW.mono hW0.size)) (Nat.le_refl _))).mono ?_; rintro e w' ⟨rfl, hb⟩; exact ⟨by rw [hs], hW.trans (hb.mono hW.size)⟩)); simp only [Act.put, List.setIfInBounds_toArray, List.set_cons_succ, List.set_cons_zero])
    ((with_reducible refine wpKinds_run (.bool false) ?hwant ?hkind ?hrun ?_); (case hwant => first | (simp [Region.wanted, yielded]; done) | rfl); (case hkind => rfl); (case hrun => intro W hW; simp [go_sem, BigFrame.eval_const, BigFrame.eval_global, BigFrame.eval_func]); simp only [Act.put, List.setIfInBounds_toArray, List.set_cons_succ, List.set_cons_zero])
    ((with_reducible refine wpKinds_skip ?hwant ?_); (case hwant => first | (simp [Region.wanted, yielded]; done) | rfl); simp only [Act.put, List.setIfInBounds_toArray, List.set_cons_succ, List.set_cons_zero])
    ((with_reducible refine wpKinds_skip ?hwant ?_); (case hwant => first | (simp [Region.wanted, yielded]; done) | rfl); simp only [Act.put, List.setIfInBounds_toArray, List.set_cons_succ, List.set_cons_zero])
    ((with_reducible refine wpKinds_skip ?hwant ?_); (case hwant => first | (simp [Region.wanted, yielded]; done) | rfl); simp only [Act.put, List.setIfInBounds_toArray, List.set_cons_succ, List.set_cons_zero])
    ((with_reducible refine wpKinds_skip ?hwant ?_); (case hwant => first | (simp [Region.wanted, yielded]; done) | rfl); simp only [Act.put, List.setIfInBounds_toArray, List.set_cons_succ, List.set_cons_zero])
    ((with_reducible refine wpKinds_skip ?hwant ?_); (case hwant => first | (simp [Region.wanted, yielded]; done) | rfl); simp only [Act.put, List.setIfInBounds_toArray, List.set_cons_succ, List.set_cons_zero])
    ((with_reducible refine wpKinds_skip ?hwant ?_); (case hwant => first | (simp [Region.wanted, yielded]; done) | rfl); simp only [Act.put, List.setIfInBounds_toArray, List.set_cons_succ, List.set_cons_zero])
    ((with_reducible refine wpKinds_run (.bool false) ?hwant ?hkind ?hrun ?_); (case hwant => first | (simp [Region.wanted, yielded]; done) | rfl); (case hkind => rfl); (case hrun => intro W hW; simp [go_sem, BigFrame.eval_const, BigFrame.eval_global, BigFrame.eval_func]); simp only [Act.put, List.setIfInBounds_toArray, List.set_cons_succ, List.set_cons_zero])
    refine wpKinds_nil ?_
    intro w' hC
    have B2 := hW0.trans (hC.mono hW0.size)
    clear hC XA
    go_wp2
    go_ret
    exact ⟨rfl, (by repeat first | (with_reducible exact B2) | (with_reducible refine Below.setCell ?_ (by first | exact Nat.le_refl _ | (simp; done) | (simp; omega) | omega) _) | (with_reducible refine Below.alloc ?_ (by first | exact Nat.le_refl _ | (simp; done) | (simp; omega) | omega) _) | (with_reducible refine below_drewN ?_ _) | (with_reducible refine Below.drew ?_))⟩
  | true =>
    obtain ⟨r, rfl, rfl, hr1, hr, hnr, hfin⟩ := square_nat hs
    obtain ⟨p, o, rfl, _, _, _⟩ := h.at (show 0 < n by rw [hnr]; exact Nat.mul_pos hr1 hr1)
    have hN := Lib.hid hnr
    have HF : Hid ((∀ t, t < n → eqN (vals Z t) (vals (flipZ r r Z) t) = true) ↔ symP r (vals Z)) := Lib.hid (by rw [hnr]; exact sym_flip hr1)
    have HS := Lib.hid hs
    clear hnr hfin
    have hfld : ∀ (g : Nat) (W : World), Sem.run Try.prog (Instr.field 26 (.agg #[.int .i64 r, .int .i64 r, .slice (some ⟨g, 0, none⟩) n n]) 2) W = .ok (.slice (some ⟨g, 0, none⟩) n n) W := by
      intro g W
      kernel_rfl
    have heq : ∀ (g : Nat) (W : World), FS .f32 W (some ⟨p, o, none⟩) n c Z → FS .f32 W (some ⟨g, 0, none⟩) n n (flipZ r r Z) → Calls Try.prog 102 #[.slice (some ⟨p, o, none⟩) n c, .slice (some ⟨g, 0, none⟩) n n] W fun e w' => e = .returned (.bool (symB r r n (vals Z))) ∧ ∃ m, w' = W.drewN m := fun g W h1 h2 => (equalF_any _ _ n c n Z (flipZ r r Z) W hn h1 h2).mono fun e w' hh => by
      obtain ⟨hm, ⟨hall, he⟩ | ⟨hall, he⟩⟩ := hh
      · exact ⟨by rw [he, symB_yes HS.out (HF.out.1 hall)], hm⟩
      · exact ⟨by rw [he, symB_off (fun hh => hall (HF.out.2 hh))], hm⟩
    generalize symB r r n (vals Z) = ok at heq ⊢
    cases ok
    all_goals
      go_enter Try.func82, Try.ntmps82
      go_wp2_with fail
      obtain ⟨x0, x1, x2⟩ := (Box.new w 26 r r (some ⟨p, o, none⟩) n c)
      have hsz : w.heap.size < (w.alloc (.cells #[.int .i64 r, .int .i64 r, .slice (some ⟨p, o, none⟩) n c] 26)).heap.size := by simp
      have hW : Below w.heap.size w (w.alloc (.cells #[.int .i64 r, .int .i64 r, .slice (some ⟨p, o, none⟩) n c] 26)) := (by repeat first | (with_reducible exact Below.refl _ _) | (with_reducible refine Below.setCell ?_ (by first | exact Nat.le_refl _ | (simp; done) | (simp; omega) | omega) _) | (with_reducible refine Below.alloc ?_ (by first | exact Nat.le_refl _ | (simp; done) | (simp; omega) | omega) _) | (with_reducible refine below_drewN ?_ _) | (with_reducible refine Below.drew ?_))
      generalize w.alloc (.cells #[.int .i64 r, .int .i64 r, .slice (some ⟨p, o, none⟩) n c] 26) = w0 at x0 x1 x2 hsz hW ⊢
      go_region_held3 (fun w' => w'.cell? ⟨w.heap.size, 0, none⟩ = some (.int .i64 r) ∧ w'.cell? ⟨w.heap.size, 1, none⟩ = some (.int .i64 r) ∧ w'.cell? ⟨w.heap.size, 2, none⟩ = some (.slice (some ⟨p, o, none⟩) n c) ∧ Below w0.heap.size w0 w')
        (first | exact ⟨x0, x1, x2, (by first | exact (Below.refl _ _).drew | exact (below_drewN (Below.refl _ _) _).drew)⟩ | exact heldB (by assumption) (by assumption) (by omega))
        (first
          | (go_at_call 34; refine (implSquare_any r r _ n c Z _ hn (h.below (hW.trans (Below.mono (by go_split_ands; assumption) hW.size)) (Nat.le_refl _))).mono ?_; rintro e wa ⟨rfl, ba⟩)
          | (go_at_call 64; refine (flipped_any r r n p o c Z _ hr1 hr hr1 hr hN.out (h.below (hW.trans (Below.mono (by go_split_ands; assumption) hW.size)) (Nat.le_refl _))).mono ?_; rintro e wf ⟨g, rfl, og, bf⟩)
          | (go_at_call 102; refine (heq _ _ (h.below (hW.trans (Below.mono (by go_split_ands; assumption) hW.size)) (Nat.le_refl _)) og.fs).mono ?_; rintro e we ⟨rfl, me, hwe⟩; have be := below_of_drewN hwe; clear hwe))
      go_wp2_with fail
      go_ret
      exact ⟨rfl, hW.trans (Below.mono (by go_split_ands; assumption) hW.size)⟩
set_option maxRecDepth 20000 in
set_option maxHeartbeats 2000000 in
theorem specSym_any (b : Nat) (R C : Int) (a : Option Addr) (n c : Nat) (Z : Nat → Nat) (w : World) (hn : n ≤ 1048576) (hb : Box w b R C a n c) (h : FS .f32 w a n c Z) :
    Calls Try.prog 77 #[.pointer (some ⟨b, 0, none⟩)] w fun e w' => e = .returned (.bool (symB R C n (vals Z))) ∧ ∃ m, w' = w.drewN m := by
  have hb' := Lib.hid hb
  obtain ⟨hb0, hb1, hb2⟩ := hb
  cases hs : squareB R C n (vals Z) with
  | false =>
    rw [symB_no hs]
    go_enter Try.func77, Try.ntmps77
    go_wp2_with fail
    go_at_call 32
    refine (specSquare_any b R C a n c Z _ hn hb'.out h).mono ?_
    rintro e w1 ⟨rfl, m1, rfl⟩
    go_wp2_with fail
    go_ret
    exact ⟨rfl, _, rfl⟩
  | true =>
    obtain ⟨r, rfl, rfl, hr1, hr, hnr, hfin⟩ := square_nat hs
    obtain ⟨p, o, rfl, _, _, _⟩ := h.at (show 0 < n by rw [hnr]; exact Nat.mul_pos hr1 hr1)
    have hN := Lib.hid hnr
    have HFin := Lib.hid hfin
    have HS := Lib.hid hs
    obtain ⟨ok, hok⟩ : ∃ ok, ok = symB r r n (vals Z) := ⟨_, rfl⟩
    rw [← hok]
    have HK := Lib.hid hok
    clear hnr hfin hok
    go_enter Try.func77, Try.ntmps77
    go_wp2_with fail
    go_at_call 32
    refine (specSquare_any b r r _ n c Z _ hn hb'.out h).mono ?_
    rintro e w1 ⟨rfl, m1, rfl⟩
    go_wp2
    clear hs
    go_loopw [3] (fun i wr => ∃ (j m : Nat), j ≤ r ∧ i = .int .i64 j ∧ (∀ i k, i < j → k < i → eqN (vals Z (i * r + k)) (vals Z (k * r + i)) = true) ∧ wr = w.drewN m) (fun i _ => r - (intOf i).toNat)
    case atStart => exact ⟨0, _, Nat.zero_le _, rfl, fun i k hi => absurd hi (Nat.not_lt_zero _), rfl⟩
    case round =>
      obtain ⟨j, m0, hj, rfl, hall, hw0⟩ := hrel
      have HA := Lib.hid hall
      clear hall
      have q0 : wr.cell? ⟨b, 0, none⟩ = some (.int .i64 r) := by rw [hw0]; exact hb0
      have HW := Lib.hid hw0
      by_cases hlt : j < r
      · have hX : Hid (Box wr b r r (some ⟨p, o, none⟩) n c) := Lib.hid (by rw [hw0]; exact hb'.out.drewN)
        have hF : Hid (FS .f32 wr (some ⟨p, o, none⟩) n c Z) := Lib.hid (by rw [hw0]; exact h.drewN)
        clear hw0
        go_wp2
        go_loopw [4] (fun k w2 => ∃ (q m : Nat), q ≤ j ∧ k = .int .i64 q ∧ (∀ k, k < q → eqN (vals Z (j * r + k)) (vals Z (k * r + j)) = true) ∧ w2 = wr.drewN m) (fun k _ => j - (intOf k).toNat)
        case atStart => exact ⟨0, 0, Nat.zero_le _, rfl, fun k hk => absurd hk (Nat.not_lt_zero _), rfl⟩
        case round =>
          obtain ⟨q, m2, hq, rfl, hrow, rfl⟩ := hrel
          have HR := Lib.hid hrow
          clear hrow
          by_cases hlt2 : q < j
          · have hx : cn .f32 (Z (j * r + q)) = vals Z (j * r + q) := rfl
            have hy : cn .f32 (Z (q * r + j)) = vals Z (q * r + j) := rfl
            cases hz : eqN (vals Z (j * r + q)) (vals Z (q * r + j)) with
            | true =>
              have hs2 : (ford .f32 (vals Z (j * r + q)) (vals Z (q * r + j)) != some .eq) = false := by unfold bne; have hz0 := hz; unfold eqN at hz0; rw [hz0]; rfl
              have hz' := Lib.hid hz
              clear hz
              go_wp2_with fail
              go_at_call 46
              refine (specAt_any b p o r r n c j q Z _ hr hr hN.out hX.out.drewN (FS.drewN hF.out) (by omega) (by omega)).mono ?_
              rintro e w5 ⟨rfl, m5, rfl⟩
              go_wp2_with fail
              go_at_call 46
              refine (specAt_any b p o r r n c q j Z _ hr hr hN.out hX.out.drewN (FS.drewN hF.out) (by omega) (by omega)).mono ?_
              rintro e w6 ⟨rfl, m6, rfl⟩
              go_wp2_with fail
              go_roundw
              case rel =>
                refine ⟨q + 1, _, by omega, by go_num, fun k hk => ?_, rfl⟩
                by_cases e : k = q
                · subst e; exact hz'.out
                · exact HR.out k (by omega)
              case measure => simp [intOf]; omega
            | false =>
              have hs2 : (ford .f32 (vals Z (j * r + q)) (vals Z (q * r + j)) != some .eq) = true := by unfold bne; have hz0 := hz; unfold eqN at hz0; rw [hz0]; rfl
              have hno : Hid (ok = false) := Lib.hid (by rw [HK.out]; exact symB_off (fun hh => by have := hh j q hlt (by omega); rw [hz] at this; cases this))
              clear hz
              go_wp2_with fail
              go_at_call 46
              refine (specAt_any b p o r r n c j q Z _ hr hr hN.out hX.out.drewN (FS.drewN hF.out) (by omega) (by omega)).mono ?_
              rintro e w5 ⟨rfl, m5, rfl⟩
              go_wp2_with fail
              go_at_call 46
              refine (specAt_any b p o r r n c q j Z _ hr hr hN.out hX.out.drewN (FS.drewN hF.out) (by omega) (by omega)).mono ?_
              rintro e w6 ⟨rfl, m6, rfl⟩
              go_wp2_with fail
              go_ret
              have ew := HW.out
              subst ew
              exact ⟨by rw [hno.out]; rfl, _, drewN_two⟩
          · obtain rfl : q = j := by omega
            go_wp2
            go_roundw
            case rel =>
              refine ⟨q + 1, _, by omega, by go_num, fun i k hi hk => ?_, by rw [HW.out]; exact drewN_two⟩
              by_cases e : i = q
              · subst e; exact HR.out k hk
              · exact HA.out i k (by omega) hk
            case measure => simp [intOf]; omega
      · obtain rfl : j = r := by omega
        have hyes : Hid (ok = true) := Lib.hid (by
          rw [HK.out]
          refine symB_yes HS.out fun i k hi hk => ?_
          rcases Nat.lt_trichotomy k i with h1 | h1 | h1
          · exact HA.out i k hi h1
          · subst h1
            exact eqN_self (allFin_lt (V := vals Z) (j := k * j + k) HFin.out (by rw [hN.out]; exact place_lt hi hk))
          · rw [eqN_comm]; exact HA.out k i hk h1)
        clear hw0
        go_wp2
        go_ret
        exact ⟨by rw [hyes.out]; rfl, _, HW.out⟩
end Go.Proofs.Ytmjlhmbnaifhaaa
