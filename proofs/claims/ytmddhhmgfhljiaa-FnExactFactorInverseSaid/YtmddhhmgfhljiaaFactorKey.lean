/- Helper: factors: what is valid, of the program and of its reference. Conditions: none. -/
import Derived.Test.YtmddhhmgfhljiaaOrderKey
import Derived.Test.YtmddhhmgfhljiaaSquare
import Derived.Test.YtmddhhmgfhljiaaMid
import Derived.Test.YtmddhhmgfhljiaaKindSteps
import Derived.Test.YtmddhhmgfhljiaaBoxes
set_option linter.unusedVariables false
set_option linter.unusedSimpArgs false
namespace Go.Proofs.Ytmddhhmgfhljiaa
open Go.RowKit

/-- The middle of a square. -/
def midZ (r : Nat) (V : Nat → Option Nat) (i : Nat) : Option Nat := V (i * r + i)
/-- What valid factors are. -/
def factorB (R C : Int) (n : Nat) (V : Nat → Option Nat) (m : Nat) (O : Nat → Int) : Bool := squareB R C n V && (ordB O m && (decide ((m : Int) = R) && !anyZ (midZ R.toNat V) R.toNat))
theorem factor_nat {R C : Int} {n m : Nat} {V : Nat → Option Nat} {O : Nat → Int} (h : factorB R C n V m O = true) :
    ∃ r : Nat, R = r ∧ C = r ∧ m = r ∧ 1 ≤ r ∧ r ≤ 12 ∧ n = r * r ∧ allFin V n = true ∧ squareB r r n V = true ∧ ordB O r = true ∧ anyZ (midZ r V) r = false := by
  unfold factorB at h
  simp only [Bool.and_eq_true, decide_eq_true_eq, Bool.not_eq_true'] at h
  obtain ⟨hs, ho, hm, hz⟩ := h
  obtain ⟨r, rfl, rfl, h1, h12, hn, hf⟩ := square_nat hs
  have e : m = r := by omega
  subst e
  exact ⟨m, rfl, rfl, rfl, h1, h12, hn, hf, hs, ho, hz⟩

set_option maxHeartbeats 2000000 in
theorem implFactor_any (R C : Int) (a : Option Addr) (n c : Nat) (Z : Nat → Nat) (b : Option Addr) (m d : Nat) (O : Nat → Int) (w0 : World) (hn : n ≤ 1048576) (hm : m ≤ 1048576) (h : FS .f32 w0 a n c Z) (h2 : IS .i64 w0 b m d O) :
    Calls Try.prog 40 #[.agg #[.int .i64 R, .int .i64 C, .slice a n c, .slice b m d]] w0 fun e w' => e = .returned (.bool (factorB R C n (vals Z) m O)) ∧ Below w0.heap.size w0 w' := by
  have c0 : cn .f32 0 = some 0 := by kernel_rfl
  cases hs : squareB R C n (vals Z) with
  | false =>
    have HB : Hid (factorB R C n (vals Z) m O = false) := Lib.hid (by unfold factorB; rw [hs]; rfl)
    go_enter Try.func40, Try.ntmps40
    go_wp2_with fail
    go_at_call 71
    refine (implSquare_any R C a n c Z _ hn (h.below (by repeat first | (with_reducible exact Below.refl _ _) | (with_reducible refine Below.setCell ?_ (by first | exact Nat.le_refl _ | (simp; done) | (simp; omega) | omega) _) | (with_reducible refine Below.alloc ?_ (by first | exact Nat.le_refl _ | (simp; done) | (simp; omega) | omega) _) | (with_reducible refine below_drewN ?_ _) | (with_reducible refine Below.drew ?_)) (Nat.le_refl _))).mono ?_
    rintro e w1 ⟨rfl, b1⟩
    rw [hs]
    have B1 : Below w0.heap.size w0 w1 := Below.trans (by repeat first | (with_reducible exact Below.refl _ _) | (with_reducible refine Below.setCell ?_ (by first | exact Nat.le_refl _ | (simp; done) | (simp; omega) | omega) _) | (with_reducible refine Below.alloc ?_ (by first | exact Nat.le_refl _ | (simp; done) | (simp; omega) | omega) _) | (with_reducible refine below_drewN ?_ _) | (with_reducible refine Below.drew ?_)) (b1.mono (by simp))
    have s1 : w0.heap.size < w1.heap.size := by have := b1.size; simp at this; omega
    have X1 : BoxL w1 w0.heap.size [.int .i64 R, .int .i64 C, .slice a n c, .slice b m d] := BoxL.below (BoxL.four (by simp [go_sem]) (by simp [go_sem]) (by simp [go_sem]) (by simp [go_sem])) b1 (by simp)
    have x0 := X1 0 _ rfl
    have x1 := X1 1 _ rfl
    have x2 := X1 2 _ rfl
    have x3 := X1 3 _ rfl
    clear b1
    go_wp2_with fail
    go_ret
    exact ⟨by rw [HB.out]; rfl, (by repeat first | (with_reducible exact B1) | (with_reducible refine Below.setCell ?_ (by first | exact Nat.le_refl _ | (simp; done) | (simp; omega) | omega) _) | (with_reducible refine Below.alloc ?_ (by first | exact Nat.le_refl _ | (simp; done) | (simp; omega) | omega) _) | (with_reducible refine below_drewN ?_ _) | (with_reducible refine Below.drew ?_))⟩
  | true =>
    cases hord : ordB O m with
    | false =>
      have HB : Hid (factorB R C n (vals Z) m O = false) := Lib.hid (by unfold factorB; rw [hs, hord]; rfl)
      go_enter Try.func40, Try.ntmps40
      go_wp2_with fail
      go_at_call 71
      refine (implSquare_any R C a n c Z _ hn (h.below (by repeat first | (with_reducible exact Below.refl _ _) | (with_reducible refine Below.setCell ?_ (by first | exact Nat.le_refl _ | (simp; done) | (simp; omega) | omega) _) | (with_reducible refine Below.alloc ?_ (by first | exact Nat.le_refl _ | (simp; done) | (simp; omega) | omega) _) | (with_reducible refine below_drewN ?_ _) | (with_reducible refine Below.drew ?_)) (Nat.le_refl _))).mono ?_
      rintro e w1 ⟨rfl, b1⟩
      rw [hs]
      have B1 : Below w0.heap.size w0 w1 := Below.trans (by repeat first | (with_reducible exact Below.refl _ _) | (with_reducible refine Below.setCell ?_ (by first | exact Nat.le_refl _ | (simp; done) | (simp; omega) | omega) _) | (with_reducible refine Below.alloc ?_ (by first | exact Nat.le_refl _ | (simp; done) | (simp; omega) | omega) _) | (with_reducible refine below_drewN ?_ _) | (with_reducible refine Below.drew ?_)) (b1.mono (by simp))
      have s1 : w0.heap.size < w1.heap.size := by have := b1.size; simp at this; omega
      have X1 : BoxL w1 w0.heap.size [.int .i64 R, .int .i64 C, .slice a n c, .slice b m d] := BoxL.below (BoxL.four (by simp [go_sem]) (by simp [go_sem]) (by simp [go_sem]) (by simp [go_sem])) b1 (by simp)
      have x0 := X1 0 _ rfl
      have x1 := X1 1 _ rfl
      have x2 := X1 2 _ rfl
      have x3 := X1 3 _ rfl
      clear b1
      go_wp2_with fail
      go_at_call 81
      refine (implOrder_any b m d O _ hm (h2.below B1 (Nat.le_refl _))).mono ?_
      rintro e w2 ⟨rfl, b2⟩
      rw [hord]
      have B2 := B1.trans (b2.mono B1.size)
      have X2 := X1.below b2 s1
      have s2 : w0.heap.size < w2.heap.size := Nat.lt_of_lt_of_le s1 b2.size
      clear b2 x0 x1 x2 x3 X1 B1 s1
      have x0 := X2 0 _ rfl
      have x1 := X2 1 _ rfl
      have x2 := X2 2 _ rfl
      have x3 := X2 3 _ rfl
      go_wp2_with fail
      go_ret
      exact ⟨by rw [HB.out]; rfl, (by repeat first | (with_reducible exact B2) | (with_reducible refine Below.setCell ?_ (by first | exact Nat.le_refl _ | (simp; done) | (simp; omega) | omega) _) | (with_reducible refine Below.alloc ?_ (by first | exact Nat.le_refl _ | (simp; done) | (simp; omega) | omega) _) | (with_reducible refine below_drewN ?_ _) | (with_reducible refine Below.drew ?_))⟩
    | true =>
      by_cases hmr : (m : Int) = R
      case neg =>
        have HB : Hid (factorB R C n (vals Z) m O = false) := Lib.hid (by unfold factorB; rw [hs, hord, decide_eq_false hmr]; rfl)
        have hd : ((m : Int) != R) = true := by simp; omega
        have hmr2 := Lib.hid hmr
        clear hmr
        go_enter Try.func40, Try.ntmps40
        go_wp2_with fail
        go_at_call 71
        refine (implSquare_any R C a n c Z _ hn (h.below (by repeat first | (with_reducible exact Below.refl _ _) | (with_reducible refine Below.setCell ?_ (by first | exact Nat.le_refl _ | (simp; done) | (simp; omega) | omega) _) | (with_reducible refine Below.alloc ?_ (by first | exact Nat.le_refl _ | (simp; done) | (simp; omega) | omega) _) | (with_reducible refine below_drewN ?_ _) | (with_reducible refine Below.drew ?_)) (Nat.le_refl _))).mono ?_
        rintro e w1 ⟨rfl, b1⟩
        rw [hs]
        have B1 : Below w0.heap.size w0 w1 := Below.trans (by repeat first | (with_reducible exact Below.refl _ _) | (with_reducible refine Below.setCell ?_ (by first | exact Nat.le_refl _ | (simp; done) | (simp; omega) | omega) _) | (with_reducible refine Below.alloc ?_ (by first | exact Nat.le_refl _ | (simp; done) | (simp; omega) | omega) _) | (with_reducible refine below_drewN ?_ _) | (with_reducible refine Below.drew ?_)) (b1.mono (by simp))
        have s1 : w0.heap.size < w1.heap.size := by have := b1.size; simp at this; omega
        have X1 : BoxL w1 w0.heap.size [.int .i64 R, .int .i64 C, .slice a n c, .slice b m d] := BoxL.below (BoxL.four (by simp [go_sem]) (by simp [go_sem]) (by simp [go_sem]) (by simp [go_sem])) b1 (by simp)
        have x0 := X1 0 _ rfl
        have x1 := X1 1 _ rfl
        have x2 := X1 2 _ rfl
        have x3 := X1 3 _ rfl
        clear b1
        go_wp2_with fail
        go_at_call 81
        refine (implOrder_any b m d O _ hm (h2.below B1 (Nat.le_refl _))).mono ?_
        rintro e w2 ⟨rfl, b2⟩
        rw [hord]
        have B2 := B1.trans (b2.mono B1.size)
        have X2 := X1.below b2 s1
        have s2 : w0.heap.size < w2.heap.size := Nat.lt_of_lt_of_le s1 b2.size
        clear b2 x0 x1 x2 x3 X1 B1 s1
        have x0 := X2 0 _ rfl
        have x1 := X2 1 _ rfl
        have x2 := X2 2 _ rfl
        have x3 := X2 3 _ rfl
        go_wp2_with fail
        go_ret
        exact ⟨by rw [HB.out]; rfl, (by repeat first | (with_reducible exact B2) | (with_reducible refine Below.setCell ?_ (by first | exact Nat.le_refl _ | (simp; done) | (simp; omega) | omega) _) | (with_reducible refine Below.alloc ?_ (by first | exact Nat.le_refl _ | (simp; done) | (simp; omega) | omega) _) | (with_reducible refine below_drewN ?_ _) | (with_reducible refine Below.drew ?_))⟩
      obtain ⟨r, rfl, rfl, h1, h12, hN, hf⟩ := square_nat hs
      have e : m = r := by omega
      subst e
      have HB : Hid (factorB (m : Int) (m : Int) n (vals Z) m O = !anyZ (midZ m (vals Z)) m) := Lib.hid (by unfold factorB; rw [hs, hord, decide_eq_true rfl]; rfl)
      have hd : ((m : Int) != (m : Int)) = false := by simp
      have hpos : 0 < n := by rw [hN]; exact Nat.mul_pos h1 h1
      have HN := Lib.hid hN
      obtain ⟨ba, oa, rfl, _, _, _⟩ := h.at hpos
      clear hmr hN
      go_enter Try.func40, Try.ntmps40
      go_wp2_with fail
      go_at_call 71
      refine (implSquare_any (m : Int) (m : Int) _ n c Z _ hn (h.below (by repeat first | (with_reducible exact Below.refl _ _) | (with_reducible refine Below.setCell ?_ (by first | exact Nat.le_refl _ | (simp; done) | (simp; omega) | omega) _) | (with_reducible refine Below.alloc ?_ (by first | exact Nat.le_refl _ | (simp; done) | (simp; omega) | omega) _) | (with_reducible refine below_drewN ?_ _) | (with_reducible refine Below.drew ?_)) (Nat.le_refl _))).mono ?_
      rintro e w1 ⟨rfl, b1⟩
      rw [hs]
      have B1 : Below w0.heap.size w0 w1 := Below.trans (by repeat first | (with_reducible exact Below.refl _ _) | (with_reducible refine Below.setCell ?_ (by first | exact Nat.le_refl _ | (simp; done) | (simp; omega) | omega) _) | (with_reducible refine Below.alloc ?_ (by first | exact Nat.le_refl _ | (simp; done) | (simp; omega) | omega) _) | (with_reducible refine below_drewN ?_ _) | (with_reducible refine Below.drew ?_)) (b1.mono (by simp))
      have s1 : w0.heap.size < w1.heap.size := by have := b1.size; simp at this; omega
      have X1 : BoxL w1 w0.heap.size [.int .i64 (m : Int), .int .i64 (m : Int), .slice (some ⟨ba, oa, none⟩) n c, .slice b m d] := BoxL.below (BoxL.four (by simp [go_sem]) (by simp [go_sem]) (by simp [go_sem]) (by simp [go_sem])) b1 (by simp)
      have x0 := X1 0 _ rfl
      have x1 := X1 1 _ rfl
      have x2 := X1 2 _ rfl
      have x3 := X1 3 _ rfl
      clear b1
      go_wp2_with fail
      go_at_call 81
      refine (implOrder_any b m d O _ hm (h2.below B1 (Nat.le_refl _))).mono ?_
      rintro e w2 ⟨rfl, b2⟩
      rw [hord]
      have B2 := B1.trans (b2.mono B1.size)
      have X2 := X1.below b2 s1
      have s2 : w0.heap.size < w2.heap.size := Nat.lt_of_lt_of_le s1 b2.size
      clear b2 x0 x1 x2 x3 X1 B1 s1
      have x0 := X2 0 _ rfl
      have x1 := X2 1 _ rfl
      have x2 := X2 2 _ rfl
      have x3 := X2 3 _ rfl
      go_wp2_with fail
      go_at_call 83
      refine (middle_any m n ba oa c Z _ h1 h12 HN.out (h.below B2 (Nat.le_refl _))).mono ?_
      rintro e w3 ⟨g, rfl, o3, b3⟩
      have B3 := B2.trans (b3.mono B2.size)
      have hmid : anyZ (vals fun i => Z (i * m + i)) m = anyZ (midZ m (vals Z)) m := rfl
      go_wp2_with fail
      go_at_call 82
      refine (contains_any _ m m _ _ hm (Own.fs o3)).mono ?_
      rintro e w4 ⟨rfl, rfl⟩
      rw [hmid]
      generalize anyZ (midZ m (vals Z)) m = zz at HB
      clear hmid
      cases zz
      all_goals
        go_wp2_with fail
        go_ret
        exact ⟨by rw [HB.out]; rfl, (by repeat first | (with_reducible exact B3) | (with_reducible refine Below.setCell ?_ (by first | exact Nat.le_refl _ | (simp; done) | (simp; omega) | omega) _) | (with_reducible refine Below.alloc ?_ (by first | exact Nat.le_refl _ | (simp; done) | (simp; omega) | omega) _) | (with_reducible refine below_drewN ?_ _) | (with_reducible refine Below.drew ?_))⟩
set_option maxRecDepth 20000 in
set_option maxHeartbeats 4000000 in
theorem specFactor_any (p : Nat) (R C : Int) (a : Option Addr) (n c : Nat) (Z : Nat → Nat) (b : Option Addr) (m d : Nat) (O : Nat → Int) (w0 : World) (hn : n ≤ 1048576) (hm : m ≤ 1048576) (hpl : p < w0.heap.size) (hp : BoxL w0 p [.int .i64 R, .int .i64 C, .slice a n c, .slice b m d]) (h : FS .f32 w0 a n c Z) (h2 : IS .i64 w0 b m d O) :
    Calls Try.prog 56 #[.pointer (some ⟨p, 0, none⟩)] w0 fun e w' => e = .returned (.bool (factorB R C n (vals Z) m O)) ∧ Below w0.heap.size w0 w' := by
  have p0 := hp 0 _ rfl
  have p1 := hp 1 _ rfl
  have p2 := hp 2 _ rfl
  have p3 := hp 3 _ rfl
  have c0 : cn .f32 0 = some 0 := by kernel_rfl
  have kS : ∀ W, Below w0.heap.size w0 W → Calls Try.prog 69 #[.pointer (some ⟨p, 0, none⟩)] W fun e w' => e = .returned (.bool (squareB R C n (vals Z))) ∧ Below w0.heap.size w0 w' := fun W hW =>
    (specSquare_any p R C a n c Z W hn (Box.below ⟨p0, p1, p2⟩ hW hpl) (h.below hW (Nat.le_refl _))).mono fun e w' hh => ⟨hh.1, hh.2.elim fun q hq => by rw [hq]; exact below_drewN hW q⟩
  have kO : ∀ W, Below w0.heap.size w0 W → Calls Try.prog 91 #[.slice b m d] W fun e w' => e = .returned (.bool (ordB O m)) ∧ Below w0.heap.size w0 w' := fun W hW =>
    (specOrder_any b m d O W hm (h2.below hW (Nat.le_refl _))).mono fun e w' hh => ⟨hh.1, hW.trans (hh.2.mono hW.size)⟩
  cases hs : squareB R C n (vals Z) with
  | false =>
    have HB : Hid (factorB R C n (vals Z) m O = false) := Lib.hid (by unfold factorB; rw [hs]; rfl)
    rw [hs] at kS
    clear hs
    go_enter Try.func56, Try.ntmps56
    go_wp2_with fail
    (refine wp_region_kinds (fun w' => Below w0.heap.size w0 w') (fun _ => 0) 25 (below_drewN (Below.refl _ _) 1) (by kernel_rfl) (by kernel_rfl) (by kernel_rfl) ?_; simp only [List.take_succ_cons, List.take_zero, List.drop_succ_cons, List.drop_zero])
    ((with_reducible refine wpKinds_run (.pointer (some ⟨p, 0, none⟩)) ?hwant ?hkind ?hrun ?_); (case hwant => first | (simp [Region.wanted, yielded]; done) | rfl); (case hkind => rfl); (case hrun => intro W hW; simp [go_sem, BigFrame.eval_const, BigFrame.eval_global, BigFrame.eval_func]); simp only [Act.put, List.setIfInBounds_toArray, List.set_cons_succ, List.set_cons_zero])
    ((with_reducible refine wpKinds_run (.pointer (some ⟨p, 0, none⟩)) ?hwant ?hkind ?hrun ?_); (case hwant => first | (simp [Region.wanted, yielded]; done) | rfl); (case hkind => rfl); (case hrun => intro W hW; simp [go_sem, BigFrame.eval_const, BigFrame.eval_global, BigFrame.eval_func]); simp only [Act.put, List.setIfInBounds_toArray, List.set_cons_succ, List.set_cons_zero])
    ((with_reducible refine wpKinds_run (.pointer (some ⟨p, 0, none⟩)) ?hwant ?hkind ?hrun ?_); (case hwant => first | (simp [Region.wanted, yielded]; done) | rfl); (case hkind => rfl); (case hrun => intro W hW; simp [go_sem, BigFrame.eval_const, BigFrame.eval_global, BigFrame.eval_func]); simp only [Act.put, List.setIfInBounds_toArray, List.set_cons_succ, List.set_cons_zero])
    ((with_reducible refine wpKinds_call (f := 69) (args := #[.pointer (some ⟨p, 0, none⟩)]) (.bool false) ?hwant ?hkind ?hrun ?hinit ?hcall ?_); (case hwant => first | (simp [Region.wanted, yielded]; done) | rfl); (case hkind => rfl); (case hrun => intro W; simp [go_sem, BigFrame.eval_const, BigFrame.eval_global, BigFrame.eval_func]); (case hinit => kernel_rfl); (case hcall => intro W hW; (exact kS W hW)); simp only [Act.put, List.setIfInBounds_toArray, List.set_cons_succ, List.set_cons_zero])
    ((with_reducible refine wpKinds_run (.bool true) ?hwant ?hkind ?hrun ?_); (case hwant => first | (simp [Region.wanted, yielded]; done) | rfl); (case hkind => rfl); (case hrun => intro W hW; simp [go_sem, BigFrame.eval_const, BigFrame.eval_global, BigFrame.eval_func]); simp only [Act.put, List.setIfInBounds_toArray, List.set_cons_succ, List.set_cons_zero])
    ((with_reducible refine wpKinds_run (.bool true) ?hwant ?hkind ?hrun ?_); (case hwant => first | (simp [Region.wanted, yielded]; done) | rfl); (case hkind => rfl); (case hrun => intro W hW; simp [go_sem, BigFrame.eval_const, BigFrame.eval_global, BigFrame.eval_func]); simp only [Act.put, List.setIfInBounds_toArray, List.set_cons_succ, List.set_cons_zero])
    ((with_reducible refine wpKinds_skip ?hwant ?_); (case hwant => first | (simp [Region.wanted, yielded]; done) | rfl); simp only [Act.put, List.setIfInBounds_toArray, List.set_cons_succ, List.set_cons_zero])
    ((with_reducible refine wpKinds_skip ?hwant ?_); (case hwant => first | (simp [Region.wanted, yielded]; done) | rfl); simp only [Act.put, List.setIfInBounds_toArray, List.set_cons_succ, List.set_cons_zero])
    ((with_reducible refine wpKinds_skip ?hwant ?_); (case hwant => first | (simp [Region.wanted, yielded]; done) | rfl); simp only [Act.put, List.setIfInBounds_toArray, List.set_cons_succ, List.set_cons_zero])
    ((with_reducible refine wpKinds_skip ?hwant ?_); (case hwant => first | (simp [Region.wanted, yielded]; done) | rfl); simp only [Act.put, List.setIfInBounds_toArray, List.set_cons_succ, List.set_cons_zero])
    ((with_reducible refine wpKinds_skip ?hwant ?_); (case hwant => first | (simp [Region.wanted, yielded]; done) | rfl); simp only [Act.put, List.setIfInBounds_toArray, List.set_cons_succ, List.set_cons_zero])
    ((with_reducible refine wpKinds_skip ?hwant ?_); (case hwant => first | (simp [Region.wanted, yielded]; done) | rfl); simp only [Act.put, List.setIfInBounds_toArray, List.set_cons_succ, List.set_cons_zero])
    ((with_reducible refine wpKinds_run (.bool true) ?hwant ?hkind ?hrun ?_); (case hwant => first | (simp [Region.wanted, yielded]; done) | rfl); (case hkind => rfl); (case hrun => intro W hW; simp [go_sem, BigFrame.eval_const, BigFrame.eval_global, BigFrame.eval_func]); simp only [Act.put, List.setIfInBounds_toArray, List.set_cons_succ, List.set_cons_zero])
    ((with_reducible refine wpKinds_run (.bool true) ?hwant ?hkind ?hrun ?_); (case hwant => first | (simp [Region.wanted, yielded]; done) | rfl); (case hkind => rfl); (case hrun => intro W hW; simp [go_sem, BigFrame.eval_const, BigFrame.eval_global, BigFrame.eval_func]); simp only [Act.put, List.setIfInBounds_toArray, List.set_cons_succ, List.set_cons_zero])
    ((with_reducible refine wpKinds_skip ?hwant ?_); (case hwant => first | (simp [Region.wanted, yielded]; done) | rfl); simp only [Act.put, List.setIfInBounds_toArray, List.set_cons_succ, List.set_cons_zero])
    ((with_reducible refine wpKinds_skip ?hwant ?_); (case hwant => first | (simp [Region.wanted, yielded]; done) | rfl); simp only [Act.put, List.setIfInBounds_toArray, List.set_cons_succ, List.set_cons_zero])
    ((with_reducible refine wpKinds_skip ?hwant ?_); (case hwant => first | (simp [Region.wanted, yielded]; done) | rfl); simp only [Act.put, List.setIfInBounds_toArray, List.set_cons_succ, List.set_cons_zero])
    ((with_reducible refine wpKinds_skip ?hwant ?_); (case hwant => first | (simp [Region.wanted, yielded]; done) | rfl); simp only [Act.put, List.setIfInBounds_toArray, List.set_cons_succ, List.set_cons_zero])
    ((with_reducible refine wpKinds_skip ?hwant ?_); (case hwant => first | (simp [Region.wanted, yielded]; done) | rfl); simp only [Act.put, List.setIfInBounds_toArray, List.set_cons_succ, List.set_cons_zero])
    ((with_reducible refine wpKinds_skip ?hwant ?_); (case hwant => first | (simp [Region.wanted, yielded]; done) | rfl); simp only [Act.put, List.setIfInBounds_toArray, List.set_cons_succ, List.set_cons_zero])
    ((with_reducible refine wpKinds_skip ?hwant ?_); (case hwant => first | (simp [Region.wanted, yielded]; done) | rfl); simp only [Act.put, List.setIfInBounds_toArray, List.set_cons_succ, List.set_cons_zero])
    ((with_reducible refine wpKinds_skip ?hwant ?_); (case hwant => first | (simp [Region.wanted, yielded]; done) | rfl); simp only [Act.put, List.setIfInBounds_toArray, List.set_cons_succ, List.set_cons_zero])
    ((with_reducible refine wpKinds_skip ?hwant ?_); (case hwant => first | (simp [Region.wanted, yielded]; done) | rfl); simp only [Act.put, List.setIfInBounds_toArray, List.set_cons_succ, List.set_cons_zero])
    ((with_reducible refine wpKinds_skip ?hwant ?_); (case hwant => first | (simp [Region.wanted, yielded]; done) | rfl); simp only [Act.put, List.setIfInBounds_toArray, List.set_cons_succ, List.set_cons_zero])
    ((with_reducible refine wpKinds_skip ?hwant ?_); (case hwant => first | (simp [Region.wanted, yielded]; done) | rfl); simp only [Act.put, List.setIfInBounds_toArray, List.set_cons_succ, List.set_cons_zero])
    refine wpKinds_nil ?_
    intro w1 B1
    go_wp2_with fail
    go_ret
    exact ⟨by rw [HB.out]; rfl, (by repeat first | (with_reducible exact B1) | (with_reducible refine Below.setCell ?_ (by first | exact Nat.le_refl _ | (simp; done) | (simp; omega) | omega) _) | (with_reducible refine Below.alloc ?_ (by first | exact Nat.le_refl _ | (simp; done) | (simp; omega) | omega) _) | (with_reducible refine below_drewN ?_ _) | (with_reducible refine Below.drew ?_))⟩
  | true =>
    rw [hs] at kS
    cases hord : ordB O m with
    | false =>
      have HB : Hid (factorB R C n (vals Z) m O = false) := Lib.hid (by unfold factorB; rw [hs, hord]; rfl)
      rw [hord] at kO
      clear hs hord
      go_enter Try.func56, Try.ntmps56
      go_wp2_with fail
      (refine wp_region_kinds (fun w' => Below w0.heap.size w0 w') (fun _ => 0) 25 (below_drewN (Below.refl _ _) 1) (by kernel_rfl) (by kernel_rfl) (by kernel_rfl) ?_; simp only [List.take_succ_cons, List.take_zero, List.drop_succ_cons, List.drop_zero])
      ((with_reducible refine wpKinds_run (.pointer (some ⟨p, 0, none⟩)) ?hwant ?hkind ?hrun ?_); (case hwant => first | (simp [Region.wanted, yielded]; done) | rfl); (case hkind => rfl); (case hrun => intro W hW; simp [go_sem, BigFrame.eval_const, BigFrame.eval_global, BigFrame.eval_func]); simp only [Act.put, List.setIfInBounds_toArray, List.set_cons_succ, List.set_cons_zero])
      ((with_reducible refine wpKinds_run (.pointer (some ⟨p, 0, none⟩)) ?hwant ?hkind ?hrun ?_); (case hwant => first | (simp [Region.wanted, yielded]; done) | rfl); (case hkind => rfl); (case hrun => intro W hW; simp [go_sem, BigFrame.eval_const, BigFrame.eval_global, BigFrame.eval_func]); simp only [Act.put, List.setIfInBounds_toArray, List.set_cons_succ, List.set_cons_zero])
      ((with_reducible refine wpKinds_run (.pointer (some ⟨p, 0, none⟩)) ?hwant ?hkind ?hrun ?_); (case hwant => first | (simp [Region.wanted, yielded]; done) | rfl); (case hkind => rfl); (case hrun => intro W hW; simp [go_sem, BigFrame.eval_const, BigFrame.eval_global, BigFrame.eval_func]); simp only [Act.put, List.setIfInBounds_toArray, List.set_cons_succ, List.set_cons_zero])
      ((with_reducible refine wpKinds_call (f := 69) (args := #[.pointer (some ⟨p, 0, none⟩)]) (.bool true) ?hwant ?hkind ?hrun ?hinit ?hcall ?_); (case hwant => first | (simp [Region.wanted, yielded]; done) | rfl); (case hkind => rfl); (case hrun => intro W; simp [go_sem, BigFrame.eval_const, BigFrame.eval_global, BigFrame.eval_func]); (case hinit => kernel_rfl); (case hcall => intro W hW; (exact kS W hW)); simp only [Act.put, List.setIfInBounds_toArray, List.set_cons_succ, List.set_cons_zero])
      ((with_reducible refine wpKinds_run (.bool false) ?hwant ?hkind ?hrun ?_); (case hwant => first | (simp [Region.wanted, yielded]; done) | rfl); (case hkind => rfl); (case hrun => intro W hW; simp [go_sem, BigFrame.eval_const, BigFrame.eval_global, BigFrame.eval_func]); simp only [Act.put, List.setIfInBounds_toArray, List.set_cons_succ, List.set_cons_zero])
      ((with_reducible refine wpKinds_run (.bool false) ?hwant ?hkind ?hrun ?_); (case hwant => first | (simp [Region.wanted, yielded]; done) | rfl); (case hkind => rfl); (case hrun => intro W hW; simp [go_sem, BigFrame.eval_const, BigFrame.eval_global, BigFrame.eval_func]); simp only [Act.put, List.setIfInBounds_toArray, List.set_cons_succ, List.set_cons_zero])
      ((with_reducible refine wpKinds_run (.pointer (some ⟨p, 0, none⟩)) ?hwant ?hkind ?hrun ?_); (case hwant => first | (simp [Region.wanted, yielded]; done) | rfl); (case hkind => rfl); (case hrun => intro W hW; simp [go_sem, BigFrame.eval_const, BigFrame.eval_global, BigFrame.eval_func]); simp only [Act.put, List.setIfInBounds_toArray, List.set_cons_succ, List.set_cons_zero])
      ((with_reducible refine wpKinds_run (.pointer (some ⟨p, 0, none⟩)) ?hwant ?hkind ?hrun ?_); (case hwant => first | (simp [Region.wanted, yielded]; done) | rfl); (case hkind => rfl); (case hrun => intro W hW; simp [go_sem, BigFrame.eval_const, BigFrame.eval_global, BigFrame.eval_func]); simp only [Act.put, List.setIfInBounds_toArray, List.set_cons_succ, List.set_cons_zero])
      ((with_reducible refine wpKinds_run (.pointer (some ⟨p, 3, none⟩)) ?hwant ?hkind ?hrun ?_); (case hwant => first | (simp [Region.wanted, yielded]; done) | rfl); (case hkind => rfl); (case hrun => intro W hW; simp [go_sem, BigFrame.eval_const, BigFrame.eval_global, BigFrame.eval_func]); simp only [Act.put, List.setIfInBounds_toArray, List.set_cons_succ, List.set_cons_zero])
      ((with_reducible refine wpKinds_run (.slice b m d) ?hwant ?hkind ?hrun ?_); (case hwant => first | (simp [Region.wanted, yielded]; done) | rfl); (case hkind => rfl); (case hrun => intro W hW; have hcell := (hW.cell (p := _) (by assumption)).trans p3; simp [go_sem, BigFrame.eval_const, BigFrame.eval_global, BigFrame.eval_func, hcell]); simp only [Act.put, List.setIfInBounds_toArray, List.set_cons_succ, List.set_cons_zero])
      ((with_reducible refine wpKinds_call (f := 91) (args := #[.slice b m d]) (.bool false) ?hwant ?hkind ?hrun ?hinit ?hcall ?_); (case hwant => first | (simp [Region.wanted, yielded]; done) | rfl); (case hkind => rfl); (case hrun => intro W; simp [go_sem, BigFrame.eval_const, BigFrame.eval_global, BigFrame.eval_func]); (case hinit => kernel_rfl); (case hcall => intro W hW; (exact kO W hW)); simp only [Act.put, List.setIfInBounds_toArray, List.set_cons_succ, List.set_cons_zero])
      ((with_reducible refine wpKinds_run (.bool true) ?hwant ?hkind ?hrun ?_); (case hwant => first | (simp [Region.wanted, yielded]; done) | rfl); (case hkind => rfl); (case hrun => intro W hW; simp [go_sem, BigFrame.eval_const, BigFrame.eval_global, BigFrame.eval_func]); simp only [Act.put, List.setIfInBounds_toArray, List.set_cons_succ, List.set_cons_zero])
      ((with_reducible refine wpKinds_run (.bool true) ?hwant ?hkind ?hrun ?_); (case hwant => first | (simp [Region.wanted, yielded]; done) | rfl); (case hkind => rfl); (case hrun => intro W hW; simp [go_sem, BigFrame.eval_const, BigFrame.eval_global, BigFrame.eval_func]); simp only [Act.put, List.setIfInBounds_toArray, List.set_cons_succ, List.set_cons_zero])
      ((with_reducible refine wpKinds_run (.bool true) ?hwant ?hkind ?hrun ?_); (case hwant => first | (simp [Region.wanted, yielded]; done) | rfl); (case hkind => rfl); (case hrun => intro W hW; simp [go_sem, BigFrame.eval_const, BigFrame.eval_global, BigFrame.eval_func]); simp only [Act.put, List.setIfInBounds_toArray, List.set_cons_succ, List.set_cons_zero])
      ((with_reducible refine wpKinds_skip ?hwant ?_); (case hwant => first | (simp [Region.wanted, yielded]; done) | rfl); simp only [Act.put, List.setIfInBounds_toArray, List.set_cons_succ, List.set_cons_zero])
      ((with_reducible refine wpKinds_skip ?hwant ?_); (case hwant => first | (simp [Region.wanted, yielded]; done) | rfl); simp only [Act.put, List.setIfInBounds_toArray, List.set_cons_succ, List.set_cons_zero])
      ((with_reducible refine wpKinds_skip ?hwant ?_); (case hwant => first | (simp [Region.wanted, yielded]; done) | rfl); simp only [Act.put, List.setIfInBounds_toArray, List.set_cons_succ, List.set_cons_zero])
      ((with_reducible refine wpKinds_skip ?hwant ?_); (case hwant => first | (simp [Region.wanted, yielded]; done) | rfl); simp only [Act.put, List.setIfInBounds_toArray, List.set_cons_succ, List.set_cons_zero])
      ((with_reducible refine wpKinds_skip ?hwant ?_); (case hwant => first | (simp [Region.wanted, yielded]; done) | rfl); simp only [Act.put, List.setIfInBounds_toArray, List.set_cons_succ, List.set_cons_zero])
      ((with_reducible refine wpKinds_skip ?hwant ?_); (case hwant => first | (simp [Region.wanted, yielded]; done) | rfl); simp only [Act.put, List.setIfInBounds_toArray, List.set_cons_succ, List.set_cons_zero])
      ((with_reducible refine wpKinds_skip ?hwant ?_); (case hwant => first | (simp [Region.wanted, yielded]; done) | rfl); simp only [Act.put, List.setIfInBounds_toArray, List.set_cons_succ, List.set_cons_zero])
      ((with_reducible refine wpKinds_skip ?hwant ?_); (case hwant => first | (simp [Region.wanted, yielded]; done) | rfl); simp only [Act.put, List.setIfInBounds_toArray, List.set_cons_succ, List.set_cons_zero])
      ((with_reducible refine wpKinds_skip ?hwant ?_); (case hwant => first | (simp [Region.wanted, yielded]; done) | rfl); simp only [Act.put, List.setIfInBounds_toArray, List.set_cons_succ, List.set_cons_zero])
      ((with_reducible refine wpKinds_skip ?hwant ?_); (case hwant => first | (simp [Region.wanted, yielded]; done) | rfl); simp only [Act.put, List.setIfInBounds_toArray, List.set_cons_succ, List.set_cons_zero])
      ((with_reducible refine wpKinds_skip ?hwant ?_); (case hwant => first | (simp [Region.wanted, yielded]; done) | rfl); simp only [Act.put, List.setIfInBounds_toArray, List.set_cons_succ, List.set_cons_zero])
      refine wpKinds_nil ?_
      intro w1 B1
      go_wp2_with fail
      go_ret
      exact ⟨by rw [HB.out]; rfl, (by repeat first | (with_reducible exact B1) | (with_reducible refine Below.setCell ?_ (by first | exact Nat.le_refl _ | (simp; done) | (simp; omega) | omega) _) | (with_reducible refine Below.alloc ?_ (by first | exact Nat.le_refl _ | (simp; done) | (simp; omega) | omega) _) | (with_reducible refine below_drewN ?_ _) | (with_reducible refine Below.drew ?_))⟩
    | true =>
      rw [hord] at kO
      by_cases hmr : (m : Int) = R
      case neg =>
        have HB : Hid (factorB R C n (vals Z) m O = false) := Lib.hid (by unfold factorB; rw [hs, hord, decide_eq_false hmr]; rfl)
        have hd : ((m : Int) != R) = true := by simp; omega
        have hmr2 := Lib.hid hmr
        clear hmr hs hord
        go_enter Try.func56, Try.ntmps56
        go_wp2_with fail
        (refine wp_region_kinds (fun w' => Below w0.heap.size w0 w') (fun _ => 0) 25 (below_drewN (Below.refl _ _) 1) (by kernel_rfl) (by kernel_rfl) (by kernel_rfl) ?_; simp only [List.take_succ_cons, List.take_zero, List.drop_succ_cons, List.drop_zero])
        ((with_reducible refine wpKinds_run (.pointer (some ⟨p, 0, none⟩)) ?hwant ?hkind ?hrun ?_); (case hwant => first | (simp [Region.wanted, yielded]; done) | rfl); (case hkind => rfl); (case hrun => intro W hW; simp [go_sem, BigFrame.eval_const, BigFrame.eval_global, BigFrame.eval_func]); simp only [Act.put, List.setIfInBounds_toArray, List.set_cons_succ, List.set_cons_zero])
        ((with_reducible refine wpKinds_run (.pointer (some ⟨p, 0, none⟩)) ?hwant ?hkind ?hrun ?_); (case hwant => first | (simp [Region.wanted, yielded]; done) | rfl); (case hkind => rfl); (case hrun => intro W hW; simp [go_sem, BigFrame.eval_const, BigFrame.eval_global, BigFrame.eval_func]); simp only [Act.put, List.setIfInBounds_toArray, List.set_cons_succ, List.set_cons_zero])
        ((with_reducible refine wpKinds_run (.pointer (some ⟨p, 0, none⟩)) ?hwant ?hkind ?hrun ?_); (case hwant => first | (simp [Region.wanted, yielded]; done) | rfl); (case hkind => rfl); (case hrun => intro W hW; simp [go_sem, BigFrame.eval_const, BigFrame.eval_global, BigFrame.eval_func]); simp only [Act.put, List.setIfInBounds_toArray, List.set_cons_succ, List.set_cons_zero])
        ((with_reducible refine wpKinds_call (f := 69) (args := #[.pointer (some ⟨p, 0, none⟩)]) (.bool true) ?hwant ?hkind ?hrun ?hinit ?hcall ?_); (case hwant => first | (simp [Region.wanted, yielded]; done) | rfl); (case hkind => rfl); (case hrun => intro W; simp [go_sem, BigFrame.eval_const, BigFrame.eval_global, BigFrame.eval_func]); (case hinit => kernel_rfl); (case hcall => intro W hW; (exact kS W hW)); simp only [Act.put, List.setIfInBounds_toArray, List.set_cons_succ, List.set_cons_zero])
        ((with_reducible refine wpKinds_run (.bool false) ?hwant ?hkind ?hrun ?_); (case hwant => first | (simp [Region.wanted, yielded]; done) | rfl); (case hkind => rfl); (case hrun => intro W hW; simp [go_sem, BigFrame.eval_const, BigFrame.eval_global, BigFrame.eval_func]); simp only [Act.put, List.setIfInBounds_toArray, List.set_cons_succ, List.set_cons_zero])
        ((with_reducible refine wpKinds_run (.bool false) ?hwant ?hkind ?hrun ?_); (case hwant => first | (simp [Region.wanted, yielded]; done) | rfl); (case hkind => rfl); (case hrun => intro W hW; simp [go_sem, BigFrame.eval_const, BigFrame.eval_global, BigFrame.eval_func]); simp only [Act.put, List.setIfInBounds_toArray, List.set_cons_succ, List.set_cons_zero])
        ((with_reducible refine wpKinds_run (.pointer (some ⟨p, 0, none⟩)) ?hwant ?hkind ?hrun ?_); (case hwant => first | (simp [Region.wanted, yielded]; done) | rfl); (case hkind => rfl); (case hrun => intro W hW; simp [go_sem, BigFrame.eval_const, BigFrame.eval_global, BigFrame.eval_func]); simp only [Act.put, List.setIfInBounds_toArray, List.set_cons_succ, List.set_cons_zero])
        ((with_reducible refine wpKinds_run (.pointer (some ⟨p, 0, none⟩)) ?hwant ?hkind ?hrun ?_); (case hwant => first | (simp [Region.wanted, yielded]; done) | rfl); (case hkind => rfl); (case hrun => intro W hW; simp [go_sem, BigFrame.eval_const, BigFrame.eval_global, BigFrame.eval_func]); simp only [Act.put, List.setIfInBounds_toArray, List.set_cons_succ, List.set_cons_zero])
        ((with_reducible refine wpKinds_run (.pointer (some ⟨p, 3, none⟩)) ?hwant ?hkind ?hrun ?_); (case hwant => first | (simp [Region.wanted, yielded]; done) | rfl); (case hkind => rfl); (case hrun => intro W hW; simp [go_sem, BigFrame.eval_const, BigFrame.eval_global, BigFrame.eval_func]); simp only [Act.put, List.setIfInBounds_toArray, List.set_cons_succ, List.set_cons_zero])
        ((with_reducible refine wpKinds_run (.slice b m d) ?hwant ?hkind ?hrun ?_); (case hwant => first | (simp [Region.wanted, yielded]; done) | rfl); (case hkind => rfl); (case hrun => intro W hW; have hcell := (hW.cell (p := _) (by assumption)).trans p3; simp [go_sem, BigFrame.eval_const, BigFrame.eval_global, BigFrame.eval_func, hcell]); simp only [Act.put, List.setIfInBounds_toArray, List.set_cons_succ, List.set_cons_zero])
        ((with_reducible refine wpKinds_call (f := 91) (args := #[.slice b m d]) (.bool true) ?hwant ?hkind ?hrun ?hinit ?hcall ?_); (case hwant => first | (simp [Region.wanted, yielded]; done) | rfl); (case hkind => rfl); (case hrun => intro W; simp [go_sem, BigFrame.eval_const, BigFrame.eval_global, BigFrame.eval_func]); (case hinit => kernel_rfl); (case hcall => intro W hW; (exact kO W hW)); simp only [Act.put, List.setIfInBounds_toArray, List.set_cons_succ, List.set_cons_zero])
        ((with_reducible refine wpKinds_run (.bool false) ?hwant ?hkind ?hrun ?_); (case hwant => first | (simp [Region.wanted, yielded]; done) | rfl); (case hkind => rfl); (case hrun => intro W hW; simp [go_sem, BigFrame.eval_const, BigFrame.eval_global, BigFrame.eval_func]); simp only [Act.put, List.setIfInBounds_toArray, List.set_cons_succ, List.set_cons_zero])
        ((with_reducible refine wpKinds_run (.bool false) ?hwant ?hkind ?hrun ?_); (case hwant => first | (simp [Region.wanted, yielded]; done) | rfl); (case hkind => rfl); (case hrun => intro W hW; simp [go_sem, BigFrame.eval_const, BigFrame.eval_global, BigFrame.eval_func]); simp only [Act.put, List.setIfInBounds_toArray, List.set_cons_succ, List.set_cons_zero])
        ((with_reducible refine wpKinds_run (.bool false) ?hwant ?hkind ?hrun ?_); (case hwant => first | (simp [Region.wanted, yielded]; done) | rfl); (case hkind => rfl); (case hrun => intro W hW; simp [go_sem, BigFrame.eval_const, BigFrame.eval_global, BigFrame.eval_func]); simp only [Act.put, List.setIfInBounds_toArray, List.set_cons_succ, List.set_cons_zero])
        ((with_reducible refine wpKinds_run (.pointer (some ⟨p, 0, none⟩)) ?hwant ?hkind ?hrun ?_); (case hwant => first | (simp [Region.wanted, yielded]; done) | rfl); (case hkind => rfl); (case hrun => intro W hW; simp [go_sem, BigFrame.eval_const, BigFrame.eval_global, BigFrame.eval_func]); simp only [Act.put, List.setIfInBounds_toArray, List.set_cons_succ, List.set_cons_zero])
        ((with_reducible refine wpKinds_run (.pointer (some ⟨p, 0, none⟩)) ?hwant ?hkind ?hrun ?_); (case hwant => first | (simp [Region.wanted, yielded]; done) | rfl); (case hkind => rfl); (case hrun => intro W hW; simp [go_sem, BigFrame.eval_const, BigFrame.eval_global, BigFrame.eval_func]); simp only [Act.put, List.setIfInBounds_toArray, List.set_cons_succ, List.set_cons_zero])
        ((with_reducible refine wpKinds_run (.pointer (some ⟨p, 3, none⟩)) ?hwant ?hkind ?hrun ?_); (case hwant => first | (simp [Region.wanted, yielded]; done) | rfl); (case hkind => rfl); (case hrun => intro W hW; simp [go_sem, BigFrame.eval_const, BigFrame.eval_global, BigFrame.eval_func]); simp only [Act.put, List.setIfInBounds_toArray, List.set_cons_succ, List.set_cons_zero])
        ((with_reducible refine wpKinds_run (.slice b m d) ?hwant ?hkind ?hrun ?_); (case hwant => first | (simp [Region.wanted, yielded]; done) | rfl); (case hkind => rfl); (case hrun => intro W hW; have hcell := (hW.cell (p := _) (by assumption)).trans p3; simp [go_sem, BigFrame.eval_const, BigFrame.eval_global, BigFrame.eval_func, hcell]); simp only [Act.put, List.setIfInBounds_toArray, List.set_cons_succ, List.set_cons_zero])
        ((with_reducible refine wpKinds_run (.int .i64 m) ?hwant ?hkind ?hrun ?_); (case hwant => first | (simp [Region.wanted, yielded]; done) | rfl); (case hkind => rfl); (case hrun => intro W hW; simp [go_sem, BigFrame.eval_const, BigFrame.eval_global, BigFrame.eval_func]); simp only [Act.put, List.setIfInBounds_toArray, List.set_cons_succ, List.set_cons_zero])
        ((with_reducible refine wpKinds_run (.pointer (some ⟨p, 0, none⟩)) ?hwant ?hkind ?hrun ?_); (case hwant => first | (simp [Region.wanted, yielded]; done) | rfl); (case hkind => rfl); (case hrun => intro W hW; simp [go_sem, BigFrame.eval_const, BigFrame.eval_global, BigFrame.eval_func]); simp only [Act.put, List.setIfInBounds_toArray, List.set_cons_succ, List.set_cons_zero])
        ((with_reducible refine wpKinds_run (.pointer (some ⟨p, 0, none⟩)) ?hwant ?hkind ?hrun ?_); (case hwant => first | (simp [Region.wanted, yielded]; done) | rfl); (case hkind => rfl); (case hrun => intro W hW; simp [go_sem, BigFrame.eval_const, BigFrame.eval_global, BigFrame.eval_func]); simp only [Act.put, List.setIfInBounds_toArray, List.set_cons_succ, List.set_cons_zero])
        ((with_reducible refine wpKinds_run (.pointer (some ⟨p, 0, none⟩)) ?hwant ?hkind ?hrun ?_); (case hwant => first | (simp [Region.wanted, yielded]; done) | rfl); (case hkind => rfl); (case hrun => intro W hW; simp [go_sem, BigFrame.eval_const, BigFrame.eval_global, BigFrame.eval_func]); simp only [Act.put, List.setIfInBounds_toArray, List.set_cons_succ, List.set_cons_zero])
        ((with_reducible refine wpKinds_run (.pointer (some ⟨p, 0, none⟩)) ?hwant ?hkind ?hrun ?_); (case hwant => first | (simp [Region.wanted, yielded]; done) | rfl); (case hkind => rfl); (case hrun => intro W hW; simp [go_sem, BigFrame.eval_const, BigFrame.eval_global, BigFrame.eval_func]); simp only [Act.put, List.setIfInBounds_toArray, List.set_cons_succ, List.set_cons_zero])
        ((with_reducible refine wpKinds_run (.int .i64 R) ?hwant ?hkind ?hrun ?_); (case hwant => first | (simp [Region.wanted, yielded]; done) | rfl); (case hkind => rfl); (case hrun => intro W hW; have hcell := (hW.cell (p := _) (by assumption)).trans p0; simp [go_sem, BigFrame.eval_const, BigFrame.eval_global, BigFrame.eval_func, hcell]); simp only [Act.put, List.setIfInBounds_toArray, List.set_cons_succ, List.set_cons_zero])
        ((with_reducible refine wpKinds_run (.bool true) ?hwant ?hkind ?hrun ?_); (case hwant => first | (simp [Region.wanted, yielded]; done) | rfl); (case hkind => rfl); (case hrun => intro W hW; simp [go_sem, BigFrame.eval_const, BigFrame.eval_global, BigFrame.eval_func, hd]); simp only [Act.put, List.setIfInBounds_toArray, List.set_cons_succ, List.set_cons_zero])
        refine wpKinds_nil ?_
        intro w1 B1
        go_wp2_with fail
        go_ret
        exact ⟨by rw [HB.out]; rfl, (by repeat first | (with_reducible exact B1) | (with_reducible refine Below.setCell ?_ (by first | exact Nat.le_refl _ | (simp; done) | (simp; omega) | omega) _) | (with_reducible refine Below.alloc ?_ (by first | exact Nat.le_refl _ | (simp; done) | (simp; omega) | omega) _) | (with_reducible refine below_drewN ?_ _) | (with_reducible refine Below.drew ?_))⟩
      obtain ⟨r, rfl, rfl, h1, h12, hN, hf⟩ := square_nat hs
      have e : m = r := by omega
      subst e
      have HB : Hid (factorB (m : Int) (m : Int) n (vals Z) m O = !anyZ (midZ m (vals Z)) m) := Lib.hid (by unfold factorB; rw [hs, hord, decide_eq_true rfl]; rfl)
      have hd : ((m : Int) != (m : Int)) = false := by simp
      have hpos : 0 < n := by rw [hN]; exact Nat.mul_pos h1 h1
      have HN := Lib.hid hN
      obtain ⟨ba, oa, rfl, _, _, _⟩ := h.at hpos
      have BX0 : Box w0 p (m : Int) (m : Int) (some ⟨ba, oa, none⟩) n c := ⟨p0, p1, p2⟩
      clear hmr hN hs hord
      go_enter Try.func56, Try.ntmps56
      go_wp2_with fail
      (refine wp_region_kinds (fun w' => Below w0.heap.size w0 w') (fun _ => 0) 25 (below_drewN (Below.refl _ _) 1) (by kernel_rfl) (by kernel_rfl) (by kernel_rfl) ?_; simp only [List.take_succ_cons, List.take_zero, List.drop_succ_cons, List.drop_zero])
      ((with_reducible refine wpKinds_run (.pointer (some ⟨p, 0, none⟩)) ?hwant ?hkind ?hrun ?_); (case hwant => first | (simp [Region.wanted, yielded]; done) | rfl); (case hkind => rfl); (case hrun => intro W hW; simp [go_sem, BigFrame.eval_const, BigFrame.eval_global, BigFrame.eval_func]); simp only [Act.put, List.setIfInBounds_toArray, List.set_cons_succ, List.set_cons_zero])
      ((with_reducible refine wpKinds_run (.pointer (some ⟨p, 0, none⟩)) ?hwant ?hkind ?hrun ?_); (case hwant => first | (simp [Region.wanted, yielded]; done) | rfl); (case hkind => rfl); (case hrun => intro W hW; simp [go_sem, BigFrame.eval_const, BigFrame.eval_global, BigFrame.eval_func]); simp only [Act.put, List.setIfInBounds_toArray, List.set_cons_succ, List.set_cons_zero])
      ((with_reducible refine wpKinds_run (.pointer (some ⟨p, 0, none⟩)) ?hwant ?hkind ?hrun ?_); (case hwant => first | (simp [Region.wanted, yielded]; done) | rfl); (case hkind => rfl); (case hrun => intro W hW; simp [go_sem, BigFrame.eval_const, BigFrame.eval_global, BigFrame.eval_func]); simp only [Act.put, List.setIfInBounds_toArray, List.set_cons_succ, List.set_cons_zero])
      ((with_reducible refine wpKinds_call (f := 69) (args := #[.pointer (some ⟨p, 0, none⟩)]) (.bool true) ?hwant ?hkind ?hrun ?hinit ?hcall ?_); (case hwant => first | (simp [Region.wanted, yielded]; done) | rfl); (case hkind => rfl); (case hrun => intro W; simp [go_sem, BigFrame.eval_const, BigFrame.eval_global, BigFrame.eval_func]); (case hinit => kernel_rfl); (case hcall => intro W hW; (exact kS W hW)); simp only [Act.put, List.setIfInBounds_toArray, List.set_cons_succ, List.set_cons_zero])
      ((with_reducible refine wpKinds_run (.bool false) ?hwant ?hkind ?hrun ?_); (case hwant => first | (simp [Region.wanted, yielded]; done) | rfl); (case hkind => rfl); (case hrun => intro W hW; simp [go_sem, BigFrame.eval_const, BigFrame.eval_global, BigFrame.eval_func]); simp only [Act.put, List.setIfInBounds_toArray, List.set_cons_succ, List.set_cons_zero])
      ((with_reducible refine wpKinds_run (.bool false) ?hwant ?hkind ?hrun ?_); (case hwant => first | (simp [Region.wanted, yielded]; done) | rfl); (case hkind => rfl); (case hrun => intro W hW; simp [go_sem, BigFrame.eval_const, BigFrame.eval_global, BigFrame.eval_func]); simp only [Act.put, List.setIfInBounds_toArray, List.set_cons_succ, List.set_cons_zero])
      ((with_reducible refine wpKinds_run (.pointer (some ⟨p, 0, none⟩)) ?hwant ?hkind ?hrun ?_); (case hwant => first | (simp [Region.wanted, yielded]; done) | rfl); (case hkind => rfl); (case hrun => intro W hW; simp [go_sem, BigFrame.eval_const, BigFrame.eval_global, BigFrame.eval_func]); simp only [Act.put, List.setIfInBounds_toArray, List.set_cons_succ, List.set_cons_zero])
      ((with_reducible refine wpKinds_run (.pointer (some ⟨p, 0, none⟩)) ?hwant ?hkind ?hrun ?_); (case hwant => first | (simp [Region.wanted, yielded]; done) | rfl); (case hkind => rfl); (case hrun => intro W hW; simp [go_sem, BigFrame.eval_const, BigFrame.eval_global, BigFrame.eval_func]); simp only [Act.put, List.setIfInBounds_toArray, List.set_cons_succ, List.set_cons_zero])
      ((with_reducible refine wpKinds_run (.pointer (some ⟨p, 3, none⟩)) ?hwant ?hkind ?hrun ?_); (case hwant => first | (simp [Region.wanted, yielded]; done) | rfl); (case hkind => rfl); (case hrun => intro W hW; simp [go_sem, BigFrame.eval_const, BigFrame.eval_global, BigFrame.eval_func]); simp only [Act.put, List.setIfInBounds_toArray, List.set_cons_succ, List.set_cons_zero])
      ((with_reducible refine wpKinds_run (.slice b m d) ?hwant ?hkind ?hrun ?_); (case hwant => first | (simp [Region.wanted, yielded]; done) | rfl); (case hkind => rfl); (case hrun => intro W hW; have hcell := (hW.cell (p := _) (by assumption)).trans p3; simp [go_sem, BigFrame.eval_const, BigFrame.eval_global, BigFrame.eval_func, hcell]); simp only [Act.put, List.setIfInBounds_toArray, List.set_cons_succ, List.set_cons_zero])
      ((with_reducible refine wpKinds_call (f := 91) (args := #[.slice b m d]) (.bool true) ?hwant ?hkind ?hrun ?hinit ?hcall ?_); (case hwant => first | (simp [Region.wanted, yielded]; done) | rfl); (case hkind => rfl); (case hrun => intro W; simp [go_sem, BigFrame.eval_const, BigFrame.eval_global, BigFrame.eval_func]); (case hinit => kernel_rfl); (case hcall => intro W hW; (exact kO W hW)); simp only [Act.put, List.setIfInBounds_toArray, List.set_cons_succ, List.set_cons_zero])
      ((with_reducible refine wpKinds_run (.bool false) ?hwant ?hkind ?hrun ?_); (case hwant => first | (simp [Region.wanted, yielded]; done) | rfl); (case hkind => rfl); (case hrun => intro W hW; simp [go_sem, BigFrame.eval_const, BigFrame.eval_global, BigFrame.eval_func]); simp only [Act.put, List.setIfInBounds_toArray, List.set_cons_succ, List.set_cons_zero])
      ((with_reducible refine wpKinds_run (.bool false) ?hwant ?hkind ?hrun ?_); (case hwant => first | (simp [Region.wanted, yielded]; done) | rfl); (case hkind => rfl); (case hrun => intro W hW; simp [go_sem, BigFrame.eval_const, BigFrame.eval_global, BigFrame.eval_func]); simp only [Act.put, List.setIfInBounds_toArray, List.set_cons_succ, List.set_cons_zero])
      ((with_reducible refine wpKinds_run (.bool false) ?hwant ?hkind ?hrun ?_); (case hwant => first | (simp [Region.wanted, yielded]; done) | rfl); (case hkind => rfl); (case hrun => intro W hW; simp [go_sem, BigFrame.eval_const, BigFrame.eval_global, BigFrame.eval_func]); simp only [Act.put, List.setIfInBounds_toArray, List.set_cons_succ, List.set_cons_zero])
      ((with_reducible refine wpKinds_run (.pointer (some ⟨p, 0, none⟩)) ?hwant ?hkind ?hrun ?_); (case hwant => first | (simp [Region.wanted, yielded]; done) | rfl); (case hkind => rfl); (case hrun => intro W hW; simp [go_sem, BigFrame.eval_const, BigFrame.eval_global, BigFrame.eval_func]); simp only [Act.put, List.setIfInBounds_toArray, List.set_cons_succ, List.set_cons_zero])
      ((with_reducible refine wpKinds_run (.pointer (some ⟨p, 0, none⟩)) ?hwant ?hkind ?hrun ?_); (case hwant => first | (simp [Region.wanted, yielded]; done) | rfl); (case hkind => rfl); (case hrun => intro W hW; simp [go_sem, BigFrame.eval_const, BigFrame.eval_global, BigFrame.eval_func]); simp only [Act.put, List.setIfInBounds_toArray, List.set_cons_succ, List.set_cons_zero])
      ((with_reducible refine wpKinds_run (.pointer (some ⟨p, 3, none⟩)) ?hwant ?hkind ?hrun ?_); (case hwant => first | (simp [Region.wanted, yielded]; done) | rfl); (case hkind => rfl); (case hrun => intro W hW; simp [go_sem, BigFrame.eval_const, BigFrame.eval_global, BigFrame.eval_func]); simp only [Act.put, List.setIfInBounds_toArray, List.set_cons_succ, List.set_cons_zero])
      ((with_reducible refine wpKinds_run (.slice b m d) ?hwant ?hkind ?hrun ?_); (case hwant => first | (simp [Region.wanted, yielded]; done) | rfl); (case hkind => rfl); (case hrun => intro W hW; have hcell := (hW.cell (p := _) (by assumption)).trans p3; simp [go_sem, BigFrame.eval_const, BigFrame.eval_global, BigFrame.eval_func, hcell]); simp only [Act.put, List.setIfInBounds_toArray, List.set_cons_succ, List.set_cons_zero])
      ((with_reducible refine wpKinds_run (.int .i64 m) ?hwant ?hkind ?hrun ?_); (case hwant => first | (simp [Region.wanted, yielded]; done) | rfl); (case hkind => rfl); (case hrun => intro W hW; simp [go_sem, BigFrame.eval_const, BigFrame.eval_global, BigFrame.eval_func]); simp only [Act.put, List.setIfInBounds_toArray, List.set_cons_succ, List.set_cons_zero])
      ((with_reducible refine wpKinds_run (.pointer (some ⟨p, 0, none⟩)) ?hwant ?hkind ?hrun ?_); (case hwant => first | (simp [Region.wanted, yielded]; done) | rfl); (case hkind => rfl); (case hrun => intro W hW; simp [go_sem, BigFrame.eval_const, BigFrame.eval_global, BigFrame.eval_func]); simp only [Act.put, List.setIfInBounds_toArray, List.set_cons_succ, List.set_cons_zero])
      ((with_reducible refine wpKinds_run (.pointer (some ⟨p, 0, none⟩)) ?hwant ?hkind ?hrun ?_); (case hwant => first | (simp [Region.wanted, yielded]; done) | rfl); (case hkind => rfl); (case hrun => intro W hW; simp [go_sem, BigFrame.eval_const, BigFrame.eval_global, BigFrame.eval_func]); simp only [Act.put, List.setIfInBounds_toArray, List.set_cons_succ, List.set_cons_zero])
      ((with_reducible refine wpKinds_run (.pointer (some ⟨p, 0, none⟩)) ?hwant ?hkind ?hrun ?_); (case hwant => first | (simp [Region.wanted, yielded]; done) | rfl); (case hkind => rfl); (case hrun => intro W hW; simp [go_sem, BigFrame.eval_const, BigFrame.eval_global, BigFrame.eval_func]); simp only [Act.put, List.setIfInBounds_toArray, List.set_cons_succ, List.set_cons_zero])
      ((with_reducible refine wpKinds_run (.pointer (some ⟨p, 0, none⟩)) ?hwant ?hkind ?hrun ?_); (case hwant => first | (simp [Region.wanted, yielded]; done) | rfl); (case hkind => rfl); (case hrun => intro W hW; simp [go_sem, BigFrame.eval_const, BigFrame.eval_global, BigFrame.eval_func]); simp only [Act.put, List.setIfInBounds_toArray, List.set_cons_succ, List.set_cons_zero])
      ((with_reducible refine wpKinds_run (.int .i64 (m : Int)) ?hwant ?hkind ?hrun ?_); (case hwant => first | (simp [Region.wanted, yielded]; done) | rfl); (case hkind => rfl); (case hrun => intro W hW; have hcell := (hW.cell (p := _) (by assumption)).trans p0; simp [go_sem, BigFrame.eval_const, BigFrame.eval_global, BigFrame.eval_func, hcell]); simp only [Act.put, List.setIfInBounds_toArray, List.set_cons_succ, List.set_cons_zero])
      ((with_reducible refine wpKinds_run (.bool false) ?hwant ?hkind ?hrun ?_); (case hwant => first | (simp [Region.wanted, yielded]; done) | rfl); (case hkind => rfl); (case hrun => intro W hW; simp [go_sem, BigFrame.eval_const, BigFrame.eval_global, BigFrame.eval_func, hd]); simp only [Act.put, List.setIfInBounds_toArray, List.set_cons_succ, List.set_cons_zero])
      refine wpKinds_nil ?_
      intro w1 B1
      clear kS kO
      go_wp2_with fail
      have hl1 : p < w1.heap.size := Nat.lt_of_lt_of_le hpl B1.size
      go_loopw [3] (fun i wr => ∃ (k q : Nat), k ≤ m ∧ i = .int .i64 k ∧ (∀ t, t < k → isZero (midZ m (vals Z) t) = false) ∧ wr = w1.drewN q) (fun i _ => m - (intOf i).toNat)
      case atStart => exact ⟨0, 0, Nat.zero_le _, rfl, fun t ht => absurd ht (Nat.not_lt_zero _), rfl⟩
      case round =>
        obtain ⟨k, q, hk, rfl, hz, rfl⟩ := hrel
        have HZ := Lib.hid hz
        have q0 := (B1.cell (p := ⟨p, 0, none⟩) hpl).trans p0
        clear hz p0 p1 p2 p3
        by_cases hlt : k < m
        · have hdl : decide ((k : Int) < (m : Int)) = true := decide_eq_true (by omega)
          have hat : ∀ W, W = w1.drewN q → Calls Try.prog 37 #[.pointer (some ⟨p, 0, none⟩), .int .i64 k, .int .i64 k] W fun e w' => e = .returned (.float .f32 (Z (k * m + k))) ∧ ∃ q, w' = W.drewN q := fun W hW => specAt_any p ba oa m m n c k k Z W h12 h12 HN.out (by rw [hW]; exact Box.drewN (BX0.below B1 hpl)) (by rw [hW]; exact FS.drewN (h.below B1 (Nat.le_refl _))) hlt hlt
          have HAT := Lib.hid hat
          have hx : cn .f32 (Z (k * m + k)) = midZ m (vals Z) k := rfl
          clear hat
          cases he : isZero (midZ m (vals Z) k) with
          | true =>
            have hs2 : (ford .f32 (midZ m (vals Z) k) (some 0) == some .eq) = true := he
            have HF : Hid (anyZ (midZ m (vals Z)) m = true) := Lib.hid (anyZ_yes hlt he)
            clear he
            generalize midZ m (vals Z) k = mk at hx hs2
            go_wp2_with (go_at_call 37; refine (HAT.out _ rfl).mono ?_; rintro e w' ⟨rfl, q2, rfl⟩)
            go_ret
            exact ⟨by rw [HB.out, HF.out]; rfl, (by repeat first | (with_reducible exact B1) | (with_reducible refine Below.setCell ?_ (by first | exact Nat.le_refl _ | (simp; done) | (simp; omega) | omega) _) | (with_reducible refine Below.alloc ?_ (by first | exact Nat.le_refl _ | (simp; done) | (simp; omega) | omega) _) | (with_reducible refine below_drewN ?_ _) | (with_reducible refine Below.drew ?_))⟩
          | false =>
            have hs2 : (ford .f32 (midZ m (vals Z) k) (some 0) == some .eq) = false := he
            have HF := Lib.hid he
            clear he
            generalize hmk : midZ m (vals Z) k = mk at hx hs2
            have HMK := Lib.hid hmk
            clear hmk
            go_wp2_with (go_at_call 37; refine (HAT.out _ rfl).mono ?_; rintro e w' ⟨rfl, q2, rfl⟩)
            go_roundw
            case rel =>
              refine ⟨k + 1, _, by omega, by go_num, fun t ht => ?_, by first | rfl | exact World.drewN_drewN _ _ _⟩
              by_cases e : t = k
              · subst e; exact HF.out
              · exact HZ.out t (by omega)
            case measure => simp [intOf]; omega
        · obtain rfl : k = m := by omega
          have hdl : decide ((k : Int) < (k : Int)) = false := decide_eq_false (by omega)
          go_wp2_with fail
          go_ret
          exact ⟨by rw [HB.out, anyZ_no HZ.out]; rfl, (by repeat first | (with_reducible exact B1) | (with_reducible refine Below.setCell ?_ (by first | exact Nat.le_refl _ | (simp; done) | (simp; omega) | omega) _) | (with_reducible refine Below.alloc ?_ (by first | exact Nat.le_refl _ | (simp; done) | (simp; omega) | omega) _) | (with_reducible refine below_drewN ?_ _) | (with_reducible refine Below.drew ?_))⟩
end Go.Proofs.Ytmddhhmgfhljiaa
