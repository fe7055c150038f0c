/- Helper: the value at a place that divided differences tell, of the program and of its reference. Conditions: none. -/
import Derived.Test.YtpmilaemmdcfaaaNodes
import Derived.Test.YtpmilaemmdcfaaaVecSums
import Derived.Test.YtpmilaemmdcfaaaKeys
import Derived.Test.YtpmilaemmdcfaaaLoose
import Derived.Test.YtpmilaemmdcfaaaPivot
set_option linter.unusedVariables false
set_option linter.unusedSimpArgs false
namespace Go.Proofs.Ytpmilaemmdcfaaa
open Go.RowKit

/-- The value behind k rounds, the last index being p. -/
def nwt (X D : Nat → Option Nat) (A : Option Nat) (p : Nat) : Nat → Option Nat
  | 0 => D p
  | k + 1 => fop .add .f32 (fop .mul .f32 (nwt X D A p k) (fop .sub .f32 A (X (p - (k + 1))))) (D (p - (k + 1)))
def nwtOk (n m : Nat) (V W : Nat → Option Nat) (A : Option Nat) : Bool := nodesB n m V W && finite .f32 A

set_option maxHeartbeats 1000000 in
theorem implNewton_no (a b : Option Addr) (n c m d : Nat) (Z Y : Nat → Nat) (x : Nat) (w : World) (hn : n ≤ 1048576) (hm : m ≤ 1048576) (wx : (Lit.float .f32 x).wf = true) (h : FS .f32 w a n c Z) (h2 : FS .f32 w b m d Y) (ho : nwtOk n m (vals Z) (vals Y) (cn .f32 x) = false) :
    Calls Try.prog 11 #[.slice a n c, .slice b m d, .float .f32 x] w (NumPost false none w) := by
  have fx : FV .f32 x (cn .f32 x) := FV.mk' wx
  cases hv : nodesB n m (vals Z) (vals Y) with
  | false =>
    clear ho
    go_enter Try.func11, Try.ntmps11
    go_wp2_with (first | (go_at_call 32; refine (implNodes_any _ _ _ _ _ _ Z Y _ hn hm h h2).mono ?_; rintro e w' ⟨rfl, q, rfl⟩) | (go_at_call 33; refine (implIsFinite_any _ fx _).mono ?_; rintro e w' ⟨rfl, q1, rfl⟩))
    go_ret2
    first | exact NumPost.no rfl | exact NumPost.no (m := 0) rfl
  | true =>
    have hf : finite .f32 (cn .f32 x) = false := by unfold nwtOk at ho; rw [hv] at ho; exact ho
    clear ho
    go_enter Try.func11, Try.ntmps11
    go_wp2_with (first | (go_at_call 32; refine (implNodes_any _ _ _ _ _ _ Z Y _ hn hm h h2).mono ?_; rintro e w' ⟨rfl, q, rfl⟩) | (go_at_call 33; refine (implIsFinite_any _ fx _).mono ?_; rintro e w' ⟨rfl, q1, rfl⟩))
    go_ret2
    first | exact NumPost.no rfl | exact NumPost.no (m := 0) rfl
set_option maxHeartbeats 1000000 in
theorem specNewton_no (a b : Option Addr) (n c m d : Nat) (Z Y : Nat → Nat) (x : Nat) (w : World) (hn : n ≤ 1048576) (hm : m ≤ 1048576) (wx : (Lit.float .f32 x).wf = true) (h : FS .f32 w a n c Z) (h2 : FS .f32 w b m d Y) (ho : nwtOk n m (vals Z) (vals Y) (cn .f32 x) = false) :
    Calls Try.prog 9 #[.slice a n c, .slice b m d, .float .f32 x] w (NumPost false none w) := by
  have fx : FV .f32 x (cn .f32 x) := FV.mk' wx
  by_cases g1 : n < 1
  case pos =>
    have d1 : decide ((n : Int) < 1) = true := decide_eq_true (by omega)
    clear ho
    go_enter Try.func9, Try.ntmps9
    go_wp2_with (first | (go_at_call 29; first | ((with_reducible refine (specFin_any a _ c Z _ hn h).mono ?_); rintro e w' ⟨rfl, q, rfl⟩) | ((with_reducible refine (specFin_any b _ d Y _ hm (FS.drewN h2)).mono ?_); rintro e w' ⟨rfl, q2, rfl⟩)) | (go_at_call 30; refine (specFinite_any _ fx _).mono ?_; rintro e w' ⟨rfl, q1, rfl⟩))
    go_ret2
    first | exact NumPost.no rfl | exact NumPost.no (m := 0) rfl
  have d1 : decide ((n : Int) < 1) = false := decide_eq_false (by omega)
  by_cases g2 : 32 < n
  case pos =>
    have d2 : decide ((32 : Int) < n) = true := decide_eq_true (by omega)
    clear ho
    go_enter Try.func9, Try.ntmps9
    go_wp2_with (first | (go_at_call 29; first | ((with_reducible refine (specFin_any a _ c Z _ hn h).mono ?_); rintro e w' ⟨rfl, q, rfl⟩) | ((with_reducible refine (specFin_any b _ d Y _ hm (FS.drewN h2)).mono ?_); rintro e w' ⟨rfl, q2, rfl⟩)) | (go_at_call 30; refine (specFinite_any _ fx _).mono ?_; rintro e w' ⟨rfl, q1, rfl⟩))
    go_ret2
    first | exact NumPost.no rfl | exact NumPost.no (m := 0) rfl
  have d2 : decide ((32 : Int) < n) = false := decide_eq_false (by omega)
  by_cases g3 : m = n
  case neg =>
    have d3 : ((m : Int) != n) = true := by simp; omega
    have g3' := Lib.hid g3
    clear ho g3
    go_enter Try.func9, Try.ntmps9
    go_wp2_with (first | (go_at_call 29; first | ((with_reducible refine (specFin_any a _ c Z _ hn h).mono ?_); rintro e w' ⟨rfl, q, rfl⟩) | ((with_reducible refine (specFin_any b _ d Y _ hm (FS.drewN h2)).mono ?_); rintro e w' ⟨rfl, q2, rfl⟩)) | (go_at_call 30; refine (specFinite_any _ fx _).mono ?_; rintro e w' ⟨rfl, q1, rfl⟩))
    go_ret2
    first | exact NumPost.no rfl | exact NumPost.no (m := 0) rfl
  subst g3
  have d3 : ((m : Int) != m) = false := by simp
  cases f1 : allFin (vals Z) m with
  | false =>
    clear ho
    go_enter Try.func9, Try.ntmps9
    go_wp2_with (first | (go_at_call 29; first | ((with_reducible refine (specFin_any a _ c Z _ hn h).mono ?_); rintro e w' ⟨rfl, q, rfl⟩) | ((with_reducible refine (specFin_any b _ d Y _ hm (FS.drewN h2)).mono ?_); rintro e w' ⟨rfl, q2, rfl⟩)) | (go_at_call 30; refine (specFinite_any _ fx _).mono ?_; rintro e w' ⟨rfl, q1, rfl⟩))
    go_ret2
    first | exact NumPost.no rfl | exact NumPost.no (m := 0) rfl
  | true =>
    cases f2 : allFin (vals Y) m with
    | false =>
      clear ho
      go_enter Try.func9, Try.ntmps9
      go_wp2_with (first | (go_at_call 29; first | ((with_reducible refine (specFin_any a _ c Z _ hn h).mono ?_); rintro e w' ⟨rfl, q, rfl⟩) | ((with_reducible refine (specFin_any b _ d Y _ hm (FS.drewN h2)).mono ?_); rintro e w' ⟨rfl, q2, rfl⟩)) | (go_at_call 30; refine (specFinite_any _ fx _).mono ?_; rintro e w' ⟨rfl, q1, rfl⟩))
      go_ret2
      first | exact NumPost.no rfl | exact NumPost.no (m := 0) rfl
    | true =>
      have hf : finite .f32 (cn .f32 x) = false := by
        unfold nwtOk nodesB at ho
        rw [lenB_of (by omega) (by omega), decide_eq_true rfl, f1, f2] at ho
        exact ho
      clear ho
      go_enter Try.func9, Try.ntmps9
      go_wp2_with (first | (go_at_call 29; first | ((with_reducible refine (specFin_any a _ c Z _ hn h).mono ?_); rintro e w' ⟨rfl, q, rfl⟩) | ((with_reducible refine (specFin_any b _ d Y _ hm (FS.drewN h2)).mono ?_); rintro e w' ⟨rfl, q2, rfl⟩)) | (go_at_call 30; refine (specFinite_any _ fx _).mono ?_; rintro e w' ⟨rfl, q1, rfl⟩))
      go_ret2
      first | exact NumPost.no rfl | exact NumPost.no (m := 0) rfl
set_option maxHeartbeats 1000000 in
theorem implNewton_yes (a b : Option Addr) (n c d p : Nat) (Z Y : Nat → Nat) (x : Nat) (w : World) (hp : p + 1 = n) (h32 : n ≤ 32) (wx : (Lit.float .f32 x).wf = true) (h : FS .f32 w a n c Z) (h2 : FS .f32 w b n d Y) (hv : nodesB n n (vals Z) (vals Y) = true) (hf : finite .f32 (cn .f32 x) = true) :
    Calls Try.prog 11 #[.slice a n c, .slice b n d, .float .f32 x] w (NumPost (finite .f32 (nwt (vals Z) (vals Y) (cn .f32 x) p p)) (nwt (vals Z) (vals Y) (cn .f32 x) p p) w) := by
  have fx : FV .f32 x (cn .f32 x) := FV.mk' wx
  have hp1 : (n : Int) - 1 = (p : Int) := by omega
  have hp2 : (n : Int) - 2 = (p : Int) - 1 := by omega
  have hn : n ≤ 1048576 := by omega
  obtain ⟨b2, o2, e2, hbl2, hc2, hfv2⟩ := h2.at (show p < n by omega)
  have e2' := Lib.hid e2
  subst e2
  clear hbl2
  go_enter Try.func11, Try.ntmps11
  go_wp2_with (first | (go_at_call 32; refine (implNodes_any _ _ _ _ _ _ Z Y _ hn hn h h2).mono ?_; rintro e w' ⟨rfl, q, rfl⟩) | (go_at_call 33; refine (implIsFinite_any _ fx _).mono ?_; rintro e w' ⟨rfl, q1, rfl⟩))
  clear hc2
  go_loopw [9, 10] (fun s i wr => ∃ k m r : Nat, k ≤ p ∧ i = .int .i64 ((p : Int) - 1 - k) ∧ s = .float .f32 r ∧ FV .f32 r (nwt (vals Z) (vals Y) (cn .f32 x) p k) ∧ wr = w.drewN m) (fun _ i _ => (intOf i + 1).toNat)
  case atStart => exact ⟨0, _, _, Nat.zero_le _, by simp, rfl, hfv2, rfl⟩
  case round =>
    obtain ⟨k, m0, r0, hk, rfl, rfl, hr0, rfl⟩ := hrel
    clear hfv2
    by_cases hlt : k < p
    · obtain ⟨q, hq⟩ : ∃ q, q + (k + 1) = p := ⟨p - (k + 1), by omega⟩
      have hqi : (p : Int) - 1 - k = (q : Int) := by omega
      rw [hqi]
      have HQ := Lib.hid hq
      have hqn : q < n := by omega
      obtain ⟨b1, off1, rfl, hbl1, hc1, hfv1⟩ := h.at hqn
      obtain ⟨b3, off3, e3, hbl3, hc3, hfv3⟩ := h2.at hqn
      simp only [Option.some.injEq, Addr.mk.injEq, and_true] at e3
      obtain ⟨rfl, rfl⟩ := e3
      have hnext : Hid (FV .f32 0 none → True) := Lib.hid fun _ => trivial
      clear hbl1 hbl3 h h2 hqi hq hp1 hp2 hnext
      go_wp2
      (refine wp_region_loose_tail 13 (by kernel_rfl) (by kernel_rfl) ?_; simp only [List.take_succ_cons, List.take_zero, List.drop_succ_cons, List.drop_zero]; (repeat (refine wpLoose_want rfl (fun K hK => ?_); first | (refine loose_farith _ _ _ _ _ rfl rfl _ _ _ rfl rfl (by first | assumption | (with_reducible exact FV.ofInt _ _) | (with_reducible exact FV.neg (by assumption)) | exact FV.lit (by kernel_rfl) (by kernel_rfl)) (by first | assumption | (with_reducible exact FV.ofInt _ _) | (with_reducible exact FV.neg (by assumption)) | exact FV.lit (by kernel_rfl) (by kernel_rfl)) ?_; intro r hr; refine hK _ ?_; clear hK K; simp only [Act.put, List.setIfInBounds_toArray, List.set_cons_succ, List.set_cons_zero]) | (refine loose_of_quiet rfl ?_; go_big_quiet_op; refine hK _ ?_; clear hK K))); refine wpLoose_nil ?_)
      rintro _ ⟨k2, rfl⟩
      have hr2 : Hid (FV .f32 r (nwt (vals Z) (vals Y) (cn .f32 x) p (k + 1))) := Lib.hid (FV.of_eq hr (by
        have e : p - (k + 1) = q := by have := HQ.out; omega
        show _ = fop .add .f32 (fop .mul .f32 (nwt (vals Z) (vals Y) (cn .f32 x) p k) (fop .sub .f32 (cn .f32 x) (vals Z (p - (k + 1))))) (vals Y (p - (k + 1)))
        rw [e]; rfl))
      have hii : Hid (Value.int .i64 ((q : Int) - 1) = Value.int .i64 ((p : Int) - 1 - ((k + 1 : Nat) : Int))) := Lib.hid (by rw [show (q : Int) - 1 = (p : Int) - 1 - ((k + 1 : Nat) : Int) by have := HQ.out; omega])
      clear hr
      go_wp2_with fail
      go_roundw
      case rel => exact ⟨k + 1, _, _, by omega, hii.out, rfl, hr2.out, rfl⟩
      case measure => simp [intOf]
    · obtain rfl : p = k := by omega
      have hqi : (p : Int) - 1 - p = -1 := by omega
      rw [hqi]
      clear h h2 hp1 hp2 hqi
      go_wp2_with (go_at_call 34; refine (implNumber_any _ hr0 _).mono ?_; rintro e w' ⟨r2, rfl, hr2, q2, rfl⟩)
      go_ret2
      exact ⟨_, rfl, hr2, _, rfl⟩
set_option maxHeartbeats 1000000 in
theorem specNewton_yes (a b : Option Addr) (n c d p : Nat) (Z Y : Nat → Nat) (x : Nat) (w : World) (hp : p + 1 = n) (h32 : n ≤ 32) (wx : (Lit.float .f32 x).wf = true) (h : FS .f32 w a n c Z) (h2 : FS .f32 w b n d Y) (hv : nodesB n n (vals Z) (vals Y) = true) (hf : finite .f32 (cn .f32 x) = true) :
    Calls Try.prog 9 #[.slice a n c, .slice b n d, .float .f32 x] w (NumPost (finite .f32 (nwt (vals Z) (vals Y) (cn .f32 x) p p)) (nwt (vals Z) (vals Y) (cn .f32 x) p p) w) := by
  have fx : FV .f32 x (cn .f32 x) := FV.mk' wx
  have hp1 : (n : Int) - 1 = (p : Int) := by omega
  have hp2 : (n : Int) - 2 = (p : Int) - 1 := by omega
  have hn : n ≤ 1048576 := by omega
  obtain ⟨b2, o2, e2, hbl2, hc2, hfv2⟩ := h2.at (show p < n by omega)
  have e2' := Lib.hid e2
  obtain ⟨g1, g3, f1, f2⟩ := nodes_yes hv
  have d1 : decide ((n : Int) < 1) = false := decide_eq_false (by omega)
  have d2 : decide ((32 : Int) < n) = false := decide_eq_false (by omega)
  have d3 : ((n : Int) != n) = false := by simp
  clear g1 g3
  subst e2
  clear hbl2
  go_enter Try.func9, Try.ntmps9
  go_wp2_with (first | (go_at_call 29; first | ((with_reducible refine (specFin_any a _ c Z _ hn h).mono ?_); rintro e w' ⟨rfl, q, rfl⟩) | ((with_reducible refine (specFin_any (some ⟨b2, o2, none⟩) _ d Y _ hn (FS.drewN h2)).mono ?_); rintro e w' ⟨rfl, q2, rfl⟩)) | (go_at_call 30; refine (specFinite_any _ fx _).mono ?_; rintro e w' ⟨rfl, q1, rfl⟩))
  clear hc2
  go_loopw [9, 10] (fun s i wr => ∃ k m r : Nat, k ≤ p ∧ i = .int .i64 ((p : Int) - 1 - k) ∧ s = .float .f32 r ∧ FV .f32 r (nwt (vals Z) (vals Y) (cn .f32 x) p k) ∧ wr = w.drewN m) (fun _ i _ => (intOf i + 1).toNat)
  case atStart => exact ⟨0, _, _, Nat.zero_le _, by simp, rfl, hfv2, rfl⟩
  case round =>
    obtain ⟨k, m0, r0, hk, rfl, rfl, hr0, rfl⟩ := hrel
    clear hfv2
    by_cases hlt : k < p
    · obtain ⟨q, hq⟩ : ∃ q, q + (k + 1) = p := ⟨p - (k + 1), by omega⟩
      have hqi : (p : Int) - 1 - k = (q : Int) := by omega
      rw [hqi]
      have HQ := Lib.hid hq
      have hqn : q < n := by omega
      obtain ⟨b1, off1, rfl, hbl1, hc1, hfv1⟩ := h.at hqn
      obtain ⟨b3, off3, e3, hbl3, hc3, hfv3⟩ := h2.at hqn
      simp only [Option.some.injEq, Addr.mk.injEq, and_true] at e3
      obtain ⟨rfl, rfl⟩ := e3
      have hnext : Hid (FV .f32 0 none → True) := Lib.hid fun _ => trivial
      clear hbl1 hbl3 h h2 hqi hq hp1 hp2 hnext
      go_wp2
      (refine wp_region_loose_tail 13 (by kernel_rfl) (by kernel_rfl) ?_; simp only [List.take_succ_cons, List.take_zero, List.drop_succ_cons, List.drop_zero]; (repeat (refine wpLoose_want rfl (fun K hK => ?_); first | (refine loose_farith _ _ _ _ _ rfl rfl _ _ _ rfl rfl (by first | assumption | (with_reducible exact FV.ofInt _ _) | (with_reducible exact FV.neg (by assumption)) | exact FV.lit (by kernel_rfl) (by kernel_rfl)) (by first | assumption | (with_reducible exact FV.ofInt _ _) | (with_reducible exact FV.neg (by assumption)) | exact FV.lit (by kernel_rfl) (by kernel_rfl)) ?_; intro r hr; refine hK _ ?_; clear hK K; simp only [Act.put, List.setIfInBounds_toArray, List.set_cons_succ, List.set_cons_zero]) | (refine loose_of_quiet rfl ?_; go_big_quiet_op; refine hK _ ?_; clear hK K))); refine wpLoose_nil ?_)
      rintro _ ⟨k2, rfl⟩
      have hr2 : Hid (FV .f32 r (nwt (vals Z) (vals Y) (cn .f32 x) p (k + 1))) := Lib.hid (FV.of_eq hr (by
        have e : p - (k + 1) = q := by have := HQ.out; omega
        show _ = fop .add .f32 (fop .mul .f32 (nwt (vals Z) (vals Y) (cn .f32 x) p k) (fop .sub .f32 (cn .f32 x) (vals Z (p - (k + 1))))) (vals Y (p - (k + 1)))
        rw [e]; rfl))
      have hii : Hid (Value.int .i64 ((q : Int) - 1) = Value.int .i64 ((p : Int) - 1 - ((k + 1 : Nat) : Int))) := Lib.hid (by rw [show (q : Int) - 1 = (p : Int) - 1 - ((k + 1 : Nat) : Int) by have := HQ.out; omega])
      clear hr
      go_wp2_with fail
      go_roundw
      case rel => exact ⟨k + 1, _, _, by omega, hii.out, rfl, hr2.out, rfl⟩
      case measure => simp [intOf]
    · obtain rfl : p = k := by omega
      have hqi : (p : Int) - 1 - p = -1 := by omega
      rw [hqi]
      clear h h2 hp1 hp2 hqi
      go_wp2_with (go_at_call 31; refine (specNumber_any _ hr0 _).mono ?_; rintro e w' ⟨r2, rfl, hr2, q2, rfl⟩)
      go_ret2
      exact ⟨_, rfl, hr2, _, rfl⟩
theorem keyNewtonAt (n : Nat) (Z : Nat → Nat) (m : Nat) (Y : Nat → Nat) (x : Nat) (hn : n ≤ 1048576) (hm : m ≤ 1048576) (wx : (Lit.float .f32 x).wf = true) : ∃ (ok : Bool) (X : Option Nat),
    (∀ a c b d W, FS .f32 W a n c Z → FS .f32 W b m d Y → Calls Try.prog 9 #[.slice a n c, .slice b m d, .float .f32 x] W (NumBel ok X W)) ∧
    (∀ a c b d W, FS .f32 W a n c Z → FS .f32 W b m d Y → Calls Try.prog 11 #[.slice a n c, .slice b m d, .float .f32 x] W (NumBel ok X W)) := by
  have conv : ∀ {ok : Bool} {X : Option Nat} {W : World} {e : Ending} {w' : World}, NumPost ok X W e w' → NumBel ok (pick ok X) W e w' := fun ⟨r, he, hr, m, hw⟩ => ⟨r, he, hr, below_of_drewN hw⟩
  cases ho : nwtOk n m (vals Z) (vals Y) (cn .f32 x) with
  | false => exact ⟨false, some 0, fun a c b d W h h2 => (specNewton_no a b n c m d Z Y x W hn hm wx h h2 ho).mono fun e w' hh => conv hh, fun a c b d W h h2 => (implNewton_no a b n c m d Z Y x W hn hm wx h h2 ho).mono fun e w' hh => conv hh⟩
  | true =>
    unfold nwtOk at ho
    simp only [Bool.and_eq_true] at ho
    obtain ⟨hv, hf⟩ := ho
    obtain ⟨⟨g1, g2⟩, rfl, _, _⟩ := nodes_yes hv
    obtain ⟨p, hp⟩ : ∃ p, p + 1 = m := ⟨m - 1, by omega⟩
    exact ⟨_, _, fun a c b d W h h2 => (specNewton_yes a b m c d p Z Y x W hp g2 wx h h2 hv hf).mono fun e w' hh => conv hh, fun a c b d W h h2 => (implNewton_yes a b m c d p Z Y x W hp g2 wx h h2 hv hf).mono fun e w' hh => conv hh⟩
end Go.Proofs.Ytpmilaemmdcfaaa
