/- Helper: walks of sums of vectors: products, sums that carry what is lost. Conditions: none. -/
import Derived.Test.YtcibjkadlndejaaFinWalks
set_option linter.unusedVariables false
set_option linter.unusedSimpArgs false
namespace Go.Proofs.Ytcibjkadlndejaa
open Go.RowKit

/-- What a call that may fail tells: the number, or 0. -/
def pick (ok : Bool) (X : Option Nat) : Option Nat := if ok then X else some 0
theorem pick_no {r : Nat} (X : Option Nat) (h : r = 0) : FV .f32 r (pick false X) := by subst h; exact FV.lit (by kernel_rfl) (by kernel_rfl)

/-- A number and whether it is told. -/
def NumPost (ok : Bool) (X : Option Nat) (w : World) (e : Ending) (w' : World) : Prop :=
  ∃ r, e = .returned (.tuple #[.float .f32 r, .bool ok]) ∧ FV .f32 r (pick ok X) ∧ ∃ m, w' = w.drewN m

theorem NumPost.no {ok : Bool} {X : Option Nat} {w : World} {m : Nat} (h : ok = false) : NumPost ok X w (.returned (.tuple #[.float .f32 0, .bool false])) (w.drewN m) :=
  ⟨0, by rw [h], by rw [h]; exact pick_no _ rfl, m, rfl⟩
theorem NumPost.of {ok b : Bool} {X : Option Nat} {w : World} {r m : Nat} (h : ok = b) (hr : FV .f32 r (pick b X)) : NumPost ok X w (.returned (.tuple #[.float .f32 r, .bool b])) (w.drewN m) :=
  ⟨r, by rw [h], by rw [h]; exact hr, m, rfl⟩


/-- The sum of the products, from left to right. -/
def dotG (A B : Nat → Option Nat) : Nat → Option Nat
  | 0 => some 0
  | i + 1 => fop .add .f32 (dotG A B i) (fop .mul .f32 (A i) (B i))
theorem dotG_succ (A B : Nat → Option Nat) (i : Nat) : fop .add .f32 (dotG A B i) (fop .mul .f32 (A i) (B i)) = dotG A B (i + 1) := rfl
theorem dotG_congr {A B A' B' : Nat → Option Nat} : ∀ {n : Nat}, (∀ j, j < n → A j = A' j ∧ B j = B' j) → dotG A B n = dotG A' B' n
  | 0, _ => rfl
  | n + 1, h => by simp only [dotG]; rw [dotG_congr fun j hj => h j (by omega), (h n (by omega)).1, (h n (by omega)).2]

theorem implDot_any (a b : Option Addr) (n c n2 d : Nat) (Z Y : Nat → Nat) (w : World) (hn : n ≤ 1048576) (hn2 : n ≤ n2) (hm : n2 ≤ 1048576) (h : FS .f32 w a n c Z) (h2 : FS .f32 w b n2 d Y) :
    Calls Try.prog 43 #[.slice a n c, .slice b n2 d] w fun e w' => ∃ r, e = .returned (.float .f32 r) ∧ FV .f32 r (dotG (vals Z) (vals Y) n) ∧ ∃ m, w' = w.drewN m := by
  go_enter Try.func43, Try.ntmps43
  go_wp2
  go_loopw [5, 11] (fun s i wr => ∃ j m r : Nat, j ≤ n ∧ i = .int .i64 j ∧ s = .float .f32 r ∧ FV .f32 r (dotG (vals Z) (vals Y) j) ∧ wr = w.drewN m) (fun _ i _ => n - (intOf i).toNat)
  case atStart => exact ⟨0, 0, _, Nat.zero_le _, rfl, rfl, by first | exact FV.lit (by kernel_rfl) (by kernel_rfl) | exact FV.ofInt _ _, rfl⟩
  case round =>
    obtain ⟨j, m0, r0, hj, rfl, rfl, hr0, rfl⟩ := hrel
    by_cases hlt : j < n
    · obtain ⟨b1, off1, rfl, hbl1, hc1, hfv1⟩ := h.at hlt
      obtain ⟨b2, off2, rfl, hbl2, hc2, hfv2⟩ := h2.at (show j < n2 by omega)
      clear hbl1 hbl2 h h2
      go_wp2_with (first | (refine wpList_farith rfl _ _ _ _ _ rfl rfl _ _ _ rfl rfl (by first | assumption | (with_reducible exact FV.ofInt _ _) | (with_reducible exact FV.neg (by assumption)) | exact FV.lit (by kernel_rfl) (by kernel_rfl)) (by first | assumption | (with_reducible exact FV.ofInt _ _) | (with_reducible exact FV.neg (by assumption)) | exact FV.lit (by kernel_rfl) (by kernel_rfl)) ?_; intro r m hr))
      go_roundw
      case rel => exact ⟨j + 1, _, _, by omega, by go_num, rfl, FV.of_eq (by assumption) (dotG_succ _ _ _), rfl⟩
      case measure => simp [intOf]; omega
    · obtain rfl : j = n := by omega
      go_wp2
      go_ret
      exact ⟨_, rfl, hr0, _, rfl⟩

set_option maxRecDepth 100000 in
theorem specDot_any (a b : Option Addr) (n c n2 d : Nat) (Z Y : Nat → Nat) (w : World) (hn : n ≤ 1048576) (hn2 : n ≤ n2) (hm : n2 ≤ 1048576) (h : FS .f32 w a n c Z) (h2 : FS .f32 w b n2 d Y) :
    Calls Try.prog 61 #[.slice a n c, .slice b n2 d] w fun e w' => ∃ r, e = .returned (.float .f32 r) ∧ FV .f32 r (dotG (vals Z) (vals Y) n) ∧ ∃ m, w' = w.drewN m := by
  go_enter Try.func61, Try.ntmps61
  go_wp2
  go_loopw [5, 6] (fun s i wr => ∃ j m r : Nat, j ≤ n ∧ i = .int .i64 j ∧ s = .float .f32 r ∧ FV .f32 r (dotG (vals Z) (vals Y) j) ∧ wr = w.drewN m) (fun _ i _ => n - (intOf i).toNat)
  case atStart => exact ⟨0, 0, 0, Nat.zero_le _, rfl, rfl, FV.lit (by kernel_rfl) (by kernel_rfl), rfl⟩
  case round =>
    obtain ⟨j, m0, r0, hj, rfl, rfl, hr0, rfl⟩ := hrel
    by_cases hlt : j < n
    · obtain ⟨b1, off1, rfl, hbl1, hc1, hfv1⟩ := h.at hlt
      obtain ⟨b2, off2, rfl, hbl2, hc2, hfv2⟩ := h2.at (show j < n2 by omega)
      clear hbl1 hbl2 h h2
      have hdec : decide ((j : Int) < n) = true := decide_eq_true (by omega)
      go_wp2_with (first | (refine wpList_farith rfl _ _ _ _ _ rfl rfl _ _ _ rfl rfl (by first | assumption | (with_reducible exact FV.ofInt _ _) | (with_reducible exact FV.neg (by assumption)) | exact FV.lit (by kernel_rfl) (by kernel_rfl)) (by first | assumption | (with_reducible exact FV.ofInt _ _) | (with_reducible exact FV.neg (by assumption)) | exact FV.lit (by kernel_rfl) (by kernel_rfl)) ?_; intro r m hr))
      try (refine wp_region_loose (by kernel_rfl) (by kernel_rfl) ?_
           repeat (refine wpLoose_want rfl (fun K hK => ?_); first | (refine loose_farith _ _ _ _ _ rfl rfl _ _ _ rfl rfl (by assumption) (by assumption) ?_; intro r hr; refine hK _ ?_; clear hK K; simp only [Act.put, List.setIfInBounds_toArray, List.set_cons_succ, List.set_cons_zero]) | (refine loose_of_quiet rfl ?_; go_big_quiet_op; refine hK _ ?_; clear hK K))
           refine wpLoose_nil ?_
           rintro _ ⟨nq, rfl⟩
           go_wp2)
      go_roundw
      case rel => exact ⟨j + 1, _, _, by omega, by go_num, rfl, FV.of_eq (by assumption) (dotG_succ _ _ _), rfl⟩
      case measure => simp [intOf]; omega
    · obtain rfl : j = n := by omega
      go_wp2
      go_ret
      exact ⟨_, rfl, hr0, _, rfl⟩

/-- Two vectors of one length. -/
def vecsB (n n2 : Nat) (V W : Nat → Option Nat) : Bool := vecB n V && (vecB n2 W && decide (n = n2))


def dotOk (n n2 : Nat) (Z Y : Nat → Nat) : Bool := vecsB n n2 (vals Z) (vals Y) && finite .f32 (dotG (vals Z) (vals Y) n)
theorem vecsB_len {n n2 : Nat} {V W : Nat → Option Nat} (h : vecsB n n2 V W = true) : n = n2 := by
  unfold vecsB at h; simp at h; exact h.2.2
theorem drewN_two {w : World} {a b : Nat} : (w.drewN a).drewN b = w.drewN (a + b) := World.drewN_drewN _ _ _
theorem NumPost.drewN {ok : Bool} {X : Option Nat} {w : World} {q : Nat} {e : Ending} {w' : World} (h : NumPost ok X (w.drewN q) e w') : NumPost ok X w e w' := by
  obtain ⟨r, he, hr, m, hw⟩ := h
  exact ⟨r, he, hr, q + m, hw.trans drewN_two⟩


/-- The sum and what is lost. -/
def carryP (V : Nat → Option Nat) : Nat → Option Nat × Option Nat
  | 0 => (some 0, some 0)
  | j + 1 => (fop .add .f32 (carryP V j).1 (fop .sub .f32 (V j) (carryP V j).2),
      fop .sub .f32 (fop .sub .f32 (fop .add .f32 (carryP V j).1 (fop .sub .f32 (V j) (carryP V j).2)) (carryP V j).1) (fop .sub .f32 (V j) (carryP V j).2))
def carryOk (n : Nat) (Z : Nat → Nat) : Bool := vecB n (vals Z) && (finite .f32 (carryP (vals Z) n).1 && finite .f32 (carryP (vals Z) n).2)
def CarryPost (n : Nat) (Z : Nat → Nat) (w : World) (e : Ending) (w' : World) : Prop :=
  ∃ r1 r2, e = .returned (.tuple #[.float .f32 r1, .float .f32 r2, .bool (carryOk n Z)]) ∧ FV .f32 r1 (pick (carryOk n Z) (carryP (vals Z) n).1) ∧ FV .f32 r2 (pick (carryOk n Z) (carryP (vals Z) n).2) ∧ ∃ m, w' = w.drewN m
theorem carry_no {n m : Nat} {Z : Nat → Nat} {w : World} (h : carryOk n Z = false) : CarryPost n Z w (.returned (.tuple #[.float .f32 0, .float .f32 0, .bool false])) (w.drewN m) :=
  ⟨0, 0, by rw [h], by rw [h]; exact pick_no _ rfl, by rw [h]; exact pick_no _ rfl, m, rfl⟩
theorem carry_yes {n m r1 r2 : Nat} {Z : Nat → Nat} {w : World} (h : carryOk n Z = true) (h1 : FV .f32 r1 (carryP (vals Z) n).1) (h2 : FV .f32 r2 (carryP (vals Z) n).2) : CarryPost n Z w (.returned (.tuple #[.float .f32 r1, .float .f32 r2, .bool true])) (w.drewN m) :=
  ⟨r1, r2, by rw [h], by rw [h]; exact h1, by rw [h]; exact h2, m, rfl⟩

end Go.Proofs.Ytcibjkadlndejaa
