/- Helper: a multiple of a list taken away from a list beside it in the same block, of the program. Conditions: none. -/
import Derived.Test.YtcibjkadlndejaaWork
import Derived.Test.YtcibjkadlndejaaNums
set_option linter.unusedVariables false
set_option linter.unusedSimpArgs false
namespace Go.Proofs.Ytcibjkadlndejaa
open Go.RowKit

/-- From the numbers from p on, F times those from q on are taken, j of them. -/
def lsS (F : Option Nat) (p q : Nat) (V : Nat → Option Nat) (j t : Nat) : Option Nat :=
  if p ≤ t ∧ t < p + j then fop .sub .f32 (V t) (fop .mul .f32 F (V (t - p + q))) else V t
theorem lsS_zero {F : Option Nat} {p q t : Nat} {V : Nat → Option Nat} : lsS F p q V 0 t = V t := by
  unfold lsS
  rw [if_neg (by omega)]
theorem lsS_out {F : Option Nat} {p q j t : Nat} {V : Nat → Option Nat} (h : t < p ∨ p + j ≤ t) : lsS F p q V j t = V t := by
  unfold lsS
  rw [if_neg (by omega)]
theorem lsS_in {F : Option Nat} {p q j i : Nat} {V : Nat → Option Nat} (h : i < j) : lsS F p q V j (p + i) = fop .sub .f32 (V (p + i)) (fop .mul .f32 F (V (q + i))) := by
  unfold lsS
  rw [if_pos (by omega), show p + i - p + q = q + i by omega]
theorem lsS_put {F : Option Nat} {p q j m N : Nat} {V : Nat → Option Nat} {D : Nat → Nat} {u : Nat} (hd : p + m ≤ q ∨ q + m ≤ p) (hj : j < m) (h : ∀ t, t < N → vals D t = lsS F p q V j t)
    (hu : FV .f32 u (fop .sub .f32 (V (p + j)) (fop .mul .f32 F (V (q + j))))) :
    ∀ t, t < N → vals (fun t => if t = p + j then u else D t) t = lsS F p q V (j + 1) t := by
  intro t ht
  show cn .f32 (if t = p + j then u else D t) = _
  by_cases e : t = p + j
  · rw [if_pos e, e, lsS_in (Nat.lt_succ_self j)]
    exact hu.1
  · rw [if_neg e]
    have hh := h t ht
    show vals D t = _
    rw [hh]
    unfold lsS
    by_cases e2 : p ≤ t ∧ t < p + j
    · rw [if_pos e2, if_pos (by omega)]
    · rw [if_neg e2, if_neg (by omega)]
set_option maxRecDepth 20000 in
set_option maxHeartbeats 1000000 in
theorem less_same (N g p q m cp cq d B U f : Nat) {F : Option Nat} (ff : FV .f32 f F) (X : Nat → Nat) (w : World) (hm : m ≤ 1048576) (hp : p + m ≤ N) (hq : q + m ≤ N) (hd : p + m ≤ q ∨ q + m ≤ p) (o : Own 41 .f32 B U w (some ⟨g, 0, none⟩) N d X) :
    Calls Try.prog 44 #[.slice (some ⟨g, p, none⟩) m cp, .float .f32 f, .slice (some ⟨g, q, none⟩) m cq] w fun e w' => e = .returned (.tuple #[]) ∧ ∃ X2, Own 41 .f32 B U w' (some ⟨g, 0, none⟩) N d X2 ∧ (∀ t, t < N → vals X2 t = lsS F p q (vals X) m t) ∧ w.grownBy w' (some g) := by
  go_enter Try.func44, Try.ntmps44
  go_wp2
  go_loopw [10] (fun i wr => ∃ (j : Nat) (X2 : Nat → Nat), j ≤ m ∧ i = .int .i64 j ∧ Own 41 .f32 B U wr (some ⟨g, 0, none⟩) N d X2 ∧ (∀ t, t < N → vals X2 t = lsS F p q (vals X) j t) ∧ w.grownBy wr (some g)) (fun i _ => m - (intOf i).toNat)
  case atStart => exact ⟨0, X, Nat.zero_le _, rfl, o, fun t ht => lsS_zero.symm, World.grownBy.refl _ _⟩
  case round =>
    obtain ⟨j, X2, hj, rfl, ho, hv, hg⟩ := hrel
    have hv' := Lib.hid hv
    clear o hv
    by_cases hlt : j < m
    · have hpj : p + j < N := by omega
      have hqj : q + j < N := by omega
      obtain ⟨hce, hfr, _⟩ := ho.cell hpj
      obtain ⟨hcq, _⟩ := ho.cell hqj
      have fx : FV .f32 (X2 (p + j)) (vals X (p + j)) := FV.of_eq ((ho.fs.at hpj).elim fun _ z => z.elim fun _ z => z.2.2.2) (by
        have := hv'.out (p + j) hpj
        rw [lsS_out (by omega)] at this
        exact this)
      have fy : FV .f32 (X2 (q + j)) (vals X (q + j)) := FV.of_eq ((ho.fs.at hqj).elim fun _ z => z.elim fun _ z => z.2.2.2) (by
        have := hv'.out (q + j) hqj
        rw [lsS_out (by omega)] at this
        exact this)
      have HP : Hid (∀ u, FV .f32 u (fop .sub .f32 (vals X (p + j)) (fop .mul .f32 F (vals X (q + j)))) → ∀ t, t < N → vals (fun t => if t = p + j then u else X2 t) t = lsS F p q (vals X) (j + 1) t) := Lib.hid fun u hu => lsS_put hd hlt hv'.out hu
      have HO := Lib.hid ho
      have HG := Lib.hid hg
      generalize X2 (p + j) = x1 at hce fx
      generalize X2 (q + j) = x2 at hcq fy
      generalize vals X (p + j) = V1 at fx HP
      generalize vals X (q + j) = V2 at fy HP
      clear ho hg
      go_wp2_with (first | (refine wpList_farith rfl _ _ _ _ _ rfl rfl _ _ _ rfl rfl ff fy ?_; intro r5 m5 hr5) | (refine wpList_farith rfl _ _ _ _ _ rfl rfl _ _ _ rfl rfl fx hr5 ?_; intro r6 m6 hr6))
      obtain ⟨O4, G4⟩ := (show Own 41 .f32 B U (wr.drewN (m5 + m6)) (some ⟨g, 0, none⟩) N d X2 from HO.out).stored hpj hr6.2
      have G5 : Hid (w.grownBy ((wr.drewN (m5 + m6)).setCell ⟨g, p + j, none⟩ (.float .f32 r6)) (some g)) := Lib.hid (grownBy_trans HG.out ⟨G4.os, G4.tape, G4.output, G4.size, G4.block⟩)
      have O5 := Lib.hid O4
      have V5 := Lib.hid (HP.out _ hr6)
      clear O4 G4
      try go_wp2
      go_roundw
      case rel => exact ⟨j + 1, _, by omega, by go_num, O5.out, V5.out, G5.out⟩
      case measure => simp [intOf]; omega
    · obtain rfl : j = m := by omega
      have HO := Lib.hid ho
      have HG := Lib.hid hg
      clear ho hg
      go_wp2
      go_end0
      exact ⟨rfl, X2, HO.out, hv'.out, HG.out⟩
/-- The numbers from p on are divided by F, j of them. -/
def dvS (F : Option Nat) (p : Nat) (V : Nat → Option Nat) (j t : Nat) : Option Nat :=
  if p ≤ t ∧ t < p + j then fop .quo .f32 (V t) F else V t
theorem dvS_zero {F : Option Nat} {p t : Nat} {V : Nat → Option Nat} : dvS F p V 0 t = V t := by
  unfold dvS
  rw [if_neg (by omega)]
theorem dvS_out {F : Option Nat} {p j t : Nat} {V : Nat → Option Nat} (h : t < p ∨ p + j ≤ t) : dvS F p V j t = V t := by
  unfold dvS
  rw [if_neg (by omega)]
theorem dvS_in {F : Option Nat} {p j i : Nat} {V : Nat → Option Nat} (h : i < j) : dvS F p V j (p + i) = fop .quo .f32 (V (p + i)) F := by
  unfold dvS
  rw [if_pos (by omega)]
theorem dvS_put {F : Option Nat} {p j N : Nat} {V : Nat → Option Nat} {D : Nat → Nat} {u : Nat} (h : ∀ t, t < N → vals D t = dvS F p V j t)
    (hu : FV .f32 u (fop .quo .f32 (V (p + j)) F)) :
    ∀ t, t < N → vals (fun t => if t = p + j then u else D t) t = dvS F p V (j + 1) t := by
  intro t ht
  show cn .f32 (if t = p + j then u else D t) = _
  by_cases e : t = p + j
  · rw [if_pos e, e, dvS_in (Nat.lt_succ_self j)]
    exact hu.1
  · rw [if_neg e]
    have hh := h t ht
    show vals D t = _
    rw [hh]
    unfold dvS
    by_cases e2 : p ≤ t ∧ t < p + j
    · rw [if_pos e2, if_pos (by omega)]
    · rw [if_neg e2, if_neg (by omega)]
set_option maxRecDepth 20000 in
set_option maxHeartbeats 1000000 in
theorem divide_at (N g p m cp d B U f : Nat) {F : Option Nat} (ff : FV .f32 f F) (X : Nat → Nat) (w : World) (hm : m ≤ 1048576) (hp : p + m ≤ N) (o : Own 41 .f32 B U w (some ⟨g, 0, none⟩) N d X) :
    Calls Try.prog 46 #[.slice (some ⟨g, p, none⟩) m cp, .float .f32 f] w fun e w' => e = .returned (.tuple #[]) ∧ ∃ X2, Own 41 .f32 B U w' (some ⟨g, 0, none⟩) N d X2 ∧ (∀ t, t < N → vals X2 t = dvS F p (vals X) m t) ∧ w.grownBy w' (some g) := by
  go_enter Try.func46, Try.ntmps46
  go_wp2
  go_loopw [7] (fun i wr => ∃ (j : Nat) (X2 : Nat → Nat), j ≤ m ∧ i = .int .i64 j ∧ Own 41 .f32 B U wr (some ⟨g, 0, none⟩) N d X2 ∧ (∀ t, t < N → vals X2 t = dvS F p (vals X) j t) ∧ w.grownBy wr (some g)) (fun i _ => m - (intOf i).toNat)
  case atStart => exact ⟨0, X, Nat.zero_le _, rfl, o, fun t ht => dvS_zero.symm, World.grownBy.refl _ _⟩
  case round =>
    obtain ⟨j, X2, hj, rfl, ho, hv, hg⟩ := hrel
    have hv' := Lib.hid hv
    clear o hv
    by_cases hlt : j < m
    · have hpj : p + j < N := by omega
      obtain ⟨hce, hfr, _⟩ := ho.cell hpj
      have fx : FV .f32 (X2 (p + j)) (vals X (p + j)) := FV.of_eq ((ho.fs.at hpj).elim fun _ z => z.elim fun _ z => z.2.2.2) (by
        have := hv'.out (p + j) hpj
        rw [dvS_out (by omega)] at this
        exact this)
      have HP : Hid (∀ u, FV .f32 u (fop .quo .f32 (vals X (p + j)) F) → ∀ t, t < N → vals (fun t => if t = p + j then u else X2 t) t = dvS F p (vals X) (j + 1) t) := Lib.hid fun u hu => dvS_put hv'.out hu
      have HO := Lib.hid ho
      have HG := Lib.hid hg
      generalize X2 (p + j) = x1 at hce fx
      generalize vals X (p + j) = V1 at fx HP
      clear ho hg
      go_wp2_with (refine wpList_farith rfl _ _ _ _ _ rfl rfl _ _ _ rfl rfl fx ff ?_; intro r6 m6 hr6)
      obtain ⟨O4, G4⟩ := (show Own 41 .f32 B U (wr.drewN m6) (some ⟨g, 0, none⟩) N d X2 from HO.out).stored hpj hr6.2
      have G5 : Hid (w.grownBy ((wr.drewN m6).setCell ⟨g, p + j, none⟩ (.float .f32 r6)) (some g)) := Lib.hid (grownBy_trans HG.out ⟨G4.os, G4.tape, G4.output, G4.size, G4.block⟩)
      have O5 := Lib.hid O4
      have V5 := Lib.hid (HP.out _ hr6)
      clear O4 G4
      try go_wp2
      go_roundw
      case rel => exact ⟨j + 1, _, by omega, by go_num, O5.out, V5.out, G5.out⟩
      case measure => simp [intOf]; omega
    · obtain rfl : j = m := by omega
      have HO := Lib.hid ho
      have HG := Lib.hid hg
      clear ho hg
      go_wp2
      go_end0
      exact ⟨rfl, X2, HO.out, hv'.out, HG.out⟩
end Go.Proofs.Ytcibjkadlndejaa
