/- Helper: lower squares of factors, of the program and of its reference. Conditions: none. -/
import Derived.Test.YtpmilaemmdcfaacClearKey
import Derived.Test.YtpmilaemmdcfaacUnitKey
import Derived.Test.YtpmilaemmdcfaacKinds
import Derived.Test.YtpmilaemmdcfaacKindSteps
import Derived.Test.YtpmilaemmdcfaacFactor
set_option linter.unusedVariables false
set_option linter.unusedSimpArgs false
namespace Go.Proofs.Ytpmilaemmdcfaac
open Go.RowKit

/-- The lower square whose first j rows have their 1 in the middle. -/
def lowZ (c : Nat) (Z : Nat → Nat) (j t : Nat) : Nat := if t / c = t % c ∧ t / c < j then 1065353216 else clearZ c isAb Z c 0 t
theorem low_step {c j : Nat} {Z : Nat → Nat} (hj : j < c) (t : Nat) : (if t = j * c + j then 1065353216 else lowZ c Z j t) = lowZ c Z (j + 1) t := by
  unfold lowZ
  by_cases e : t = j * c + j
  · subst e
    obtain ⟨h1, h2⟩ := place_div hj
    rw [if_pos rfl, h1, h2, if_pos ⟨rfl, by omega⟩]
  · rw [if_neg e]
    by_cases h : t / c = t % c ∧ t / c < j + 1
    · rw [if_pos h]
      have hp := place_eq (c := c) (t := t)
      by_cases h2 : t / c < j
      · rw [if_pos ⟨h.1, h2⟩]
      · have e2 : t / c = j := by omega
        rw [← h.1, e2] at hp
        exact absurd hp.symm e
    · rw [if_neg h, if_neg (fun k => h ⟨k.1, by omega⟩)]
theorem low_zero {c t : Nat} {Z : Nat → Nat} : clearZ c isAb Z c 0 t = lowZ c Z 0 t := by
  unfold lowZ; rw [if_neg (fun h => Nat.not_lt_zero _ h.2)]
/-- The reference's lower square as far as told: a unit, with numbers below the middle. -/
def refZ (c : Nat) (Z : Nat → Nat) (i k t : Nat) : Nat := if told c i k t ∧ t % c < t / c then Z t else unitZ c c t
theorem ref_step {c i k : Nat} {Z : Nat → Nat} (hk : k < i) (hi : i < c) (t : Nat) : (if t = i * c + k then Z (i * c + k) else refZ c Z i k t) = refZ c Z i (k + 1) t := by
  have hkc : k < c := by omega
  unfold refZ
  by_cases e : t = i * c + k
  · subst e
    obtain ⟨h1, h2⟩ := place_div (j := i) hkc
    rw [if_pos rfl, if_pos ⟨(told_succ hkc).2 (.inr rfl), by rw [h1, h2]; exact hk⟩]
  · rw [if_neg e]
    by_cases h : told c i k t ∧ t % c < t / c
    · rw [if_pos h, if_pos ⟨(told_succ hkc).2 (.inl h.1), h.2⟩]
    · rw [if_neg h, if_neg (fun q => h ⟨((told_succ hkc).1 q.1).resolve_right e, q.2⟩)]
theorem told_diag {c i t : Nat} : (told c i i t ∧ t % c < t / c) ↔ (told c (i + 1) 0 t ∧ t % c < t / c) := by
  unfold told
  generalize t / c = x
  generalize t % c = y
  omega
theorem ref_row {c i t : Nat} {Z : Nat → Nat} : refZ c Z i i t = refZ c Z (i + 1) 0 t := by
  unfold refZ
  by_cases h : told c i i t ∧ t % c < t / c
  · rw [if_pos h, if_pos (told_diag.1 h)]
  · rw [if_neg h, if_neg (fun q => h (told_diag.2 q))]
theorem ref_zero {c t : Nat} {Z : Nat → Nat} : unitZ c c t = refZ c Z 0 0 t := by
  unfold refZ; rw [if_neg (fun h => told_none h.1)]
theorem ref_all {c n t : Nat} {Z : Nat → Nat} (hn : n = c * c) (ht : t < n) : refZ c Z c 0 t = lowZ c Z c t := by
  have hT := told_all hn ht
  have hd : t / c < c := Nat.div_lt_of_lt_mul (by rw [← hn]; exact ht)
  unfold refZ lowZ clearZ unitZ isAb
  by_cases h : t % c < t / c
  · rw [if_pos ⟨hT, h⟩, if_neg (fun q => by omega), if_neg (fun q => by have := of_decide_eq_true q.2; omega)]
  · rw [if_neg (fun q => h q.2)]
    by_cases h2 : t / c = t % c ∧ t / c < c
    · rw [if_pos h2, if_pos h2]
    · rw [if_neg h2, if_neg h2, if_pos ⟨hT, decide_eq_true (by omega)⟩]
set_option maxHeartbeats 1000000 in
theorem implLower_no (R C : Int) (a : Option Addr) (n c : Nat) (Z : Nat → Nat) (b : Option Addr) (m d : Nat) (O : Nat → Int) (w : World) (hn : n ≤ 1048576) (hm : m ≤ 1048576) (h : FS .f32 w a n c Z) (h2 : IS .i64 w b m d O) (ho : factorB R C n (vals Z) m O = false) :
    Calls Try.prog 17 #[.agg #[.int .i64 R, .int .i64 C, .slice a n c, .slice b m d]] w (MatOwn false 0 0 0 (fun _ => none) w) := by
  go_enter Try.func17, Try.ntmps17
  go_wp2_with fail
  go_at_call 12
  refine (implFactor_any R C a n c Z b m d O _ hn hm (h.below (by repeat first | (with_reducible exact Below.refl _ _) | (with_reducible refine Below.setCell ?_ (by first | exact Nat.le_refl _ | (simp; done) | (simp; omega) | omega) _) | (with_reducible refine Below.alloc ?_ (by first | exact Nat.le_refl _ | (simp; done) | (simp; omega) | omega) _) | (with_reducible refine below_drewN ?_ _) | (with_reducible refine Below.drew ?_)) (Nat.le_refl _)) (h2.below (by repeat first | (with_reducible exact Below.refl _ _) | (with_reducible refine Below.setCell ?_ (by first | exact Nat.le_refl _ | (simp; done) | (simp; omega) | omega) _) | (with_reducible refine Below.alloc ?_ (by first | exact Nat.le_refl _ | (simp; done) | (simp; omega) | omega) _) | (with_reducible refine below_drewN ?_ _) | (with_reducible refine Below.drew ?_)) (Nat.le_refl _))).mono ?_
  rintro e w1 ⟨rfl, b1⟩
  rw [ho]
  have s1 : w.heap.size + 1 < w1.heap.size := by have := b1.size; simp at this; omega
  have B1 : Below w.heap.size w w1 := Below.trans (by repeat first | (with_reducible exact Below.refl _ _) | (with_reducible refine Below.setCell ?_ (by first | exact Nat.le_refl _ | (simp; done) | (simp; omega) | omega) _) | (with_reducible refine Below.alloc ?_ (by first | exact Nat.le_refl _ | (simp; done) | (simp; omega) | omega) _) | (with_reducible refine below_drewN ?_ _) | (with_reducible refine Below.drew ?_)) (b1.mono (by simp <;> omega))
  obtain ⟨z0, z1, z2⟩ : Box w1 (w.heap.size + 1) 0 0 none 0 0 := Box.below (by refine ⟨?_, ?_, ?_⟩ <;> simp [go_sem]) b1 (by simp)
  have IR : ∀ i, w1.frozen? ⟨w.heap.size + 1, i, none⟩ = false := fun i => (b1.frozen (p := ⟨w.heap.size + 1, i, none⟩) (by simp)).trans (by simp [go_sem])
  clear b1
  go_wp2_with fail
  refine bodyPost_ret (v := .tuple #[.agg #[.int .i64 0, .int .i64 0, .slice none 0 0], .bool false]) (by simp [results, Try.results17, go_sem, z0, z1, z2]) rfl ?_
  exact ⟨none, 0, fun _ => 0, rfl, .inl ⟨rfl, rfl, rfl⟩, fun i hi => by omega, (by repeat first | (with_reducible exact B1) | (with_reducible refine Below.setCell ?_ (by first | exact Nat.le_refl _ | (simp; done) | (simp; omega) | omega) _) | (with_reducible refine Below.alloc ?_ (by first | exact Nat.le_refl _ | (simp; done) | (simp; omega) | omega) _) | (with_reducible refine below_drewN ?_ _) | (with_reducible refine Below.drew ?_))⟩
set_option maxRecDepth 20000 in
set_option maxHeartbeats 2000000 in
theorem implLower_yes (r n ba oa c : Nat) (bo : Option Addr) (d : Nat) (Z : Nat → Nat) (O : Nat → Int) (w : World) (hf : factorB r r n (vals Z) r O = true) (h : FS .f32 w (some ⟨ba, oa, none⟩) n c Z) (h2 : IS .i64 w bo r d O) :
    Calls Try.prog 17 #[.agg #[.int .i64 (r : Int), .int .i64 (r : Int), .slice (some ⟨ba, oa, none⟩) n c, .slice bo r d]] w (MatOwn true r r n (vals (lowZ r Z r)) w) := by
  obtain ⟨r', e1, _, _, h1, h12, hN, _, _, _, _⟩ := factor_nat hf
  have e2 : r = r' := by omega
  subst e2
  have HN := Lib.hid hN
  have hn144 : n ≤ 144 := by have := sides_le h12 h12; omega
  have hpos : 0 < n := by rw [hN]; exact Nat.mul_pos h1 h1
  clear hN e1
  go_enter Try.func17, Try.ntmps17
  go_wp2_with fail
  go_at_call 12
  refine (implFactor_any _ _ _ n c Z _ r d O _ (by omega) (by omega) (h.below (by repeat first | (with_reducible exact Below.refl _ _) | (with_reducible refine Below.setCell ?_ (by first | exact Nat.le_refl _ | (simp; done) | (simp; omega) | omega) _) | (with_reducible refine Below.alloc ?_ (by first | exact Nat.le_refl _ | (simp; done) | (simp; omega) | omega) _) | (with_reducible refine below_drewN ?_ _) | (with_reducible refine Below.drew ?_)) (Nat.le_refl _)) (h2.below (by repeat first | (with_reducible exact Below.refl _ _) | (with_reducible refine Below.setCell ?_ (by first | exact Nat.le_refl _ | (simp; done) | (simp; omega) | omega) _) | (with_reducible refine Below.alloc ?_ (by first | exact Nat.le_refl _ | (simp; done) | (simp; omega) | omega) _) | (with_reducible refine below_drewN ?_ _) | (with_reducible refine Below.drew ?_)) (Nat.le_refl _))).mono ?_
  rintro e w1 ⟨rfl, b1⟩
  rw [hf]
  have B1 : Below w.heap.size w w1 := Below.trans (by repeat first | (with_reducible exact Below.refl _ _) | (with_reducible refine Below.setCell ?_ (by first | exact Nat.le_refl _ | (simp; done) | (simp; omega) | omega) _) | (with_reducible refine Below.alloc ?_ (by first | exact Nat.le_refl _ | (simp; done) | (simp; omega) | omega) _) | (with_reducible refine below_drewN ?_ _) | (with_reducible refine Below.drew ?_)) (b1.mono (by simp <;> omega))
  have s1 : w.heap.size + 1 < w1.heap.size := by have := b1.size; simp at this; omega
  have X1 : BoxL w1 w.heap.size [.int .i64 (r : Int), .int .i64 (r : Int), .slice (some ⟨ba, oa, none⟩) n c, .slice bo r d] := BoxL.below (BoxL.four (by simp [go_sem]) (by simp [go_sem]) (by simp [go_sem]) (by simp [go_sem])) b1 (by simp <;> omega)
  have XR : Box w1 (w.heap.size + 1) 0 0 none 0 0 := Box.below (by refine ⟨?_, ?_, ?_⟩ <;> simp [go_sem]) b1 (by simp)
  have IR : ∀ i, w1.frozen? ⟨w.heap.size + 1, i, none⟩ = false := fun i => (b1.frozen (p := ⟨w.heap.size + 1, i, none⟩) (by simp)).trans (by simp [go_sem])
  have x0 := X1 0 _ rfl
  have x1 := X1 1 _ rfl
  have x2 := X1 2 _ rfl
  have H1 := h.below B1 (Nat.le_refl _)
  clear b1 hf X1
  go_wp2_with fail
  go_at_call 49
  refine (clearedAbove_any r n ba oa c Z _ h1 h12 HN.out H1).mono ?_
  rintro e w2 ⟨g, d2, rfl, o2, b2⟩
  have B2 := B1.trans (b2.mono B1.size)
  have s2 := b2.size
  have hfs := o2.fs
  have hd1 : n ≤ d2 := hfs.1
  have hd2 : d2 ≤ 9223372036854775807 := by have hh := hfs.2.1; unfold maxLen at hh; omega
  have wk := Wk.start (W0 := w) (rb := w.heap.size + 1) (R := (r : Int)) (C := (r : Int)) 30 o2 (XR.below b2 s1) (fun i => (b2.frozen (p := ⟨w.heap.size + 1, i, none⟩) s1).trans (IR i)) B2 (by omega) s1 (by omega)
  clear o2 b2 B2 XR IR hfs x0 x1 x2 H1 B1
  go_wp2
  go_loopw [15] (fun i wr => ∃ j : Nat, j ≤ r ∧ i = .int .i64 j ∧ Wk w w1.heap.size w2.heap.size g d2 w2.heap.size (w.heap.size + 1) r r n (lowZ r Z j) wr) (fun i _ => r - (intOf i).toNat)
  case atStart => exact ⟨0, Nat.zero_le _, rfl, wk.same (fun t _ => low_zero)⟩
  case round =>
    obtain ⟨j, hj, rfl, hk⟩ := hrel
    clear wk
    obtain ⟨g1, g2, g3, g4⟩ := hk.facts hpos
    by_cases hlt : j < r
    · have hpl := place_lt hlt hlt
      rw [← HN.out] at hpl
      obtain ⟨y0, y1, y2⟩ := hk.box
      have hk' := Lib.hid hk
      clear hk
      go_wp2_with fail
      go_at_call 51
      refine (rowOf_any g 0 r r n d2 j _ h12 h1 h12 HN.out hd1 hd2 hlt).mono ?_
      rintro e w3 ⟨rfl, b3⟩
      have hk2 := hk'.out.below b3 g3 g4
      have hst := hk2.stored (t := j * r + j) (v := 1065353216) hpl (by decide)
      obtain ⟨hce, hfr, _⟩ := hk2.own.cell hpl
      have hst' := Lib.hid (hst.same (fun t _ => low_step hlt t))
      simp only [Nat.zero_add] at *
      clear hst hk2 b3 hk' y0 y1 y2
      go_wp2_with fail
      go_roundw
      case rel => exact ⟨j + 1, by omega, by go_num, hst'.out⟩
      case measure => simp [intOf]; omega
    · obtain rfl : j = r := by omega
      obtain ⟨y0, y1, y2⟩ := hk.box
      obtain ⟨z0, z1, z2⟩ := hk.res
      have o3 := hk.own
      have B3 := hk.bel
      have hlo := hk.lo
      have hmid := hk.mid
      have hice := hk.ice
      clear hk
      go_wp2_with fail
      refine bodyPost_ret (v := .tuple #[.agg #[.int .i64 j, .int .i64 j, .slice (some ⟨g, 0, none⟩) n d2], .bool true]) (by simp [results, Try.results17, go_sem, y0, y1, y2, z0, z1, z2]) rfl ?_
      exact ⟨_, _, _, rfl, (by refine Own.to o3 (hk := fun g hg1 hg2 => by (try simp at hg1 hg2); repeat (first | rw [Below.heap_setCell _ _ _ _ (by simp; omega)] | rw [Below.heap_alloc _ _ _ (by simp [World.setCell]; omega)])) ?_ ?_ ?_ ?_ <;> (first | exact Nat.le_refl _ | omega | (simp [World.setCell]; done) | (simp [World.setCell]; omega))), fun i _ => rfl, (by repeat first | (with_reducible exact B3) | (with_reducible refine Below.setCell ?_ (by first | exact Nat.le_refl _ | (simp; done) | (simp; omega) | omega) _) | (with_reducible refine Below.alloc ?_ (by first | exact Nat.le_refl _ | (simp; done) | (simp; omega) | omega) _) | (with_reducible refine below_drewN ?_ _) | (with_reducible refine Below.drew ?_))⟩
end Go.Proofs.Ytpmilaemmdcfaac
