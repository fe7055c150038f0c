/- Helper: a square to whose middle a number is added, of the program. Conditions: none. -/
import Derived.Test.YtmjlhmbnaifhaacWk
import Derived.Test.YtmjlhmbnaifhaacRootSqSpec
set_option linter.unusedVariables false
set_option linter.unusedSimpArgs false
namespace Go.Proofs.Ytmjlhmbnaifhaac
open Go.RowKit

/-- So far as j rows are told. -/
def diagJ (r : Nat) (V : Nat → Option Nat) (S : Option Nat) (j t : Nat) : Option Nat := if t % r = t / r ∧ t / r < j then fop .add .f32 (V t) S else V t
theorem diagJ_step {r j : Nat} {V : Nat → Option Nat} {S : Option Nat} {X : Nat → Nat} {n v : Nat} (hj : j < r) (h : ∀ t, t < n → vals X t = diagJ r V S j t) (hp : j * r + j < n) (hv : FV .f32 v (fop .add .f32 (vals X (j * r + j)) S)) :
    ∀ t, t < n → vals (fun t => if t = j * r + j then v else X t) t = diagJ r V S (j + 1) t := by
  intro t ht
  rw [show vals (fun t => if t = j * r + j then v else X t) t = if t = j * r + j then cn .f32 v else vals X t by
    show cn .f32 (if t = j * r + j then v else X t) = _
    by_cases e : t = j * r + j
    · rw [if_pos e, if_pos e]
    · rw [if_neg e, if_neg e]; rfl]
  by_cases e : t = j * r + j
  · subst e
    obtain ⟨q1, q2⟩ := place_div (j := j) hj
    rw [if_pos rfl, hv.1, h _ hp]
    unfold diagJ
    rw [q1, q2, if_neg (fun q => Nat.lt_irrefl _ q.2), if_pos ⟨rfl, Nat.lt_succ_self _⟩]
  · rw [if_neg e, h t ht]
    unfold diagJ
    by_cases hh : t % r = t / r ∧ t / r < j + 1
    · rw [if_pos hh]
      have hp2 := place_eq (c := r) (t := t)
      by_cases h2 : t / r < j
      · rw [if_pos ⟨hh.1, h2⟩]
      · have e2 : t / r = j := by omega
        rw [hh.1, e2] at hp2
        exact absurd hp2.symm e
    · rw [if_neg hh, if_neg (fun q => hh ⟨q.1, by omega⟩)]
theorem diagJ_all {r n t : Nat} {V : Nat → Option Nat} {S : Option Nat} (hn : n = r * r) (ht : t < n) : diagJ r V S r t = diagV r V S t := by
  have hd : t / r < r := Nat.div_lt_of_lt_mul (by rw [← hn]; exact ht)
  unfold diagJ diagV
  by_cases e : t % r = t / r
  · rw [if_pos ⟨e, hd⟩, if_pos e]
  · rw [if_neg (fun q => e q.1), if_neg e]
theorem diagJ_zero {r t : Nat} {V : Nat → Option Nat} {S : Option Nat} : V t = diagJ r V S 0 t := by
  unfold diagJ; rw [if_neg (fun q => Nat.not_lt_zero _ q.2)]
/-- A square of its own. -/
def SqOwn (r N : Nat) (V : Nat → Option Nat) (w : World) (e : Ending) (w' : World) : Prop :=
  ∃ g d Y, e = .returned (.agg #[.int .i64 (r : Int), .int .i64 (r : Int), .slice (some ⟨g, 0, none⟩) N d]) ∧ Own 38 .f32 w.heap.size w'.heap.size w' (some ⟨g, 0, none⟩) N d Y ∧ (∀ t, t < N → vals Y t = V t) ∧ Below w.heap.size w w'
set_option maxRecDepth 20000 in
set_option maxHeartbeats 2000000 in
theorem shifted_any (r N p1 o1 d1 sh : Nat) (S : Option Nat) (Z : Nat → Nat) (w : World) (h1 : 1 ≤ r) (h12 : r ≤ 12) (hn : N = r * r) (fs : FV .f32 sh S) (h : FS .f32 w (some ⟨p1, o1, none⟩) N d1 Z) :
    Calls Try.prog 63 #[.agg #[.int .i64 r, .int .i64 r, .slice (some ⟨p1, o1, none⟩) N d1], .float .f32 sh] w (SqOwn r N (diagV r (vals Z) S) w) := by
  have HN := Lib.hid hn
  have hn144 : N ≤ 144 := by have := sides_le h12 h12; omega
  have hpos : 0 < N := by rw [hn]; exact Nat.mul_pos h1 h1
  obtain ⟨VV, hVV⟩ : ∃ VV, VV = vals Z := ⟨_, rfl⟩
  rw [← hVV]
  have HVV := Lib.hid hVV
  clear hn hVV
  go_enter Try.func63, Try.ntmps63
  go_wp2_with fail
  go_at_call 97
  refine (copyOf_any r r p1 o1 N d1 Z _ hpos (by omega) (h.below (by repeat first | (with_reducible exact Below.refl _ _) | (with_reducible refine Below.setCell ?_ (by first | exact Nat.le_refl _ | (simp; done) | (simp; omega) | omega) _) | (with_reducible refine Below.alloc ?_ (by first | exact Nat.le_refl _ | (simp; done) | (simp; omega) | omega) _) | (with_reducible refine below_drewN ?_ _) | (with_reducible refine Below.drew ?_)) (Nat.le_refl _))).mono ?_
  rintro e w2 ⟨g, d2, rfl, o2, b2⟩
  have B2 : Below w.heap.size w w2 := Below.trans (by repeat first | (with_reducible exact Below.refl _ _) | (with_reducible refine Below.setCell ?_ (by first | exact Nat.le_refl _ | (simp; done) | (simp; omega) | omega) _) | (with_reducible refine Below.alloc ?_ (by first | exact Nat.le_refl _ | (simp; done) | (simp; omega) | omega) _) | (with_reducible refine below_drewN ?_ _) | (with_reducible refine Below.drew ?_)) (b2.mono (by simp <;> omega))
  have s2 : w.heap.size + 1 < w2.heap.size := by have := b2.size; simp at this; omega
  have XR : Box w2 (w.heap.size + 1) 0 0 none 0 0 := Box.below (by refine ⟨?_, ?_, ?_⟩ <;> simp [go_sem]) b2 (by simp)
  have IR : ∀ i, w2.frozen? ⟨w.heap.size + 1, i, none⟩ = false := fun i => (b2.frozen (p := ⟨w.heap.size + 1, i, none⟩) (by simp)).trans (by simp [go_sem])
  have hfs := o2.fs
  have hd1 : N ≤ d2 := hfs.1
  have hd2 : d2 ≤ 9223372036854775807 := by have hh := hfs.2.1; unfold maxLen at hh; omega
  have o2' := Own.mono (B' := w.heap.size + 1 + 1) o2 (by simp) (Nat.le_refl _) (Nat.le_refl _)
  have wk := Wk.start (W0 := w) (rb := w.heap.size + 1) (R := (r : Int)) (C := (r : Int)) 26 o2' XR IR B2 (by omega) (by omega) s2
  clear o2 o2' b2 B2 XR IR hfs h
  go_wp2
  go_loopw [11] (fun i wr => ∃ (j : Nat) (X : Nat → Nat), j ≤ r ∧ i = .int .i64 j ∧ (∀ t, t < N → vals X t = diagJ r VV S j t) ∧ Wk w (w.heap.size + 1 + 1) w2.heap.size g d2 w2.heap.size (w.heap.size + 1) r r N X wr) (fun i _ => r - (intOf i).toNat)
  case atStart => exact ⟨0, _, Nat.zero_le _, rfl, fun t ht => by rw [HVV.out]; exact diagJ_zero, wk⟩
  case round =>
    obtain ⟨j, X, hj, rfl, hv, hk⟩ := hrel
    clear wk
    obtain ⟨g1, g2, g3, g4⟩ := hk.facts hpos
    by_cases hlt : j < r
    · have hpl := place_lt hlt hlt
      rw [← HN.out] at hpl
      obtain ⟨y0, y1, y2⟩ := hk.box
      have hk' := Lib.hid hk
      have HV := Lib.hid hv
      clear hk hv
      go_wp2_with fail
      go_at_call 101
      refine (rowOf_any g 0 r r N d2 j _ h12 h1 h12 HN.out hd1 hd2 hlt).mono ?_
      rintro e w3 ⟨rfl, b3⟩
      have hk2 := hk'.out.below b3 g3 g4
      obtain ⟨hce, hfr, _, _, _, hw⟩ := hk2.own.cell hpl
      have fx : FV .f32 (X (j * r + j)) (vals X (j * r + j)) := FV.mk' hw
      have HST : Hid (∀ M v, FV .f32 v (fop .add .f32 (vals X (j * r + j)) S) → Wk w (w.heap.size + 1 + 1) w2.heap.size g d2 w2.heap.size (w.heap.size + 1) r r N (fun t => if t = j * r + j then v else X t) ((w3.drewN M).setCell ⟨g, j * r + j, none⟩ (.float .f32 v))) := Lib.hid fun M v hv => (hk2.drewN (m := M)).stored hpl hv.2
      have HVN : Hid (∀ v, FV .f32 v (fop .add .f32 (vals X (j * r + j)) S) → ∀ t, t < N → vals (fun t => if t = j * r + j then v else X t) t = diagJ r VV S (j + 1) t) := Lib.hid fun v hv => diagJ_step hlt HV.out hpl hv
      obtain ⟨x, hx⟩ : ∃ x, x = X (j * r + j) := ⟨_, rfl⟩
      obtain ⟨xx, hxx⟩ : ∃ xx, xx = vals X (j * r + j) := ⟨_, rfl⟩
      rw [← hxx] at fx HST HVN
      rw [← hx] at hce fx
      simp only [Nat.zero_add] at *
      clear hk2 b3 hk' y0 y1 y2 hx hxx hw HV
      go_wp2_with (refine wpList_farith rfl _ _ _ _ _ rfl rfl _ _ _ rfl rfl fx fs ?_; intro r5 m5 hr5)
      go_roundw
      case rel => exact ⟨j + 1, _, by omega, by go_num, HVN.out _ hr5, HST.out _ _ hr5⟩
      case measure => simp [intOf] <;> omega
    · obtain rfl : j = r := by omega
      obtain ⟨y0, y1, y2⟩ := hk.box
      obtain ⟨z0, z1, z2⟩ := hk.res
      have o3 := hk.own
      have B3 := hk.bel
      have hlo := hk.lo
      have hmid := hk.mid
      have hice := hk.ice
      have htop := hk.top
      have HV := Lib.hid hv
      clear hk hv
      go_wp2_with fail
      refine bodyPost_ret (v := .agg #[.int .i64 j, .int .i64 j, .slice (some ⟨g, 0, none⟩) N d2]) (by simp [results, Try.results63, go_sem, y0, y1, y2, z0, z1, z2]) rfl ?_
      exact ⟨_, _, X, rfl, (by refine Own.to o3 (hk := fun g hg1 hg2 => by (try simp at hg1 hg2); repeat (first | rw [Below.heap_setCell _ _ _ _ (by simp; omega)] | rw [Below.heap_alloc _ _ _ (by simp [World.setCell]; omega)])) ?_ ?_ ?_ ?_ <;> (first | exact Nat.le_refl _ | omega | (simp [World.setCell]; done) | (simp [World.setCell]; omega))), fun t ht => (HV.out t ht).trans (diagJ_all HN.out ht), (by repeat first | (with_reducible exact B3) | (with_reducible refine Below.setCell ?_ (by first | exact Nat.le_refl _ | (simp; done) | (simp; omega) | omega) _) | (with_reducible refine Below.alloc ?_ (by first | exact Nat.le_refl _ | (simp; done) | (simp; omega) | omega) _) | (with_reducible refine below_drewN ?_ _) | (with_reducible refine Below.drew ?_))⟩
end Go.Proofs.Ytmjlhmbnaifhaac
