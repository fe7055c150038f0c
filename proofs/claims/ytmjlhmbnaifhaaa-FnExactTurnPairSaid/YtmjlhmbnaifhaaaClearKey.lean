/- Helper: squares of which places are cleared, of the program. Conditions: none. -/
import Derived.Test.YtmjlhmbnaifhaaaWk
import Derived.Test.YtmjlhmbnaifhaaaSquare
import Derived.Test.YtmjlhmbnaifhaaaMid
import Derived.Test.YtmjlhmbnaifhaaaKindSteps
import Derived.Test.YtmjlhmbnaifhaaaBoxes
set_option linter.unusedVariables false
set_option linter.unusedSimpArgs false
namespace Go.Proofs.Ytmjlhmbnaifhaaa
open Go.RowKit

def told (c i k t : Nat) : Prop := t / c < i ∨ (t / c = i ∧ t % c < k)
instance (c i k t : Nat) : Decidable (told c i k t) := by unfold told; infer_instance
theorem told_succ {c i k t : Nat} (hk : k < c) : told c i (k + 1) t ↔ (told c i k t ∨ t = i * c + k) := by
  unfold told
  have hp := place_eq (c := c) (t := t)
  constructor
  · rintro (h | ⟨h1, h2⟩)
    · exact .inl (.inl h)
    · by_cases h3 : t % c < k
      · exact .inl (.inr ⟨h1, h3⟩)
      · have e2 : t % c = k := by omega
        rw [h1, e2] at hp
        exact .inr hp.symm
  · rintro ((h | ⟨h1, h2⟩) | h)
    · exact .inl h
    · exact .inr ⟨h1, by omega⟩
    · subst h
      obtain ⟨h1, h2⟩ := place_div (j := i) hk
      exact .inr ⟨h1, by omega⟩
theorem told_row {c i t : Nat} (hc : 0 < c) : told c i c t ↔ told c (i + 1) 0 t := by
  have h0 := Nat.mod_lt t hc
  unfold told
  generalize t / c = x
  generalize t % c = y at *
  omega
theorem told_all {c n t : Nat} (hn : n = c * c) (ht : t < n) : told c c 0 t := .inl (Nat.div_lt_of_lt_mul (by rw [← hn]; exact ht))
theorem told_none {c t : Nat} : ¬ told c 0 0 t := fun h => h.elim (Nat.not_lt_zero _) fun h => Nat.not_lt_zero _ h.2
/-- A square of which the places that f names are nothing, as far as told. -/
def clearZ (c : Nat) (f : Nat → Nat → Bool) (Z : Nat → Nat) (i k t : Nat) : Nat := if told c i k t ∧ f (t / c) (t % c) = true then 0 else Z t
theorem clear_hit {c i k : Nat} {f : Nat → Nat → Bool} {Z : Nat → Nat} (hk : k < c) (hf : f i k = true) (t : Nat) : (if t = i * c + k then 0 else clearZ c f Z i k t) = clearZ c f Z i (k + 1) t := by
  unfold clearZ
  by_cases e : t = i * c + k
  · rw [if_pos e, if_pos]
    refine ⟨(told_succ hk).2 (.inr e), ?_⟩
    subst e
    obtain ⟨h1, h2⟩ := place_div (j := i) hk
    rw [h1, h2]; exact hf
  · rw [if_neg e]
    by_cases h : told c i k t ∧ f (t / c) (t % c) = true
    · rw [if_pos h, if_pos ⟨(told_succ hk).2 (.inl h.1), h.2⟩]
    · rw [if_neg h, if_neg (fun q => h ⟨((told_succ hk).1 q.1).resolve_right e, q.2⟩)]
theorem clear_miss {c i k : Nat} {f : Nat → Nat → Bool} {Z : Nat → Nat} (hk : k < c) (hf : f i k = false) (t : Nat) : clearZ c f Z i k t = clearZ c f Z i (k + 1) t := by
  unfold clearZ
  by_cases h : told c i k t ∧ f (t / c) (t % c) = true
  · rw [if_pos h, if_pos ⟨(told_succ hk).2 (.inl h.1), h.2⟩]
  · rw [if_neg h, if_neg]
    intro q
    rcases (told_succ hk).1 q.1 with q1 | q1
    · exact h ⟨q1, q.2⟩
    · subst q1
      obtain ⟨h1, h2⟩ := place_div (j := i) hk
      have q2 := q.2
      rw [h1, h2, hf] at q2
      cases q2
theorem clear_row {c i t : Nat} {f : Nat → Nat → Bool} {Z : Nat → Nat} (hc : 0 < c) : clearZ c f Z i c t = clearZ c f Z (i + 1) 0 t := by
  unfold clearZ
  by_cases h : told c i c t ∧ f (t / c) (t % c) = true
  · rw [if_pos h, if_pos ⟨(told_row hc).1 h.1, h.2⟩]
  · rw [if_neg h, if_neg (fun q => h ⟨(told_row hc).2 q.1, q.2⟩)]
theorem clear_zero {c t : Nat} {f : Nat → Nat → Bool} {Z : Nat → Nat} : clearZ c f Z 0 0 t = Z t := by
  unfold clearZ; rw [if_neg (fun q => told_none q.1)]
def isAb (i k : Nat) : Bool := decide (i < k)
def isBe (i k : Nat) : Bool := decide (k < i)

theorem placeBelow_any (i k : Nat) (w : World) : Calls Try.prog 51 #[.agg #[.int .i64 i, .int .i64 k]] w fun e w' => e = .returned (.bool (isBe i k)) ∧ Below w.heap.size w w' := by
  unfold isBe
  by_cases h : k < i
  · have hd : decide (k < i) = true := decide_eq_true h
    have hi : decide ((k : Int) < (i : Int)) = true := decide_eq_true (by omega)
    rw [hd]
    go_enter Try.func51, Try.ntmps51
    go_wp2
    go_ret
    exact ⟨by first | rfl | simp [hi], (by repeat first | (with_reducible exact Below.refl _ _) | (with_reducible refine Below.setCell ?_ (by first | exact Nat.le_refl _ | (simp; done) | (simp; omega) | omega) _) | (with_reducible refine Below.alloc ?_ (by first | exact Nat.le_refl _ | (simp; done) | (simp; omega) | omega) _) | (with_reducible refine below_drewN ?_ _) | (with_reducible refine Below.drew ?_))⟩
  · have hd : decide (k < i) = false := decide_eq_false h
    have hi : decide ((k : Int) < (i : Int)) = false := decide_eq_false (by omega)
    rw [hd]
    go_enter Try.func51, Try.ntmps51
    go_wp2
    go_ret
    exact ⟨by first | rfl | simp [hi], (by repeat first | (with_reducible exact Below.refl _ _) | (with_reducible refine Below.setCell ?_ (by first | exact Nat.le_refl _ | (simp; done) | (simp; omega) | omega) _) | (with_reducible refine Below.alloc ?_ (by first | exact Nat.le_refl _ | (simp; done) | (simp; omega) | omega) _) | (with_reducible refine below_drewN ?_ _) | (with_reducible refine Below.drew ?_))⟩
set_option maxRecDepth 20000 in
set_option maxHeartbeats 2000000 in
theorem clearedBelow_any (c n b off cap : Nat) (Z : Nat → Nat) (w : World) (h1 : 1 ≤ c) (h2 : c ≤ 12) (hn : n = c * c) (h : FS .f32 w (some ⟨b, off, none⟩) n cap Z) :
    Calls Try.prog 50 #[.agg #[.int .i64 c, .int .i64 c, .slice (some ⟨b, off, none⟩) n cap], .func (.func 51) #[] #[]] w fun e w' => ∃ g d, e = .returned (.agg #[.int .i64 c, .int .i64 c, .slice (some ⟨g, 0, none⟩) n d]) ∧ Own 33 .f32 w.heap.size w'.heap.size w' (some ⟨g, 0, none⟩) n d (clearZ c isBe Z c 0) ∧ Below w.heap.size w w' := by
  have hN := Lib.hid hn
  have hn144 : n ≤ 144 := by have := sides_le h2 h2; omega
  have hpos : 0 < n := by rw [hn]; exact Nat.mul_pos h1 h1
  clear hn
  obtain ⟨f, hff⟩ : ∃ f, f = isBe := ⟨_, rfl⟩
  rw [← hff]
  have HF := Lib.hid hff
  clear hff
  go_enter Try.func50, Try.ntmps50
  go_wp2_with fail
  go_at_call 70
  refine (copyOf_any c c b off n cap Z _ hpos (by omega) (h.below (by repeat first | (with_reducible exact Below.refl _ _) | (with_reducible refine Below.setCell ?_ (by first | exact Nat.le_refl _ | (simp; done) | (simp; omega) | omega) _) | (with_reducible refine Below.alloc ?_ (by first | exact Nat.le_refl _ | (simp; done) | (simp; omega) | omega) _) | (with_reducible refine below_drewN ?_ _) | (with_reducible refine Below.drew ?_)) (Nat.le_refl _))).mono ?_
  rintro e w1 ⟨g, d, rfl, o1, b1⟩
  have s1 : w.heap.size + 1 + 1 ≤ w1.heap.size := by have := b1.size; simp at this; omega
  have BB : Below w.heap.size w w1 := Below.trans (by repeat first | (with_reducible exact Below.refl _ _) | (with_reducible refine Below.setCell ?_ (by first | exact Nat.le_refl _ | (simp; done) | (simp; omega) | omega) _) | (with_reducible refine Below.alloc ?_ (by first | exact Nat.le_refl _ | (simp; done) | (simp; omega) | omega) _) | (with_reducible refine below_drewN ?_ _) | (with_reducible refine Below.drew ?_)) (b1.mono (by simp <;> omega))
  have XR : Box w1 (w.heap.size + 1) 0 0 none 0 0 := Box.below (by refine ⟨?_, ?_, ?_⟩ <;> simp [go_sem]) b1 (by simp)
  have IR : ∀ i, w1.frozen? ⟨w.heap.size + 1, i, none⟩ = false := fun i => (b1.frozen (p := ⟨w.heap.size + 1, i, none⟩) (by simp)).trans (by simp [go_sem])
  have hfs := o1.fs
  have hd1 : n ≤ d := hfs.1
  have hd2 : d ≤ 9223372036854775807 := by have hh := hfs.2.1; unfold maxLen at hh; omega
  have wk := Wk.start (W0 := w) (B := w.heap.size + 1 + 1) (rb := w.heap.size + 1) (R := (c : Int)) (C := (c : Int)) 26 (Own.mono (B' := w.heap.size + 1 + 1) o1 (by simp) (Nat.le_refl _) (Nat.le_refl _)) XR IR BB (by omega) (by omega) (by omega)
  clear o1 b1 BB XR IR hfs
  go_wp2
  go_loopw [13] (fun i wr => ∃ j : Nat, j ≤ c ∧ i = .int .i64 j ∧ Wk w (w.heap.size + 1 + 1) w1.heap.size g d w1.heap.size (w.heap.size + 1) c c n (clearZ c f Z j 0) wr) (fun i _ => c - (intOf i).toNat)
  case atStart => exact ⟨0, Nat.zero_le _, rfl, wk.same (fun t _ => clear_zero.symm)⟩
  case round =>
    obtain ⟨j, hj, rfl, hk⟩ := hrel
    clear wk
    obtain ⟨g1, g2, g3, g4⟩ := hk.facts hpos
    by_cases hlt : j < c
    · obtain ⟨y0, y1, y2⟩ := hk.box
      have hk' := Lib.hid hk
      clear hk
      go_wp2_with fail
      go_at_call 36
      refine (rowOf_any g 0 c c n d j _ h2 h1 h2 hN.out hd1 hd2 hlt).mono ?_
      rintro e w2 ⟨rfl, b2⟩
      have hk2 := hk'.out.below b2 g3 g4
      simp only [Nat.zero_add] at *
      clear b2 hk' y0 y1 y2
      go_wp2
      go_loopw [21] (fun k wr => ∃ q : Nat, q ≤ c ∧ k = .int .i64 q ∧ Wk w (w.heap.size + 1 + 1) w1.heap.size g d w1.heap.size (w.heap.size + 1) c c n (clearZ c f Z j q) wr) (fun k _ => c - (intOf k).toNat)
      case atStart => exact ⟨0, Nat.zero_le _, rfl, hk2⟩
      case round =>
        obtain ⟨q, hq, rfl, hk3⟩ := hrel
        clear hk2 g1 g2 g3 g4
        obtain ⟨g1, g2, g3, g4⟩ := hk3.facts hpos
        by_cases hlt2 : q < c
        · have hpl := place_lt hlt hlt2
          rw [← hN.out] at hpl
          have hcl : ∀ W, Calls Try.prog 51 #[.agg #[.int .i64 j, .int .i64 q]] W fun e w' => e = .returned (.bool (f j q)) ∧ Below W.heap.size W w' := fun W => by rw [HF.out]; exact placeBelow_any j q W
          have hk4 := Lib.hid hk3
          clear hk3
          cases hfq : f j q with
          | true =>
            rw [hfq] at hcl
            go_wp2_with fail
            go_at_call 51
            refine (hcl _).mono ?_
            rintro e w3 ⟨rfl, b3⟩
            have hk5 := hk4.out.below b3 g3 g4
            have hst := hk5.stored (t := j * c + q) (v := 0) hpl (by decide)
            have hst' := Lib.hid (hst.same (Y := clearZ c f Z j (q + 1)) (fun t _ => clear_hit hlt2 hfq t))
            obtain ⟨hce, hfr, _⟩ := hk5.own.cell hpl
            clear hst hk5 hk4 b3 hfq hcl
            go_wp2_with fail
            go_roundw
            case rel => exact ⟨q + 1, by omega, by go_num, hst'.out⟩
            case measure => simp [intOf]; omega
          | false =>
            rw [hfq] at hcl
            go_wp2_with fail
            go_at_call 51
            refine (hcl _).mono ?_
            rintro e w3 ⟨rfl, b3⟩
            have hst' := Lib.hid ((hk4.out.below b3 g3 g4).same (Y := clearZ c f Z j (q + 1)) (fun t _ => clear_miss hlt2 hfq t))
            clear hk4 b3 hfq hcl
            go_wp2_with fail
            go_roundw
            case rel => exact ⟨q + 1, by omega, by go_num, hst'.out⟩
            case measure => simp [intOf]; omega
        · obtain rfl : q = c := by omega
          have hst' := Lib.hid (hk3.same (fun t _ => clear_row h1))
          clear hk3
          go_wp2_with fail
          go_roundw
          case rel => exact ⟨j + 1, by omega, by go_num, hst'.out⟩
          case measure => simp [intOf]; omega
    · obtain rfl : j = c := by omega
      obtain ⟨y0, y1, y2⟩ := hk.box
      obtain ⟨z0, z1, z2⟩ := hk.res
      have o2 := hk.own
      have B2 := hk.bel
      have hlo := hk.lo
      have hmid := hk.mid
      have hice := hk.ice
      clear hk
      go_wp2_with fail
      refine bodyPost_ret (v := .agg #[.int .i64 j, .int .i64 j, .slice (some ⟨g, 0, none⟩) n d]) (by simp [results, Try.results50, go_sem, y0, y1, y2, z0, z1, z2]) rfl ?_
      exact ⟨_, _, rfl, (by refine Own.to o2 (hk := fun g hg1 hg2 => by (try simp at hg1 hg2); repeat (first | rw [Below.heap_setCell _ _ _ _ (by simp; omega)] | rw [Below.heap_alloc _ _ _ (by simp [World.setCell]; omega)])) ?_ ?_ ?_ ?_ <;> (first | exact Nat.le_refl _ | omega | (simp [World.setCell]; done) | (simp [World.setCell]; omega))), (by repeat first | (with_reducible exact B2) | (with_reducible refine Below.setCell ?_ (by first | exact Nat.le_refl _ | (simp; done) | (simp; omega) | omega) _) | (with_reducible refine Below.alloc ?_ (by first | exact Nat.le_refl _ | (simp; done) | (simp; omega) | omega) _) | (with_reducible refine below_drewN ?_ _) | (with_reducible refine Below.drew ?_))⟩
end Go.Proofs.Ytmjlhmbnaifhaaa
