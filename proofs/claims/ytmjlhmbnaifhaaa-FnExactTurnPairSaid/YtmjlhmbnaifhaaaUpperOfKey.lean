/- Helper: upper squares of factors, of the program and of its reference. Conditions: none. -/
import Derived.Test.YtmjlhmbnaifhaaaClearKey
import Derived.Test.YtmjlhmbnaifhaaaPutOwn
set_option linter.unusedVariables false
set_option linter.unusedSimpArgs false
namespace Go.Proofs.Ytmjlhmbnaifhaaa
open Go.RowKit

theorem diag_told {c i t : Nat} : (told c i i t ∧ t % c < t / c) ↔ (told c (i + 1) 0 t ∧ t % c < t / c) := by
  unfold told
  generalize t / c = x
  generalize t % c = y
  omega
theorem clear_diag {c i t : Nat} {Z : Nat → Nat} : clearZ c isBe Z i i t = clearZ c isBe Z (i + 1) 0 t := by
  unfold clearZ isBe
  by_cases h : told c i i t ∧ decide (t % c < t / c) = true
  · have h2 := diag_told.1 ⟨h.1, of_decide_eq_true h.2⟩
    rw [if_pos h, if_pos ⟨h2.1, h.2⟩]
  · rw [if_neg h, if_neg (fun q => h ⟨(diag_told.2 ⟨q.1, of_decide_eq_true q.2⟩).1, q.2⟩)]
set_option maxRecDepth 20000 in
set_option maxHeartbeats 2000000 in
theorem l03Upper_any (p r n ba oa c : Nat) (Z : Nat → Nat) (w : World) (h1 : 1 ≤ r) (h12 : r ≤ 12) (hn : n = r * r) (hp : p < w.heap.size) (hb : Box w p r r (some ⟨ba, oa, none⟩) n c) (h : FS .f32 w (some ⟨ba, oa, none⟩) n c Z) :
    Calls Try.prog 45 #[.pointer (some ⟨p, 0, none⟩)] w (CopyOwn w r r n (clearZ r isBe Z r 0)) := by
  have HN := Lib.hid hn
  have hn144 : n ≤ 144 := by have := sides_le h12 h12; omega
  have hpos : 0 < n := by rw [hn]; exact Nat.mul_pos h1 h1
  clear hn
  go_enter Try.func45, Try.ntmps45
  go_wp2_with fail
  go_at_call 56
  refine (l02Own_any p ba oa n c r r Z _ hpos hn144 (by simp; omega) (hb.below (by repeat first | (with_reducible exact Below.refl _ _) | (with_reducible refine Below.setCell ?_ (by first | exact Nat.le_refl _ | (simp; done) | (simp; omega) | omega) _) | (with_reducible refine Below.alloc ?_ (by first | exact Nat.le_refl _ | (simp; done) | (simp; omega) | omega) _) | (with_reducible refine below_drewN ?_ _) | (with_reducible refine Below.drew ?_)) hp) (h.below (by repeat first | (with_reducible exact Below.refl _ _) | (with_reducible refine Below.setCell ?_ (by first | exact Nat.le_refl _ | (simp; done) | (simp; omega) | omega) _) | (with_reducible refine Below.alloc ?_ (by first | exact Nat.le_refl _ | (simp; done) | (simp; omega) | omega) _) | (with_reducible refine below_drewN ?_ _) | (with_reducible refine Below.drew ?_)) (Nat.le_refl _))).mono ?_
  rintro e w1 ⟨g, d, rfl, o1, b1⟩
  have B1 : Below w.heap.size w w1 := Below.trans (by repeat first | (with_reducible exact Below.refl _ _) | (with_reducible refine Below.setCell ?_ (by first | exact Nat.le_refl _ | (simp; done) | (simp; omega) | omega) _) | (with_reducible refine Below.alloc ?_ (by first | exact Nat.le_refl _ | (simp; done) | (simp; omega) | omega) _) | (with_reducible refine below_drewN ?_ _) | (with_reducible refine Below.drew ?_)) (b1.mono (by simp <;> omega))
  have s1 : w.heap.size < w1.heap.size := by have := b1.size; simp at this; omega
  have XR : Box w1 w.heap.size 0 0 none 0 0 := Box.below (by refine ⟨?_, ?_, ?_⟩ <;> simp [go_sem]) b1 (by simp)
  have IR : ∀ i, w1.frozen? ⟨w.heap.size, i, none⟩ = false := fun i => (b1.frozen (p := ⟨w.heap.size, i, none⟩) (by simp)).trans (by simp [go_sem])
  have hfs := o1.fs
  have hd1 : n ≤ d := hfs.1
  have hd2 : d ≤ 9223372036854775807 := by have hh := hfs.2.1; unfold maxLen at hh; omega
  have wk := Wk.start (W0 := w) (B := w.heap.size + 1) (rb := w.heap.size) (R := (r : Int)) (C := (r : Int)) 26 (Own.mono (B' := w.heap.size + 1) o1 (by simp) (Nat.le_refl _) (Nat.le_refl _)) XR IR B1 (Nat.le_refl _) (by omega) s1
  clear o1 b1 B1 XR IR hfs
  go_wp2
  go_loopw [4] (fun i wr => ∃ j : Nat, j ≤ r ∧ i = .int .i64 j ∧ Wk w (w.heap.size + 1) w1.heap.size g d w1.heap.size w.heap.size r r n (clearZ r isBe Z j 0) wr) (fun i _ => r - (intOf i).toNat)
  case atStart => exact ⟨0, Nat.zero_le _, rfl, wk.same (fun t _ => clear_zero.symm)⟩
  case round =>
    obtain ⟨j, hj, rfl, hk⟩ := hrel
    clear wk
    by_cases hlt : j < r
    · obtain ⟨y0, y1, y2⟩ := hk.box
      have hk' := Lib.hid hk
      clear hk
      go_wp2
      go_loopw [5] (fun k wr => ∃ q : Nat, q ≤ j ∧ k = .int .i64 q ∧ Wk w (w.heap.size + 1) w1.heap.size g d w1.heap.size w.heap.size r r n (clearZ r isBe Z j q) wr) (fun k _ => j - (intOf k).toNat)
      case atStart => exact ⟨0, Nat.zero_le _, rfl, hk'.out⟩
      case round =>
        obtain ⟨q, hq, rfl, hk3⟩ := hrel
        clear hk' y0 y1 y2
        by_cases hlt2 : q < j
        · have hqr : q < r := by omega
          obtain ⟨g1, g2, g3, g4⟩ := hk3.facts hpos
          obtain ⟨y0, y1, y2⟩ := hk3.box
          have hpl := place_lt hlt hqr
          rw [← HN.out] at hpl
          have hst := hk3.stored (t := j * r + q) (v := 0) hpl (by decide)
          obtain ⟨hce, hfr, _⟩ := hk3.own.cell hpl
          have hst' := Lib.hid (hst.same (Y := clearZ r isBe Z j (q + 1)) (fun t _ => clear_hit hqr (decide_eq_true hlt2) t))
          have he : ((j : Int) * (r : Int) + (q : Int)) = ((j * r + q : Nat) : Int) := by rw [Int.natCast_add, Int.natCast_mul]
          have ht : ((j : Int) * (r : Int) + (q : Int)).toNat = j * r + q := by rw [he]; exact Int.toNat_natCast _
          have hl1 : (j : Int) * (r : Int) + (q : Int) < (n : Int) := by rw [he]; omega
          have h0 : (0 : Int) ≤ (j : Int) * (r : Int) := by rw [← Int.natCast_mul]; omega
          clear hst hk3 he
          go_wp2_with fail
          go_roundw
          case rel => exact ⟨q + 1, by omega, by go_num, hst'.out⟩
          case measure => simp [intOf]; omega
        · obtain rfl : q = j := by omega
          have hst' := Lib.hid (hk3.same (fun t _ => clear_diag))
          clear hk3
          go_wp2_with fail
          go_roundw
          case rel => exact ⟨q + 1, by omega, by go_num, hst'.out⟩
          case measure => simp [intOf]; omega
    · obtain rfl : j = r := by omega
      obtain ⟨y0, y1, y2⟩ := hk.box
      obtain ⟨z0, z1, z2⟩ := hk.res
      have o3 := hk.own
      have B3 := hk.bel
      have hlo := hk.lo
      have hmid := hk.mid
      have hice := hk.ice
      have htop := hk.top
      clear hk
      go_wp2_with fail
      refine bodyPost_ret (v := .agg #[.int .i64 j, .int .i64 j, .slice (some ⟨g, 0, none⟩) n d]) (by simp [results, Try.results45, go_sem, y0, y1, y2, z0, z1, z2]) rfl ?_
      exact ⟨_, _, rfl, (by refine Own.to o3 (hk := fun g hg1 hg2 => by (try simp at hg1 hg2); repeat (first | rw [Below.heap_setCell _ _ _ _ (by simp; omega)] | rw [Below.heap_alloc _ _ _ (by simp [World.setCell]; omega)])) ?_ ?_ ?_ ?_ <;> (first | exact Nat.le_refl _ | omega | (simp [World.setCell]; done) | (simp [World.setCell]; omega))), (by repeat first | (with_reducible exact B3) | (with_reducible refine Below.setCell ?_ (by first | exact Nat.le_refl _ | (simp; done) | (simp; omega) | omega) _) | (with_reducible refine Below.alloc ?_ (by first | exact Nat.le_refl _ | (simp; done) | (simp; omega) | omega) _) | (with_reducible refine below_drewN ?_ _) | (with_reducible refine Below.drew ?_))⟩
end Go.Proofs.Ytmjlhmbnaifhaaa
