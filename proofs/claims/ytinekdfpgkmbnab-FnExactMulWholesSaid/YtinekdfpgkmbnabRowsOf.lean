/- Helper: the rows of a whole, of the program. Conditions: none. -/
import Derived.Test.YtinekdfpgkmbnabChunk
import Derived.Test.YtinekdfpgkmbnabValidWholeKey
set_option linter.unusedVariables false
set_option linter.unusedSimpArgs false
namespace Go.Proofs.Ytinekdfpgkmbnab
open Go.RowKit

theorem heldR {w0 W w' : World} {b : Nat} {u0 u1 u2 : Value} (hs : W.cell? ⟨b, 0, none⟩ = some u0 ∧ W.cell? ⟨b, 1, none⟩ = some u1 ∧ W.cell? ⟨b, 2, none⟩ = some u2 ∧ Below w0.heap.size w0 W)
    (hb : Below W.heap.size W w') (l : b < w0.heap.size) : w'.cell? ⟨b, 0, none⟩ = some u0 ∧ w'.cell? ⟨b, 1, none⟩ = some u1 ∧ w'.cell? ⟨b, 2, none⟩ = some u2 ∧ Below w0.heap.size w0 w' := by
  obtain ⟨h0, h1, h2, h6⟩ := hs
  have e1 : b < W.heap.size := Nat.lt_of_lt_of_le l h6.size
  exact ⟨(hb.cell (p := ⟨b, 0, none⟩) e1).trans h0, (hb.cell (p := ⟨b, 1, none⟩) e1).trans h1, (hb.cell (p := ⟨b, 2, none⟩) e1).trans h2, h6.trans (hb.mono h6.size)⟩
/-- What a box of one cell holds. -/
theorem chunk_any (b o c len cap : Nat) (hc : 1 ≤ c) (w : World) :
    Calls Try.prog 70 #[.slice (some ⟨b, o, none⟩) len cap, .int .i64 c] w fun e w' => e = .returned (.func (.func 84) #[] #[.pointer (some ⟨w.heap.size, 0, none⟩), .pointer (some ⟨w.heap.size + 1, 0, none⟩)]) ∧
      w'.cell? ⟨w.heap.size, 0, none⟩ = some (.slice (some ⟨b, o, none⟩) len cap) ∧ w'.cell? ⟨w.heap.size + 1, 0, none⟩ = some (.int .i64 c) ∧ w'.heap.size = w.heap.size + 1 + 1 ∧ Below w.heap.size w w' := by
  have hc1 : ¬ ((c : Int) < 1) := by omega
  go_enter Try.func70, Try.ntmps70
  go_wp2
  go_ret
  exact ⟨rfl, by simp [go_sem], by simp [go_sem], by simp, (by repeat first | (with_reducible exact Below.refl _ _) | (with_reducible refine Below.setCell ?_ (by first | exact Nat.le_refl _ | (simp; done) | (simp; omega) | omega) _) | (with_reducible refine Below.alloc ?_ (by first | exact Nat.le_refl _ | (simp; done) | (simp; omega) | omega) _) | (with_reducible refine below_drewN ?_ _) | (with_reducible refine Below.drew ?_))⟩
theorem collect_any (Bs Bz b o r c len cap : Nat) (hc : 1 ≤ c) (hc6 : c ≤ 6) (hr6 : r ≤ 6) (hlen : len = r * c) (hcap : len ≤ cap) (hcm : cap ≤ maxLen) (w : World) (hb : Bs < w.heap.size) (hbz : Bz < w.heap.size)
    (hBs : w.cell? ⟨Bs, 0, none⟩ = some (.slice (some ⟨b, o, none⟩) len cap)) (hBz : w.cell? ⟨Bz, 0, none⟩ = some (.int .i64 c)) :
    Calls Try.prog 69 #[.func (.func 84) #[] #[.pointer (some ⟨Bs, 0, none⟩), .pointer (some ⟨Bz, 0, none⟩)]] w fun e w' =>
      ∃ v, e = .returned v ∧ w'.ownsRow w.heap.size 22 1 v r ((List.range r).map (chunkV b o c)) ∧ Below w.heap.size w w' := by
  go_enter Try.func69, Try.ntmps69
  go_wp2_with fail
  go_at_call 83
  refine (callsIn_wide.1 (appendSeq_in Bs Bz b o r c len cap hc hc6 hr6 hlen hcap hcm _ hb hbz hBs hBz)).mono ?_
  rintro e w1 ⟨v, rfl, h1, h2⟩
  go_wp2
  go_ret
  exact ⟨v, rfl, h1, h2⟩
theorem IS.chunk {w : World} {g n d i c r : Nat} {Z : Nat → Int} (h : IS .i64 w (some ⟨g, 0, none⟩) n d Z) (hn : n = r * c) (hc : 1 ≤ c) (hi : i < r) : IS .i64 w (some ⟨g, 0 + i * c, none⟩) c c (fun k => Z (i * c + k)) := by
  have h1 := h.1
  have h2 := h.2.1
  have e1 : (i + 1) * c ≤ r * c := Nat.mul_le_mul_right c hi
  rw [Nat.add_mul, Nat.one_mul, ← hn] at e1
  refine ⟨Nat.le_refl _, by omega, fun t ht => ?_⟩
  obtain ⟨b', off', e, hbl, hce, hwf⟩ := h.2.2 (i * c + t) (by omega)
  simp only [Option.some.injEq, Addr.mk.injEq, and_true] at e
  obtain ⟨rfl, rfl⟩ := e
  exact ⟨g, 0 + i * c, rfl, hbl, by rw [Nat.add_assoc]; exact hce, hwf⟩
theorem chunk_rs {w2 : World} {base g n d c r : Nat} {v : Value} {Z : Nat → Int} (h : IS .i64 w2 (some ⟨g, 0, none⟩) n d Z) (hn : n = r * c) (hc : 1 ≤ c) (hr : 1 ≤ r) (hv : w2.ownsRow base 22 1 v r ((List.range r).map (chunkV g 0 c))) :
    ∃ a k, v = .slice a r k ∧ RS w2 a r k c (fun i j => Z (i * c + j)) := by
  have h' := hv
  rcases hv.2 with ⟨_, e⟩ | ⟨q, cap, cur, rfl, hbg, hh, hjc, hcm, hcs, htake⟩
  · omega
  · refine ⟨_, _, rfl, hjc, hcm, fun i hi => ⟨q, 0, _, _, rfl, (Array.getElem?_eq_some_iff.1 hh).1, ?_, IS.chunk h hn hc hi⟩⟩
    rw [Nat.zero_add, h'.cellAt i (by omega)]
    simp [hi, chunkV]
set_option maxHeartbeats 2000000 in
theorem rowsOf_any (r c n b off cap : Nat) (Z : Nat → Int) (w : World) (hr1 : 1 ≤ r) (hr : r ≤ 6) (hc1 : 1 ≤ c) (hc : c ≤ 6) (hn : n = r * c) (h : IS .i64 w (some ⟨b, off, none⟩) n cap Z) :
    Calls Try.prog 48 #[.agg #[.int .i64 r, .int .i64 c, .slice (some ⟨b, off, none⟩) n cap]] w (RowsNew w r c (fun i j => Z (i * c + j))) := by
  have hn36 : n ≤ 36 := by have : r * c ≤ 6 * 6 := Nat.mul_le_mul hr hc; omega
  have hpos : 0 < n := by rw [hn]; exact Nat.mul_pos hr1 hc1
  have HN := Lib.hid hn
  have HW := Lib.hid h.wfs
  clear hn
  go_enter Try.func48, Try.ntmps48
  go_wp2_with fail
  generalize hwa : w.alloc (.cells #[.int .i64 r, .int .i64 c, .slice (some ⟨b, off, none⟩) n cap] 24) = wa
  have Ba : Below w.heap.size w wa := by rw [← hwa]; exact (by repeat first | (with_reducible exact Below.refl _ _) | (with_reducible refine Below.setCell ?_ (by first | exact Nat.le_refl _ | (simp; done) | (simp; omega) | omega) _) | (with_reducible refine Below.alloc ?_ (by first | exact Nat.le_refl _ | (simp; done) | (simp; omega) | omega) _) | (with_reducible refine below_drewN ?_ _) | (with_reducible refine Below.drew ?_))
  have sa : wa.heap.size = w.heap.size + 1 := by rw [← hwa]; simp
  have Xa : Box wa w.heap.size r c (some ⟨b, off, none⟩) n cap := by rw [← hwa]; exact Box.new _ _ _ _ _ _ _
  have Fa := h.below Ba (Nat.le_refl _)
  have la : w.heap.size < wa.heap.size := by omega
  obtain ⟨x0, x1, x2⟩ := Xa
  have HB := Lib.hid Ba
  clear hwa h Ba
  go_region_held3 (fun w' => w'.cell? ⟨w.heap.size, 0, none⟩ = some (.int .i64 r) ∧ w'.cell? ⟨w.heap.size, 1, none⟩ = some (.int .i64 c) ∧ w'.cell? ⟨w.heap.size, 2, none⟩ = some (.slice (some ⟨b, off, none⟩) n cap) ∧ Below wa.heap.size wa w')
    (first | exact ⟨x0, x1, x2, (by first | exact (Below.refl _ _).drew | exact (below_drewN (Below.refl _ _) _).drew)⟩ | exact heldR (by assumption) (by assumption) la)
    (first | (go_at_call 71; refine (cloneI_any b off n cap Z _ hpos (by omega) (Fa.below (by go_split_ands; assumption) (Nat.le_refl _))).mono ?_; rintro e w1 ⟨g, d, rfl, o1, bA⟩; obtain ⟨a', c', e', hI⟩ := IS.ofRow (Z := Z) o1 (fun j hj => cellsI_at hj) HW.out; (simp only [Value.slice.injEq, true_and] at e'; obtain ⟨rfl, rfl⟩ := e')) | (go_at_call 70; refine (chunk_any g 0 c n d hc1 _).mono ?_; rintro e w2 ⟨rfl, k1, k2, k3, bB⟩) | (go_at_call 69; refine (collect_any _ _ g 0 r c n d hc1 hc hr HN.out hI.1 hI.2.1 _ (by omega) (by omega) k1 k2).mono ?_; rintro e w3 ⟨v, rfl, o3, bC⟩))
  have B3 : Below wa.heap.size wa w3 := by go_split_ands; assumption
  have B4 := Lib.hid (HB.out.trans (B3.mono HB.out.size))
  have hI3 := (hI.below bB (Nat.le_refl _)).below bC (Nat.le_refl _)
  obtain ⟨a, k, rfl, hR⟩ := chunk_rs hI3 HN.out hc1 hr1 o3
  have HR := Lib.hid hR
  clear B3 hI hI3 o1 o3 bA bB bC k1 k2 k3 hR
  go_wp2_with fail
  go_ret
  exact ⟨_, _, rfl, HR.out, B4.out⟩
end Go.Proofs.Ytinekdfpgkmbnab
