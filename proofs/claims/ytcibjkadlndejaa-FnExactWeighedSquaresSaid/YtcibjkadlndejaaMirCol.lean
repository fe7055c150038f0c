/- Helper: a column of a matrix as a list of its own, of the reference. Conditions: none. -/
import Derived.Test.YtcibjkadlndejaaMirDefs
import Derived.Test.YtcibjkadlndejaaNums
import Derived.Deep.AppendLies
set_option linter.unusedVariables false
set_option linter.unusedSimpArgs false
namespace Go.Proofs.Ytcibjkadlndejaa
open Go.RowKit

set_option maxHeartbeats 1000000 in
theorem l03Column_any (p r c n b off cap k : Nat) (Z : Nat → Nat) (w : World) (hr1 : 1 ≤ r) (hr : r ≤ 12) (hc : c ≤ 12) (hn : n = r * c) (hk : k < c) (hp : p < w.heap.size) (hb : Box w p r c (some ⟨b, off, none⟩) n cap) (h : FS .f32 w (some ⟨b, off, none⟩) n cap Z) :
    Calls Try.prog 59 #[.pointer (some ⟨p, 0, none⟩), .int .i64 k] w fun e w' => ∃ g d Y, e = .returned (.slice (some ⟨g, 0, none⟩) r d) ∧ Own 41 .f32 w.heap.size w'.heap.size w' (some ⟨g, 0, none⟩) r d Y ∧ (∀ i, i < r → vals Y i = vals Z (i * c + k)) ∧ Below w.heap.size w w' := by
  obtain ⟨i0, hi, hz0, hz1, hz2⟩ := info_parts info32
  have hL := World.ownsRow_lit (base := w.heap.size) (e := 41) (size := 1) w #[] 0 (by simp) (Nat.zero_le _) rfl
  have HN := Lib.hid hn
  obtain ⟨x0, x1, x2⟩ := hb
  have hbox : Box w p r c (some ⟨b, off, none⟩) n cap := ⟨x0, x1, x2⟩
  clear hn
  go_enter Try.func59, Try.ntmps59
  go_wp2
  go_loopw [5, 6] (fun v i wr => ∃ (j : Nat) (xs : List Value), j ≤ r ∧ i = .int .i64 j ∧ Grow w j (fun i => vals Z (i * c + k)) wr v xs) (fun _ i _ => r - (intOf i).toNat)
  case atStart => exact ⟨0, [], Nat.zero_le _, rfl, by simpa using hL, fun t ht => absurd ht (Nat.not_lt_zero _), (by repeat first | (with_reducible exact Below.refl _ _) | (with_reducible refine Below.setCell ?_ (by first | exact Nat.le_refl _ | (simp; done) | (simp; omega) | omega) _) | (with_reducible refine Below.alloc ?_ (by first | exact Nat.le_refl _ | (simp; done) | (simp; omega) | omega) _) | (with_reducible refine below_drewN ?_ _) | (with_reducible refine Below.drew ?_)), _, _, rfl⟩
  case round =>
    obtain ⟨j, xs, hj, rfl, hg⟩ := hrel
    clear hL x0 x1 x2
    have hbw := hbox.below hg.bel hp
    obtain ⟨x0, x1, x2⟩ := hbw
    have hbw : Box wr p r c (some ⟨b, off, none⟩) n cap := ⟨x0, x1, x2⟩
    have hfw := h.below hg.bel (Nat.le_refl _)
    obtain ⟨g, cp, rfl⟩ := hg.shape
    have HG := Lib.hid hg
    have hrow := hg.own
    have hbs := hg.bel.size
    by_cases hlt : j < r
    · have hd : decide ((j : Int) < (r : Int)) = true := decide_eq_true (by omega)
      have hpl : j * c + k < n := by rw [HN.out]; exact place_lt hlt hk
      have hfz : FV .f32 (Z (j * c + k)) (vals Z (j * c + k)) := (hfw.at hpl).elim fun _ q => q.elim fun _ q => q.2.2.2
      have hA := fun m => specAt_any p b off r c n cap j k Z (wr.drewN m) hr hc HN.out (Box.drewN hbw) (FS.drewN hfw) hlt hk
      generalize Z (j * c + k) = z at hA hfz
      clear hg
      go_wp2_with fail
      go_at_call 71
      refine (hA 0).mono ?_
      rintro e w1' ⟨rfl, m1, rfl⟩
      go_wp2_with (first
        | (at_builtin
           refine wpList_append_lies _ rfl _ _ _ rfl w.heap.size 41 i0 _ 1 4 Try.underlying22 hi hz0 hz1 hz2 rfl (by omega) (.slice (some ⟨g, 0, none⟩) j cp) j xs rfl (by exact ownsRow_below hrow (by repeat first | (with_reducible exact Below.refl _ _) | (with_reducible refine Below.setCell ?_ (by first | exact Nat.le_refl _ | (simp; done) | (simp; omega) | omega) _) | (with_reducible refine Below.alloc ?_ (by first | exact Nat.le_refl _ | (simp; done) | (simp; omega) | omega) _) | (with_reducible refine below_drewN ?_ _) | (with_reducible refine Below.drew ?_))) ⟨wr.heap.size, 0, none⟩ 1 1 [.float .f32 z] rfl rfl
                (by exact World.news_of_block (cs := #[.float .f32 z]) (t := 41) (fr := (0, 0)) (heap_alloc_new _ _)) (by simp [Value.oneCell']) (by omega) (by unfold maxLen; omega) (by omega) (by simp; omega) (wr.heap.size + 1) (by simp) ?_
           intro gg cp2 w2 hown2 hgrow2 hat2 hlt3
           have hst := Lib.hid (HG.out.step (by repeat first | (with_reducible exact Below.refl _ _) | (with_reducible refine Below.setCell ?_ (by first | exact Nat.le_refl _ | (simp; done) | (simp; omega) | omega) _) | (with_reducible refine Below.alloc ?_ (by first | exact Nat.le_refl _ | (simp; done) | (simp; omega) | omega) _) | (with_reducible refine below_drewN ?_ _) | (with_reducible refine Below.drew ?_)) hown2 hgrow2 hfz)
           clear hown2 hgrow2 hat2 hlt3))
      go_roundw
      case rel => exact ⟨j + 1, _, by omega, by go_num, hst.out⟩
      case measure => simp [intOf]; omega
    · obtain rfl : j = r := by omega
      have hd : decide ((j : Int) < (j : Int)) = false := decide_eq_false (by omega)
      have hY : ∃ Y : Nat → Nat, ∀ t, t < j → xs[t]? = some (.float .f32 (Y t)) ∧ FV .f32 (Y t) (vals Z (t * c + k)) := choose_upto (p := fun t z => xs[t]? = some (.float .f32 z) ∧ FV .f32 z (vals Z (t * c + k))) j hg.val
      obtain ⟨Y, hY⟩ := hY
      obtain ⟨g', c', e1, o1, _, _⟩ := own_of_row hrow (by omega) (fun t ht => (hY t ht).1) (fun t ht => (hY t ht).2.2)
      simp only [Value.slice.injEq, Option.some.injEq, Addr.mk.injEq, and_true, true_and] at e1
      obtain ⟨rfl, rfl⟩ := e1
      have O1 := Lib.hid o1
      have BW := Lib.hid hg.bel
      clear hg hrow o1
      go_wp2
      go_ret
      exact ⟨g, cp, Y, rfl, O1.out, fun i hi => (hY i hi).2.1, BW.out⟩
end Go.Proofs.Ytcibjkadlndejaa
