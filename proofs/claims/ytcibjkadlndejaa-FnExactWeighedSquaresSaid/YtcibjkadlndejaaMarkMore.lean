/- Helper: marks on a list of numbers that begin far on. Conditions: none. -/
import Derived.Test.YtcibjkadlndejaaMatCopy
set_option linter.unusedVariables false
set_option linter.unusedSimpArgs false
namespace Go.Proofs.Ytcibjkadlndejaa
open Go.RowKit

theorem markFloat32S_more (B U : Nat) (a : Option Addr) (n c k : Nat) (Z : Nat → Nat) (w : World) (hn : n ≤ 1048576) (hk : k ≤ 4194304) (h : Own 41 .f32 B U w a n c Z) :
    Calls Try.prog 20 #[.slice a n c, .int .i64 k] w (Marked B U w a n c k) := by
  rcases h with ⟨rfl, rfl, rfl⟩ | ⟨g, xs0, rfl, hcn, hm, hB, hU, hUw, hown0, hx0, hw0⟩
  · go_enter Try.func20, Try.ntmps20
    go_wp2
    go_loopw [1, 5] (fun q s wr => q = .int .i64 k ∧ s = .int .i64 0 ∧ wr = w) (fun _ s _ => 0)
    case atStart => exact ⟨rfl, rfl, rfl⟩
    case round =>
      obtain ⟨rfl, rfl, rfl⟩ := hrel
      go_wp2
      go_ret
      exact ⟨rfl, .inl ⟨rfl, rfl, rfl⟩, none, World.grownBy.refl _ _, fun g h => by cases h⟩
  · go_enter Try.func20, Try.ntmps20
    go_wp2
    go_loopw [1, 5] (fun q s wr => ∃ (j : Nat) (xs : List Value), j ≤ n ∧ s = .int .i64 j ∧ q = .int .i64 ((k + j : Nat) : Int) ∧ wr.ownsRow B 41 1 (.slice (some ⟨g, 0, none⟩) n c) n xs ∧ (∀ t, t < j → xs[t]? = some (.float .f32 (floatOfInt .f32 ((k + t : Nat) : Int)))) ∧ w.grownBy wr (some g))
      (fun _ s _ => n - (intOf s).toNat)
    case atStart => exact ⟨0, _, Nat.zero_le _, rfl, rfl, hown0, fun t ht => by omega, World.grownBy.refl _ _⟩
    case round =>
      obtain ⟨j, xs, hj, rfl, rfl, hown, hx, hb⟩ := hrel
      clear hown0 hx0 hw0
      by_cases hlt : j < n
      · have hlen : xs.length = n := by simpa using hown.1
        have hxj : xs[j]? = some (xs[j]'(by omega)) := List.getElem?_eq_getElem (by omega)
        have hd := hown.cellAt j (by omega)
        rw [hxj] at hd
        have hf := hown.frozenAt j
        generalize xs[j]'(by omega) = old at hd
        obtain ⟨hown1, hgrow1⟩ := hown.stored j (.float .f32 (floatOfInt .f32 ((k + j : Nat) : Int)))
        have hown2 := Lib.hid hown1
        have hb2 := Lib.hid (grownBy_trans hb hgrow1)
        have hx2 : Hid (∀ t, t < j + 1 → (xs.set j (.float .f32 (floatOfInt .f32 ((k + j : Nat) : Int))))[t]? = some (.float .f32 (floatOfInt .f32 ((k + t : Nat) : Int)))) := by
          refine Lib.hid fun t ht => ?_
          by_cases e : t = j
          · subst e; rw [List.getElem?_set_self (by omega)]
          · rw [List.getElem?_set_ne (Ne.symm e)]; exact hx t (by omega)
        clear hown1 hgrow1 hown hx hb hxj hlen
        go_wp2
        go_roundw
        case rel => exact ⟨j + 1, _, by omega, by go_num, by go_num, hown2.out, hx2.out, hb2.out⟩
        case measure => simp [intOf]; omega
      · obtain rfl : j = n := by omega
        have hlt2 := Lib.hid (hown.lt g rfl).2
        have hown2 := Lib.hid hown
        have hx2 := Lib.hid hx
        have hb2 := Lib.hid hb
        clear hown hx hb
        go_wp2
        go_ret
        exact ⟨rfl, .inr ⟨g, xs, rfl, hcn, hm, hB, hU, Nat.le_trans hUw hb2.out.size, hown2.out, hx2.out, fun t ht => floatOfInt_wf _ _⟩, some g, hb2.out, fun g' h => by cases h; exact ⟨hB, hU⟩⟩
theorem markMatrix_more (R C : Int) (B U : Nat) (a : Option Addr) (n c k : Nat) (Z : Nat → Nat) (w : World) (hn : n ≤ 1048576) (hk : k ≤ 4194304) (h : Own 41 .f32 B U w a n c Z) :
    Calls Try.prog 14 #[.agg #[.int .i64 R, .int .i64 C, .slice a n c], .int .i64 k] w (Marked B U w a n c k) := by
  go_enter Try.func14, Try.ntmps14
  go_wp2_with fail
  go_at_call 20
  refine (markFloat32S_more B U _ _ _ k Z _ hn hk (h.kept (World.grownBy_alloc w _ none) (fun g h => by cases h))).mono ?_
  rintro e w1 ⟨rfl, o1, row, g1, hr⟩
  have o2 := Lib.hid o1
  have g2 : Hid (w.grownBy w1 row) := Lib.hid (grownBy_trans (World.grownBy_alloc w _ row) g1)
  have hr2 := Lib.hid hr
  clear o1 g1 hr
  go_wp2_with fail
  go_ret
  exact ⟨rfl, o2.out, row, g2.out, hr2.out⟩
end Go.Proofs.Ytcibjkadlndejaa
