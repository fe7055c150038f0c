/- Helper: walks of the laws' own functions on matrices: copies, sizes, comparisons, marks. Conditions: none. -/
import Derived.Test.YtcibjkadlndejaaRowWalks
import Derived.Test.YtcibjkadlndejaaMatRows
set_option linter.unusedVariables false
set_option linter.unusedSimpArgs false
namespace Go.Proofs.Ytcibjkadlndejaa
open Go.RowKit

/-- A new row of n floats that reads as Z, in w'. -/
def NewRow (w : World) (n : Nat) (Z : Nat → Nat) (e : Ending) (w' : World) : Prop :=
  ∃ a c, e = .returned (.slice a n c) ∧ Own 41 .f32 w.heap.size w'.heap.size w' a n c Z ∧ Below w.heap.size w w'

theorem toFloat32S_own (a : Option Addr) (n c : Nat) (Z : Nat → Nat) (w : World) (hn : n ≤ 1048576) (h : FS .f32 w a n c Z) :
    Calls Try.prog 17 #[.slice a n c] w (NewRow w n Z) := by
  obtain ⟨i0, hi, hz0, hz1, hz2⟩ := info_parts info32
  go_enter Try.func17, Try.ntmps17
  go_wp2_with (at_make; refine wpList_make_full _ rfl _ _ 22 rfl w.heap.size 41 i0 (.float .f32 0) 1 Try.underlying22 hi hz0 hz1 _ _ _ _ n rfl rfl rfl rfl ?b2 ?b3 (Nat.le_refl _) ?_)
  case b2 => rw [hz2]; omega
  case b3 => unfold maxLen; omega
  intro w0 hown0 hgrow0
  go_wp2
  go_loopw [4] (fun s wr => ∃ (j : Nat) (xs : List Value), j ≤ n ∧ s = .int .i64 j ∧ wr.ownsRow w.heap.size 41 1 (.slice (some ⟨w.heap.size, 0, none⟩) n n) n xs ∧ (∀ t, t < j → xs[t]? = some (.float .f32 (Z t))) ∧ Below w.heap.size w wr)
    (fun s _ => n - (intOf s).toNat)
  case atStart => exact ⟨0, _, Nat.zero_le _, rfl, hown0, fun t ht => by omega, (Below.refl _ _).grown hgrow0 (Nat.le_refl _) (fun k h => by cases h)⟩
  case round =>
    obtain ⟨j, xs, hj, rfl, hown, hx, hb⟩ := hrel
    clear hown0 hgrow0
    by_cases hlt : j < n
    · obtain ⟨b, off, rfl, hbl, hc, hfv⟩ := h.at hlt
      have hc' : wr.cell? ⟨b, off + j, none⟩ = some (.float .f32 (Z j)) := (hb.cell (p := ⟨b, off + j, none⟩) hbl).trans hc
      have hlen : xs.length = n := by simpa using hown.1
      have hxj : xs[j]? = some (xs[j]'(by omega)) := List.getElem?_eq_getElem (by omega)
      have hd := hown.cellAt j (by omega)
      rw [hxj] at hd
      have hf := hown.frozenAt j
      generalize xs[j]'(by omega) = old at hd
      obtain ⟨hown1, hgrow1⟩ := hown.stored j (.float .f32 (Z j))
      have hown2 := Lib.hid hown1
      have hb2 := Lib.hid (hb.grown hgrow1 hb.size (fun k hk => by cases hk; exact Nat.le_refl _))
      have hx2 : Hid (∀ t, t < j + 1 → (xs.set j (.float .f32 (Z j)))[t]? = some (.float .f32 (Z t))) := by
        refine Lib.hid fun t ht => ?_
        by_cases e : t = j
        · subst e; rw [List.getElem?_set_self (by omega)]
        · rw [List.getElem?_set_ne (Ne.symm e)]; exact hx t (by omega)
      clear hown1 hgrow1 hown hx hb hc hfv hxj hlen
      go_wp2
      go_roundw
      case rel => exact ⟨j + 1, _, by omega, by go_num, hown2.out, hx2.out, hb2.out⟩
      case measure => simp [intOf]; omega
    · obtain rfl : j = n := by omega
      have hlt2 := Lib.hid (hown.lt w.heap.size rfl).2
      have hown2 := Lib.hid hown
      have hx2 := Lib.hid hx
      have hb2 := Lib.hid hb
      clear hown hx hb
      go_wp2
      go_ret
      exact ⟨_, _, rfl, .inr ⟨w.heap.size, xs, rfl, Nat.le_refl _, by unfold maxLen; omega, Nat.le_refl _, hlt2.out, Nat.le_refl _, hown2.out, hx2.out, fun t ht => (h.2.2 t ht).elim fun _ r => r.elim fun _ r => r.2.2.2⟩, hb2.out⟩

/-- What a mark leaves. -/
def Marked (B U : Nat) (w : World) (a : Option Addr) (n c k : Nat) (e : Ending) (w' : World) : Prop :=
  e = .returned (.int .i64 ((k + n : Nat) : Int)) ∧ Own 41 .f32 B U w' a n c (fun j => floatOfInt .f32 ((k + j : Nat) : Int)) ∧ ∃ row, w.grownBy w' row ∧ ∀ g, row = some g → B ≤ g ∧ g < U

theorem markFloat32S_any (B U : Nat) (a : Option Addr) (n c k : Nat) (Z : Nat → Nat) (w : World) (hn : n ≤ 1048576) (hk : k ≤ 1048576) (h : Own 41 .f32 B U w a n c Z) :
    Calls Try.prog 20 #[.slice a n c, .int .i64 k] w (Marked B U w a n c k) := by
  rcases h with ⟨rfl, rfl, rfl⟩ | ⟨g, xs0, rfl, hcn, hm, hB, hU, hUw, hown0, hx0, hw0⟩
  · go_enter Try.func20, Try.ntmps20
    go_wp2
    go_loopw [1, 5] (fun q s wr => q = .int .i64 k ∧ s = .int .i64 0 ∧ wr = w) (fun _ s _ => 0)
    case atStart => exact ⟨rfl, rfl, rfl⟩
    case round =>
      obtain ⟨rfl, rfl, rfl⟩ := hrel
      go_wp2
      go_ret
      exact ⟨rfl, .inl ⟨rfl, rfl, rfl⟩, none, World.grownBy.refl _ _, fun g h => by cases h⟩
  · go_enter Try.func20, Try.ntmps20
    go_wp2
    go_loopw [1, 5] (fun q s wr => ∃ (j : Nat) (xs : List Value), j ≤ n ∧ s = .int .i64 j ∧ q = .int .i64 ((k + j : Nat) : Int) ∧ wr.ownsRow B 41 1 (.slice (some ⟨g, 0, none⟩) n c) n xs ∧ (∀ t, t < j → xs[t]? = some (.float .f32 (floatOfInt .f32 ((k + t : Nat) : Int)))) ∧ w.grownBy wr (some g))
      (fun _ s _ => n - (intOf s).toNat)
    case atStart => exact ⟨0, _, Nat.zero_le _, rfl, rfl, hown0, fun t ht => by omega, World.grownBy.refl _ _⟩
    case round =>
      obtain ⟨j, xs, hj, rfl, rfl, hown, hx, hb⟩ := hrel
      clear hown0 hx0 hw0
      by_cases hlt : j < n
      · have hlen : xs.length = n := by simpa using hown.1
        have hxj : xs[j]? = some (xs[j]'(by omega)) := List.getElem?_eq_getElem (by omega)
        have hd := hown.cellAt j (by omega)
        rw [hxj] at hd
        have hf := hown.frozenAt j
        generalize xs[j]'(by omega) = old at hd
        obtain ⟨hown1, hgrow1⟩ := hown.stored j (.float .f32 (floatOfInt .f32 ((k + j : Nat) : Int)))
        have hown2 := Lib.hid hown1
        have hb2 := Lib.hid (grownBy_trans hb hgrow1)
        have hx2 : Hid (∀ t, t < j + 1 → (xs.set j (.float .f32 (floatOfInt .f32 ((k + j : Nat) : Int))))[t]? = some (.float .f32 (floatOfInt .f32 ((k + t : Nat) : Int)))) := by
          refine Lib.hid fun t ht => ?_
          by_cases e : t = j
          · subst e; rw [List.getElem?_set_self (by omega)]
          · rw [List.getElem?_set_ne (Ne.symm e)]; exact hx t (by omega)
        clear hown1 hgrow1 hown hx hb hxj hlen
        go_wp2
        go_roundw
        case rel => exact ⟨j + 1, _, by omega, by go_num, by go_num, hown2.out, hx2.out, hb2.out⟩
        case measure => simp [intOf]; omega
      · obtain rfl : j = n := by omega
        have hlt2 := Lib.hid (hown.lt g rfl).2
        have hown2 := Lib.hid hown
        have hx2 := Lib.hid hx
        have hb2 := Lib.hid hb
        clear hown hx hb
        go_wp2
        go_ret
        exact ⟨rfl, .inr ⟨g, xs, rfl, hcn, hm, hB, hU, Nat.le_trans hUw hb2.out.size, hown2.out, hx2.out, fun t ht => floatOfInt_wf _ _⟩, some g, hb2.out, fun g' h => by cases h; exact ⟨hB, hU⟩⟩

theorem heldFloat32S_any (a : Option Addr) (n c k : Nat) (Z : Nat → Nat) (w : World) (hn : n ≤ 1048576) (hk : k ≤ 1048576) (h : FS .f32 w a n c Z) (hz : ∀ j, j < n → Z j = floatOfInt .f32 ((k + j : Nat) : Int)) :
    Calls Try.prog 21 #[.slice a n c, .int .i64 k] w fun e w' => e = .returned (.int .i64 ((k + n : Nat) : Int)) ∧ w = w' := by
  go_enter Try.func21, Try.ntmps21
  go_wp2
  go_loop [1, 5] (fun q s => ∃ (j : Nat), j ≤ n ∧ s = .int .i64 j ∧ q = .int .i64 ((k + j : Nat) : Int)) (fun _ s => n - (intOf s).toNat)
  case atStart => exact ⟨0, Nat.zero_le _, rfl, rfl⟩
  case round =>
    obtain ⟨j, hj, rfl, rfl⟩ := hrel
    by_cases hlt : j < n
    · obtain ⟨b, off, rfl, hbl, hc, hfv⟩ := h.at hlt
      rw [hz j hlt] at hc
      have hcn : cn .f32 (floatOfInt .f32 ((k + j : Nat) : Int)) = some (floatOfInt .f32 ((k + j : Nat) : Int)) := cn_number _ _ _ _
      have hs := ford_self .f32 (floatOfInt .f32 ((k + j : Nat) : Int))
      rw [hcn] at hs
      simp only [Option.map_some] at hs
      simp only [Int.natCast_add] at hc hcn hs
      clear hfv hbl h hz
      have hdec : decide ((j : Int) < n) = true := decide_eq_true (by omega)
      go_wp2
      go_round
      case rel => exact ⟨j + 1, by omega, by go_num, by go_num⟩
      case measure => simp [intOf]; omega
    · obtain rfl : j = n := by omega
      go_wp2
      go_ret
      exact ⟨rfl, rfl⟩

theorem szFloat32S_yes (a : Option Addr) (n c : Nat) (L : Nat) (w : World) (hL : L ≤ 1048576) (hn : n ≤ L) :
    Calls Try.prog 36 #[.slice a n c, .int .i64 L] w fun e w' => e = .returned (.int .i64 ((L - n : Nat) : Int)) ∧ w = w' := by
  have e : ((L - n : Nat) : Int) = (L : Int) - n := by omega
  rw [e]
  clear e
  have hd : decide ((L : Int) - n < 0) = false := decide_eq_false (by omega)
  go_enter Try.func36, Try.ntmps36
  go_wp2
  go_ret
  exact ⟨rfl, rfl⟩
theorem szFloat32S_no (a : Option Addr) (n c : Nat) (L : Nat) (w : World) (hL : L ≤ 1048576) (hm : n ≤ 9223372036854775807) (hn : L < n) :
    Calls Try.prog 36 #[.slice a n c, .int .i64 L] w fun e w' => e = .returned (.int .i64 (-1)) ∧ w = w' := by
  have hd : decide ((L : Int) - n < 0) = true := decide_eq_true (by omega)
  go_enter Try.func36, Try.ntmps36
  go_wp2
  go_ret
  exact ⟨rfl, rfl⟩

theorem szMatrix_yes (R C : Int) (a : Option Addr) (n c : Nat) (L : Nat) (w : World) (hL : L ≤ 1048576) (hn : n ≤ L) :
    Calls Try.prog 9 #[.agg #[.int .i64 R, .int .i64 C, .slice a n c], .int .i64 L] w fun e w' => e = .returned (.int .i64 ((L - n : Nat) : Int)) ∧ Below w.heap.size w w' := by
  have hd : decide (((L - n : Nat) : Int) < 0) = false := decide_eq_false (by omega)
  go_enter Try.func9, Try.ntmps9
  go_wp2_with (go_at_call 36; refine (szFloat32S_yes _ _ _ _ _ hL hn).mono ?_; rintro e w' ⟨rfl, rfl⟩)
  go_ret
  exact ⟨rfl, (Below.refl _ _).alloc (Nat.le_refl _) _⟩
theorem szMatrix_no (R C : Int) (a : Option Addr) (n c : Nat) (L : Nat) (w : World) (hL : L ≤ 1048576) (hm : n ≤ 9223372036854775807) (hn : L < n) :
    Calls Try.prog 9 #[.agg #[.int .i64 R, .int .i64 C, .slice a n c], .int .i64 L] w fun e w' => e = .returned (.int .i64 (-1)) ∧ Below w.heap.size w w' := by
  go_enter Try.func9, Try.ntmps9
  go_wp2_with (go_at_call 36; refine (szFloat32S_no _ _ _ _ _ hL hm hn).mono ?_; rintro e w' ⟨rfl, rfl⟩)
  go_ret
  exact ⟨rfl, (Below.refl _ _).alloc (Nat.le_refl _) _⟩
end Go.Proofs.Ytcibjkadlndejaa
