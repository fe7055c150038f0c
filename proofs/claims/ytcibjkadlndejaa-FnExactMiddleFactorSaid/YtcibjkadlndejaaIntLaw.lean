/- Helper: rows of integers that a call has made, and walks of the laws' own functions on them: copies, comparisons, marks. Conditions: none. -/
import Derived.WalkArith
import Derived.Test.YtcibjkadlndejaaIntRows
import Derived.Test.YtcibjkadlndejaaMatLaw
set_option linter.unusedVariables false
set_option linter.unusedSimpArgs false
namespace Go.Proofs.Ytcibjkadlndejaa
open Go.RowKit

theorem info64 : (Try.prog.info? 2).map (fun i => (i.zero, i.size, i.bytes)) = some (some (.int .i64 0), 1, 8) := by kernel_rfl
theorem wf64 {n : Int} (h1 : 0 ≤ n) (h2 : n ≤ 9223372036854775807) : (Lit.int .i64 n).wf = true := by
  exact Go.WalkArith.wf_i64 (by omega)

/-- A row of n integers that lies alone in a block from B on and below U, and reads as Z; nil where n is 0, or not. -/
def OwnI (T : TypeId) (k : IntKind) (B U : Nat) (w : World) (a : Option Addr) (n c : Nat) (Z : Nat → Int) : Prop :=
  (a = none ∧ n = 0 ∧ c = 0) ∨
  ∃ g xs, a = some ⟨g, 0, none⟩ ∧ n ≤ c ∧ c ≤ maxLen ∧ B ≤ g ∧ g < U ∧ U ≤ w.heap.size ∧ w.ownsRow B T 1 (.slice (some ⟨g, 0, none⟩) n c) n xs ∧
    (∀ j, j < n → xs[j]? = some (.int k (Z j))) ∧ ∀ j, j < n → (Lit.int k (Z j)).wf = true

theorem OwnI.is {T : TypeId} {k : IntKind} {B U : Nat} {w : World} {a : Option Addr} {n c : Nat} {Z : Nat → Int} (h : OwnI T k B U w a n c Z) : IS k w a n c Z := by
  rcases h with ⟨rfl, rfl, rfl⟩ | ⟨g, xs, rfl, hcn, hm, _, _, _, ho, hx, hw⟩
  · exact ⟨Nat.le_refl _, Nat.zero_le _, fun i hi => by omega⟩
  · exact IS.ownedC ho (by assumption) hm hx hw

theorem OwnI.kept {T : TypeId} {k : IntKind} {B U : Nat} {w w' : World} {row : Option Nat} {a : Option Addr} {n c : Nat} {Z : Nat → Int} (h : OwnI T k B U w a n c Z) (hg : w.grownBy w' row)
    (hr : ∀ g, row = some g → g < B ∨ U ≤ g) : OwnI T k B U w' a n c Z := by
  rcases h with h | ⟨g, xs, rfl, hcn, hm, h1, h2, h3, ho, hx, hw⟩
  · exact .inl h
  · refine .inr ⟨g, xs, rfl, hcn, hm, h1, h2, Nat.le_trans h3 hg.size, ho.kept hg (.inr ?_), hx, hw⟩
    intro e
    rcases hr g e.symm with h | h <;> omega

theorem OwnI.same {T : TypeId} {k : IntKind} {B U : Nat} {w : World} {a : Option Addr} {n c : Nat} {Z Y : Nat → Int} (h : OwnI T k B U w a n c Z) (e : ∀ j, j < n → Z j = Y j) : OwnI T k B U w a n c Y := by
  rcases h with h | ⟨g, xs, h0, h1, hm, h2, h3, h4, ho, hx, hw⟩
  · exact .inl h
  · exact .inr ⟨g, xs, h0, h1, hm, h2, h3, h4, ho, fun j hj => by rw [hx j hj, e j hj], fun j hj => by rw [← e j hj]; exact hw j hj⟩

theorem OwnI.mono {T : TypeId} {k : IntKind} {B B' U U' : Nat} {w : World} {a : Option Addr} {n c : Nat} {Z : Nat → Int} (h : OwnI T k B U w a n c Z) (hB : B' ≤ B) (hU : U ≤ U') (hw' : U' ≤ w.heap.size) : OwnI T k B' U' w a n c Z := by
  rcases h with h | ⟨g, xs, h0, h1, hm, h2, h3, h4, ho, hx, hw⟩
  · exact .inl h
  · refine .inr ⟨g, xs, h0, h1, hm, by omega, by omega, hw', ⟨ho.1, ?_⟩, hx, hw⟩
    rcases ho.2 with ho | ⟨g', cap, cur, e, hb, r⟩
    · exact .inl ho
    · exact .inr ⟨g', cap, cur, e, by omega, r⟩

/-- A row stays where its own block stays. -/
theorem OwnI.to {T : TypeId} {k : IntKind} {B B' U U' : Nat} {w w' : World} {a : Option Addr} {n c : Nat} {Z : Nat → Int} (h : OwnI T k B U w a n c Z) (hs : w.heap.size ≤ w'.heap.size)
    (hk : ∀ g, B ≤ g → g < U → w'.heap[g]? = w.heap[g]?) (hB : B' ≤ B) (hU : U ≤ U') (hw' : U' ≤ w'.heap.size) : OwnI T k B' U' w' a n c Z := by
  rcases h with h | ⟨g, xs, h0, h1, hm, h2, h3, h4, ho, hx, hw⟩
  · exact .inl h
  · refine .inr ⟨g, xs, h0, h1, hm, by omega, by omega, hw', ⟨ho.1, ?_⟩, hx, hw⟩
    rcases ho.2 with ho | ⟨g', cap, cur, e, hb, hh, r⟩
    · exact .inl ho
    · refine .inr ⟨g', cap, cur, e, by omega, ?_, r⟩
      simp only [Value.slice.injEq, Option.some.injEq, Addr.mk.injEq] at e
      obtain ⟨⟨rfl, _⟩, _⟩ := e
      rw [hk g h2 h3]; exact hh

/-- The row's own cells. -/
theorem OwnI.cell {T : TypeId} {k : IntKind} {B U g : Nat} {w : World} {n c : Nat} {Z : Nat → Int} (h : OwnI T k B U w (some ⟨g, 0, none⟩) n c Z) {t : Nat} (ht : t < n) :
    w.cell? ⟨g, t, none⟩ = some (.int k (Z t)) ∧ w.frozen? ⟨g, t, none⟩ = false ∧ B ≤ g ∧ g < U ∧ U ≤ w.heap.size ∧ (Lit.int k (Z t)).wf = true := by
  rcases h with ⟨h, _⟩ | ⟨g', xs, e, hcn, hm, h1, h2, h3, ho, hx, hw⟩
  · cases h
  · simp only [Option.some.injEq, Addr.mk.injEq, and_true] at e
    subst e
    refine ⟨?_, ho.frozenAt t, h1, h2, h3, hw t ht⟩
    rw [ho.cellAt t (by omega)]; exact hx t ht
/-- A number is stored. -/
theorem OwnI.stored {T : TypeId} {k : IntKind} {B U g : Nat} {w : World} {n c : Nat} {Z : Nat → Int} (h : OwnI T k B U w (some ⟨g, 0, none⟩) n c Z) {t : Nat} {v : Int} (ht : t < n) (hv : (Lit.int k v).wf = true) :
    OwnI T k B U (w.setCell ⟨g, t, none⟩ (.int k v)) (some ⟨g, 0, none⟩) n c (fun j => if j = t then v else Z j) ∧ w.grownBy (w.setCell ⟨g, t, none⟩ (.int k v)) (some g) := by
  rcases h with ⟨h, _⟩ | ⟨g', xs, e, hcn, hm, h1, h2, h3, ho, hx, hw⟩
  · cases h
  · simp only [Option.some.injEq, Addr.mk.injEq, and_true] at e
    subst e
    obtain ⟨ho1, hg1⟩ := ho.stored t (.int k v)
    have hlen : xs.length = n := by simpa using ho.1
    refine ⟨.inr ⟨g, _, rfl, hcn, hm, h1, h2, Nat.le_trans h3 hg1.size, ho1, fun j hj => ?_, fun j hj => ?_⟩, hg1⟩
    · by_cases e : j = t
      · subst e; rw [List.getElem?_set_self (by omega)]; simp
      · rw [List.getElem?_set_ne (Ne.symm e), hx j hj]; simp [e]
    · by_cases e : j = t
      · subst e; simpa using hv
      · simpa [e] using hw j hj

/-- A new row of n integers that reads as Z, in w'. -/
def NewRowI (w : World) (n : Nat) (Z : Nat → Int) (e : Ending) (w' : World) : Prop :=
  ∃ a c, e = .returned (.slice a n c) ∧ OwnI 2 .i64 w.heap.size w'.heap.size w' a n c Z ∧ Below w.heap.size w w'

/-- What a mark leaves. -/
def MarkedI (B U : Nat) (w : World) (a : Option Addr) (n c k : Nat) (e : Ending) (w' : World) : Prop :=
  e = .returned (.int .i64 ((k + n : Nat) : Int)) ∧ OwnI 2 .i64 B U w' a n c (fun j => ((k + j : Nat) : Int)) ∧ ∃ row, w.grownBy w' row ∧ ∀ g, row = some g → B ≤ g ∧ g < U

theorem markInt64S_any (B U : Nat) (a : Option Addr) (n c k : Nat) (Z : Nat → Int) (w : World) (hn : n ≤ 1048576) (hk : k ≤ 4194304) (h : OwnI 2 .i64 B U w a n c Z) :
    Calls Try.prog 27 #[.slice a n c, .int .i64 k] w (MarkedI B U w a n c k) := by
  rcases h with ⟨rfl, rfl, rfl⟩ | ⟨g, xs0, rfl, hcn, hm, hB, hU, hUw, hown0, hx0, hw0⟩
  · go_enter Try.func27, Try.ntmps27
    go_wp2
    go_loopw [1, 5] (fun q s wr => q = .int .i64 k ∧ s = .int .i64 0 ∧ wr = w) (fun _ s _ => 0)
    case atStart => exact ⟨rfl, rfl, rfl⟩
    case round =>
      obtain ⟨rfl, rfl, rfl⟩ := hrel
      go_wp2
      go_ret
      exact ⟨rfl, .inl ⟨rfl, rfl, rfl⟩, none, World.grownBy.refl _ _, fun g h => by cases h⟩
  · go_enter Try.func27, Try.ntmps27
    go_wp2
    go_loopw [1, 5] (fun q s wr => ∃ (j : Nat) (xs : List Value), j ≤ n ∧ s = .int .i64 j ∧ q = .int .i64 ((k + j : Nat) : Int) ∧ wr.ownsRow B 2 1 (.slice (some ⟨g, 0, none⟩) n c) n xs ∧ (∀ t, t < j → xs[t]? = some (.int .i64 (((k + t : Nat) : Int)))) ∧ w.grownBy wr (some g))
      (fun _ s _ => n - (intOf s).toNat)
    case atStart => exact ⟨0, _, Nat.zero_le _, rfl, rfl, hown0, fun t ht => by omega, World.grownBy.refl _ _⟩
    case round =>
      obtain ⟨j, xs, hj, rfl, rfl, hown, hx, hb⟩ := hrel
      clear hown0 hx0 hw0
      by_cases hlt : j < n
      · have hlen : xs.length = n := by simpa using hown.1
        have hxj : xs[j]? = some (xs[j]'(by omega)) := List.getElem?_eq_getElem (by omega)
        have hd := hown.cellAt j (by omega)
        rw [hxj] at hd
        have hf := hown.frozenAt j
        generalize xs[j]'(by omega) = old at hd
        obtain ⟨hown1, hgrow1⟩ := hown.stored j (.int .i64 (((k + j : Nat) : Int)))
        have hown2 := Lib.hid hown1
        have hb2 := Lib.hid (grownBy_trans hb hgrow1)
        have hx2 : Hid (∀ t, t < j + 1 → (xs.set j (.int .i64 (((k + j : Nat) : Int))))[t]? = some (.int .i64 (((k + t : Nat) : Int)))) := by
          refine Lib.hid fun t ht => ?_
          by_cases e : t = j
          · subst e; rw [List.getElem?_set_self (by omega)]
          · rw [List.getElem?_set_ne (Ne.symm e)]; exact hx t (by omega)
        clear hown1 hgrow1 hown hx hb hxj hlen
        go_wp2
        go_roundw
        case rel => exact ⟨j + 1, _, by omega, by go_num, by go_num, hown2.out, hx2.out, hb2.out⟩
        case measure => simp [intOf]; omega
      · obtain rfl : j = n := by omega
        have hlt2 := Lib.hid (hown.lt g rfl).2
        have hown2 := Lib.hid hown
        have hx2 := Lib.hid hx
        have hb2 := Lib.hid hb
        clear hown hx hb
        go_wp2
        go_ret
        exact ⟨rfl, .inr ⟨g, xs, rfl, hcn, hm, hB, hU, Nat.le_trans hUw hb2.out.size, hown2.out, hx2.out, fun t ht => wf64 (n := ((k + t : Nat) : Int)) (by omega) (by omega)⟩, some g, hb2.out, fun g' h => by cases h; exact ⟨hB, hU⟩⟩

theorem heldInt64S_any (a : Option Addr) (n c k : Nat) (Z : Nat → Int) (w : World) (hn : n ≤ 1048576) (hk : k ≤ 1048577) (h : IS .i64 w a n c Z) (hz : ∀ j, j < n → Z j = ((k + j : Nat) : Int)) :
    Calls Try.prog 28 #[.slice a n c, .int .i64 k] w fun e w' => e = .returned (.int .i64 ((k + n : Nat) : Int)) ∧ w = w' := by
  go_enter Try.func28, Try.ntmps28
  go_wp2
  go_loop [1, 5] (fun q s => ∃ (j : Nat), j ≤ n ∧ s = .int .i64 j ∧ q = .int .i64 ((k + j : Nat) : Int)) (fun _ s => n - (intOf s).toNat)
  case atStart => exact ⟨0, Nat.zero_le _, rfl, rfl⟩
  case round =>
    obtain ⟨j, hj, rfl, rfl⟩ := hrel
    by_cases hlt : j < n
    · obtain ⟨b, off, rfl, hbl, hc, hfv⟩ := IS.at h hlt
      rw [hz j hlt] at hc
      simp only [Int.natCast_add] at hc
      clear hfv hbl h hz
      have hdec : decide ((j : Int) < n) = true := decide_eq_true (by omega)
      go_wp2
      go_round
      case rel => exact ⟨j + 1, by omega, by go_num, by go_num⟩
      case measure => simp [intOf]; omega
    · obtain rfl : j = n := by omega
      go_wp2
      go_ret
      exact ⟨rfl, rfl⟩

theorem eqInt64S_any (a b : Option Addr) (n c d : Nat) (Z Y : Nat → Int) (w : World) (hn : n ≤ 1048576) (ha : IS .i64 w a n c Z) (hb : IS .i64 w b n d Y) (hzy : ∀ i, i < n → Z i = Y i) :
    Calls Try.prog 26 #[.slice a n c, .slice b n d] w fun e w' => e = .returned (.bool true) ∧ ∃ m, w' = w.drewN m := by
  go_enter Try.func26, Try.ntmps26
  go_wp2
  go_loopw [5] (fun s wr => ∃ j m : Nat, j ≤ n ∧ s = .int .i64 j ∧ wr = w.drewN m) (fun s _ => n - (intOf s).toNat)
  case atStart => exact ⟨0, 0, Nat.zero_le _, rfl, rfl⟩
  case round =>
    obtain ⟨j, m, hj, rfl, rfl⟩ := hrel
    by_cases hlt : j < n
    · obtain ⟨b1, off1, rfl, hbl, hc, hw⟩ := IS.at ha hlt
      obtain ⟨b2, off2, rfl, hbl2, hc2, hw2⟩ := IS.at hb hlt
      rw [← hzy j hlt] at hc2
      clear ha hb hbl hbl2 hzy hw hw2
      generalize Z j = x at hc hc2
      have hdec : decide ((j : Int) < n) = true := decide_eq_true (by omega)
      go_wp2
      go_quiet (fail)
      go_wp2
      go_roundw
      case rel => exact ⟨j + 1, _, by omega, by go_num, rfl⟩
      case measure => simp [intOf]; omega
    · obtain rfl : j = n := by omega
      go_wp2
      go_ret
      exact ⟨rfl, _, rfl⟩
end Go.Proofs.Ytcibjkadlndejaa
