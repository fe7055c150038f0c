/- Helper: slices of entries (a row, a column, a number): told, marked, held. Conditions: none. -/
import Derived.Test.YtmjlhmbnaifhaabMarkMore
import Derived.Test.YtmjlhmbnaifhaabBoxes
import Derived.Test.YtmjlhmbnaifhaabMatLaw
import Derived.Test.YtmjlhmbnaifhaabKindSteps
set_option linter.unusedVariables false
set_option linter.unusedSimpArgs false
namespace Go.Proofs.Ytmjlhmbnaifhaab
open Go.RowKit

/-- A row of entries in memory of its own: cell j of it is X j. -/
def OwnE (T : TypeId) (B U : Nat) (w : World) (a : Option Addr) (n c : Nat) (X : Nat → Value) : Prop :=
  (a = none ∧ n = 0 ∧ c = 0) ∨
  ∃ g xs, a = some ⟨g, 0, none⟩ ∧ n ≤ c ∧ c ≤ maxLen ∧ B ≤ g ∧ g < U ∧ U ≤ w.heap.size ∧ w.ownsRow B T 3 (.slice (some ⟨g, 0, none⟩) n c) n xs ∧ ∀ j, j < n * 3 → xs[j]? = some (X j)
theorem OwnE.kept {T : TypeId} {B U : Nat} {w w' : World} {row : Option Nat} {a : Option Addr} {n c : Nat} {X : Nat → Value} (h : OwnE T B U w a n c X) (hg : w.grownBy w' row)
    (hr : ∀ g, row = some g → g < B ∨ U ≤ g) : OwnE T B U w' a n c X := by
  rcases h with h | ⟨g, xs, rfl, hc, hm, h1, h2, h3, ho, hx⟩
  · exact .inl h
  · refine .inr ⟨g, xs, rfl, hc, hm, h1, h2, Nat.le_trans h3 hg.size, ho.kept hg (.inr ?_), hx⟩
    intro e
    rcases hr g e.symm with h | h <;> omega
theorem OwnE.mono {T : TypeId} {B B' U U' : Nat} {w : World} {a : Option Addr} {n c : Nat} {X : Nat → Value} (h : OwnE T B U w a n c X) (hB : B' ≤ B) (hU : U ≤ U') (hw' : U' ≤ w.heap.size) : OwnE T B' U' w a n c X := by
  rcases h with h | ⟨g, xs, h0, h1, hm, h2, h3, h4, ho, hx⟩
  · exact .inl h
  · refine .inr ⟨g, xs, h0, h1, hm, by omega, by omega, hw', ⟨ho.1, ?_⟩, hx⟩
    rcases ho.2 with ho | ⟨g', cap, cur, e, hb, r⟩
    · exact .inl ho
    · exact .inr ⟨g', cap, cur, e, by omega, r⟩
theorem ownsRow_blk {w w' : World} {B : Nat} {T : TypeId} {size : Nat} {v : Value} {n : Nat} {xs : List Value} (h : w.ownsRow B T size v n xs) (hk : ∀ g, v.ownBlock = some g → w'.heap[g]? = w.heap[g]?) : w'.ownsRow B T size v n xs := by
  refine ⟨h.1, ?_⟩
  rcases h.2 with hn | ⟨g, cap, cur, rfl, hb, hgg, rest⟩
  · exact .inl hn
  · exact .inr ⟨g, cap, cur, rfl, hb, (hk g rfl).trans hgg, rest⟩
theorem OwnE.over {T : TypeId} {B' U' B U : Nat} {w w' : World} {a : Option Addr} {n c : Nat} {X : Nat → Value} (h : OwnE T B' U' w a n c X) (g : Grew B U w w') (hd : U' ≤ B ∨ U ≤ B') : OwnE T B' U' w' a n c X := by
  rcases h with h | ⟨p, xs, h0, h1, hm, h2, h3, h4, ho, hx⟩
  · exact .inl h
  · exact .inr ⟨p, xs, h0, h1, hm, h2, h3, Nat.le_trans h4 g.size, ownsRow_blk ho (fun q hq => by
      have e : q = p := by simpa [Value.ownBlock] using hq.symm
      subst e
      exact g.block q (by omega) (by omega)), hx⟩
/-- What is read of a row of entries. -/
def ES (w : World) (a : Option Addr) (n c : Nat) (X : Nat → Value) : Prop :=
  (a = none ∧ n = 0 ∧ c = 0) ∨ ∃ g, a = some ⟨g, 0, none⟩ ∧ g < w.heap.size ∧ ∀ j, j < n * 3 → w.cell? ⟨g, j, none⟩ = some (X j)
theorem OwnE.es {T : TypeId} {B U : Nat} {w : World} {a : Option Addr} {n c : Nat} {X : Nat → Value} (h : OwnE T B U w a n c X) : ES w a n c X := by
  rcases h with h | ⟨g, xs, rfl, h1, hm, h2, h3, h4, ho, hx⟩
  · exact .inl h
  · exact .inr ⟨g, rfl, by omega, fun j hj => (ho.cellAt j hj).trans (hx j hj)⟩
theorem ES.below {w w' : World} {a : Option Addr} {n c : Nat} {X : Nat → Value} {B : Nat} (h : ES w a n c X) (hb : Below B w w') (hB : w.heap.size ≤ B) : ES w' a n c X := by
  rcases h with h | ⟨g, rfl, hg, hx⟩
  · exact .inl h
  · exact .inr ⟨g, rfl, Nat.lt_of_lt_of_le hg hb.size, fun j hj => (hb.cell (p := ⟨g, j, none⟩) (by show g < _; omega)).trans (hx j hj)⟩
theorem ES.at {w : World} {a : Option Addr} {n c : Nat} {X : Nat → Value} (h : ES w a n c X) {j : Nat} (hj : j < n) : ∃ g, a = some ⟨g, 0, none⟩ ∧ g < w.heap.size ∧ w.cell? ⟨g, j * 3, none⟩ = some (X (j * 3)) ∧ w.cell? ⟨g, j * 3 + 1, none⟩ = some (X (j * 3 + 1)) ∧ w.cell? ⟨g, j * 3 + 2, none⟩ = some (X (j * 3 + 2)) := by
  rcases h with ⟨_, h, _⟩ | ⟨g, rfl, hg, hx⟩
  · omega
  · exact ⟨g, rfl, hg, hx _ (by omega), hx _ (by omega), hx _ (by omega)⟩
/-- Entries told by their rows, columns and numbers. -/
def entX (R C : Nat → Int) (Z : Nat → Nat) (j : Nat) : Value := if j % 3 = 0 then .int .i64 (R (j / 3)) else if j % 3 = 1 then .int .i64 (C (j / 3)) else .float .f32 (Z (j / 3))
theorem entX_0 (R C : Nat → Int) (Z : Nat → Nat) (t : Nat) : entX R C Z (t * 3) = .int .i64 (R t) := by
  unfold entX; rw [if_pos (by omega), show t * 3 / 3 = t by omega]
theorem entX_1 (R C : Nat → Int) (Z : Nat → Nat) (t : Nat) : entX R C Z (t * 3 + 1) = .int .i64 (C t) := by
  unfold entX; rw [if_neg (by omega), if_pos (by omega), show (t * 3 + 1) / 3 = t by omega]
theorem entX_2 (R C : Nat → Int) (Z : Nat → Nat) (t : Nat) : entX R C Z (t * 3 + 2) = .float .f32 (Z t) := by
  unfold entX; rw [if_neg (by omega), if_neg (by omega), show (t * 3 + 2) / 3 = t by omega]
/-- Entries that were marked from k on. -/
def marX (k j : Nat) : Value := if j % 3 = 2 then .float .f32 (floatOfInt .f32 ((k + j : Nat) : Int)) else .int .i64 ((k + j : Nat) : Int)
theorem marX_0 (k t : Nat) : marX k (t * 3) = .int .i64 ((k + t * 3 : Nat) : Int) := by unfold marX; rw [if_neg (by omega)]
theorem marX_1 (k t : Nat) : marX k (t * 3 + 1) = .int .i64 ((k + t * 3 + 1 : Nat) : Int) := by unfold marX; rw [if_neg (by omega)]; rfl
theorem marX_2 (k t : Nat) : marX k (t * 3 + 2) = .float .f32 (floatOfInt .f32 ((k + t * 3 + 2 : Nat) : Int)) := by unfold marX; rw [if_pos (by omega)]; rfl
theorem eqEntry_any (r c : Int) (z : Nat) (hz : FV .f32 z (cn .f32 z)) (w : World) : Calls Try.prog 58 #[.agg #[.int .i64 r, .int .i64 c, .float .f32 z], .agg #[.int .i64 r, .int .i64 c, .float .f32 z]] w fun e w' => e = .returned (.bool true) ∧ Below w.heap.size w w' := by
  go_enter Try.func58, Try.ntmps58
  go_wp2_with (first | (refine wpList_widen rfl _ _ _ rfl _ rfl (by kernel_rfl) Try.underlying33 (by assumption) ?_; intro r m hr) | (go_at_call 13; refine (sameFloat_any _ _ (by assumption) (by assumption) _).mono ?_; rintro e w' ⟨rfl, q1, rfl⟩))
  go_ret
  exact ⟨rfl, (by repeat first | (with_reducible exact Below.refl _ _) | (with_reducible refine Below.setCell ?_ (by first | exact Nat.le_refl _ | (simp; done) | (simp; omega) | omega) _) | (with_reducible refine Below.alloc ?_ (by first | exact Nat.le_refl _ | (simp; done) | (simp; omega) | omega) _) | (with_reducible refine below_drewN ?_ _) | (with_reducible refine Below.drew ?_))⟩
set_option maxRecDepth 100000 in
theorem eqEntryS_any (a b : Option Addr) (n c d : Nat) (R C : Nat → Int) (Z : Nat → Nat) (w : World) (hn : n ≤ 1048576) (ha : ES w a n c (entX R C Z)) (hb : ES w b n d (entX R C Z)) (hf : ∀ t, t < n → FV .f32 (Z t) (cn .f32 (Z t))) :
    Calls Try.prog 31 #[.slice a n c, .slice b n d] w fun e w' => e = .returned (.bool true) ∧ Below w.heap.size w w' := by
  go_enter Try.func31, Try.ntmps31
  go_wp2
  go_loopw [5] (fun s wr => ∃ j : Nat, j ≤ n ∧ s = .int .i64 j ∧ Below w.heap.size w wr) (fun s _ => n - (intOf s).toNat)
  case atStart => exact ⟨0, Nat.zero_le _, rfl, Below.refl _ _⟩
  case round =>
    obtain ⟨j, hj, rfl, hB⟩ := hrel
    by_cases hlt : j < n
    · obtain ⟨p1, rfl, hp1, c0, c1, c2⟩ := (ha.below hB (Nat.le_refl _)).at hlt
      obtain ⟨p2, rfl, hp2, d0, d1, d2⟩ := (hb.below hB (Nat.le_refl _)).at hlt
      rw [entX_0] at c0 d0
      rw [entX_1] at c1 d1
      rw [entX_2] at c2 d2
      have hfz := hf j hlt
      generalize Z j = z at c2 d2 hfz
      generalize R j = r at c0 d0
      generalize C j = k at c1 d1
      have HB := Lib.hid hB
      have hdec : decide ((j : Int) < n) = true := decide_eq_true (by omega)
      have hE := fun W => eqEntry_any r k z hfz W
      clear hB
      go_wp2
      refine wp_region_kinds (fun w' => Below wr.heap.size wr w') (fun _ => 0) 9 (below_drewN (Below.refl _ _) 1) (by kernel_rfl) (by kernel_rfl) (by kernel_rfl) ?_
      simp only [List.take_succ_cons, List.take_zero, List.drop_succ_cons, List.drop_zero]
      ((with_reducible refine wpKinds_plain ?hwant ?hkind ?hplain (fun K hK => ?_)); (case hwant => first | (simp [Region.wanted, yielded]; done) | rfl); (case hkind => rfl); (case hplain => rfl); go_big_quiet_op; (first | refine hK _ ?_ | refine ⟨_, fun _ _ => rfl, hK _ ?_⟩); clear hK K)
      ((with_reducible refine wpKinds_plain ?hwant ?hkind ?hplain (fun K hK => ?_)); (case hwant => first | (simp [Region.wanted, yielded]; done) | rfl); (case hkind => rfl); (case hplain => rfl); go_big_quiet_op; (first | refine hK _ ?_ | refine ⟨_, fun _ _ => rfl, hK _ ?_⟩); clear hK K)
      ((with_reducible refine wpKinds_run (.pointer (some ⟨p1, j * 3, none⟩)) ?hwant ?hkind ?hrun ?_); (case hwant => first | (simp [Region.wanted, yielded]; done) | rfl); (case hkind => rfl); (case hrun => intro W hW; simp [go_sem, BigFrame.eval_const, BigFrame.eval_global, BigFrame.eval_func, hlt]); simp only [Act.put, List.setIfInBounds_toArray, List.set_cons_succ, List.set_cons_zero])
      (refine wpKinds_run (.agg #[.int .i64 r, .int .i64 k, .float .f32 z]) rfl rfl (by intro W hW; have h0 := (hW.cell (p := ⟨p1, j * 3, none⟩) hp1).trans c0; have h1 := (hW.cell (p := ⟨p1, j * 3 + 1, none⟩) hp1).trans c1; have h2 := (hW.cell (p := ⟨p1, j * 3 + 2, none⟩) hp1).trans c2; simp [go_sem, h0, h1, h2]) ?_; simp only [Act.put, List.setIfInBounds_toArray, List.set_cons_succ, List.set_cons_zero])
      ((with_reducible refine wpKinds_plain ?hwant ?hkind ?hplain (fun K hK => ?_)); (case hwant => first | (simp [Region.wanted, yielded]; done) | rfl); (case hkind => rfl); (case hplain => rfl); go_big_quiet_op; (first | refine hK _ ?_ | refine ⟨_, fun _ _ => rfl, hK _ ?_⟩); clear hK K)
      ((with_reducible refine wpKinds_plain ?hwant ?hkind ?hplain (fun K hK => ?_)); (case hwant => first | (simp [Region.wanted, yielded]; done) | rfl); (case hkind => rfl); (case hplain => rfl); go_big_quiet_op; (first | refine hK _ ?_ | refine ⟨_, fun _ _ => rfl, hK _ ?_⟩); clear hK K)
      ((with_reducible refine wpKinds_run (.pointer (some ⟨p2, j * 3, none⟩)) ?hwant ?hkind ?hrun ?_); (case hwant => first | (simp [Region.wanted, yielded]; done) | rfl); (case hkind => rfl); (case hrun => intro W hW; simp [go_sem, BigFrame.eval_const, BigFrame.eval_global, BigFrame.eval_func, hlt]); simp only [Act.put, List.setIfInBounds_toArray, List.set_cons_succ, List.set_cons_zero])
      (refine wpKinds_run (.agg #[.int .i64 r, .int .i64 k, .float .f32 z]) rfl rfl (by intro W hW; have h0 := (hW.cell (p := ⟨p2, j * 3, none⟩) hp2).trans d0; have h1 := (hW.cell (p := ⟨p2, j * 3 + 1, none⟩) hp2).trans d1; have h2 := (hW.cell (p := ⟨p2, j * 3 + 2, none⟩) hp2).trans d2; simp [go_sem, h0, h1, h2]) ?_; simp only [Act.put, List.setIfInBounds_toArray, List.set_cons_succ, List.set_cons_zero])
      (refine wpKinds_call (f := 58) (args := #[.agg #[.int .i64 r, .int .i64 k, .float .f32 z], .agg #[.int .i64 r, .int .i64 k, .float .f32 z]]) (.bool true) rfl rfl (by intro W; simp [go_sem, BigFrame.eval_const, BigFrame.eval_global, BigFrame.eval_func]) (by kernel_rfl) (by intro W hW; exact (hE W).mono fun e w' hh => ⟨hh.1, hW.trans (hh.2.mono hW.size)⟩) ?_; simp only [Act.put, List.setIfInBounds_toArray, List.set_cons_succ, List.set_cons_zero])
      refine wpKinds_nil ?_
      intro w5 hC
      have HB2 := Lib.hid (HB.out.trans (hC.mono HB.out.size))
      clear hC c0 c1 c2 d0 d1 d2 hE
      go_wp2
      go_roundw
      case rel => exact ⟨j + 1, by omega, by go_num, HB2.out⟩
      case measure => simp [intOf]; omega
    · obtain rfl : j = n := by omega
      have HB := Lib.hid hB
      clear hB
      go_wp2
      go_ret
      exact ⟨rfl, HB.out⟩
/-- What a marking leaves. -/
def MarkedE (B U : Nat) (w : World) (a : Option Addr) (n c k : Nat) (e : Ending) (w' : World) : Prop := e = .returned (.int .i64 ((k + n * 3 : Nat) : Int)) ∧ OwnE 89 B U w' a n c (marX k) ∧ ∃ row, w.grownBy w' row ∧ ∀ g, row = some g → B ≤ g ∧ g < U
theorem MarkedE.grew {B U : Nat} {w w' : World} (h : ∃ row, w.grownBy w' row ∧ ∀ g, row = some g → B ≤ g ∧ g < U) : Grew B U w w' := h.elim fun _ q => Grew.of q.1 q.2
theorem markEntryS_any (B U : Nat) (a : Option Addr) (n c k : Nat) (X : Nat → Value) (w : World) (hn : n ≤ 1048576) (hk : k ≤ 4194304) (h : OwnE 89 B U w a n c X) :
    Calls Try.prog 32 #[.slice a n c, .int .i64 k] w (MarkedE B U w a n c k) := by
  rcases h with ⟨rfl, rfl, rfl⟩ | ⟨g, xs0, rfl, hcn, hm, hB, hU, hUw, hown0, hx0⟩
  · go_enter Try.func32, Try.ntmps32
    go_wp2
    go_loopw [1, 5] (fun q s wr => q = .int .i64 k ∧ s = .int .i64 0 ∧ wr = w) (fun _ s _ => 0)
    case atStart => exact ⟨rfl, rfl, rfl⟩
    case round =>
      obtain ⟨rfl, rfl, rfl⟩ := hrel
      go_wp2
      go_ret
      exact ⟨rfl, .inl ⟨rfl, rfl, rfl⟩, none, World.grownBy.refl _ _, fun g h => by cases h⟩
  · go_enter Try.func32, Try.ntmps32
    go_wp2
    go_loopw [1, 5] (fun q s wr => ∃ (j : Nat) (xs : List Value), j ≤ n ∧ s = .int .i64 j ∧ q = .int .i64 ((k + j * 3 : Nat) : Int) ∧ wr.ownsRow B 89 3 (.slice (some ⟨g, 0, none⟩) n c) n xs ∧ (∀ t, t < j * 3 → xs[t]? = some (marX k t)) ∧ w.grownBy wr (some g))
      (fun _ s _ => n - (intOf s).toNat)
    case atStart => exact ⟨0, _, Nat.zero_le _, rfl, rfl, hown0, fun t ht => by omega, World.grownBy.refl _ _⟩
    case round =>
      obtain ⟨j, xs, hj, rfl, rfl, hown, hx, hb⟩ := hrel
      clear hown0 hx0
      by_cases hlt : j < n
      · have hlen : xs.length = n * 3 := hown.1
        have cell : ∀ i, i < n * 3 → ∃ v, wr.cell? ⟨g, i, none⟩ = some v := fun i hi => ⟨_, (hown.cellAt i hi).trans (List.getElem?_eq_getElem (by omega))⟩
        obtain ⟨v0, d0⟩ := cell (j * 3) (by omega)
        obtain ⟨v1, d1⟩ := cell (j * 3 + 1) (by omega)
        obtain ⟨v2, d2⟩ := cell (j * 3 + 2) (by omega)
        have f0 := hown.frozenAt (j * 3)
        have f1 := hown.frozenAt (j * 3 + 1)
        have f2 := hown.frozenAt (j * 3 + 2)
        obtain ⟨o1, g1⟩ := hown.stored (j * 3) (.int .i64 ((k + j * 3 : Nat) : Int))
        obtain ⟨o2, g2⟩ := o1.stored (j * 3 + 1) (.int .i64 ((k + j * 3 + 1 : Nat) : Int))
        obtain ⟨o3, g3⟩ := o2.stored (j * 3 + 2) (.float .f32 (floatOfInt .f32 ((k + j * 3 + 2 : Nat) : Int)))
        have hown2 := Lib.hid o3
        have hb2 := Lib.hid (grownBy_trans (grownBy_trans (grownBy_trans hb g1) g2) g3)
        have hx2 : Hid (∀ t, t < (j + 1) * 3 → (((xs.set (j * 3) (.int .i64 ((k + j * 3 : Nat) : Int))).set (j * 3 + 1) (.int .i64 ((k + j * 3 + 1 : Nat) : Int))).set (j * 3 + 2) (.float .f32 (floatOfInt .f32 ((k + j * 3 + 2 : Nat) : Int))))[t]? = some (marX k t)) := by
          refine Lib.hid fun t ht => ?_
          by_cases e2 : t = j * 3 + 2
          · subst e2; rw [marX_2, List.getElem?_set_self (by simp; omega)]
          · rw [List.getElem?_set_ne (Ne.symm e2)]
            by_cases e1 : t = j * 3 + 1
            · subst e1; rw [marX_1, List.getElem?_set_self (by simp; omega)]
            · rw [List.getElem?_set_ne (Ne.symm e1)]
              by_cases e0 : t = j * 3
              · subst e0; rw [marX_0, List.getElem?_set_self (by omega)]
              · rw [List.getElem?_set_ne (Ne.symm e0)]; exact hx t (by omega)
        have hw1 : IntKind.i64.wrap (((k + j * 3 : Nat) : Int) + 1) = ((k + j * 3 + 1 : Nat) : Int) := by rw [← Int.natCast_succ]; exact IntWalk.i64_in _ (by omega)
        have hw2 : IntKind.i64.wrap (((k + j * 3 + 1 : Nat) : Int) + 1) = ((k + j * 3 + 2 : Nat) : Int) := by rw [← Int.natCast_succ]; exact IntWalk.i64_in _ (by omega)
        have hw3 : IntKind.i64.wrap (((k + j * 3 + 2 : Nat) : Int) + 1) = ((k + (j + 1) * 3 : Nat) : Int) := by rw [← Int.natCast_succ, show (k + j * 3 + 2).succ = k + (j + 1) * 3 by omega]; exact IntWalk.i64_in _ (by omega)
        generalize k + j * 3 + 2 = k2 at hw2 hw3 hown2 hx2 hb2
        generalize k + j * 3 + 1 = k1 at hw1 hw2 hown2 hx2 hb2
        generalize k + j * 3 = k0 at hw1 hown2 hx2 hb2 ⊢
        clear o1 g1 o2 g2 o3 g3 hown hx hb cell hlen
        go_wp2
        go_roundw
        case rel => exact ⟨j + 1, _, by omega, by go_num, by go_num, hown2.out, hx2.out, hb2.out⟩
        case measure => simp [intOf]; omega
      · obtain rfl : j = n := by omega
        have hown2 := Lib.hid hown
        have hx2 := Lib.hid hx
        have hb2 := Lib.hid hb
        clear hown hx hb
        go_wp2
        go_ret
        exact ⟨rfl, .inr ⟨g, xs, rfl, hcn, hm, hB, hU, Nat.le_trans hUw hb2.out.size, hown2.out, hx2.out⟩, some g, hb2.out, fun g' h => by cases h; exact ⟨hB, hU⟩⟩
theorem heldEntryS_any (a : Option Addr) (n c k : Nat) (w : World) (hn : n ≤ 1048576) (hk : k ≤ 1048576) (h : ES w a n c (marX k)) :
    Calls Try.prog 33 #[.slice a n c, .int .i64 k] w fun e w' => e = .returned (.int .i64 ((k + n * 3 : Nat) : Int)) ∧ w = w' := by
  go_enter Try.func33, Try.ntmps33
  go_wp2
  go_loop [1, 5] (fun q s => ∃ (j : Nat), j ≤ n ∧ s = .int .i64 j ∧ q = .int .i64 ((k + j * 3 : Nat) : Int)) (fun _ s => n - (intOf s).toNat)
  case atStart => exact ⟨0, Nat.zero_le _, rfl, rfl⟩
  case round =>
    obtain ⟨j, hj, rfl, rfl⟩ := hrel
    by_cases hlt : j < n
    · obtain ⟨g, rfl, hg, c0, c1, c2⟩ := h.at hlt
      rw [marX_0] at c0
      rw [marX_1] at c1
      rw [marX_2] at c2
      have hw1 : IntKind.i64.wrap (((k + j * 3 : Nat) : Int) + 1) = ((k + j * 3 + 1 : Nat) : Int) := by rw [← Int.natCast_succ]; exact IntWalk.i64_in _ (by omega)
      have hw2 : IntKind.i64.wrap (((k + j * 3 + 1 : Nat) : Int) + 1) = ((k + j * 3 + 2 : Nat) : Int) := by rw [← Int.natCast_succ]; exact IntWalk.i64_in _ (by omega)
      have hw3 : IntKind.i64.wrap (((k + j * 3 + 2 : Nat) : Int) + 1) = ((k + (j + 1) * 3 : Nat) : Int) := by rw [← Int.natCast_succ, show (k + j * 3 + 2).succ = k + (j + 1) * 3 by omega]; exact IntWalk.i64_in _ (by omega)
      generalize k + j * 3 + 2 = k2 at hw2 hw3 c2
      generalize k + j * 3 + 1 = k1 at hw1 hw2 c1
      generalize k + j * 3 = k0 at hw1 c0 ⊢
      have hcn : cn .f32 (floatOfInt .f32 ((k2 : Nat) : Int)) = some (floatOfInt .f32 ((k2 : Nat) : Int)) := cn_number _ _ _ _
      have hs := ford_self .f32 (floatOfInt .f32 ((k2 : Nat) : Int))
      rw [hcn] at hs
      simp only [Option.map_some] at hs
      clear h
      have hdec : decide ((j : Int) < n) = true := decide_eq_true (by omega)
      go_wp2
      go_round
      case rel => exact ⟨j + 1, by omega, by go_num, by go_num⟩
      case measure => simp [intOf]; omega
    · obtain rfl : j = n := by omega
      go_wp2
      go_ret
      exact ⟨rfl, rfl⟩
end Go.Proofs.Ytmjlhmbnaifhaab
