/- Helper: walks of the laws' own functions on slices of 32-bit numbers: copies, comparisons. Conditions: none. -/
import Derived.Test.YtcibjkadlndejaaSmallWalks
import Derived.Test.YtcibjkadlndejaaFloatRows
import Derived.Test.YtcibjkadlndejaaLoose
import Derived.Lib.Hide
set_option linter.unusedVariables false
set_option linter.unusedSimpArgs false
namespace Go.Proofs.Ytcibjkadlndejaa
open Go.RowKit

theorem cells32 : Try.prog.cellsOf 41 = 1 := by kernel_rfl
theorem info32 : (Try.prog.info? 41).map (fun i => (i.zero, i.size, i.bytes)) = some (some (.float .f32 0), 1, 4) := by kernel_rfl

def Copied (k : FloatKind) (w : World) (n : Nat) (Z : Nat → Nat) (e : Ending) (w' : World) : Prop :=
  e = .returned (.slice (some ⟨w.heap.size, 0, none⟩) n n) ∧ FS k w' (some ⟨w.heap.size, 0, none⟩) n n Z ∧ Below w.heap.size w w' ∧ w.heap.size < w'.heap.size

theorem toFloat32S_any (a : Option Addr) (n c : Nat) (Z : Nat → Nat) (w : World) (hn : n ≤ 1048576) (h : FS .f32 w a n c Z) :
    Calls Try.prog 17 #[.slice a n c] w (Copied .f32 w n Z) := by
  obtain ⟨i0, hi, hz0, hz1, hz2⟩ := info_parts info32
  go_enter Try.func17, Try.ntmps17
  go_wp2_with (at_make; refine wpList_make_full _ rfl _ _ 22 rfl w.heap.size 41 i0 (.float .f32 0) 1 Try.underlying22 hi hz0 hz1 _ _ _ _ n rfl rfl rfl rfl ?b2 ?b3 (Nat.le_refl _) ?_)
  case b2 => rw [hz2]; omega
  case b3 => unfold maxLen; omega
  intro w0 hown0 hgrow0
  go_wp2
  go_loopw [4] (fun s wr => ∃ (j : Nat) (xs : List Value), j ≤ n ∧ s = .int .i64 j ∧ wr.ownsRow w.heap.size 41 1 (.slice (some ⟨w.heap.size, 0, none⟩) n n) n xs ∧ (∀ t, t < j → xs[t]? = some (.float .f32 (Z t))) ∧ Below w.heap.size w wr)
    (fun s _ => n - (intOf s).toNat)
  case atStart => exact ⟨0, _, Nat.zero_le _, rfl, hown0, fun t ht => by omega, (Below.refl _ _).grown hgrow0 (Nat.le_refl _) (fun k h => by cases h)⟩
  case round =>
    obtain ⟨j, xs, hj, rfl, hown, hx, hb⟩ := hrel
    clear hown0 hgrow0
    by_cases hlt : j < n
    · obtain ⟨b, off, rfl, hbl, hc, hfv⟩ := h.at hlt
      have hc' : wr.cell? ⟨b, off + j, none⟩ = some (.float .f32 (Z j)) := (hb.cell (p := ⟨b, off + j, none⟩) hbl).trans hc
      have hlen : xs.length = n := by simpa using hown.1
      have hxj : xs[j]? = some (xs[j]'(by omega)) := List.getElem?_eq_getElem (by omega)
      have hd := hown.cellAt j (by omega)
      rw [hxj] at hd
      have hf := hown.frozenAt j
      generalize xs[j]'(by omega) = old at hd
      obtain ⟨hown1, hgrow1⟩ := hown.stored j (.float .f32 (Z j))
      have hown2 := Lib.hid hown1
      have hb2 := Lib.hid (hb.grown hgrow1 hb.size (fun k hk => by cases hk; exact Nat.le_refl _))
      have hx2 : Hid (∀ t, t < j + 1 → (xs.set j (.float .f32 (Z j)))[t]? = some (.float .f32 (Z t))) := by
        refine Lib.hid fun t ht => ?_
        by_cases e : t = j
        · subst e; rw [List.getElem?_set_self (by omega)]
        · rw [List.getElem?_set_ne (Ne.symm e)]; exact hx t (by omega)
      clear hown1 hgrow1 hown hx hb hc hfv hxj hlen
      go_wp2
      go_roundw
      case rel => exact ⟨j + 1, _, by omega, by go_num, hown2.out, hx2.out, hb2.out⟩
      case measure => simp [intOf]; omega
    · obtain rfl : j = n := by omega
      have hfs := FS.owned (k := .f32) (Z := Z) hown (Nat.le_refl _) (by unfold maxLen; omega) hx (fun t ht => (h.2.2 t ht).elim fun _ r => r.elim fun _ r => r.2.2.2)
      have hlt2 := Lib.hid (hown.lt w.heap.size rfl).2
      have hfs2 := Lib.hid hfs
      have hb2 := Lib.hid hb
      clear hfs hown hx hb
      go_wp2
      go_ret
      exact ⟨rfl, hfs2.out, hb2.out, hlt2.out⟩

set_option maxRecDepth 100000 in
theorem eqFloat32S_any (a b : Option Addr) (n c d : Nat) (Z Y : Nat → Nat) (w : World) (hn : n ≤ 1048576) (ha : FS .f32 w a n c Z) (hb : FS .f32 w b n d Y) (hzy : ∀ i, i < n → cn .f32 (Z i) = cn .f32 (Y i)) :
    Calls Try.prog 19 #[.slice a n c, .slice b n d] w fun e w' => e = .returned (.bool true) ∧ ∃ m, w' = w.drewN m := by
  go_enter Try.func19, Try.ntmps19
  go_wp2
  go_loopw [5] (fun s wr => ∃ j m : Nat, j ≤ n ∧ s = .int .i64 j ∧ wr = w.drewN m) (fun s _ => n - (intOf s).toNat)
  case atStart => exact ⟨0, 0, Nat.zero_le _, rfl, rfl⟩
  case round =>
    obtain ⟨j, m, hj, rfl, rfl⟩ := hrel
    by_cases hlt : j < n
    · obtain ⟨b1, off1, rfl, hbl, hc, hfv⟩ := ha.at hlt
      obtain ⟨b2, off2, rfl, hbl2, hc2, hfv2⟩ := hb.at hlt
      rw [← hzy j hlt] at hfv2
      clear ha hb hbl hbl2
      generalize cn .f32 (Z j) = X at hfv hfv2
      have hdec : decide ((j : Int) < n) = true := decide_eq_true (by omega)
      go_wp2
      refine wp_region_loose (by kernel_rfl) (by kernel_rfl) ?_
      repeat (refine wpLoose_want rfl (fun K hK => ?_); first | (refine loose_widen _ _ _ rfl _ rfl (by kernel_rfl) Try.underlying71 (by assumption) ?_; intro r hr; refine hK _ ?_; clear hK K; simp only [Act.put, List.setIfInBounds_toArray, List.set_cons_succ, List.set_cons_zero]) | (refine loose_of_quiet rfl ?_; go_big_quiet_op; refine hK _ ?_; clear hK K))
      refine wpLoose_want rfl (fun K hK => ?_)
      apply loose_of_call (f := 51) (args := #[.float .f64 _, .float .f64 _]) (u := .bool true) (hi := by kernel_rfl)
      case hr =>
        intro W
        simp [go_sem, BigFrame.eval_const, BigFrame.eval_global, BigFrame.eval_func]
        exact ⟨rfl, rfl⟩
      case hc =>
        rintro W ⟨q, rfl⟩
        refine (sameFloat_any _ _ (by assumption) (by assumption) _).mono ?_
        rintro e w' ⟨rfl, q2, rfl⟩
        exact ⟨rfl, q + q2, World.drewN_drewN _ _ _⟩
      refine hK _ ?_
      clear hK K
      simp only [Act.put, List.setIfInBounds_toArray, List.set_cons_succ, List.set_cons_zero]
      refine wpLoose_want rfl (fun K hK => ?_)
      refine loose_of_quiet rfl ?_
      go_big_quiet_op
      refine hK _ ?_
      clear hK K
      refine wpLoose_nil ?_
      rintro _ ⟨nq, rfl⟩
      go_wp2
      go_roundw
      case rel => exact ⟨j + 1, _, by omega, by go_num, rfl⟩
      case measure => simp [intOf]; omega
    · obtain rfl : j = n := by omega
      go_wp2
      go_ret
      exact ⟨rfl, _, rfl⟩
end Go.Proofs.Ytcibjkadlndejaa
