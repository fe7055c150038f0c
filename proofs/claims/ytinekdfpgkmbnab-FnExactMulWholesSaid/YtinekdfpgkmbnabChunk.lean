/- Helper: slices.Chunk of integers and slices.Collect of what it hands out. Conditions: none. -/
import Derived.RangeFuncNested
import Derived.RangeFuncBound
import Derived.RangeFuncCalls
import Derived.RangeFuncLeaves
import Derived.RangeFuncBox
import Derived.Shelf.Abstract
import Derived.Shelf.RegionOpen
import Derived.WalkKit
import Derived.OwnWalkIn
import Derived.TacticsInMore
import Derived.LoopNIn
import Derived.LoopIn
import Derived.Maps.AppendAt
import Derived.Test.YtinekdfpgkmbnabTabGrow
set_option linter.unusedVariables false
set_option linter.unusedSimpArgs false
namespace Go.Proofs.Ytinekdfpgkmbnab
open Go.RowKit Go.Shelf

attribute [local go_sem] Oper.semAt_some

/-- Row number x of a list at an address, in rows of c. -/
def chunkV (b o c x : Nat) : Value := .slice (some ⟨b, o + x * c, none⟩) c c
set_option maxRecDepth 100000 in
set_option maxHeartbeats 2000000 in
theorem chunk1_in (n l Bs Bz n₀ b o r c len cap : Nat) (hn : 1 ≤ n) (hc : 1 ≤ c) (hc6 : c ≤ 6) (hr6 : r ≤ 6) (hlen : len = r * c) (hcap : len ≤ cap) (hcm : cap ≤ maxLen) (hb : Bs < n₀) (hbz : Bz < n₀) (J Jx : List Nat → World → Prop)
    (hY : ∀ pre x W, J pre W → pre.length < r → YieldAt Fence.wide (n - 1) Try.prog l #[chunkV b o c x] W fun e W' =>
      (e = .returned (.bool true) ∧ J (pre ++ [x]) W' ∧ Below n₀ W W') ∨ (e = .returned (.bool false) ∧ Jx (pre ++ [x]) W'))
    (hJd : ∀ pre W, J pre W → J pre W.drew)
    (W : World) (hBs : W.cell? ⟨Bs, 0, none⟩ = some (.slice (some ⟨b, o, none⟩) len cap)) (hBz : W.cell? ⟨Bz, 0, none⟩ = some (.int .i64 c)) (h0 : J [] W) :
    CallsIn Fence.wide n Try.prog 84 #[.func (.yield l) #[] #[], .pointer (some ⟨Bs, 0, none⟩), .pointer (some ⟨Bz, 0, none⟩)] W fun e W' => (∃ v, e = .returned v) ∧
      ((∃ ys, ys = List.range r ∧ J ys W') ∨ (∃ pre, (∃ k, k ≤ r ∧ pre = List.range k) ∧ Jx pre W')) := by
  have hL36 : len ≤ 36 := by have : r * c ≤ 6 * 6 := Nat.mul_le_mul hr6 hc6; omega
  have HL := Lib.hid hlen
  have hcm2 : cap ≤ 9223372036854775807 := by unfold maxLen at hcm; omega
  clear hlen hcm
  refine callsIn_of_wp Try.func84 rfl trivial ?_ rfl
  simp only [Try.ntmps84, List.size_toArray, List.length_cons, List.length_nil, Nat.reduceAdd, Nat.reduceSub, Array.replicate_succ, Array.replicate_zero, List.push_toArray, List.append_toArray, List.nil_append, List.cons_append]
  gi_wp2
  gi_loopw [4] (fun i wr => ∃ k I : Nat, k ≤ r ∧ Hid (I = k * c) ∧ i = .int .i64 I ∧ J (List.range k) wr ∧ Below n₀ W wr)
    (fun i _ => len - (intOf i).toNat)
  case atStart => exact ⟨0, 0, Nat.zero_le _, Lib.hid (by rw [Nat.zero_mul]), rfl, h0, Below.refl _ _⟩
  case round =>
    obtain ⟨k, I, hk, HI, rfl, hJs, hnx⟩ := hrel
    have hcs : wr.cell? ⟨Bs, 0, none⟩ = some (.slice (some ⟨b, o, none⟩) len cap) := (hnx.cell (p := ⟨Bs, 0, none⟩) hb).trans hBs
    have hcz : wr.cell? ⟨Bz, 0, none⟩ = some (.int .i64 c) := (hnx.cell (p := ⟨Bz, 0, none⟩) hbz).trans hBz
    by_cases hlt : k < r
    · have hI1 : I + c ≤ len := by
        have e1 : (k + 1) * c ≤ r * c := Nat.mul_le_mul_right c hlt
        rw [Nat.add_mul, Nat.one_mul, ← HL.out, ← HI.out] at e1
        exact e1
      have hI2 : I < len := by omega
      obtain ⟨fn, tmps, assign, body, hy, hR⟩ := hY _ k wr.drew (hJd _ _ hJs) (by rw [List.length_range]; exact hlt)
      have hV : chunkV b o c k = .slice (some ⟨b, o + I, none⟩) c c := by unfold chunkV; rw [HI.out]
      rw [hV] at hy
      clear hV
      have hmin : min (c : Int) ((len - I : Nat) : Int) = (c : Int) := by omega
      have hw1 : IntKind.i64.wrap ((I : Int) + (c : Int)) = (I : Int) + (c : Int) := IntWalk.i64_in _ (by omega)
      have ht1 : ((I : Int) + (c : Int)).toNat = I + c := by omega
      have ht2 : I + c - I = c := by omega
      have hlc : (I : Int) + (c : Int) ≤ (cap : Int) := by omega
      have hJn : Hid (((I + c : Nat)) = (k + 1) * c) := Lib.hid (by rw [Nat.add_mul, Nat.one_mul, ← HI.out])
      gi_wp2
      gi_region
      gi_wp2
      refine hR.mono ?_
      rintro e W3 (⟨rfl, hJ3, hk3⟩ | ⟨rfl, hJx3⟩)
      · have hk4 : Below n₀ W W3 := hnx.trans ((Below.refl n₀ wr).drew.trans hk3)
        have hcz3 : W3.cell? ⟨Bz, 0, none⟩ = some (.int .i64 c) := (hk4.cell (p := ⟨Bz, 0, none⟩) hbz).trans hBz
        gi_wp2
        go_roundw
        case rel => exact ⟨k + 1, I + c, by omega, hJn, by simp, by rw [List.range_succ]; exact hJ3, hk4⟩
        case measure => simp [intOf]; omega
      · gi_wp2
        refine bodyPost_ret (results_none rfl _ _ _) rfl ?_
        exact ⟨⟨_, rfl⟩, .inr ⟨_, ⟨k + 1, by omega, by rw [List.range_succ]⟩, hJx3⟩⟩
    · obtain rfl : k = r := by omega
      have hI2 : ¬ (I < len) := by rw [HL.out, HI.out]; omega
      gi_wp2
      go_end0
      exact ⟨⟨_, rfl⟩, .inl ⟨_, rfl, hJs⟩⟩
theorem grown_drewN0 (w : World) (row : Option Nat) : w.grownBy w.drew row := ⟨rfl, rfl, rfl, Nat.le_refl _, fun _ _ _ => rfl⟩
/-- What slices.Chunk hands back gives the rows, one after another. -/
theorem chunk_stops (n Bs Bz n₀ b o r c len cap : Nat) (hn : 1 ≤ n) (hc : 1 ≤ c) (hc6 : c ≤ 6) (hr6 : r ≤ 6) (hlen : len = r * c) (hcap : len ≤ cap) (hcm : cap ≤ maxLen) (w : World) (hb : Bs < n₀) (hbz : Bz < n₀) (hn₀ : n₀ ≤ w.heap.size)
    (hBs : w.cell? ⟨Bs, 0, none⟩ = some (.slice (some ⟨b, o, none⟩) len cap)) (hBz : w.cell? ⟨Bz, 0, none⟩ = some (.int .i64 c)) :
    SeqStopsK Fence.wide n Try.prog 84 #[.pointer (some ⟨Bs, 0, none⟩), .pointer (some ⟨Bz, 0, none⟩)] (fun x : Nat => #[chunkV b o c x]) (Below n₀) (fun ys => ys = List.range r) (fun pre => ∃ k, k ≤ r ∧ pre = List.range k) r w := fun l J Jx W hW hJ _ hY h0 =>
  chunk1_in n l Bs Bz n₀ b o r c len cap hn hc hc6 hr6 hlen hcap hcm hb hbz J Jx hY (fun pre W1 h => hJ pre W1 W1.drew none h (grown_drewN0 W1 none) (fun r e => by cases e)) W ((hW.cell (p := ⟨Bs, 0, none⟩) (by show Bs < _; omega)).trans hBs) ((hW.cell (p := ⟨Bz, 0, none⟩) (by show Bz < _; omega)).trans hBz) h0
set_option maxRecDepth 100000 in
set_option maxHeartbeats 2000000 in
theorem appendSeq_in (Bs Bz b o r c len cap : Nat) (hc : 1 ≤ c) (hc6 : c ≤ 6) (hr6 : r ≤ 6) (hlen : len = r * c) (hcap : len ≤ cap) (hcm : cap ≤ maxLen) (w : World) (hb : Bs < w.heap.size) (hbz : Bz < w.heap.size)
    (hBs : w.cell? ⟨Bs, 0, none⟩ = some (.slice (some ⟨b, o, none⟩) len cap)) (hBz : w.cell? ⟨Bz, 0, none⟩ = some (.int .i64 c)) :
    CallsIn Fence.wide 9 Try.prog 83 #[.slice none 0 0, .func (.func 84) #[] #[.pointer (some ⟨Bs, 0, none⟩), .pointer (some ⟨Bz, 0, none⟩)]] w fun e w' =>
      ∃ v, e = .returned v ∧ w'.ownsRow w.heap.size 22 1 v r ((List.range r).map (chunkV b o c)) ∧ Below w.heap.size w w' := by
  obtain ⟨i0, hi, hz0, hz1, hz2⟩ := info_parts infoRow
  refine callsIn_of_wp_marks Try.func83 rfl trivial ?_ rfl
  simp only [Try.ntmps83, List.size_toArray, List.length_cons, List.length_nil, Nat.reduceAdd, Nat.reduceSub, Array.replicate_succ, Array.replicate_zero, List.push_toArray, List.append_toArray, List.nil_append, List.cons_append]
  gi_wp2
  have bO := Boxed.new w 53 (.slice none 0 0)
  have hB0 : Below w.heap.size w (w.alloc (.cells #[.slice none 0 0] 53)) := (Below.refl _ w).alloc (Nat.le_refl _) _
  refine wpIn_rangeFunc_ownG rfl (by omega) (gf := 84) (lb := #[.pointer (some ⟨Bs, 0, none⟩), .pointer (some ⟨Bz, 0, none⟩)]) rfl trivial (enters_of Try.func84 (by kernel_rfl) rfl)
    (chunk_stops _ Bs Bz w.heap.size b o r c len cap (by omega) hc hc6 hr6 hlen hcap hcm _ hb hbz (by simp) ((hB0.cell (p := ⟨Bs, 0, none⟩) hb).trans hBs) ((hB0.cell (p := ⟨Bz, 0, none⟩) hbz).trans hBz)) belowK_t (belowK_b (by simp)) (Below.refl _ _) (fun _ => rfl)
    (fun (pre : List Nat) W => (∃ v, Boxed W w.heap.size 53 v ∧ W.ownsRow w.heap.size 22 1 v pre.length (pre.map (chunkV b o c)) ∧ True) ∧ Below w.heap.size w W)
    (fun _ _ _ => False)
    (OwnFrom.and (Own.from (holdsRow_own w.heap.size w.heap.size 53 22 1 (fun pre : List Nat => pre.length) (fun pre : List Nat => pre.map (chunkV b o c)) (fun (pre : List Nat) v => True)) _) (ownFrom_below (Nat.le_refl _) (by simp)))
    (fun _ _ _ _ _ hs _ _ => hs)
    ⟨⟨_, bO, World.ownsRow_nil _ _ _ _, trivial⟩, hB0⟩
    (fun x : Nat => { tmps := #[.slice none 0 0, .func (.func 84) #[] #[.pointer (some ⟨Bs, 0, none⟩), .pointer (some ⟨Bz, 0, none⟩)], .pointer (some ⟨w.heap.size, 0, none⟩), undef, .slice none 0 0, (.slice (some ⟨b, o + x * c, none⟩) c c), .func (.func 84) #[] #[.pointer (some ⟨Bs, 0, none⟩), .pointer (some ⟨Bz, 0, none⟩)], (.slice (some ⟨b, o + x * c, none⟩) c c), undef, undef, undef, undef, undef], defers := [] }) ?assign ?body ?done ?stop
  case assign =>
    intro l x W K hK
    gi_wp2
    exact hK
  case body =>
    rintro l pre x W ⟨⟨v, hv, hrow, _⟩, hB⟩ hlt
    have hc := hv.cell
    gi_wp2_with (gi_at_builtin; refine wpListIn_append_own _ rfl _ _ 53 rfl w.heap.size 22 i0 (.slice none 0 0) 1 24 Try.underlying53 hi hz0 hz1 hz2 rfl (by decide) _ _ _ rfl (hrow.alloc _) ⟨W.heap.size, 0, none⟩ 1 1 [.slice (some ⟨b, o + x * c, none⟩) c c] rfl rfl (cell_one_new _ _ _) (by simp [Value.oneCell']) (by unfold maxLen; omega) (by omega) (by have := hB.size; simp; omega) ?_; intro v' w1 hown' hgrow _; obtain ⟨g', cap', rfl⟩ := ownsRow_succ hown'; obtain ⟨hv1, hv2, hr2, hk2, hb2⟩ := hv.appended (by decide) hrow hB.size (Nat.le_refl _) hown' hgrow; have hc1 := hv1.cell; have hf1 := hv1.frozen)
    exact ⟨hk2.from _, hb2, ⟨_, hv2, by simpa [chunkV] using hr2, trivial⟩, hB.trans hb2⟩
  case done =>
    rintro D ys W hD rfl ⟨⟨v, hv, hrow, _⟩, hB⟩ hK
    have hc := hv.cell
    gi_wp2
    refine ⟨by simp, .inl ⟨_, _, rfl, run_takeDeferred hK, ?_⟩⟩
    exact ⟨_, results_tmp rfl _ _ _, v, rfl, by simpa using ownsRow_putObj hrow _ hK rfl, hB.trans (belowK_b (w := w) (Nat.le_refl _) W D _ _ (by simp at hD; omega) hK rfl rfl)⟩
  case stop =>
    rintro D c pre W _ _ h _
    exact h.elim
end Go.Proofs.Ytinekdfpgkmbnab
