/- Helper: the numbers that a row of a sparse square tells, one after another, of the program. Conditions: none. -/
import Derived.Test.YtmjlhmbnaifhaabRangeF
import Derived.Test.YtmjlhmbnaifhaabSpValid
import Derived.Shelf.Abstract
import Derived.Shelf.RegionOpen
import Derived.OwnWalkIn
import Derived.TacticsInMore
import Derived.LoopNIn
import Derived.LoopIn
import Derived.Maps.AppendAt
set_option linter.unusedVariables false
set_option linter.unusedSimpArgs false
namespace Go.Proofs.Ytmjlhmbnaifhaab
open Go.RowKit Go.Shelf

attribute [local go_sem] Oper.semAt_some

theorem Frm.drew {M : Nat → Prop} (A : World) : Frm M A A.drew := ⟨rfl, rfl, rfl, Nat.le_refl _, fun _ _ _ => rfl⟩
theorem Frm.drewN {M : Nat → Prop} (A : World) (m : Nat) : Frm M A (A.drewN m) := ⟨rfl, rfl, rfl, Nat.le_refl _, fun _ _ _ => rfl⟩
theorem Frm.cell {M : Nat → Prop} {A B : World} (h : Frm M A B) {p : Addr} {v : Value} (hl : p.block < A.heap.size) (hm : M p.block) (hc : A.cell? p = some v) : B.cell? p = some v :=
  (World.cell?_of_block (h.same _ hl hm)).trans hc
theorem Frm.boxL {M : Nat → Prop} {A B : World} (h : Frm M A B) {b : Nat} {vs : List Value} (hl : b < A.heap.size) (hm : M b) (hc : BoxL A b vs) : BoxL B b vs :=
  fun i v hv => h.cell (p := ⟨b, i, none⟩) hl hm (hc i v hv)

/-- What an iterator over a sparse square wants kept: all that lay below n, and two boxes. -/
def PrS (n Ba Br k : Nat) : Prop := k < n ∨ k = Ba ∨ k = Br

/-- A round has gone on, or has said that no more is wanted. -/
def RowYN {α : Type} (Pr : Nat → Prop) (B : Nat) (J Jx : List α → (Nat → Prop) → World → Prop) (X : Nat → Prop) (xs : List α) (A : World) (b : Bool) (W : World) : Prop :=
  (b = true ∧ ∃ X', J xs X' W ∧ Kept Pr B X X' A W) ∨ (b = false ∧ ∃ X', Jx xs X' W ∧ Kept Pr B X X' A W)
/-- Number x comes behind those before it. -/
def nextR (m : Nat) (pre : List Nat) (x : Nat) : Prop := pre = List.range x ∧ x < m
/-- Number x of those from A on. -/
def rowEnc (K : Nat → Int) (Z : Nat → Nat) (A x : Nat) : Array Value := #[.int .i64 (K (A + x)), .float .f32 (Z (A + x))]
set_option maxRecDepth 100000 in
set_option maxHeartbeats 4000000 in
theorem inRow1_in (n l Ba Br n₀ s A m n1 n2 b1 o1 c1 c2 c3 i : Nat) (a2 a3 : Option Addr) (O K : Nat → Int) (Z : Nat → Nat) (hn : 1 ≤ n) (hn1 : n1 ≤ 1048576) (hi1 : i + 1 < n1) (hO : O i = (A : Int)) (hO1 : O (i + 1) = ((A + m : Nat) : Int)) (hE : A + m ≤ n2) (hn2 : n2 ≤ 512)
    (X0 : Nat → Prop) (J Jx : List Nat → (Nat → Prop) → World → Prop) (W : World)
    (hJ : ∀ pre X A B, J pre X A → Frm (fun k => k < W.heap.size ∨ X k) A B → J pre X B)
    (hY : ∀ pre x X W1, J pre X W1 → nextR m pre x → W.heap.size ≤ W1.heap.size → YieldAt Fence.wide (n - 1) Try.prog l (rowEnc K Z A x) W1 fun e W' =>
      (e = .returned (.bool true) ∧ ∃ X', J (pre ++ [x]) X' W' ∧ Kept (PrS n₀ Ba Br) W.heap.size X X' W1 W') ∨ (e = .returned (.bool false) ∧ ∃ X', Jx (pre ++ [x]) X' W' ∧ Kept (PrS n₀ Ba Br) W.heap.size X X' W1 W'))
    (hn0 : n₀ ≤ W.heap.size) (hla : Ba < W.heap.size) (hlr : Br < W.heap.size) (hBa : BoxL W Ba [.int .i64 (s : Int), .slice (some ⟨b1, o1, none⟩) n1 c1, .slice a2 n2 c2, .slice a3 n2 c3]) (hBr : W.cell? ⟨Br, 0, none⟩ = some (.int .i64 (i : Int)))
    (F1 : ∀ W', Below n₀ W W' → IS .i64 W' (some ⟨b1, o1, none⟩) n1 c1 O) (F2 : ∀ W', Below n₀ W W' → IS .i64 W' a2 n2 c2 K) (F3 : ∀ W', Below n₀ W W' → FS .f32 W' a3 n2 c3 Z) (h0 : J [] X0 W) :
    CallsIn Fence.wide n Try.prog 69 #[.func (.yield l) #[] #[], .pointer (some ⟨Ba, 0, none⟩), .pointer (some ⟨Br, 0, none⟩)] W fun e W' => (∃ v, e = .returned v) ∧
      ((∃ ys X, ys = List.range m ∧ J ys X W') ∨ (∃ pre X, (∃ k, k ≤ m ∧ pre = List.range k) ∧ Jx pre X W')) := by
  obtain ⟨E, hEE⟩ : ∃ E, E = A + m := ⟨_, rfl⟩
  rw [← hEE] at hO1 hE
  obtain ⟨i1, hi1e⟩ : ∃ i1, i1 = i + 1 := ⟨_, rfl⟩
  rw [← hi1e] at hO1 hi1
  have hin : i < n1 := by omega
  have hsum : IntKind.i64.wrap ((i : Int) + 1) = (i1 : Int) := by
    have e : (i : Int) + 1 = (i1 : Int) := by omega
    rw [e]; exact IntWalk.i64_in _ (by omega)
  have cA : ∀ W', Below n₀ W W' → W'.cell? ⟨b1, o1 + i, none⟩ = some (.int .i64 (A : Int)) := fun W' hb => by
    obtain ⟨b', off', e, _, hc, _⟩ := (F1 W' hb).at hin
    simp only [Option.some.injEq, Addr.mk.injEq, and_true] at e
    obtain ⟨rfl, rfl⟩ := e
    rw [hO] at hc
    exact hc
  have cE : ∀ W', Below n₀ W W' → W'.cell? ⟨b1, o1 + i1, none⟩ = some (.int .i64 (E : Int)) := fun W' hb => by
    obtain ⟨b', off', e, _, hc, _⟩ := (F1 W' hb).at hi1
    simp only [Option.some.injEq, Addr.mk.injEq, and_true] at e
    obtain ⟨rfl, rfl⟩ := e
    rw [hO1] at hc
    exact hc
  have HE := Lib.hid hEE
  have HcA := Lib.hid cA
  have HcE := Lib.hid cE
  have HF2 := Lib.hid F2
  have HF3 := Lib.hid F3
  have HY := Lib.hid hY
  have HJ := Lib.hid hJ
  have z0 := cA W (Below.refl _ _)
  have y1 := hBa 1 _ rfl
  have HBa := Lib.hid hBa
  have HBr := Lib.hid hBr
  have Hh0 := Lib.hid h0
  clear hO hO1 hEE hi1e cA cE F1 F2 F3 hY hJ hBa h0
  refine callsIn_of_wp Try.func69 rfl trivial ?_ rfl
  simp only [Try.ntmps69, List.size_toArray, List.length_cons, List.length_nil, Nat.reduceAdd, Nat.reduceSub, Array.replicate_succ, Array.replicate_zero, List.push_toArray, List.append_toArray, List.nil_append, List.cons_append]
  gi_wp2
  clear z0 y1 hBr
  gi_loopw [4] (fun i wr => ∃ (k Q : Nat) (X : Nat → Prop), k ≤ m ∧ Hid (Q = A + k) ∧ i = .int .i64 (Q : Int) ∧ J (List.range k) X wr ∧ Frm (PrS n₀ Ba Br) W wr)
    (fun i _ => E - (intOf i).toNat)
  case atStart => exact ⟨0, A, X0, Nat.zero_le _, Lib.hid (by omega), rfl, Hh0.out, Frm.refl _ _⟩
  case round =>
    obtain ⟨k, Q, X, hk, HQ, rfl, hJs, hf⟩ := hrel
    have hbl : Below n₀ W wr := hf.below hn0 (fun k hk => .inl hk)
    have hbx := hf.boxL hla (.inr (.inl rfl)) HBa.out
    have hcr := hf.cell (p := ⟨Br, 0, none⟩) hlr (.inr (.inr rfl)) HBr.out
    have y1 := hbx 1 _ rfl
    have y2 := hbx 2 _ rfl
    have y3 := hbx 3 _ rfl
    have hce := HcE.out wr hbl
    have HJs := Lib.hid hJs
    have Hf := Lib.hid hf
    clear hJs hbx
    by_cases hlt : k < m
    · have hQE : Q < E := by have := HQ.out; have := HE.out; omega
      have hQ2 : Q < n2 := by omega
      obtain ⟨p2, f2, rfl, _, hck, _⟩ := (HF2.out wr hbl).at hQ2
      obtain ⟨p3, f3, rfl, _, hcz, _⟩ := (HF3.out wr hbl).at hQ2
      obtain ⟨fn, tmps, assign, body, hy, hR⟩ := HY.out _ k X wr.drew (HJ.out _ _ _ _ HJs.out (Frm.drew _)) ⟨rfl, hlt⟩ hf.size
      have hV : rowEnc K Z A k = #[.int .i64 (K Q), .float .f32 (Z Q)] := by unfold rowEnc; rw [HQ.out]
      rw [hV] at hy
      clear hV
      generalize K Q = kq at hck hy
      generalize Z Q = zq at hcz hy
      have hs2 : IntKind.i64.wrap ((Q : Int) + 1) = ((Q + 1 : Nat) : Int) := by
        rw [← Int.natCast_succ]; exact IntWalk.i64_in _ (by omega)
      have HN : Hid (Q + 1 = A + (k + 1)) := Lib.hid (by have := HQ.out; omega)
      have HR := Lib.hid (hR.mono (R' := fun e W' => ∃ b : Bool, e = .returned (.bool b) ∧ RowYN (PrS n₀ Ba Br) W.heap.size J Jx X (List.range k ++ [k]) wr.drew b W') fun e W' hh => by
        rcases hh with ⟨rfl, h⟩ | ⟨rfl, h⟩
        · exact ⟨true, rfl, .inl ⟨rfl, h⟩⟩
        · exact ⟨false, rfl, .inr ⟨rfl, h⟩⟩)
      clear hR
      have hmix : Try.prog.follows .mixedOrders = true := by kernel_rfl
      gi_wp2
      gi_region_with_o ((refine HR.out.mono ?_; rintro e W3 ⟨bq, rfl, hYN⟩))
      all_goals
        rcases hYN with ⟨rfl, X3, hJ3, hk3⟩ | ⟨rfl, X3, hJx3, hk3⟩
        · have hf3 : Frm (PrS n₀ Ba Br) W W3 := Hf.out.trans ((Frm.drew wr).trans (hk3.frm.mono fun k _ h => .inl h))
          gi_wp2
          go_roundw
          case rel => exact ⟨k + 1, Q + 1, X3, by omega, HN, by first | rfl | simp, by rw [List.range_succ]; exact hJ3, hf3⟩
          case measure => simp [intOf]; omega
        · gi_wp2
          refine bodyPost_ret (results_none rfl _ _ _) rfl ?_
          exact ⟨⟨_, rfl⟩, .inr ⟨_, X3, ⟨k + 1, by omega, by rw [List.range_succ]⟩, hJx3⟩⟩
    · obtain rfl : k = m := by omega
      have hQE : ¬ Q < E := by have := HQ.out; have := HE.out; omega
      gi_wp2
      go_end0
      exact ⟨⟨_, rfl⟩, .inl ⟨_, X, rfl, HJs.out⟩⟩
/-- What inRow hands back tells the numbers of a row, one after another. -/
theorem inRow_seqF (n Ba Br n₀ s A m n1 n2 b1 o1 c1 c2 c3 i : Nat) (a2 a3 : Option Addr) (O K : Nat → Int) (Z : Nat → Nat) (hn : 1 ≤ n) (hn1 : n1 ≤ 1048576) (hi1 : i + 1 < n1) (hO : O i = (A : Int)) (hO1 : O (i + 1) = ((A + m : Nat) : Int)) (hE : A + m ≤ n2) (hn2 : n2 ≤ 512)
    (w : World) (hn0 : n₀ ≤ w.heap.size) (hla : Ba < w.heap.size) (hlr : Br < w.heap.size) (hBa : BoxL w Ba [.int .i64 (s : Int), .slice (some ⟨b1, o1, none⟩) n1 c1, .slice a2 n2 c2, .slice a3 n2 c3]) (hBr : w.cell? ⟨Br, 0, none⟩ = some (.int .i64 (i : Int)))
    (F1 : ∀ W', Below n₀ w W' → IS .i64 W' (some ⟨b1, o1, none⟩) n1 c1 O) (F2 : ∀ W', Below n₀ w W' → IS .i64 W' a2 n2 c2 K) (F3 : ∀ W', Below n₀ w W' → FS .f32 W' a3 n2 c3 Z) :
    SeqF n Try.prog 69 #[.pointer (some ⟨Ba, 0, none⟩), .pointer (some ⟨Br, 0, none⟩)] (rowEnc K Z A) (PrS n₀ Ba Br) (fun ys => ys = List.range m) (fun pre => ∃ k, k ≤ m ∧ pre = List.range k) (nextR m) w :=
  fun l J Jx X0 W hW hJ _ _ hY h0 =>
    inRow1_in n l Ba Br n₀ s A m n1 n2 b1 o1 c1 c2 c3 i a2 a3 O K Z hn hn1 hi1 hO hO1 hE hn2 X0 J Jx W hJ hY (Nat.le_trans hn0 hW.size) (Nat.lt_of_lt_of_le hla hW.size) (Nat.lt_of_lt_of_le hlr hW.size)
      (hBa.below hW hla) ((hW.cell (p := ⟨Br, 0, none⟩) hlr).trans hBr) (fun W' hb => F1 W' ((hW.mono hn0).trans hb)) (fun W' hb => F2 W' ((hW.mono hn0).trans hb)) (fun W' hb => F3 W' ((hW.mono hn0).trans hb)) h0
theorem inRow_any (v0 v1 v2 v3 : Value) (i : Int) (w : World) (o0 : v0.oneCell' = true) (o1 : v1.oneCell' = true) (o2 : v2.oneCell' = true) (o3 : v3.oneCell' = true) :
    Calls Try.prog 45 #[.agg #[v0, v1, v2, v3], .int .i64 i] w fun e w' => e = .returned (.func (.func 69) #[] #[.pointer (some ⟨w.heap.size, 0, none⟩), .pointer (some ⟨w.heap.size + 1, 0, none⟩)]) ∧
      BoxL w' w.heap.size [v0, v1, v2, v3] ∧ w'.cell? ⟨w.heap.size + 1, 0, none⟩ = some (.int .i64 i) ∧ w'.heap.size = w.heap.size + 1 + 1 ∧ Below w.heap.size w w' := by
  go_enter Try.func45, Try.ntmps45
  go_wp2
  go_ret
  exact ⟨rfl, BoxL.four (by simp [go_sem]) (by simp [go_sem]) (by simp [go_sem]) (by simp [go_sem]), by simp [go_sem], by simp, (by repeat first | (with_reducible exact Below.refl _ _) | (with_reducible refine Below.setCell ?_ (by first | exact Nat.le_refl _ | (simp; done) | (simp; omega) | omega) _) | (with_reducible refine Below.alloc ?_ (by first | exact Nat.le_refl _ | (simp; done) | (simp; omega) | omega) _) | (with_reducible refine below_drewN ?_ _) | (with_reducible refine Below.drew ?_))⟩
end Go.Proofs.Ytmjlhmbnaifhaab
