/- Helper: the middle of a square, what is in a list, copies of lists, results that are lists, of the program. Conditions: none. -/
import Derived.Test.YtcibjkadlndejaaTri
import Derived.Lib.SliceRun
set_option linter.unusedVariables false
set_option linter.unusedSimpArgs false
namespace Go.Proofs.Ytcibjkadlndejaa
open Go.RowKit

theorem signed_min (a b : Int) : min a b = min b a := by omega
theorem datum_swap (a b : Ieee.Datum) : b.order a = (a.order b).map Ordering.swap := by
  cases a with
  | nan s t => cases b <;> rfl
  | infinity s => cases b with
    | nan => rfl
    | infinity t => cases s <;> cases t <;> rfl
    | number => cases s <;> rfl
  | number s m i => cases b with
    | nan => rfl
    | infinity t => cases t <;> rfl
    | number t n j =>
      show some (compare (Ieee.signed t n (j - min j i).toNat) (Ieee.signed s m (i - min j i).toNat)) = some (compare (Ieee.signed s m (i - min i j).toNat) (Ieee.signed t n (j - min i j).toNat)).swap
      rw [signed_min j i]
      generalize Ieee.signed t n (j - min i j).toNat = p
      generalize Ieee.signed s m (i - min i j).toNat = q
      exact congrArg some Std.OrientedCmp.eq_swap
theorem zero_swap (X : Option Nat) : (ford .f32 (some 0) X == some .eq) = isZero X := by
  cases X with
  | none => rfl
  | some x =>
    show (FloatKind.f32.format.order 0 x == some .eq) = (FloatKind.f32.format.order x 0 == some .eq)
    have h := datum_swap (FloatKind.f32.format.read x) (FloatKind.f32.format.read 0)
    show ((FloatKind.f32.format.read 0).order (FloatKind.f32.format.read x) == some .eq) = ((FloatKind.f32.format.read x).order (FloatKind.f32.format.read 0) == some .eq)
    rw [h]
    cases (FloatKind.f32.format.read x).order (FloatKind.f32.format.read 0) with
    | none => rfl
    | some o => cases o <;> rfl

theorem index_any (a : Option Addr) (n c : Nat) (Z : Nat → Nat) (w : World) (hn : n ≤ 1048576) (h : FS .f32 w a n c Z) :
    Calls Try.prog 98 #[.slice a n c, .float .f32 0] w fun e w' => w = w' ∧ ((anyZ (vals Z) n = false ∧ e = .returned (.int .i64 (-1))) ∨ (anyZ (vals Z) n = true ∧ ∃ k : Nat, e = .returned (.int .i64 k))) := by
  have c0 : cn .f32 0 = some 0 := by kernel_rfl
  go_enter Try.func98, Try.ntmps98
  go_wp2
  go_loop [5, 8] (fun _ i => ∃ k : Nat, k ≤ n ∧ i = .int .i64 k ∧ ∀ j, j < k → isZero (vals Z j) = false) (fun _ i => n - (intOf i).toNat)
  case atStart => exact ⟨0, Nat.zero_le _, rfl, fun j hj => absurd hj (Nat.not_lt_zero _)⟩
  case round =>
    obtain ⟨k, hk, rfl, hne⟩ := hrel
    by_cases hlt : k < n
    · obtain ⟨b, off, rfl, hbl, hc, hfv⟩ := h.at hlt
      have hx : cn .f32 (Z k) = vals Z k := rfl
      have hne' := Lib.hid hne
      clear hbl hfv h hne
      cases hz : isZero (vals Z k) with
      | true =>
        have hs := zero_swap (vals Z k)
        rw [hz] at hs
        have hz' := Lib.hid hz
        clear hz
        go_wp2
        go_ret
        exact ⟨rfl, .inr ⟨anyZ_yes hlt hz'.out, _, rfl⟩⟩
      | false =>
        have hs := zero_swap (vals Z k)
        rw [hz] at hs
        have hz' := Lib.hid hz
        clear hz
        go_wp2
        go_round
        case rel =>
          refine ⟨k + 1, by omega, by go_num, fun j hj => ?_⟩
          by_cases e : j = k
          · subst e; exact hz'.out
          · exact hne'.out j (by omega)
        case measure => simp [intOf]; omega
    · obtain rfl : k = n := by omega
      have hne' := Lib.hid hne
      clear hne
      go_wp2
      go_ret
      exact ⟨rfl, .inl ⟨anyZ_no hne'.out, rfl⟩⟩
theorem contains_any (a : Option Addr) (n c : Nat) (Z : Nat → Nat) (w : World) (hn : n ≤ 1048576) (h : FS .f32 w a n c Z) :
    Calls Try.prog 87 #[.slice a n c, .float .f32 0] w fun e w' => w = w' ∧ e = .returned (.bool (anyZ (vals Z) n)) := by
  have hi := index_any a n c Z w hn h
  cases hz : anyZ (vals Z) n with
  | true =>
    have hi' : Calls Try.prog 98 #[.slice a n c, .float .f32 0] w fun e w' => w = w' ∧ ∃ k : Nat, e = .returned (.int .i64 k) := hi.mono fun e w' hh => by
      rcases hh with ⟨h1, ⟨h2, _⟩ | ⟨_, h3⟩⟩
      · rw [hz] at h2; cases h2
      · exact ⟨h1, h3⟩
    clear hi hz
    go_enter Try.func87, Try.ntmps87
    go_wp2_with (go_at_call 98; refine hi'.mono ?_; rintro e w' ⟨rfl, k, rfl⟩; have hk : decide ((0 : Int) ≤ (k : Int)) = true := decide_eq_true (by omega))
    go_ret
    exact ⟨rfl, rfl⟩
  | false =>
    have hi' : Calls Try.prog 98 #[.slice a n c, .float .f32 0] w fun e w' => w = w' ∧ e = .returned (.int .i64 (-1)) := hi.mono fun e w' hh => by
      rcases hh with ⟨h1, ⟨_, h2⟩ | ⟨h2, _⟩⟩
      · exact ⟨h1, h2⟩
      · rw [hz] at h2; cases h2
    clear hi hz
    go_enter Try.func87, Try.ntmps87
    go_wp2_with (go_at_call 98; refine hi'.mono ?_; rintro e w' ⟨rfl, rfl⟩)
    go_ret
    exact ⟨rfl, rfl⟩
set_option maxRecDepth 20000 in
set_option maxHeartbeats 1000000 in
/-- A copy of a list, in memory of its own. -/
theorem clone_any (b off n c : Nat) (Z : Nat → Nat) (w : World) (h0 : 0 < n) (hn : n ≤ 1048576) (h : FS .f32 w (some ⟨b, off, none⟩) n c Z) :
    Calls Try.prog 57 #[.slice (some ⟨b, off, none⟩) n c] w fun e w' => ∃ g d, e = .returned (.slice (some ⟨g, 0, none⟩) n d) ∧ Own 41 .f32 w.heap.size w'.heap.size w' (some ⟨g, 0, none⟩) n d Z ∧ Below w.heap.size w w' := by
  obtain ⟨i0, hi, hz0, hz1, hz2⟩ := info_parts info32
  have hcell := Lib.hid (cells32_cell h)
  have hwf : Hid (∀ j, j < n → (Lit.float .f32 (Z j)).wf = true) := Lib.hid fun j hj => (h.at hj).elim fun _ q => q.elim fun _ q => q.2.2.2.2
  have q22 : ∀ (w : World) (a : Option Addr) (n c n' c' : Nat), (binOp .eql 22 (.slice a n c) (.slice none n' c')).run Try.prog w = .ok (.bool a.isNone) w := fun w a n c n' c' => Lib.run_eql_slice_nil w _ _ a n c n' c' Try.underlying22
  clear h
  go_enter Try.func57, Try.ntmps57
  go_wp2_with (at_builtin; refine wpList_append_own _ rfl _ _ 22 rfl w.heap.size 41 i0 (.float .f32 0) 1 4 Try.underlying22 hi hz0 hz1 hz2 rfl (by decide) _ _ _ rfl (World.ownsRow_made w #[] 0 (Nat.le_refl _) (Nat.zero_le _) (by simp)) ⟨b, off, none⟩ n c (cellsOf32 Z n) rfl ?qc1 ?qc2 ?qc3 ?qc4 ?qc5 ?qc6 ?_)
  case qc1 => rw [cells32_len]; omega
  case qc2 =>
    intro j u hj
    rw [Addr.add_lit]
    exact Lib.cell?_alloc_some _ (hcell.out j u hj)
  case qc3 => exact cells32_one
  case qc4 => rw [Nat.zero_add]; unfold maxLen; omega
  case qc5 => rw [Nat.zero_add]; omega
  case qc6 => simp
  intro v' w1 hown hgrow hnil
  have hown2 : w1.ownsRow w.heap.size 41 1 v' n (cellsOf32 Z n) := by simpa using hown
  obtain ⟨g, d, rfl, o1, _, _⟩ := own_of_row (Z := Z) hown2 h0 (fun j hj => cells32_at hj) hwf.out
  have o2 := Lib.hid o1
  have b2 : Hid (Below w.heap.size w w1) := Lib.hid (((Below.refl _ w).alloc (Nat.le_refl _) _).grown hgrow (by simp) (by intro k hk; simp [Value.ownBlock] at hk; omega))
  clear hown hgrow hnil hown2 o1
  go_wp2
  go_ret
  exact ⟨g, d, rfl, o2.out, b2.out⟩
set_option maxHeartbeats 1000000 in
/-- The middle of a square. -/
theorem middle_any (r n b off cap : Nat) (Z : Nat → Nat) (w : World) (hr1 : 1 ≤ r) (hr : r ≤ 12) (hn : n = r * r) (h : FS .f32 w (some ⟨b, off, none⟩) n cap Z) :
    Calls Try.prog 88 #[.agg #[.int .i64 r, .int .i64 r, .slice (some ⟨b, off, none⟩) n cap]] w fun e w' => ∃ g, e = .returned (.slice (some ⟨g, 0, none⟩) r r) ∧ Own 41 .f32 w.heap.size w'.heap.size w' (some ⟨g, 0, none⟩) r r (fun i => Z (i * r + i)) ∧ Below w.heap.size w w' := by
  obtain ⟨i0, hi, hz0, hz1, hz2⟩ := info_parts info32
  have hN := Lib.hid hn
  have hn144 : n ≤ 144 := by have := sides_le hr hr; omega
  have hcap := h.1
  have hmx := h.2.1
  have hmax : cap ≤ 9223372036854775807 := by unfold maxLen at hmx; omega
  clear hn
  go_enter Try.func88, Try.ntmps88
  go_wp2_with (at_make; refine wpList_make_full _ rfl _ _ 22 rfl (w.heap.size + 1) 41 i0 (.float .f32 0) 1 Try.underlying22 hi hz0 hz1 _ _ _ _ r rfl rfl rfl rfl ?b2 ?b3 (by simp) ?_)
  case b2 => rw [hz2]; omega
  case b3 => unfold maxLen; omega
  intro w0 hown0 hgrow0
  have hU := (hown0.lt _ rfl).2
  simp at hU
  have b0 := grew_below hgrow0
  have X0 := (Box.new _ _ _ _ _ _ _).below b0 (by simp)
  have B0 : Below w.heap.size w w0 := Below.trans (by repeat first | (with_reducible exact Below.refl _ _) | (with_reducible refine Below.setCell ?_ (by first | exact Nat.le_refl _ | (simp; done) | (simp; omega) | omega) _) | (with_reducible refine Below.alloc ?_ (by first | exact Nat.le_refl _ | (simp; done) | (simp; omega) | omega) _) | (with_reducible refine below_drewN ?_ _) | (with_reducible refine Below.drew ?_)) (b0.mono (by simp))
  have o0 := own_zero (w := w) (B := w.heap.size + 1) (U := w0.heap.size) (by simpa using hown0) (Nat.le_refl _) (by omega) (Nat.le_refl _) (by unfold maxLen; omega)
  obtain ⟨x0, x1, x2⟩ := X0
  clear hown0 hgrow0 b0
  go_wp2
  go_loopw [10] (fun i wr => ∃ (j : Nat) (X : Nat → Nat), j ≤ r ∧ i = .int .i64 j ∧ (∀ t, t < j → X t = Z (t * r + t)) ∧ Own 41 .f32 (w.heap.size + 1) w0.heap.size wr (some ⟨w.heap.size + 1, 0, none⟩) r r X ∧ Below (w.heap.size + 1) w0 wr) (fun i _ => r - (intOf i).toNat)
  case atStart => exact ⟨0, _, Nat.zero_le _, rfl, fun t ht => absurd ht (Nat.not_lt_zero _), o0, Below.refl _ _⟩
  case round =>
    obtain ⟨j, X, hj, rfl, hV, hk, hb⟩ := hrel
    have hV' := Lib.hid hV
    clear o0 hV
    by_cases hlt : j < r
    · have y0 := (hb.cell (p := ⟨w.heap.size, 0, none⟩) (Nat.lt_succ_self _)).trans x0
      have y1 := (hb.cell (p := ⟨w.heap.size, 1, none⟩) (Nat.lt_succ_self _)).trans x1
      have y2 := (hb.cell (p := ⟨w.heap.size, 2, none⟩) (Nat.lt_succ_self _)).trans x2
      obtain ⟨hce, hfr, _⟩ := hk.cell hlt
      have hk' := Lib.hid hk
      have hb' := Lib.hid hb
      clear hk hb
      generalize X j = old at hce
      go_wp2_with fail
      go_at_call 42
      refine (rowOf_any b off r r n cap j _ hr hr1 hr hN.out hcap hmax hlt).mono ?_
      rintro e w3 ⟨rfl, b3⟩
      have hsz := hb'.out.size
      have B3 : Below (w.heap.size + 1) w0 w3 := hb'.out.trans (b3.mono (by omega))
      have hk3 := hk'.out.kept (below_grew b3) (fun q hq => by cases hq)
      obtain ⟨b', off', e, hbl, hce2, hfv⟩ := ((h.below (B0.trans (B3.mono (by omega))) (Nat.le_refl _)).row hN.out hlt r (Nat.le_refl _) (by unfold maxLen; omega)).at hlt
      simp only [Option.some.injEq, Addr.mk.injEq, and_true] at e
      obtain ⟨rfl, rfl⟩ := e
      obtain ⟨hce, hfr, _⟩ := hk3.cell hlt
      obtain ⟨hst, hgr⟩ := hk3.stored (t := j) (v := Z (j * r + j)) hlt hfv.2
      have hst' : Hid (Own 41 .f32 (w.heap.size + 1) w0.heap.size (w3.setCell ⟨w.heap.size + 1, j, none⟩ (.float .f32 (Z (j * r + j)))) (some ⟨w.heap.size + 1, 0, none⟩) r r (fun t => if t = j then Z (j * r + j) else X t)) := Lib.hid hst
      have hb4 : Hid (Below (w.heap.size + 1) w0 (w3.setCell ⟨w.heap.size + 1, j, none⟩ (.float .f32 (Z (j * r + j))))) := Lib.hid (B3.setCell (Nat.le_refl _) _)
      have hvn : Hid (∀ t, t < j + 1 → (if t = j then Z (j * r + j) else X t) = Z (t * r + t)) := by
        refine Lib.hid fun t ht => ?_
        by_cases e : t = j
        · subst e; rw [if_pos rfl]
        · rw [if_neg e]; exact hV'.out t (by omega)
      clear hst hgr hk3 B3 hk' hb' y0 y1 y2 b3 hfv hbl
      go_wp2
      go_roundw
      case rel => exact ⟨j + 1, _, by omega, by go_num, hvn.out, hst'.out, hb4.out⟩
      case measure => simp [intOf]; omega
    · obtain rfl : j = r := by omega
      have hk' := Lib.hid (hk.same fun t ht => hV'.out t ht)
      have hb' := Lib.hid (B0.trans (hb.mono (by omega)))
      have hsz := Lib.hid hb.size
      clear hk hb
      go_wp2
      go_ret
      exact ⟨_, rfl, Own.mono hk'.out (by omega) hsz.out (Nat.le_refl _), hb'.out⟩

theorem vectorResult_yes (a : Option Addr) (n c : Nat) (Z : Nat → Nat) (w : World) (hn : n ≤ 1048576) (h : FS .f32 w a n c Z) (hv : vecB n (vals Z) = true) :
    Calls Try.prog 90 #[.slice a n c] w fun e w' => e = .returned (.tuple #[.slice a n c, .bool true]) ∧ ∃ m, w' = w.drewN m := by
  go_enter Try.func90, Try.ntmps90
  go_wp2_with fail
  go_at_call 74
  refine (implVector_any a n c Z _ hn h).mono ?_
  rintro e w1 ⟨rfl, q, rfl⟩
  go_wp2_with fail
  go_ret2
  exact ⟨rfl, _, rfl⟩
theorem vectorResult_no (a : Option Addr) (n c : Nat) (Z : Nat → Nat) (w : World) (hn : n ≤ 1048576) (h : FS .f32 w a n c Z) (hv : vecB n (vals Z) = false) :
    Calls Try.prog 90 #[.slice a n c] w fun e w' => e = .returned (.tuple #[.slice none 0 0, .bool false]) ∧ ∃ m, w' = w.drewN m := by
  go_enter Try.func90, Try.ntmps90
  go_wp2_with fail
  go_at_call 74
  refine (implVector_any a n c Z _ hn h).mono ?_
  rintro e w1 ⟨rfl, q, rfl⟩
  go_wp2_with fail
  go_ret2
  exact ⟨rfl, _, rfl⟩
/-- A list that fits the rows. -/
def fitsB (R : Int) (n : Nat) (V : Nat → Option Nat) : Bool := vecB n V && decide ((n : Int) = R)
theorem fitsRows_any (R C : Int) (a b : Option Addr) (n c n2 d : Nat) (Y : Nat → Nat) (w : World) (hm : n2 ≤ 1048576) (h2 : FS .f32 w b n2 d Y) :
    Calls Try.prog 49 #[.agg #[.int .i64 R, .int .i64 C, .slice a n c], .slice b n2 d] w fun e w' => e = .returned (.bool (fitsB R n2 (vals Y))) ∧ Below w.heap.size w w' := by
  unfold fitsB
  cases hv : vecB n2 (vals Y) with
  | false =>
    go_enter Try.func49, Try.ntmps49
    go_wp2_with fail
    go_at_call 74
    refine (implVector_any b n2 d Y _ hm (h2.below (by repeat first | (with_reducible exact Below.refl _ _) | (with_reducible refine Below.setCell ?_ (by first | exact Nat.le_refl _ | (simp; done) | (simp; omega) | omega) _) | (with_reducible refine Below.alloc ?_ (by first | exact Nat.le_refl _ | (simp; done) | (simp; omega) | omega) _) | (with_reducible refine below_drewN ?_ _) | (with_reducible refine Below.drew ?_)) (Nat.le_refl _))).mono ?_
    rintro e w1 ⟨rfl, q, rfl⟩
    go_wp2_with fail
    go_ret
    exact ⟨rfl, (by repeat first | (with_reducible exact Below.refl _ _) | (with_reducible refine Below.setCell ?_ (by first | exact Nat.le_refl _ | (simp; done) | (simp; omega) | omega) _) | (with_reducible refine Below.alloc ?_ (by first | exact Nat.le_refl _ | (simp; done) | (simp; omega) | omega) _) | (with_reducible refine below_drewN ?_ _) | (with_reducible refine Below.drew ?_))⟩
  | true =>
    by_cases e : (n2 : Int) = R
    · rw [decide_eq_true e]
      have hd : ((n2 : Int) == R) = true := beq_iff_eq.2 e
      have e' := Lib.hid e
      clear e
      go_enter Try.func49, Try.ntmps49
      go_wp2_with fail
      go_at_call 74
      refine (implVector_any b n2 d Y _ hm (h2.below (by repeat first | (with_reducible exact Below.refl _ _) | (with_reducible refine Below.setCell ?_ (by first | exact Nat.le_refl _ | (simp; done) | (simp; omega) | omega) _) | (with_reducible refine Below.alloc ?_ (by first | exact Nat.le_refl _ | (simp; done) | (simp; omega) | omega) _) | (with_reducible refine below_drewN ?_ _) | (with_reducible refine Below.drew ?_)) (Nat.le_refl _))).mono ?_
      rintro e w1 ⟨rfl, q, rfl⟩
      go_wp2_with fail
      go_ret
      exact ⟨rfl, (by repeat first | (with_reducible exact Below.refl _ _) | (with_reducible refine Below.setCell ?_ (by first | exact Nat.le_refl _ | (simp; done) | (simp; omega) | omega) _) | (with_reducible refine Below.alloc ?_ (by first | exact Nat.le_refl _ | (simp; done) | (simp; omega) | omega) _) | (with_reducible refine below_drewN ?_ _) | (with_reducible refine Below.drew ?_))⟩
    · rw [decide_eq_false e]
      have hd : ((n2 : Int) == R) = false := beq_eq_false_iff_ne.2 e
      have e' := Lib.hid e
      clear e
      go_enter Try.func49, Try.ntmps49
      go_wp2_with fail
      go_at_call 74
      refine (implVector_any b n2 d Y _ hm (h2.below (by repeat first | (with_reducible exact Below.refl _ _) | (with_reducible refine Below.setCell ?_ (by first | exact Nat.le_refl _ | (simp; done) | (simp; omega) | omega) _) | (with_reducible refine Below.alloc ?_ (by first | exact Nat.le_refl _ | (simp; done) | (simp; omega) | omega) _) | (with_reducible refine below_drewN ?_ _) | (with_reducible refine Below.drew ?_)) (Nat.le_refl _))).mono ?_
      rintro e w1 ⟨rfl, q, rfl⟩
      go_wp2_with fail
      go_ret
      exact ⟨rfl, (by repeat first | (with_reducible exact Below.refl _ _) | (with_reducible refine Below.setCell ?_ (by first | exact Nat.le_refl _ | (simp; done) | (simp; omega) | omega) _) | (with_reducible refine Below.alloc ?_ (by first | exact Nat.le_refl _ | (simp; done) | (simp; omega) | omega) _) | (with_reducible refine below_drewN ?_ _) | (with_reducible refine Below.drew ?_))⟩
end Go.Proofs.Ytcibjkadlndejaa
