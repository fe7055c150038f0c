/- Helper: triangles that are solved, of the program. Conditions: none. -/
import Derived.Test.YtcibjkadlndejaaMid
import Derived.Test.YtcibjkadlndejaaPivot
set_option linter.unusedVariables false
set_option linter.unusedSimpArgs false
namespace Go.Proofs.Ytcibjkadlndejaa
open Go.RowKit

theorem implLess_any (s : Nat) {S : Option Nat} (fs : FV .f32 s S) (a b : Option Addr) (n c n2 d : Nat) (Z Y : Nat → Nat) (w : World) (hn : n ≤ 1048576) (hn2 : n ≤ n2) (hm : n2 ≤ 1048576) (h : FS .f32 w a n c Z) (h2 : FS .f32 w b n2 d Y) :
    Calls Try.prog 99 #[.float .f32 s, .slice a n c, .slice b n2 d] w fun e w' => ∃ r, e = .returned (.float .f32 r) ∧ FV .f32 r (lessG S (vals Z) (vals Y) n) ∧ ∃ m, w' = w.drewN m := by
  go_enter Try.func99, Try.ntmps99
  go_wp2
  go_loopw [0, 11] (fun s i wr => ∃ j m r : Nat, j ≤ n ∧ i = .int .i64 j ∧ s = .float .f32 r ∧ FV .f32 r (lessG S (vals Z) (vals Y) j) ∧ wr = w.drewN m) (fun _ i _ => n - (intOf i).toNat)
  case atStart => exact ⟨0, 0, _, Nat.zero_le _, rfl, rfl, fs, rfl⟩
  case round =>
    obtain ⟨j, m0, r0, hj, rfl, rfl, hr0, rfl⟩ := hrel
    clear fs
    by_cases hlt : j < n
    · obtain ⟨b1, off1, rfl, hbl1, hc1, hfv1⟩ := h.at hlt
      obtain ⟨b2, off2, rfl, hbl2, hc2, hfv2⟩ := h2.at (show j < n2 by omega)
      clear hbl1 hbl2 h h2
      go_wp2_with (first | (refine wpList_farith rfl _ _ _ _ _ rfl rfl _ _ _ rfl rfl (by first | assumption | (with_reducible exact FV.ofInt _ _) | (with_reducible exact FV.neg (by assumption)) | exact FV.lit (by kernel_rfl) (by kernel_rfl)) (by first | assumption | (with_reducible exact FV.ofInt _ _) | (with_reducible exact FV.neg (by assumption)) | exact FV.lit (by kernel_rfl) (by kernel_rfl)) ?_; intro r m hr))
      go_roundw
      case rel => exact ⟨j + 1, _, _, by omega, by go_num, rfl, FV.of_eq (by assumption) (lessG_succ _ _ _ _), rfl⟩
      case measure => simp [intOf]; omega
    · obtain rfl : j = n := by omega
      go_wp2
      go_ret
      exact ⟨_, rfl, hr0, _, rfl⟩
/-- A row of numbers that has become V, and nothing else has turned. -/
def Became (B U g n d : Nat) (V : Nat → Option Nat) (w w' : World) : Prop := ∃ X, Own 41 .f32 B U w' (some ⟨g, 0, none⟩) n d X ∧ (∀ t, t < n → vals X t = V t) ∧ w.grownBy w' (some g)
/-- The numbers of a square, by rows. -/
def sq (n : Nat) (Z : Nat → Nat) (i k : Nat) : Option Nat := vals Z (i * n + k)
theorem vals_put {X : Nat → Nat} {r q : Nat} (t : Nat) : vals (fun t => if t = q then r else X t) t = if t = q then cn .f32 r else vals X t := by
  show cn .f32 (if t = q then r else X t) = _
  by_cases e : t = q
  · rw [if_pos e, if_pos e]
  · rw [if_neg e, if_neg e]; rfl
theorem up_next {A : Nat → Nat → Option Nat} {dv : Bool} {n : Nat} {Y : Nat → Option Nat} {UU : Nat → Nat → Option Nat} {j q r : Nat} {X : Nat → Nat} {LL : Option Nat} (hU : UU = upY A dv n Y) (hq : q + (j + 1) = n) (hv : ∀ t, t < n → vals X t = UU j t)
    (hL : LL = lessG (vals X q) (fun t => A q (q + 1 + t)) (vals fun t => X (q + 1 + t)) (n - (q + 1))) (hr : FV .f32 r (divIf dv LL (A q q))) : ∀ t, t < n → vals (fun t => if t = q then r else X t) t = UU (j + 1) t := by
  intro t ht
  have e0 : n - (j + 1) = q := by omega
  rw [vals_put, hU]
  show _ = if t = n - (j + 1) then upS A dv n (upY A dv n Y j) (n - (j + 1)) else upY A dv n Y j t
  rw [e0]
  by_cases e : t = q
  · have hh : lessG (vals X q) (fun t => A q (q + 1 + t)) (vals fun t => X (q + 1 + t)) (n - (q + 1)) = lessG (upY A dv n Y j q) (fun k => A q (q + 1 + k)) (fun k => upY A dv n Y j (q + 1 + k)) (n - (q + 1)) :=
      lessG_congr (by rw [hv q (by omega), hU]) fun k hk => ⟨rfl, by show vals X (q + 1 + k) = _; rw [hv _ (by omega), hU]⟩
    rw [if_pos e, if_pos e, hr.1, hL, hh]
    rfl
  · rw [if_neg e, if_neg e, hv t ht, hU]
theorem low_next {A : Nat → Nat → Option Nat} {dv : Bool} {n : Nat} {Y : Nat → Option Nat} {UU : Nat → Nat → Option Nat} {q r : Nat} {X : Nat → Nat} {LL : Option Nat} (hU : UU = lowY A dv Y) (hq : q < n) (hv : ∀ t, t < n → vals X t = UU q t)
    (hL : LL = lessG (vals X q) (A q) (vals X) q) (hr : FV .f32 r (divIf dv LL (A q q))) : ∀ t, t < n → vals (fun t => if t = q then r else X t) t = UU (q + 1) t := by
  intro t ht
  rw [vals_put, hU]
  show _ = if t = q then lowS A dv (lowY A dv Y q) q else lowY A dv Y q t
  by_cases e : t = q
  · have hh : lessG (vals X q) (A q) (vals X) q = lessG (lowY A dv Y q q) (A q) (lowY A dv Y q) q :=
      lessG_congr (by rw [hv q hq, hU]) fun k hk => ⟨rfl, by rw [hv _ (by omega), hU]⟩
    rw [if_pos e, if_pos e, hr.1, hL, hh]
    rfl
  · rw [if_neg e, if_neg e, hv t ht, hU]
set_option maxRecDepth 20000 in
set_option maxHeartbeats 1000000 in
theorem upperSteps_any (n N b off cap g d B U : Nat) (dv : Bool) (Z Y : Nat → Nat) (w : World) (h1 : 1 ≤ n) (h12 : n ≤ 12) (hN : N = n * n) (h : FS .f32 w (some ⟨b, off, none⟩) N cap Z)
    (o : Own 41 .f32 B U w (some ⟨g, 0, none⟩) n d Y) (hne : b ≠ g) :
    Calls Try.prog 89 #[.agg #[.int .i64 n, .int .i64 n, .slice (some ⟨b, off, none⟩) N cap], .slice (some ⟨g, 0, none⟩) n d, .bool dv] w fun e w' => e = .returned (.tuple #[]) ∧ Became B U g n d (upY (sq n Z) dv n (vals Y) n) w w' := by
  have hN' := Lib.hid hN
  have hN144 : N ≤ 144 := by have := sides_le h12 h12; omega
  have hcap := h.1
  have hmx := h.2.1
  have hmax : cap ≤ 9223372036854775807 := by unfold maxLen at hmx; omega
  have hd1 := (Own.fs o).1
  have hd2 := (Own.fs o).2.1
  have hd3 : d ≤ 9223372036854775807 := by unfold maxLen at hd2; omega
  obtain ⟨_, _, hBg, hgU, hUw, _⟩ := o.cell (t := 0) (by omega)
  have G0 := World.grownBy_alloc w (.cells #[.int .i64 n, .int .i64 n, .slice (some ⟨b, off, none⟩) N cap] 26) (some g)
  have X0 := Box.new w 26 n n (some ⟨b, off, none⟩) N cap
  have F0 := h.grown G0 (fun q hq => by cases hq; exact hne)
  have O0 := o.kept (World.grownBy_alloc w (.cells #[.int .i64 n, .int .i64 n, .slice (some ⟨b, off, none⟩) N cap] 26) none) (fun q hq => by cases hq)
  obtain ⟨UU, hUU⟩ : ∃ UU, UU = upY (sq n Z) dv n (vals Y) := ⟨_, rfl⟩
  rw [← hUU]
  have hU := Lib.hid hUU
  clear hN h o hUU
  cases dv
  all_goals
    go_enter Try.func89, Try.ntmps89
    go_wp2
    generalize hw0 : w.alloc (.cells #[.int .i64 n, .int .i64 n, .slice (some ⟨b, off, none⟩) N cap] 26) = w0 at X0 G0 F0 O0 ⊢
    have hs0 : w.heap.size < w0.heap.size := by rw [← hw0]; simp
    clear hw0
    go_loopw [6] (fun i wr => ∃ (j : Nat) (X : Nat → Nat), j ≤ n ∧ i = .int .i64 ((n : Int) - 1 - j) ∧ Own 41 .f32 B U wr (some ⟨g, 0, none⟩) n d X ∧ (∀ t, t < n → vals X t = UU j t) ∧ w0.grownBy wr (some g)) (fun i _ => (intOf i + 1).toNat)
    case atStart => exact ⟨0, Y, Nat.zero_le _, by simp, O0, fun t ht => by rw [hU.out]; rfl, World.grownBy.refl _ _⟩
    case round =>
      obtain ⟨j, X, hj, rfl, ho, hv, hg⟩ := hrel
      have hv' := Lib.hid hv
      clear O0 hv
      by_cases hlt : j < n
      · obtain ⟨q, hq⟩ : ∃ q, q + (j + 1) = n := ⟨n - (j + 1), by omega⟩
        have hqi : (n : Int) - 1 - j = (q : Int) := by omega
        rw [hqi]
        have hX := X0.grown hg hs0 (fun q hq => by cases hq; omega)
        obtain ⟨y0, y1, y2⟩ := hX
        have hq' : q < n := by omega
        go_wp2_with fail
        go_at_call 42
        refine (rowOf_any b off n n N cap q _ h12 h1 h12 hN'.out hcap hmax hq').mono ?_
        rintro e w3 ⟨rfl, b3⟩
        have g3 := below_grew b3
        have O3 := ho.kept g3 (fun q hq => by cases hq)
        have G3 := grownBy_trans hg (⟨g3.os, g3.tape, g3.output, g3.size, fun k hk _ => g3.block k hk (by simp)⟩ : wr.grownBy w3 (some g))
        have F3 := (F0.grown G3 (fun q hq => by cases hq; exact hne)).row hN'.out hq' n (Nat.le_refl _) (by unfold maxLen; omega)
        have FY := O3.fs
        obtain ⟨hce, hfr, _⟩ := O3.cell hq'
        have hwq := (FY.at hq').elim fun _ q => q.elim fun _ q => q.2.2.2
        obtain ⟨LL, hLL⟩ : ∃ LL, LL = lessG (vals X q) (fun t => sq n Z q (q + 1 + t)) (vals fun t => X (q + 1 + t)) (n - (q + 1)) := ⟨_, rfl⟩
        have hL : ∀ (A1 A2 : Option Addr) (c1 c2 : Nat) (W : World), FS .f32 w3 A1 (n - (q + 1)) c1 (fun t => Z (q * n + (q + 1 + t))) → FS .f32 w3 A2 (n - (q + 1)) c2 (fun t => X (q + 1 + t)) → (∃ k, W = w3.drewN k) →
            Calls Try.prog 99 #[.float .f32 (X q), .slice A1 (n - (q + 1)) c1, .slice A2 (n - (q + 1)) c2] W fun e w' => ∃ u, e = .returned u ∧ (∃ k, w' = w3.drewN k) ∧ ∃ r, u = .float .f32 r ∧ FV .f32 r LL := by
          rintro A1 A2 c1 c2 W f1 f2 ⟨k, rfl⟩
          refine (implLess_any (X q) hwq A1 A2 (n - (q + 1)) c1 (n - (q + 1)) c2 _ _ _ (by omega) (Nat.le_refl _) (by omega) (FS.drewN f1) (FS.drewN f2)).mono ?_
          rintro e w' ⟨r, rfl, hr, k2, rfl⟩
          exact ⟨_, rfl, ⟨_, World.drewN_drewN _ _ _⟩, r, rfl, FV.of_eq hr (by rw [hLL]; rfl)⟩
        have hCA' : q + 1 < n → ∀ W, (∃ k, W = w3.drewN k) → Calls Try.prog 99 #[.float .f32 (X q), .slice (some ⟨b, off + q * n + (q + 1), none⟩) (n - (q + 1)) (n - (q + 1)), .slice (some ⟨g, q + 1, none⟩) (n - (q + 1)) (d - (q + 1))] W (fun e w' => ∃ u, e = .returned u ∧ (∃ k, w' = w3.drewN k) ∧ ∃ r, u = .float .f32 r ∧ FV .f32 r LL) := fun hz W hW => by
          have f1 := F3.drop (i := q + 1) (m := n - (q + 1)) (c' := n - (q + 1)) (by omega) (Nat.le_refl _) (by omega)
          have f2 := FY.drop (i := q + 1) (m := n - (q + 1)) (c' := d - (q + 1)) (by omega) (by omega) (by omega)
          rw [Nat.zero_add] at f2
          exact hL _ _ _ _ W f1 f2 hW
        have hCB' : q + 1 = n → ∀ W, (∃ k, W = w3.drewN k) → Calls Try.prog 99 #[.float .f32 (X q), .slice (some ⟨b, off + q * n, none⟩) 0 0, .slice (some ⟨g, n, none⟩) 0 (d - n)] W (fun e w' => ∃ u, e = .returned u ∧ (∃ k, w' = w3.drewN k) ∧ ∃ r, u = .float .f32 r ∧ FV .f32 r LL) := fun hz W hW => by
          rw [show n - (q + 1) = 0 by omega] at hL
          exact hL _ _ _ _ W (FS.zero (Nat.zero_le _)) (FS.zero (by omega)) hW
        have hCC' : q + 1 = n → ∀ W, (∃ k, W = w3.drewN k) → Calls Try.prog 99 #[.float .f32 (X q), .slice (some ⟨b, off + q * n, none⟩) 0 0, .slice (some ⟨g, 0, none⟩) 0 0] W (fun e w' => ∃ u, e = .returned u ∧ (∃ k, w' = w3.drewN k) ∧ ∃ r, u = .float .f32 r ∧ FV .f32 r LL) := fun hz W hW => by
          rw [show n - (q + 1) = 0 by omega] at hL
          exact hL _ _ _ _ W (FS.zero (Nat.zero_le _)) (FS.zero (Nat.zero_le _)) hW
        have hCA := Lib.hid hCA'
        have hCB := Lib.hid hCB'
        have hCC := Lib.hid hCC'
        have HLL := Lib.hid hLL
        clear hLL hL hCA' hCB' hCC'
        clear ho hg b3 g3 y0 y1 y2
        have w1 : IntKind.i64.wrap ((q : Int) + 1) = (q : Int) + 1 := IntWalk.i64_in _ (by omega)
        rcases (show q + 1 < n ∨ (q + 1 = n ∧ n < d) ∨ (q + 1 = n ∧ n = d) by omega) with hz | ⟨hz, hz2⟩ | ⟨hz, rfl⟩
        all_goals
          go_wp2
          (refine wp_region_pivot_tail 14 16 (by kernel_rfl) (by kernel_rfl) ?_; simp only [List.take_succ_cons, List.take_zero, List.drop_succ_cons, List.drop_zero]; (repeat (refine wpPivot_plain rfl rfl rfl (fun K hK => ?_); go_big_quiet_op; refine hK _ ?_; clear hK K)))
          refine wpPivot_noisy rfl rfl (fun K hK => ?_)
          apply noisy_of_call (f := 99) (args := #[.float .f32 _, .slice _ _ _, .slice _ _ _]) (fun u => ∃ r, u = .float .f32 r ∧ FV .f32 r LL)
          case hr =>
            intro W
            simp [go_sem, BigFrame.eval_const, BigFrame.eval_global, BigFrame.eval_func]
            repeat' (first | exact rfl | refine ⟨?_, ?_⟩)
          case hc =>
            first | (have hz' : q + 1 < n := hz; exact hCA.out hz') | (have hz' : n < d := hz2; exact hCB.out hz) | exact hCC.out hz
          rintro _ ⟨r1, rfl, hr1⟩
          refine hK _ ?_
          clear hK K
          simp only [Act.put, List.setIfInBounds_toArray, List.set_cons_succ, List.set_cons_zero]
          repeat (refine wpPivot_plain rfl rfl rfl (fun K hK => ?_); go_big_quiet_op; refine hK _ ?_; clear hK K)
          refine wpPivot_nil ?_
          rintro _ ⟨kk, rfl⟩
          have O4 := (show Own 41 .f32 B U (w3.drewN kk) (some ⟨g, 0, none⟩) n _ X from O3).stored hq' hr1.2
          obtain ⟨O4, G4⟩ := O4
          have hc4 := (O4.cell hq').1
          simp only [if_true] at hc4
          have hf4 := (O4.cell hq').2.1
          have F4 := (show FS .f32 (w3.drewN kk) (some ⟨b, off + q * n, none⟩) n n _ from F3).grown G4 (fun q hq => by cases hq; exact hne)
          obtain ⟨b', off', e, hbl, hce5, hfv⟩ := F4.at hq'
          simp only [Option.some.injEq, Addr.mk.injEq, and_true] at e
          obtain ⟨rfl, rfl⟩ := e
          have hv1 := Lib.hid (fun r2 (h2 : FV .f32 r2 _) => up_next (r := r2) hU.out hq hv'.out HLL.out h2)
          have O4' := Lib.hid O4
          have G4' := Lib.hid (grownBy_trans G3 (⟨G4.os, G4.tape, G4.output, G4.size, G4.block⟩ : w3.grownBy _ (some g)))
          clear O4 G4 F3 FY O3 G3 F4 hbl
          go_wp2
        all_goals
          first
            | (refine ⟨⟨j + 1, _, by omega, ?_, O4'.out, hv1.out r1 hr1, G4'.out⟩, ?_⟩
               · rw [show (q : Int) - 1 = (n : Int) - 1 - ((j + 1 : Nat) : Int) by omega]
               · simp only [intOf]; omega)
            | ((refine wp_region_loose_tail 10 (by kernel_rfl) (by kernel_rfl) ?_; simp only [List.take_succ_cons, List.take_zero, List.drop_succ_cons, List.drop_zero]; (repeat (refine wpLoose_want rfl (fun K hK => ?_); first | (refine loose_farith _ _ _ _ _ rfl rfl _ _ _ rfl rfl (by first | assumption | (with_reducible exact FV.ofInt _ _) | (with_reducible exact FV.neg (by assumption)) | exact FV.lit (by kernel_rfl) (by kernel_rfl)) (by first | assumption | (with_reducible exact FV.ofInt _ _) | (with_reducible exact FV.neg (by assumption)) | exact FV.lit (by kernel_rfl) (by kernel_rfl)) ?_; intro r hr; refine hK _ ?_; clear hK K; simp only [Act.put, List.setIfInBounds_toArray, List.set_cons_succ, List.set_cons_zero]) | (refine loose_of_quiet rfl ?_; go_big_quiet_op; refine hK _ ?_; clear hK K))); refine wpLoose_nil ?_)
               rintro _ ⟨k2, rfl⟩
               have O5 := ((show Own 41 .f32 B U (((w3.drewN kk).setCell ⟨g, q, none⟩ (.float .f32 r1)).drewN k2) (some ⟨g, 0, none⟩) n _ _ from O4'.out).stored hq' hr.2)
               obtain ⟨O5, G5⟩ := O5
               have O6 := Lib.hid (O5.same (Y := fun t => if t = q then r else X t) (fun t _ => by by_cases e : t = q <;> simp [e]))
               have G6 := Lib.hid (grownBy_trans G4'.out (⟨G5.os, G5.tape, G5.output, G5.size, G5.block⟩ : World.grownBy ((w3.drewN kk).setCell ⟨g, q, none⟩ (.float .f32 r1)) _ (some g)))
               clear O5 G5
               go_wp2
               refine ⟨⟨j + 1, _, by omega, ?_, O6.out, hv1.out r hr, G6.out⟩, ?_⟩
               · rw [show (q : Int) - 1 = (n : Int) - 1 - ((j + 1 : Nat) : Int) by omega]
               · simp only [intOf]; omega)
      · obtain rfl : j = n := by omega
        have hqi : (j : Int) - 1 - j = -1 := by omega
        rw [hqi]
        have O' := Lib.hid ho
        have G' := Lib.hid (grownBy_trans G0 hg)
        clear ho hg
        go_wp2
        go_end0
        exact ⟨rfl, _, O'.out, hv'.out, G'.out⟩
end Go.Proofs.Ytcibjkadlndejaa
