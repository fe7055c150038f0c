/- Helper: the inverse that a factor tells, of the reference. Conditions: none. -/
import Derived.Test.YtmddhhmgfhljiaaFactorSolveSpec
import Derived.Test.YtmddhhmgfhljiaaInvImpl
set_option linter.unusedVariables false
set_option linter.unusedSimpArgs false
namespace Go.Proofs.Ytmddhhmgfhljiaa
open Go.RowKit

/-- The inverse. -/
def invV (r : Nat) (Z : Nat → Nat) (O : Nat → Int) (t : Nat) : Option Nat := solV r (sq r Z) O (vals (eRow r (t % r))) (t / r)
theorem eRow_at {r j k : Nat} (hj : j < r) (hk : k < r) : (if k = j then 1065353216 else 0) = eRow r j k := by
  obtain ⟨h1, h2⟩ := place_div (j := j) hk
  unfold eRow unitZ
  rw [h1, h2]
  by_cases e : k = j
  · subst e; rw [if_pos rfl, if_pos ⟨rfl, hj⟩]
  · rw [if_neg e, if_neg (fun q => e q.1.symm)]
set_option maxRecDepth 20000 in
set_option maxHeartbeats 4000000 in
theorem l03Inverse_any (p r N b off cap bb ob d : Nat) (Z : Nat → Nat) (O : Nat → Int) (w : World) (h1 : 1 ≤ r) (h12 : r ≤ 12) (hN : N = r * r) (hord : ordB O r = true) (hp : p < w.heap.size)
    (hbx : BoxL w p [.int .i64 (r : Int), .int .i64 (r : Int), .slice (some ⟨b, off, none⟩) N cap, .slice (some ⟨bb, ob, none⟩) r d]) (h : FS .f32 w (some ⟨b, off, none⟩) N cap Z) (h2 : IS .i64 w (some ⟨bb, ob, none⟩) r d O) :
    Calls Try.prog 65 #[.pointer (some ⟨p, 0, none⟩)] w (NewRead w r r N (invV r Z O)) := by
  have HN := Lib.hid hN
  have hN144 : N ≤ 144 := by have := sides_le h12 h12; omega
  have hpos : 0 < N := by rw [hN]; exact Nat.mul_pos h1 h1
  obtain ⟨i0, hi, hz0, hz1, hz2⟩ := info_parts info32
  obtain ⟨VV, hVV⟩ : ∃ VV, VV = invV r Z O := ⟨_, rfl⟩
  rw [← hVV]
  have HVV := Lib.hid hVV
  have Ba : Below w.heap.size w (w.alloc (.cells #[.int .i64 0, .int .i64 0, .slice none 0 0] 31)) := (by repeat first | (with_reducible exact Below.refl _ _) | (with_reducible refine Below.setCell ?_ (by first | exact Nat.le_refl _ | (simp; done) | (simp; omega) | omega) _) | (with_reducible refine Below.alloc ?_ (by first | exact Nat.le_refl _ | (simp; done) | (simp; omega) | omega) _) | (with_reducible refine below_drewN ?_ _) | (with_reducible refine Below.drew ?_))
  have x0 := hbx.below Ba hp 0 _ rfl
  clear hN hVV
  go_enter Try.func65, Try.ntmps65
  go_wp2_with fail
  go_at_call 99
  refine (l02Zero_any r r N _ h12 h12 HN.out).mono ?_
  rintro e w1 ⟨g, rfl, o1, b1⟩
  have wk := Work.start (R := (r : Int)) (C := (r : Int)) 31 31 (Own.mono (B' := w.heap.size + 1) o1 (by simp) (Nat.le_refl _) (Nat.le_refl _)) b1
  clear o1 b1 x0 Ba
  go_wp2
  go_loopw [5] (fun i wr => ∃ (j : Nat) (Zc : Nat → Nat), j ≤ r ∧ i = .int .i64 j ∧ Work w (w.heap.size + 1) w1.heap.size g w1.heap.size w.heap.size r r N Zc wr ∧ (∀ t, t < N → t % r < j → vals Zc t = VV t)) (fun i _ => r - (intOf i).toNat)
  case atStart => exact ⟨0, _, Nat.zero_le _, rfl, wk, fun t ht h0 => absurd h0 (Nat.not_lt_zero _)⟩
  case round =>
    obtain ⟨j, Zc, hj, rfl, hk, hZ⟩ := hrel
    clear wk
    obtain ⟨g1, g2, g3, g4⟩ := hk.facts hpos
    have HZ := Lib.hid hZ
    have hbel := hk.bel
    clear hZ
    by_cases hlt : j < r
    · have hK := Lib.hid hk
      clear hk
      go_wp2_with (at_make; refine wpList_make_full _ rfl _ _ 22 rfl wr.heap.size 44 i0 (.float .f32 0) 1 Try.underlying22 hi hz0 hz1 _ _ _ _ r rfl rfl rfl rfl ?b2 ?b3 (Nat.le_refl _) ?_)
      case b2 => rw [hz2]; omega
      case b3 => unfold maxLen; omega
      intro w2 hown0 hgrow0
      have hU := (hown0.lt wr.heap.size rfl).2
      have o2 := own_zero (w := wr) (U := w2.heap.size) hown0 (Nat.le_refl _) hU (Nat.le_refl _) (by unfold maxLen; omega)
      have b2 : Below wr.heap.size wr w2 := (Below.refl _ _).grown hgrow0 (Nat.le_refl _) (fun k h => by cases h)
      clear hown0 hgrow0
      obtain ⟨q, hq⟩ : ∃ q, q = wr.heap.size := ⟨_, rfl⟩
      rw [← hq] at o2 hU ⊢
      have hqw : wr.heap.size ≤ q := by omega
      clear hq
      obtain ⟨hce, hfr, _⟩ := o2.cell hlt
      obtain ⟨o3, _⟩ := o2.stored (t := j) (v := 1065353216) hlt (by decide)
      have b3 : Below wr.heap.size wr (w2.setCell ⟨q, j, none⟩ (.float .f32 1065353216)) := Below.setCell b2 hqw _
      have F3 : FS .f32 (w2.setCell ⟨q, j, none⟩ (.float .f32 1065353216)) (some ⟨q, 0, none⟩) r r (eRow r j) := FS.sameI o3.fs fun k hk => eRow_at hlt hk
      have B3 : Below w.heap.size w (w2.setCell ⟨q, j, none⟩ (.float .f32 1065353216)) := hbel.trans (b3.mono hbel.size)
      have hpw : p < wr.heap.size := Nat.lt_of_lt_of_le hp hbel.size
      clear o2 o3
      go_wp2_with fail
      go_at_call 86
      refine (l03Solve_new p r N b off cap bb ob d q 0 r Z O (eRow r j) _ h1 h12 HN.out hord (Nat.lt_of_lt_of_le hp B3.size) (hbx.below B3 hp) (h.below B3 (Nat.le_refl _)) (h2.below B3 (Nat.le_refl _)) F3).mono ?_
      rintro e w4 ⟨gx, cp, X, rfl, fx, hX, b4, hgx⟩
      have b34 := b3.trans (b4.mono b3.size)
      have s3 := b3.size
      have hgg : gx ≠ g := by omega
      have hk4 := hK.out.below b34 g3 g4
      have HX := Lib.hid hX
      clear b3 b4 b34 F3 B3 hce hfr hX hK b2 s3 hgx hU
      go_wp2
      go_loopw [8] (fun i wr2 => ∃ (k : Nat) (Z2 : Nat → Nat), k ≤ r ∧ i = .int .i64 k ∧ Work w (w.heap.size + 1) w1.heap.size g w1.heap.size w.heap.size r r N Z2 wr2 ∧ FS .f32 wr2 (some ⟨gx, 0, none⟩) r cp X ∧ (∀ t, t < N → (t % r < j ∨ t % r = j ∧ t / r < k) → vals Z2 t = VV t)) (fun i _ => r - (intOf i).toNat)
      case atStart => exact ⟨0, Zc, Nat.zero_le _, rfl, hk4, fx, fun t ht h0 => HZ.out t ht (h0.elim id fun q => absurd q.2 (Nat.not_lt_zero _))⟩
      case round =>
        obtain ⟨k, Z2, hk, rfl, hw2, fx2, hZ2⟩ := hrel
        have HZ2 := Lib.hid hZ2
        clear hk4 fx hZ2 HZ
        by_cases hlt2 : k < r
        · obtain ⟨b', off', e, hbl, hcx, hfx⟩ := fx2.at hlt2
          simp only [Option.some.injEq, Addr.mk.injEq, and_true] at e
          obtain ⟨rfl, rfl⟩ := e
          rw [Nat.zero_add] at hcx
          obtain ⟨y0, y1, y2⟩ := hw2.box
          have hpl := place_lt (r := r) (i := k) (c := r) (k := j) hlt2 hlt
          rw [← HN.out] at hpl
          obtain ⟨hce, hfr, _⟩ := hw2.own.cell hpl
          have hwv := hfx.2
          have hnew : Hid (∀ t, t < N → (t % r < j ∨ t % r = j ∧ t / r < k + 1) → vals (fun i => if i = k * r + j then X k else Z2 i) t = VV t) := Lib.hid (fun t ht hc => by
            obtain ⟨p1, p2⟩ := place_div (j := k) hlt
            by_cases e : t = k * r + j
            · subst e
              show cn .f32 (if k * r + j = k * r + j then X k else Z2 (k * r + j)) = _
              rw [if_pos rfl, HVV.out]
              unfold invV
              rw [p1, p2]
              exact HX.out k hlt2
            · show cn .f32 (if t = k * r + j then X k else Z2 t) = _
              rw [if_neg e]
              refine HZ2.out t ht ?_
              rcases hc with hc | ⟨hc1, hc2⟩
              · exact .inl hc
              · right
                refine ⟨hc1, ?_⟩
                have hpe := place_eq (c := r) (t := t)
                by_cases e2 : t / r = k
                · rw [e2, hc1] at hpe; exact absurd hpe.symm e
                · omega)
          have hK2 := Lib.hid hw2
          have hF2 := Lib.hid fx2
          clear hw2 fx2 hfx hbl HZ2
          obtain ⟨L, hL⟩ : ∃ L, k * r = L := ⟨_, rfl⟩
          obtain ⟨I, hI⟩ : ∃ I, L + j = I := ⟨_, rfl⟩
          have hst := (hK2.out.drewN (m := 0)).stored (t := k * r + j) (v := X k) hpl hwv
          clear hst
          rw [hL, hI] at hpl hce hfr hnew
          have hM : IntKind.i64.wrap ((k : Int) * (r : Int)) = (L : Int) := by
            have e : (k : Int) * (r : Int) = (L : Int) := by rw [← hL, Int.natCast_mul]
            rw [e]; exact IntWalk.i64_in _ (by omega)
          have hM1 : IntKind.i64.wrap ((L : Int) + (j : Int)) = (I : Int) := by
            have e : (L : Int) + (j : Int) = (I : Int) := by omega
            rw [e]; exact IntWalk.i64_in _ (by omega)
          clear hL hI
          go_wp2
          (refine wp_region_pivot_tail 99 12 (by kernel_rfl) (by kernel_rfl) ?_; simp only [List.take_succ_cons, List.take_zero, List.drop_succ_cons, List.drop_zero]; (repeat (refine wpPivot_plain rfl rfl rfl (fun K hK => ?_); go_big_quiet_op; refine hK _ ?_; clear hK K)))
          refine wpPivot_nil ?_
          rintro _ ⟨kk, rfl⟩
          have hst := Lib.hid ((hK2.out.drewN (m := kk)).stored (t := I) (v := X k) hpl hwv)
          have hfx3 : Hid (FS .f32 ((wr.drewN kk).setCell ⟨g, I, none⟩ (.float .f32 (X k))) (some ⟨gx, 0, none⟩) r cp X) := Lib.hid (FS.to (FS.drewN hF2.out) (by simp [World.setCell]) (fun q hq => by obtain ⟨o, ho⟩ := hq; cases ho; exact Below.heap_setCell _ _ _ _ hgg))
          clear hcx y0 y1 y2
          go_wp2_with fail
          go_roundw
          case rel => exact ⟨k + 1, _, by omega, by go_num, hst.out, hfx3.out, hnew.out⟩
          case measure => simp [intOf]; omega
        · obtain rfl : k = r := by omega
          have hK2 := Lib.hid hw2
          have hnew : Hid (∀ t, t < N → t % k < j + 1 → vals Z2 t = VV t) := Lib.hid (fun t ht hc => HZ2.out t ht (by
            have hd : t / k < k := Nat.div_lt_of_lt_mul (by rw [← HN.out]; exact ht)
            omega))
          clear hw2 fx2
          go_wp2
          go_roundw
          case rel => exact ⟨j + 1, Z2, by omega, by go_num, hK2.out, hnew.out⟩
          case measure => simp [intOf]; omega
    · obtain rfl : j = r := by omega
      obtain ⟨y0, y1, y2⟩ := hk.box
      obtain ⟨z0, z1, z2⟩ := hk.res
      have o2 := hk.own
      have B2 := hk.bel
      have hlo := hk.lo
      have hmid := hk.mid
      have hice := hk.ice
      clear hk
      go_wp2_with fail
      refine bodyPost_ret (v := .agg #[.int .i64 j, .int .i64 j, .slice (some ⟨g, 0, none⟩) N N]) (by simp [results, Try.results65, go_sem, y0, y1, y2, z0, z1, z2]) rfl ?_
      refine ⟨_, _, Zc, rfl, ?_, ?_, fun t ht => HZ.out t ht (Nat.mod_lt _ h1), (by repeat first | (with_reducible exact B2) | (with_reducible refine Below.setCell ?_ (by first | exact Nat.le_refl _ | (simp; done) | (simp; omega) | omega) _) | (with_reducible refine Below.alloc ?_ (by first | exact Nat.le_refl _ | (simp; done) | (simp; omega) | omega) _) | (with_reducible refine below_drewN ?_ _) | (with_reducible refine Below.drew ?_))⟩
      · exact FS.to o2.fs (by simp [World.setCell]) (fun q hq => by obtain ⟨o, ho⟩ := hq; cases ho; rw [Below.heap_setCell _ _ _ _ (by simp; omega), Below.heap_setCell _ _ _ _ (by simp; omega), Below.heap_setCell _ _ _ _ (by simp; omega)])
      · rintro q off e
        cases e
        omega
end Go.Proofs.Ytmddhhmgfhljiaa
