/- Helper: lower squares of factors, of the reference. Conditions: none. -/
import Derived.Test.YtpmilaemmdcfaacLowerOfKey
set_option linter.unusedVariables false
set_option linter.unusedSimpArgs false
namespace Go.Proofs.Ytpmilaemmdcfaac
open Go.RowKit

set_option maxHeartbeats 1000000 in
theorem specLower_no (R C : Int) (a : Option Addr) (n c : Nat) (Z : Nat → Nat) (b : Option Addr) (m d : Nat) (O : Nat → Int) (w : World) (hn : n ≤ 1048576) (hm : m ≤ 1048576) (h : FS .f32 w a n c Z) (h2 : IS .i64 w b m d O) (ho : factorB R C n (vals Z) m O = false) :
    Calls Try.prog 16 #[.agg #[.int .i64 R, .int .i64 C, .slice a n c, .slice b m d]] w (MatBel false 0 0 0 (fun _ => none) w) := by
  go_enter Try.func16, Try.ntmps16
  go_wp2_with fail
  go_at_call 35
  refine (specFactor_any _ R C a n c Z b m d O _ hn hm (by simp <;> omega) (BoxL.four (by simp [go_sem]) (by simp [go_sem]) (by simp [go_sem]) (by simp [go_sem])) (h.below (by repeat first | (with_reducible exact Below.refl _ _) | (with_reducible refine Below.setCell ?_ (by first | exact Nat.le_refl _ | (simp; done) | (simp; omega) | omega) _) | (with_reducible refine Below.alloc ?_ (by first | exact Nat.le_refl _ | (simp; done) | (simp; omega) | omega) _) | (with_reducible refine below_drewN ?_ _) | (with_reducible refine Below.drew ?_)) (Nat.le_refl _)) (h2.below (by repeat first | (with_reducible exact Below.refl _ _) | (with_reducible refine Below.setCell ?_ (by first | exact Nat.le_refl _ | (simp; done) | (simp; omega) | omega) _) | (with_reducible refine Below.alloc ?_ (by first | exact Nat.le_refl _ | (simp; done) | (simp; omega) | omega) _) | (with_reducible refine below_drewN ?_ _) | (with_reducible refine Below.drew ?_)) (Nat.le_refl _))).mono ?_
  rintro e w1 ⟨rfl, b1⟩
  rw [ho]
  have s1 : w.heap.size + 1 < w1.heap.size := by have := b1.size; simp at this; omega
  have B1 : Below w.heap.size w w1 := Below.trans (by repeat first | (with_reducible exact Below.refl _ _) | (with_reducible refine Below.setCell ?_ (by first | exact Nat.le_refl _ | (simp; done) | (simp; omega) | omega) _) | (with_reducible refine Below.alloc ?_ (by first | exact Nat.le_refl _ | (simp; done) | (simp; omega) | omega) _) | (with_reducible refine below_drewN ?_ _) | (with_reducible refine Below.drew ?_)) (b1.mono (by simp <;> omega))
  obtain ⟨z0, z1, z2⟩ : Box w1 (w.heap.size + 1) 0 0 none 0 0 := Box.below (by refine ⟨?_, ?_, ?_⟩ <;> simp [go_sem]) b1 (by simp)
  have IR : ∀ i, w1.frozen? ⟨w.heap.size + 1, i, none⟩ = false := fun i => (b1.frozen (p := ⟨w.heap.size + 1, i, none⟩) (by simp)).trans (by simp [go_sem])
  clear b1
  go_wp2_with fail
  refine bodyPost_ret (v := .tuple #[.agg #[.int .i64 0, .int .i64 0, .slice none 0 0], .bool false]) (by simp [results, Try.results16, go_sem, z0, z1, z2]) rfl ?_
  exact ⟨none, 0, fun _ => 0, rfl, ⟨Nat.le_refl _, Nat.zero_le _, fun i hi => by omega⟩, fun i hi => by omega, (by repeat first | (with_reducible exact B1) | (with_reducible refine Below.setCell ?_ (by first | exact Nat.le_refl _ | (simp; done) | (simp; omega) | omega) _) | (with_reducible refine Below.alloc ?_ (by first | exact Nat.le_refl _ | (simp; done) | (simp; omega) | omega) _) | (with_reducible refine below_drewN ?_ _) | (with_reducible refine Below.drew ?_))⟩
set_option maxRecDepth 20000 in
set_option maxHeartbeats 4000000 in
theorem specLower_yes (r n ba oa c : Nat) (bo : Option Addr) (d : Nat) (Z : Nat → Nat) (O : Nat → Int) (w : World) (hf : factorB r r n (vals Z) r O = true) (h : FS .f32 w (some ⟨ba, oa, none⟩) n c Z) (h2 : IS .i64 w bo r d O) :
    Calls Try.prog 16 #[.agg #[.int .i64 (r : Int), .int .i64 (r : Int), .slice (some ⟨ba, oa, none⟩) n c, .slice bo r d]] w (MatBel true r r n (vals (lowZ r Z r)) w) := by
  obtain ⟨r', e1, _, _, h1, h12, hN, _, _, _, _⟩ := factor_nat hf
  have e2 : r = r' := by omega
  subst e2
  have HN := Lib.hid hN
  have hn144 : n ≤ 144 := by have := sides_le h12 h12; omega
  have hpos : 0 < n := by rw [hN]; exact Nat.mul_pos h1 h1
  clear hN e1
  go_enter Try.func16, Try.ntmps16
  go_wp2_with fail
  generalize hwa : w.alloc (.cells #[.int .i64 (r : Int), .int .i64 (r : Int), .slice (some ⟨ba, oa, none⟩) n c, .slice bo r d] 32) = wa
  have Ba : Below w.heap.size w wa := by rw [← hwa]; exact (by repeat first | (with_reducible exact Below.refl _ _) | (with_reducible refine Below.setCell ?_ (by first | exact Nat.le_refl _ | (simp; done) | (simp; omega) | omega) _) | (with_reducible refine Below.alloc ?_ (by first | exact Nat.le_refl _ | (simp; done) | (simp; omega) | omega) _) | (with_reducible refine below_drewN ?_ _) | (with_reducible refine Below.drew ?_))
  have sa : wa.heap.size = w.heap.size + 1 := by rw [← hwa]; simp
  have Xa : BoxL wa w.heap.size [.int .i64 (r : Int), .int .i64 (r : Int), .slice (some ⟨ba, oa, none⟩) n c, .slice bo r d] := by rw [← hwa]; exact BoxL.four (by simp [go_sem]) (by simp [go_sem]) (by simp [go_sem]) (by simp [go_sem])
  have Fa := h.below Ba (Nat.le_refl _)
  have Ga := h2.below Ba (Nat.le_refl _)
  rw [← sa]
  clear hwa h h2
  have la : w.heap.size < wa.heap.size := by omega
  go_at_call 35
  refine (specFactor_any w.heap.size _ _ _ n c Z bo r d O _ (by omega) (by omega) (by simp <;> omega) (Xa.below (by repeat first | (with_reducible exact Below.refl _ _) | (with_reducible refine Below.setCell ?_ (by first | exact Nat.le_refl _ | (simp; done) | (simp; omega) | omega) _) | (with_reducible refine Below.alloc ?_ (by first | exact Nat.le_refl _ | (simp; done) | (simp; omega) | omega) _) | (with_reducible refine below_drewN ?_ _) | (with_reducible refine Below.drew ?_)) la) (Fa.below (by repeat first | (with_reducible exact Below.refl _ _) | (with_reducible refine Below.setCell ?_ (by first | exact Nat.le_refl _ | (simp; done) | (simp; omega) | omega) _) | (with_reducible refine Below.alloc ?_ (by first | exact Nat.le_refl _ | (simp; done) | (simp; omega) | omega) _) | (with_reducible refine below_drewN ?_ _) | (with_reducible refine Below.drew ?_)) (Nat.le_refl _)) (Ga.below (by repeat first | (with_reducible exact Below.refl _ _) | (with_reducible refine Below.setCell ?_ (by first | exact Nat.le_refl _ | (simp; done) | (simp; omega) | omega) _) | (with_reducible refine Below.alloc ?_ (by first | exact Nat.le_refl _ | (simp; done) | (simp; omega) | omega) _) | (with_reducible refine below_drewN ?_ _) | (with_reducible refine Below.drew ?_)) (Nat.le_refl _))).mono ?_
  rintro e w1 ⟨rfl, b1⟩
  rw [hf]
  have B1 : Below wa.heap.size wa w1 := Below.trans (by repeat first | (with_reducible exact Below.refl _ _) | (with_reducible refine Below.setCell ?_ (by first | exact Nat.le_refl _ | (simp; done) | (simp; omega) | omega) _) | (with_reducible refine Below.alloc ?_ (by first | exact Nat.le_refl _ | (simp; done) | (simp; omega) | omega) _) | (with_reducible refine below_drewN ?_ _) | (with_reducible refine Below.drew ?_)) (b1.mono (by simp <;> omega))
  have s1 : wa.heap.size < w1.heap.size := by have := b1.size; simp at this; omega
  have X1 := Xa.below B1 la
  have x0 := X1 0 _ rfl
  have XR : Box w1 wa.heap.size 0 0 none 0 0 := Box.below (by refine ⟨?_, ?_, ?_⟩ <;> simp [go_sem]) b1 (by simp)
  have IR : ∀ i, w1.frozen? ⟨wa.heap.size, i, none⟩ = false := fun i => (b1.frozen (p := ⟨wa.heap.size, i, none⟩) (by simp)).trans (by simp [go_sem])
  clear b1 hf X1
  go_wp2_with fail
  go_at_call 47
  refine (l02Unit_any r n _ h1 h12 HN.out).mono ?_
  rintro e w2 ⟨g, rfl, o2, b2⟩
  have B2 := B1.trans (b2.mono B1.size)
  have s2 := b2.size
  have wk := Wk.start (W0 := wa) (rb := wa.heap.size) (R := (r : Int)) (C := (r : Int)) 30 o2 (XR.below b2 s1) (fun i => (b2.frozen (p := ⟨wa.heap.size, i, none⟩) s1).trans (IR i)) B2 (Nat.le_refl _) s1 (by omega)
  clear o2 b2 B2 XR IR x0 B1
  go_wp2
  go_loopw [5] (fun i wr => ∃ j : Nat, j ≤ r ∧ i = .int .i64 j ∧ Wk wa w1.heap.size w2.heap.size g n w2.heap.size wa.heap.size r r n (refZ r Z j 0) wr) (fun i _ => r - (intOf i).toNat)
  case atStart => exact ⟨0, Nat.zero_le _, rfl, wk.same (fun t _ => ref_zero)⟩
  case round =>
    obtain ⟨j, hj, rfl, hk⟩ := hrel
    clear wk
    by_cases hlt : j < r
    · obtain ⟨y0, y1, y2⟩ := hk.box
      have hk' := Lib.hid hk
      clear hk
      go_wp2
      go_loopw [6] (fun k wr => ∃ q : Nat, q ≤ j ∧ k = .int .i64 q ∧ Wk wa w1.heap.size w2.heap.size g n w2.heap.size wa.heap.size r r n (refZ r Z j q) wr) (fun k _ => j - (intOf k).toNat)
      case atStart => exact ⟨0, Nat.zero_le _, rfl, hk'.out⟩
      case round =>
        obtain ⟨q, hq, rfl, hk3⟩ := hrel
        clear hk' y0 y1 y2
        by_cases hlt2 : q < j
        · have hqr : q < r := by omega
          obtain ⟨g1, g2, g3, g4⟩ := hk3.facts hpos
          have lb := hk3.top
          have Xw := Xa.below hk3.bel la
          have Fw := Fa.below hk3.bel (Nat.le_refl _)
          have lw : w.heap.size < wr.heap.size := Nat.lt_of_lt_of_le la hk3.bel.size
          obtain ⟨y0, y1, y2⟩ := hk3.box
          obtain ⟨K, hK⟩ : ∃ K, K = j * r + q := ⟨_, rfl⟩
          obtain ⟨L, hL⟩ : ∃ L, L = j * r := ⟨_, rfl⟩
          have hpl : K < n := by rw [hK, HN.out]; exact place_lt hlt hqr
          have hLK : K = L + q := by rw [hK, hL]
          have hM1 : IntKind.i64.wrap ((j : Int) * (r : Int)) = (L : Int) := by
            rw [← Int.natCast_mul, ← hL]; exact IntWalk.i64_in _ (by omega)
          have hM2 : IntKind.i64.wrap ((L : Int) + (q : Int)) = (K : Int) := by
            rw [hLK, Int.natCast_add]; exact IntWalk.i64_in _ (by omega)
          have hfz := (Fa.at hpl)
          obtain ⟨b', off', e, hbl, hcz, hfv⟩ := hfz
          simp only [Option.some.injEq, Addr.mk.injEq, and_true] at e
          obtain ⟨rfl, rfl⟩ := e
          have hwf := hfv.2
          have hAt : ∀ W, Below wr.heap.size wr W → Calls Try.prog 48 #[.pointer (some ⟨w.heap.size, 0, none⟩), .int .i64 j, .int .i64 q] W fun e w' => e = .returned (.float .f32 (Z K)) ∧ ∃ m, w' = W.drewN m := by
            intro W hW
            have XW := Xw.below hW lw
            rw [hK]
            exact specAt_any w.heap.size ba oa r r n c j q Z W h12 h12 HN.out ⟨XW 0 _ rfl, XW 1 _ rfl, XW 2 _ rfl⟩ (Fw.below hW (Nat.le_refl _)) hlt hqr
          have hst : ∀ t, (if t = K then Z K else refZ r Z j q t) = refZ r Z j (q + 1) t := fun t => by rw [hK]; exact ref_step hlt2 hlt t
          have HST := Lib.hid hst
          have HK3 := Lib.hid hk3
          clear hcz hbl hfv hst hk3 hK hL hLK Xw Fw
          generalize Z K = x at hAt hwf HST
          go_wp2
          generalize hw0 : wr = w0 at y0 y1 y2 hAt HK3 g3 g4 lb lw ⊢
          (refine wp_region_kinds (fun w' => Below w0.heap.size w0 w') (fun _ => 0) 13 (below_drewN (Below.refl _ _) 1) (by kernel_rfl) (by kernel_rfl) (by kernel_rfl) ?_; simp only [List.take_succ_cons, List.take_zero, List.drop_succ_cons, List.drop_zero])
          ((with_reducible refine wpKinds_run (.pointer (some ⟨w2.heap.size, 2, none⟩)) ?hwant ?hkind ?hrun ?_); (case hwant => first | (simp [Region.wanted, yielded]; done) | rfl); (case hkind => rfl); (case hrun => intro W hW; simp [go_sem, BigFrame.eval_const, BigFrame.eval_global, BigFrame.eval_func]); simp only [Act.put, List.setIfInBounds_toArray, List.set_cons_succ, List.set_cons_zero])
          ((with_reducible refine wpKinds_run (.slice (some ⟨g, 0, none⟩) n n) ?hwant ?hkind ?hrun ?_); (case hwant => first | (simp [Region.wanted, yielded]; done) | rfl); (case hkind => rfl); (case hrun => intro W hW; have hcell := (hW.cell (p := _) (by assumption)).trans y2; simp [go_sem, BigFrame.eval_const, BigFrame.eval_global, BigFrame.eval_func, hcell]); simp only [Act.put, List.setIfInBounds_toArray, List.set_cons_succ, List.set_cons_zero])
          ((with_reducible refine wpKinds_run (.int .i64 j) ?hwant ?hkind ?hrun ?_); (case hwant => first | (simp [Region.wanted, yielded]; done) | rfl); (case hkind => rfl); (case hrun => intro W hW; simp [go_sem, BigFrame.eval_const, BigFrame.eval_global, BigFrame.eval_func]); simp only [Act.put, List.setIfInBounds_toArray, List.set_cons_succ, List.set_cons_zero])
          ((with_reducible refine wpKinds_run (.pointer (some ⟨w2.heap.size, 1, none⟩)) ?hwant ?hkind ?hrun ?_); (case hwant => first | (simp [Region.wanted, yielded]; done) | rfl); (case hkind => rfl); (case hrun => intro W hW; simp [go_sem, BigFrame.eval_const, BigFrame.eval_global, BigFrame.eval_func]); simp only [Act.put, List.setIfInBounds_toArray, List.set_cons_succ, List.set_cons_zero])
          ((with_reducible refine wpKinds_run (.int .i64 r) ?hwant ?hkind ?hrun ?_); (case hwant => first | (simp [Region.wanted, yielded]; done) | rfl); (case hkind => rfl); (case hrun => intro W hW; have hcell := (hW.cell (p := _) (by assumption)).trans y1; simp [go_sem, BigFrame.eval_const, BigFrame.eval_global, BigFrame.eval_func, hcell]); simp only [Act.put, List.setIfInBounds_toArray, List.set_cons_succ, List.set_cons_zero])
          ((with_reducible refine wpKinds_run (.int .i64 L) ?hwant ?hkind ?hrun ?_); (case hwant => first | (simp [Region.wanted, yielded]; done) | rfl); (case hkind => rfl); (case hrun => intro W hW; simp [go_sem, BigFrame.eval_const, BigFrame.eval_global, BigFrame.eval_func, hM1]); simp only [Act.put, List.setIfInBounds_toArray, List.set_cons_succ, List.set_cons_zero])
          ((with_reducible refine wpKinds_run (.int .i64 q) ?hwant ?hkind ?hrun ?_); (case hwant => first | (simp [Region.wanted, yielded]; done) | rfl); (case hkind => rfl); (case hrun => intro W hW; simp [go_sem, BigFrame.eval_const, BigFrame.eval_global, BigFrame.eval_func]); simp only [Act.put, List.setIfInBounds_toArray, List.set_cons_succ, List.set_cons_zero])
          ((with_reducible refine wpKinds_run (.int .i64 K) ?hwant ?hkind ?hrun ?_); (case hwant => first | (simp [Region.wanted, yielded]; done) | rfl); (case hkind => rfl); (case hrun => intro W hW; simp [go_sem, BigFrame.eval_const, BigFrame.eval_global, BigFrame.eval_func, hM2]); simp only [Act.put, List.setIfInBounds_toArray, List.set_cons_succ, List.set_cons_zero])
          ((with_reducible refine wpKinds_run (.pointer (some ⟨w.heap.size, 0, none⟩)) ?hwant ?hkind ?hrun ?_); (case hwant => first | (simp [Region.wanted, yielded]; done) | rfl); (case hkind => rfl); (case hrun => intro W hW; simp [go_sem, BigFrame.eval_const, BigFrame.eval_global, BigFrame.eval_func]); simp only [Act.put, List.setIfInBounds_toArray, List.set_cons_succ, List.set_cons_zero])
          ((with_reducible refine wpKinds_run (.int .i64 j) ?hwant ?hkind ?hrun ?_); (case hwant => first | (simp [Region.wanted, yielded]; done) | rfl); (case hkind => rfl); (case hrun => intro W hW; simp [go_sem, BigFrame.eval_const, BigFrame.eval_global, BigFrame.eval_func]); simp only [Act.put, List.setIfInBounds_toArray, List.set_cons_succ, List.set_cons_zero])
          ((with_reducible refine wpKinds_run (.int .i64 q) ?hwant ?hkind ?hrun ?_); (case hwant => first | (simp [Region.wanted, yielded]; done) | rfl); (case hkind => rfl); (case hrun => intro W hW; simp [go_sem, BigFrame.eval_const, BigFrame.eval_global, BigFrame.eval_func]); simp only [Act.put, List.setIfInBounds_toArray, List.set_cons_succ, List.set_cons_zero])
          ((with_reducible refine wpKinds_call (f := 48) (args := #[.pointer (some ⟨w.heap.size, 0, none⟩), .int .i64 j, .int .i64 q]) (.float .f32 x) ?hwant ?hkind ?hrun ?hinit ?hcall ?_); (case hwant => first | (simp [Region.wanted, yielded]; done) | rfl); (case hkind => rfl); (case hrun => intro W; simp [go_sem, BigFrame.eval_const, BigFrame.eval_global, BigFrame.eval_func]); (case hinit => kernel_rfl); (case hcall => intro W hW; (refine (hAt W hW).mono ?_; rintro e w' ⟨rfl, m, rfl⟩; exact ⟨rfl, below_drewN hW m⟩)); simp only [Act.put, List.setIfInBounds_toArray, List.set_cons_succ, List.set_cons_zero])
          ((with_reducible refine wpKinds_run (.pointer (some ⟨g, K, none⟩)) ?hwant ?hkind ?hrun ?_); (case hwant => first | (simp [Region.wanted, yielded]; done) | rfl); (case hkind => rfl); (case hrun => intro W hW; simp [go_sem, BigFrame.eval_const, BigFrame.eval_global, BigFrame.eval_func, hpl]); simp only [Act.put, List.setIfInBounds_toArray, List.set_cons_succ, List.set_cons_zero])
          refine wpKinds_nil ?_
          intro w6 hC
          have hk6 := HK3.out.below hC g3 g4
          have hst' := Lib.hid ((hk6.stored (t := K) (v := x) hpl hwf).same (fun t _ => HST.out t))
          obtain ⟨hce, hfr, _⟩ := hk6.own.cell hpl
          clear hk6 HK3 HST hC hAt y0 y1 y2 hM1 hM2
          go_wp2_with fail
          go_roundw
          case rel => exact ⟨q + 1, by omega, by go_num, hst'.out⟩
          case measure => simp [intOf]; omega
        · obtain rfl : q = j := by omega
          have hst' := Lib.hid (hk3.same (fun t _ => ref_row))
          clear hk3
          go_wp2_with fail
          go_roundw
          case rel => exact ⟨q + 1, by omega, by go_num, hst'.out⟩
          case measure => simp [intOf]; omega
    · obtain rfl : j = r := by omega
      obtain ⟨y0, y1, y2⟩ := hk.box
      obtain ⟨z0, z1, z2⟩ := hk.res
      have o3 := hk.own.same (fun t ht => ref_all HN.out ht)
      have B3 := Ba.trans (hk.bel.mono Ba.size)
      have hlo := hk.lo
      have hmid := hk.mid
      have hice := hk.ice
      have htop := hk.top
      clear hk
      rw [sa] at z0 z1 z2 hlo hmid
      simp only [sa] at hice
      go_wp2_with fail
      refine bodyPost_ret (v := .tuple #[.agg #[.int .i64 j, .int .i64 j, .slice (some ⟨g, 0, none⟩) n n], .bool true]) (by simp [results, Try.results16, go_sem, y0, y1, y2, z0, z1, z2]) rfl ?_
      exact ⟨_, _, _, rfl, Own.fs (B := w.heap.size) (U := wr.heap.size) (by refine Own.to o3 (hk := fun g hg1 hg2 => by (try simp at hg1 hg2); repeat (first | rw [Below.heap_setCell _ _ _ _ (by simp; omega)] | rw [Below.heap_alloc _ _ _ (by simp [World.setCell]; omega)])) ?_ ?_ ?_ ?_ <;> (first | exact Nat.le_refl _ | omega | (simp [World.setCell]; done) | (simp [World.setCell]; omega))), fun i _ => rfl, (by repeat first | (with_reducible exact B3) | (with_reducible refine Below.setCell ?_ (by first | exact Nat.le_refl _ | (simp; done) | (simp; omega) | omega) _) | (with_reducible refine Below.alloc ?_ (by first | exact Nat.le_refl _ | (simp; done) | (simp; omega) | omega) _) | (with_reducible refine below_drewN ?_ _) | (with_reducible refine Below.drew ?_))⟩
theorem keyLowerOf (R C : Int) (n : Nat) (Z : Nat → Nat) (m : Nat) (O : Nat → Int) (wR : (Lit.int .i64 R).wf = true) (wC : (Lit.int .i64 C).wf = true) (hn : n ≤ 1048576) (hm : m ≤ 1048576) : ∃ (ok : Bool) (R2 C2 : Int) (n2 : Nat) (V : Nat → Option Nat), n2 ≤ 144 ∧
    (∀ a c b d W, FS .f32 W a n c Z → IS .i64 W b m d O → Calls Try.prog 16 #[.agg #[.int .i64 R, .int .i64 C, .slice a n c, .slice b m d]] W (MatBel ok R2 C2 n2 V W)) ∧
    (∀ a c b d W, FS .f32 W a n c Z → IS .i64 W b m d O → Calls Try.prog 17 #[.agg #[.int .i64 R, .int .i64 C, .slice a n c, .slice b m d]] W (MatOwn ok R2 C2 n2 V W)) := by
  cases hf : factorB R C n (vals Z) m O with
  | false => exact ⟨false, 0, 0, 0, fun _ => none, by omega, fun a c b d W h h2 => specLower_no R C a n c Z b m d O W hn hm h h2 hf, fun a c b d W h h2 => implLower_no R C a n c Z b m d O W hn hm h h2 hf⟩
  | true =>
    obtain ⟨r, rfl, rfl, rfl, h1, h12, hN, _⟩ := factor_nat hf
    have hpos : 0 < n := by rw [hN]; exact Nat.mul_pos h1 h1
    refine ⟨true, m, m, n, vals (lowZ m Z m), by have := sides_le h12 h12; omega, fun a c b d W h h2 => ?_, fun a c b d W h h2 => ?_⟩
    · obtain ⟨ba, oa, rfl, _, _, _⟩ := h.at hpos
      exact specLower_yes m n ba oa c b d Z O W hf h h2
    · obtain ⟨ba, oa, rfl, _, _, _⟩ := h.at hpos
      exact implLower_yes m n ba oa c b d Z O W hf h h2
end Go.Proofs.Ytpmilaemmdcfaac
