/- Helper: half of the sum of a square and its flipped one, of the program. Conditions: none. -/
import Derived.Test.YtffmjfgechdjjaaFlipWalks
import Derived.Test.YtffmjfgechdjjaaSquare
import Derived.Test.YtffmjfgechdjjaaNums
import Derived.Test.YtffmjfgechdjjaaKindSteps
import Derived.Test.YtffmjfgechdjjaaHalf
set_option linter.unusedVariables false
set_option linter.unusedSimpArgs false
namespace Go.Proofs.Ytffmjfgechdjjaa
open Go.RowKit

/-- A number of the part. -/
def symV (r : Nat) (Z : Nat → Nat) (t : Nat) : Option Nat := fop .mul .f32 (some 1056964608) (fop .add .f32 (cn .f32 (Z t)) (cn .f32 (flipZ r r Z t)))

/-- Two finite numbers have a sum, and it is no not-a-number. -/
theorem add_fin {x y : Nat} (hx : finite .f32 (cn .f32 x) = true) (hy : finite .f32 (cn .f32 y) = true) : ∃ q, FloatKind.f32.format.add x y = some q ∧ cn .f32 q = some q ∧ FV .f32 q (fop .add .f32 (cn .f32 x) (cn .f32 y)) := by
  obtain ⟨e1, s, m, e, h1⟩ := cn_fin hx
  obtain ⟨e2, t, n, f, h2⟩ := cn_fin hy
  have h3 : fop .add .f32 (some x) (some y) = ((FloatKind.f32.decode x).sum (FloatKind.f32.decode y)).map FloatKind.f32.encode := rfl
  rw [h1, h2] at h3
  have h4 : fop .add .f32 (some x) (some y) = some (FloatKind.f32.encode (.number _ _ _)) := h3
  refine ⟨_, h4, cn_number _ _ _ _, ?_⟩
  rw [e1, e2, h4]
  exact ⟨cn_number _ _ _ _, floatBits_wf (op := .add) (k := .f32) (x := x) (y := y) h4⟩
/-- A half of a number that is no not-a-number. -/
theorem half_some {x : Nat} (hx : cn .f32 x = some x) : ∃ q, FloatKind.f32.format.mul 1056964608 x = some q ∧ FV .f32 q (fop .mul .f32 (some 1056964608) (some x)) := by
  have h3 : fop .mul .f32 (some 1056964608) (some x) = ((Ieee.single.read 1056964608).product (FloatKind.f32.decode x)).map FloatKind.f32.encode := rfl
  rw [read_half] at h3
  cases hd : FloatKind.f32.decode x with
  | nan s t => rw [cn_decode_nan hd] at hx; cases hx
  | infinity t =>
    rw [hd] at h3
    have h4 : fop .mul .f32 (some 1056964608) (some x) = some (FloatKind.f32.encode (.infinity (false ^^ t))) := by
      rw [h3]; simp [Ieee.Datum.product, Bool.xor_comm]
    refine ⟨_, h4, ?_⟩
    rw [h4]
    exact ⟨cn_infinity _ _, floatBits_wf (op := .mul) (k := .f32) (x := 1056964608) (y := x) h4⟩
  | number t n j =>
    rw [hd] at h3
    have h4 : fop .mul .f32 (some 1056964608) (some x) = some (FloatKind.f32.encode (.number _ _ _)) := h3
    refine ⟨_, h4, ?_⟩
    rw [h4]
    exact ⟨cn_number _ _ _ _, floatBits_wf (op := .mul) (k := .f32) (x := 1056964608) (y := x) h4⟩

set_option maxRecDepth 20000 in
set_option maxHeartbeats 4000000 in
theorem implSymPart_yes (s n b off cap : Nat) (Z : Nat → Nat) (w : World) (hr1 : 1 ≤ s) (hr : s ≤ 12) (hn : n = s * s) (hsq : squareB s s n (vals Z) = true) (h : FS .f32 w (some ⟨b, off, none⟩) n cap Z) :
    Calls Try.prog 27 #[.agg #[.int .i64 s, .int .i64 s, .slice (some ⟨b, off, none⟩) n cap]] w (OwnIf (allFin (symV s Z) n) s s n (symV s Z) w) := by
  have hN := Lib.hid hn
  have hn144 : n ≤ 144 := by have := sides_le hr hr; omega
  have hpos : 0 < n := by rw [hn]; exact Nat.mul_pos hr1 hr1
  have HSQ := Lib.hid hsq
  obtain ⟨VV, hVV⟩ : ∃ VV, VV = symV s Z := ⟨_, rfl⟩
  rw [← hVV]
  have HVV := Lib.hid hVV
  clear hn hsq hVV
  go_enter Try.func27, Try.ntmps27
  go_wp2_with fail
  generalize hwa : w.alloc (.cells #[.int .i64 s, .int .i64 s, .slice (some ⟨b, off, none⟩) n cap] 35) = wa
  have Ba : Below w.heap.size w wa := by rw [← hwa]; exact (by repeat first | (with_reducible exact Below.refl _ _) | (with_reducible refine Below.setCell ?_ (by first | exact Nat.le_refl _ | (simp; done) | (simp; omega) | omega) _) | (with_reducible refine Below.alloc ?_ (by first | exact Nat.le_refl _ | (simp; done) | (simp; omega) | omega) _) | (with_reducible refine below_drewN ?_ _) | (with_reducible refine Below.drew ?_))
  have sa : wa.heap.size = w.heap.size + 1 := by rw [← hwa]; simp
  have Xa : Box wa w.heap.size s s (some ⟨b, off, none⟩) n cap := by rw [← hwa]; exact Box.new _ _ _ _ _ _ _
  have Fa := h.below Ba (Nat.le_refl _)
  rw [← sa]
  clear hwa h
  have la : w.heap.size < wa.heap.size := by omega
  go_at_call 47
  refine (implSquare_any s s _ n cap Z _ (by omega) (Fa.below (by repeat first | (with_reducible exact Below.refl _ _) | (with_reducible refine Below.setCell ?_ (by first | exact Nat.le_refl _ | (simp; done) | (simp; omega) | omega) _) | (with_reducible refine Below.alloc ?_ (by first | exact Nat.le_refl _ | (simp; done) | (simp; omega) | omega) _) | (with_reducible refine below_drewN ?_ _) | (with_reducible refine Below.drew ?_)) (Nat.le_refl _))).mono ?_
  rintro e w2 ⟨rfl, b1⟩
  rw [HSQ.out]
  have s2 : wa.heap.size + 1 ≤ w2.heap.size := by have := b1.size; simpa using this
  have B02 : Below wa.heap.size wa w2 := Below.trans (by repeat first | (with_reducible exact Below.refl _ _) | (with_reducible refine Below.setCell ?_ (by first | exact Nat.le_refl _ | (simp; done) | (simp; omega) | omega) _) | (with_reducible refine Below.alloc ?_ (by first | exact Nat.le_refl _ | (simp; done) | (simp; omega) | omega) _) | (with_reducible refine below_drewN ?_ _) | (with_reducible refine Below.drew ?_)) (b1.mono (by simp))
  obtain ⟨x0, x1, x2⟩ := Xa.below B02 la
  go_wp2_with fail
  go_at_call 48
  refine (flipped_any s s n b off cap Z _ hr1 hr hr1 hr hN.out (Fa.below B02 (Nat.le_refl _))).mono ?_
  rintro e w3 ⟨g, rfl, o3, b3⟩
  have b13 := b1.trans (b3.mono b1.size)
  have wk := Work.start (w := wa) (R := (s : Int)) (C := (s : Int)) 35 35 (Own.mono (B' := wa.heap.size + 1) o3 (by omega) (Nat.le_refl _) (Nat.le_refl _)) b13
  clear o3 b1 b3 b13 x0 x1 x2 B02
  obtain ⟨x0, x1, x2⟩ := Xa.below wk.bel la
  go_wp2
  go_loopw [16] (fun i wr => ∃ (j : Nat) (X : Nat → Nat), j ≤ n ∧ i = .int .i64 j ∧ (∀ t, t < j → FV .f32 (X t) (VV t)) ∧ (∀ t, j ≤ t → X t = flipZ s s Z t) ∧ Work wa (wa.heap.size + 1) w3.heap.size g w3.heap.size wa.heap.size s s n X wr) (fun i _ => n - (intOf i).toNat)
  case atStart => exact ⟨0, _, Nat.zero_le _, rfl, fun t ht => absurd ht (Nat.not_lt_zero _), fun t _ => rfl, wk⟩
  case round =>
    obtain ⟨j, X, hj, rfl, hV, hX, hk⟩ := hrel
    clear wk x0 x1 x2
    obtain ⟨g1, g2, g3, g4⟩ := hk.facts hpos
    by_cases hlt : j < n
    · obtain ⟨y0, y1, y2⟩ := hk.box
      obtain ⟨b', off', e, hbl, hce, hfv⟩ := (Fa.below hk.bel (Nat.le_refl _)).at hlt
      simp only [Option.some.injEq, Addr.mk.injEq, and_true] at e
      obtain ⟨rfl, rfl⟩ := e
      have fz : FV .f32 (Z j) (cn .f32 (Z j)) := FV.mk' hfv.2
      obtain ⟨hce2, hfr, _, _, _, hw2⟩ := hk.own.cell hlt
      have fx : FV .f32 (X j) (cn .f32 (flipZ s s Z j)) := by rw [← hX j (Nat.le_refl _)]; exact FV.mk' hw2
      have HVX := Lib.hid hV
      have HX := Lib.hid hX
      have hk' := Lib.hid hk
      have HV : Hid (fop .quo .f32 (fop .add .f32 (cn .f32 (Z j)) (cn .f32 (flipZ s s Z j))) (some 1073741824) = VV j) := Lib.hid (by rw [half_quo, HVV.out]; rfl)
      clear hk hfv hbl hV hX hw2
      generalize cn .f32 (Z j) = zz at fz HV
      generalize cn .f32 (flipZ s s Z j) = yy at fx HV
      generalize Z j = z at hce fz
      have HXj : ∃ xj, xj = X j := ⟨_, rfl⟩
      obtain ⟨xj, hxj⟩ := HXj
      rw [← hxj] at hce2 fx
      clear hxj
      go_wp2
      (refine wp_region_loose_tail 12 (by kernel_rfl) (by kernel_rfl) ?_; simp only [List.take_succ_cons, List.take_zero, List.drop_succ_cons, List.drop_zero]; (repeat (refine wpLoose_want rfl (fun K hK => ?_); first | (refine loose_farith _ _ _ _ _ rfl rfl _ _ _ rfl rfl (by first | assumption | (with_reducible exact FV.ofInt _ _) | (with_reducible exact FV.neg (by assumption)) | exact FV.lit (by kernel_rfl) (by kernel_rfl)) (by first | assumption | (with_reducible exact FV.ofInt _ _) | (with_reducible exact FV.neg (by assumption)) | exact FV.lit (by kernel_rfl) (by kernel_rfl)) ?_; intro r hr; refine hK _ ?_; clear hK K; simp only [Act.put, List.setIfInBounds_toArray, List.set_cons_succ, List.set_cons_zero]) | (refine loose_of_quiet rfl ?_; go_big_quiet_op; refine hK _ ?_; clear hK K))); refine wpLoose_nil ?_)
      rintro _ ⟨kk, rfl⟩
      have hr2 := FV.of_eq hr HV.out
      have hst := (hk'.out.drewN (m := kk)).stored (t := j) (v := r) hlt hr2.2
      have hst' := Lib.hid hst
      have hvn : Hid (∀ t, t < j + 1 → FV .f32 (if t = j then r else X t) (VV t)) := by
        refine Lib.hid fun t ht => ?_
        by_cases e : t = j
        · subst e; rw [if_pos rfl]; exact hr2
        · rw [if_neg e]; exact HVX.out t (by omega)
      have hxn : Hid (∀ t, j + 1 ≤ t → (if t = j then r else X t) = flipZ s s Z t) := by
        refine Lib.hid fun t ht => ?_
        rw [if_neg (by omega)]; exact HX.out t (by omega)
      clear hst hk' hce y0 y1 y2
      go_wp2_with fail
      go_roundw
      case rel => exact ⟨j + 1, _, by omega, by go_num, hvn.out, hxn.out, hst'.out⟩
      case measure => simp [intOf]; omega
    · obtain rfl : j = n := by omega
      obtain ⟨y0, y1, y2⟩ := hk.box
      have hvB : validB s s j (vals X) = allFin VV j := (validB_nat hr1 hr hr1 hr hN.out).trans (allFin_congr fun t ht => (hV t ht).1)
      have hfs := hk.own.fs
      have HVX := Lib.hid hV
      clear hX hV
      cases hf : allFin VV j with
      | true =>
        rw [hf] at hvB
        go_wp2_with fail
        go_at_call 49
        refine (implGive_yes _ _ _ _ _ X _ (by omega) hfs hvB).mono ?_
        rintro e w4 ⟨rfl, b4⟩
        have hk2 := hk.below b4 g3 g4
        clear hk hfs y0 y1 y2
        obtain ⟨z0, z1, z2⟩ := hk2.res
        have o2 := hk2.own
        have B2 := Ba.trans (hk2.bel.mono (by omega))
        have hlo := hk2.lo
        have hmid := hk2.mid
        have hice : ∀ i, w4.frozen? ⟨w.heap.size + 1, i, none⟩ = false := fun i => by have hh := hk2.ice i; rwa [sa] at hh
        rw [sa] at z0 z1 z2
        obtain ⟨_, _, g3', _⟩ := hk2.facts hpos
        clear hk2
        go_wp2_with fail
        refine bodyPost_ret (v := .tuple #[.agg #[.int .i64 s, .int .i64 s, .slice (some ⟨g, 0, none⟩) j j], .bool true]) (by simp [results, Try.results27, go_sem, z0, z1, z2]) rfl ?_
        exact OwnIf.yes hf ⟨_, _, _, rfl, (by refine Own.to o2 (hk := fun g hg1 hg2 => by (try simp at hg1 hg2); repeat (first | rw [Below.heap_setCell _ _ _ _ (by simp; omega)] | rw [Below.heap_alloc _ _ _ (by simp [World.setCell]; omega)])) ?_ ?_ ?_ ?_ <;> (first | exact Nat.le_refl _ | omega | (simp [World.setCell]; done) | (simp [World.setCell]; omega))), fun i hi => (HVX.out i hi).1, (by repeat first | (with_reducible exact B2) | (with_reducible refine Below.setCell ?_ (by first | exact Nat.le_refl _ | (simp; done) | (simp; omega) | omega) _) | (with_reducible refine Below.alloc ?_ (by first | exact Nat.le_refl _ | (simp; done) | (simp; omega) | omega) _) | (with_reducible refine below_drewN ?_ _) | (with_reducible refine Below.drew ?_))⟩
      | false =>
        rw [hf] at hvB
        go_wp2_with fail
        go_at_call 49
        refine (implGive_no _ _ _ _ _ X _ (by omega) hfs hvB).mono ?_
        rintro e w4 ⟨rfl, b4⟩
        have hk2 := hk.below b4 g3 g4
        clear hk hfs y0 y1 y2
        obtain ⟨z0, z1, z2⟩ := hk2.res
        have B2 := Ba.trans (hk2.bel.mono (by omega))
        have hice : ∀ i, w4.frozen? ⟨w.heap.size + 1, i, none⟩ = false := fun i => by have hh := hk2.ice i; rwa [sa] at hh
        rw [sa] at z0 z1 z2
        clear hk2
        go_wp2_with fail
        refine bodyPost_ret (v := .tuple #[.agg #[.int .i64 0, .int .i64 0, .slice none 0 0], .bool false]) (by simp [results, Try.results27, go_sem, z0, z1, z2]) rfl ?_
        exact OwnIf.no hf ⟨none, 0, fun _ => 0, rfl, .inl ⟨rfl, rfl, rfl⟩, fun i hi => absurd hi (Nat.not_lt_zero _), (by repeat first | (with_reducible exact B2) | (with_reducible refine Below.setCell ?_ (by first | exact Nat.le_refl _ | (simp; done) | (simp; omega) | omega) _) | (with_reducible refine Below.alloc ?_ (by first | exact Nat.le_refl _ | (simp; done) | (simp; omega) | omega) _) | (with_reducible refine below_drewN ?_ _) | (with_reducible refine Below.drew ?_))⟩
theorem implSymPart_no (R C : Int) (a : Option Addr) (n c : Nat) (Z : Nat → Nat) (w : World) (hn : n ≤ 1048576) (h : FS .f32 w a n c Z) (hsq : squareB R C n (vals Z) = false) :
    Calls Try.prog 27 #[.agg #[.int .i64 R, .int .i64 C, .slice a n c]] w (MatOwn false 0 0 0 (fun _ => none) w) := by
  have HSQ := Lib.hid hsq
  clear hsq
  go_enter Try.func27, Try.ntmps27
  go_wp2_with fail
  go_at_call 47
  refine (implSquare_any R C a n c Z _ hn (h.below (by repeat first | (with_reducible exact Below.refl _ _) | (with_reducible refine Below.setCell ?_ (by first | exact Nat.le_refl _ | (simp; done) | (simp; omega) | omega) _) | (with_reducible refine Below.alloc ?_ (by first | exact Nat.le_refl _ | (simp; done) | (simp; omega) | omega) _) | (with_reducible refine below_drewN ?_ _) | (with_reducible refine Below.drew ?_)) (Nat.le_refl _))).mono ?_
  rintro e w1 ⟨rfl, b1⟩
  rw [HSQ.out]
  have B1 : Below w.heap.size w w1 := Below.trans (by repeat first | (with_reducible exact Below.refl _ _) | (with_reducible refine Below.setCell ?_ (by first | exact Nat.le_refl _ | (simp; done) | (simp; omega) | omega) _) | (with_reducible refine Below.alloc ?_ (by first | exact Nat.le_refl _ | (simp; done) | (simp; omega) | omega) _) | (with_reducible refine below_drewN ?_ _) | (with_reducible refine Below.drew ?_)) (b1.mono (by simp; omega))
  have s1 : w.heap.size + 1 + 1 ≤ w1.heap.size := by have := b1.size; simp at this; omega
  obtain ⟨hc, hf⟩ := bcell b1
  go_wp2_with fail
  refine bodyPost_ret (v := .tuple #[.agg #[.int .i64 0, .int .i64 0, .slice none 0 0], .bool false]) (by simp [results, Try.results27, go_sem, hc]) rfl ?_
  exact ⟨none, 0, fun _ => 0, rfl, .inl ⟨rfl, rfl, rfl⟩, fun i hi => absurd hi (Nat.not_lt_zero _), (by repeat first | (with_reducible exact B1) | (with_reducible refine Below.setCell ?_ (by first | exact Nat.le_refl _ | (simp; done) | (simp; omega) | omega) _) | (with_reducible refine Below.alloc ?_ (by first | exact Nat.le_refl _ | (simp; done) | (simp; omega) | omega) _) | (with_reducible refine below_drewN ?_ _) | (with_reducible refine Below.drew ?_))⟩
end Go.Proofs.Ytffmjfgechdjjaa
