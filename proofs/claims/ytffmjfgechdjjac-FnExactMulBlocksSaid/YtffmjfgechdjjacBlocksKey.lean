/- Helper: products whose sums are those of blocks, told by program and reference alike. Conditions: none. -/
import Derived.Test.YtffmjfgechdjjacBlocksSpec
import Derived.Test.YtffmjfgechdjjacMulKey
set_option linter.unusedVariables false
set_option linter.unusedSimpArgs false
namespace Go.Proofs.Ytffmjfgechdjjac
open Go.RowKit

set_option maxRecDepth 20000 in
set_option maxHeartbeats 1000000 in
theorem specBlocks_no1 (x2 : Int) (R C : Int) (a : Option Addr) (n c : Nat) (Z : Nat → Nat) (R2 C2 : Int) (b : Option Addr) (n2 d : Nat) (Y : Nat → Nat) (w : World) (hn : n ≤ 1048576) (hm : n2 ≤ 1048576) (h : FS .f32 w a n c Z) (h2 : FS .f32 w b n2 d Y)
    (hno : mulB R C n (vals Z) R2 C2 n2 (vals Y) = false) :
    Calls Try.prog 16 #[.agg #[.int .i64 R, .int .i64 C, .slice a n c], .agg #[.int .i64 R2, .int .i64 C2, .slice b n2 d], .int .i64 x2] w (MatBel false 0 0 0 (fun _ => none) w) := by
  have hcm := fun pa pb W q1 q2 q3 q4 => l02Fit_any pa pb R C a n c Z R2 C2 b n2 d Y W hn hm q1 q2 q3 q4
  rw [hno] at hcm
  clear hno
  go_enter Try.func16, Try.ntmps16
  go_wp2_with fail
  go_at_call 41
  refine (hcm w.heap.size (w.heap.size + 1) _ (by refine ⟨?_, ?_, ?_⟩ <;> simp [go_sem]) (by refine ⟨?_, ?_, ?_⟩ <;> simp [go_sem]) (h.below (by repeat first | (with_reducible exact Below.refl _ _) | (with_reducible refine Below.setCell ?_ (by first | exact Nat.le_refl _ | (simp; done) | (simp; omega) | omega) _) | (with_reducible refine Below.alloc ?_ (by first | exact Nat.le_refl _ | (simp; done) | (simp; omega) | omega) _) | (with_reducible refine below_drewN ?_ _) | (with_reducible refine Below.drew ?_)) (Nat.le_refl _)) (h2.below (by repeat first | (with_reducible exact Below.refl _ _) | (with_reducible refine Below.setCell ?_ (by first | exact Nat.le_refl _ | (simp; done) | (simp; omega) | omega) _) | (with_reducible refine Below.alloc ?_ (by first | exact Nat.le_refl _ | (simp; done) | (simp; omega) | omega) _) | (with_reducible refine below_drewN ?_ _) | (with_reducible refine Below.drew ?_)) (Nat.le_refl _))).mono ?_
  rintro e w1 ⟨rfl, m1, rfl⟩
  go_wp2_with fail
  refine bodyPost_ret (v := .tuple #[.agg #[.int .i64 0, .int .i64 0, .slice none 0 0], .bool false]) (by simp [results, Try.results16, go_sem]) rfl ?_
  exact ⟨none, 0, fun _ => 0, rfl, ⟨Nat.le_refl _, Nat.zero_le _, fun i hi => by omega⟩, fun i hi => by omega, (by repeat first | (with_reducible exact Below.refl _ _) | (with_reducible refine Below.setCell ?_ (by first | exact Nat.le_refl _ | (simp; done) | (simp; omega) | omega) _) | (with_reducible refine Below.alloc ?_ (by first | exact Nat.le_refl _ | (simp; done) | (simp; omega) | omega) _) | (with_reducible refine below_drewN ?_ _) | (with_reducible refine Below.drew ?_))⟩
set_option maxRecDepth 20000 in
set_option maxHeartbeats 1000000 in
theorem specBlocks_no2 (x2 : Int) (R C : Int) (a : Option Addr) (n c : Nat) (Z : Nat → Nat) (R2 C2 : Int) (b : Option Addr) (n2 d : Nat) (Y : Nat → Nat) (w : World) (hn : n ≤ 1048576) (hm : n2 ≤ 1048576) (h : FS .f32 w a n c Z) (h2 : FS .f32 w b n2 d Y)
    (hyes : mulB R C n (vals Z) R2 C2 n2 (vals Y) = true) (hno : sideB x2 = false) :
    Calls Try.prog 16 #[.agg #[.int .i64 R, .int .i64 C, .slice a n c], .agg #[.int .i64 R2, .int .i64 C2, .slice b n2 d], .int .i64 x2] w (MatBel false 0 0 0 (fun _ => none) w) := by
  have hcm := fun pa pb W q1 q2 q3 q4 => l02Fit_any pa pb R C a n c Z R2 C2 b n2 d Y W hn hm q1 q2 q3 q4
  rw [hyes] at hcm
  have hsd := fun W => l00In_any x2 1 12 W
  rw [inB_side, hno] at hsd
  clear hno hyes
  go_enter Try.func16, Try.ntmps16
  go_wp2_with fail
  go_at_call 41
  refine (hcm w.heap.size (w.heap.size + 1) _ (by refine ⟨?_, ?_, ?_⟩ <;> simp [go_sem]) (by refine ⟨?_, ?_, ?_⟩ <;> simp [go_sem]) (h.below (by repeat first | (with_reducible exact Below.refl _ _) | (with_reducible refine Below.setCell ?_ (by first | exact Nat.le_refl _ | (simp; done) | (simp; omega) | omega) _) | (with_reducible refine Below.alloc ?_ (by first | exact Nat.le_refl _ | (simp; done) | (simp; omega) | omega) _) | (with_reducible refine below_drewN ?_ _) | (with_reducible refine Below.drew ?_)) (Nat.le_refl _)) (h2.below (by repeat first | (with_reducible exact Below.refl _ _) | (with_reducible refine Below.setCell ?_ (by first | exact Nat.le_refl _ | (simp; done) | (simp; omega) | omega) _) | (with_reducible refine Below.alloc ?_ (by first | exact Nat.le_refl _ | (simp; done) | (simp; omega) | omega) _) | (with_reducible refine below_drewN ?_ _) | (with_reducible refine Below.drew ?_)) (Nat.le_refl _))).mono ?_
  rintro e w1 ⟨rfl, m1, rfl⟩
  go_wp2_with (go_at_call 42; refine (hsd _).mono ?_; rintro e w' ⟨rfl, rfl⟩)
  refine bodyPost_ret (v := .tuple #[.agg #[.int .i64 0, .int .i64 0, .slice none 0 0], .bool false]) (by simp [results, Try.results16, go_sem]) rfl ?_
  exact ⟨none, 0, fun _ => 0, rfl, ⟨Nat.le_refl _, Nat.zero_le _, fun i hi => by omega⟩, fun i hi => by omega, (by repeat first | (with_reducible exact Below.refl _ _) | (with_reducible refine Below.setCell ?_ (by first | exact Nat.le_refl _ | (simp; done) | (simp; omega) | omega) _) | (with_reducible refine Below.alloc ?_ (by first | exact Nat.le_refl _ | (simp; done) | (simp; omega) | omega) _) | (with_reducible refine below_drewN ?_ _) | (with_reducible refine Below.drew ?_))⟩
set_option maxRecDepth 20000 in
set_option maxHeartbeats 2000000 in
theorem specBlocks_yes (s r c k N1 N2 N p1 o1 d1 p2 o2 d2 : Nat) (Z Y : Nat → Nat) (w : World) (hs1 : 1 ≤ s) (hs : s ≤ 12) (hr1 : 1 ≤ r) (hr : r ≤ 12) (hc1 : 1 ≤ c) (hc : c ≤ 12) (hk1 : 1 ≤ k) (hk : k ≤ 12) (hN1 : N1 = r * c) (hN2 : N2 = c * k) (hN : N = r * k)
    (hyes : mulB r c N1 (vals Z) c k N2 (vals Y) = true) (hfa : allFin (vals Z) N1 = true) (hfb : allFin (vals Y) N2 = true) (h : FS .f32 w (some ⟨p1, o1, none⟩) N1 d1 Z) (h2 : FS .f32 w (some ⟨p2, o2, none⟩) N2 d2 Y) :
    Calls Try.prog 16 #[.agg #[.int .i64 r, .int .i64 c, .slice (some ⟨p1, o1, none⟩) N1 d1], .agg #[.int .i64 c, .int .i64 k, .slice (some ⟨p2, o2, none⟩) N2 d2], .int .i64 s] w (BelIf (allFin (blkV c k s Z Y) N) r k N (blkV c k s Z Y) w) := by
  have h144 : N ≤ 144 := by have := sides_le hr hk; omega
  have h1144 : N1 ≤ 144 := by have := sides_le hr hc; omega
  have h2144 : N2 ≤ 144 := by have := sides_le hc hk; omega
  have hcm := fun pa pb W q1 q2 q3 q4 => l02Fit_any pa pb r c (some ⟨p1, o1, none⟩) N1 d1 Z c k (some ⟨p2, o2, none⟩) N2 d2 Y W (by omega) (by omega) q1 q2 q3 q4
  rw [hyes] at hcm
  have hmu := fun pa pb W q1 q2 q3 q4 q5 q6 => l02Blocks_any s pa pb r c k N1 N2 N p1 o1 d1 p2 o2 d2 Z Y W hs1 hs hr1 hr hc1 hc hk1 hk hN1 hN2 hN q1 q2 q3 q4 hfa hfb q5 q6
  have HN := Lib.hid hN
  generalize blkV c k s Z Y = VV at hmu ⊢
  clear hyes hN1 hN2 hN hfa hfb
  go_enter Try.func16, Try.ntmps16
  go_wp2_with fail
  go_at_call 41
  refine (hcm w.heap.size (w.heap.size + 1) _ (by refine ⟨?_, ?_, ?_⟩ <;> simp [go_sem]) (by refine ⟨?_, ?_, ?_⟩ <;> simp [go_sem]) (h.below (by repeat first | (with_reducible exact Below.refl _ _) | (with_reducible refine Below.setCell ?_ (by first | exact Nat.le_refl _ | (simp; done) | (simp; omega) | omega) _) | (with_reducible refine Below.alloc ?_ (by first | exact Nat.le_refl _ | (simp; done) | (simp; omega) | omega) _) | (with_reducible refine below_drewN ?_ _) | (with_reducible refine Below.drew ?_)) (Nat.le_refl _)) (h2.below (by repeat first | (with_reducible exact Below.refl _ _) | (with_reducible refine Below.setCell ?_ (by first | exact Nat.le_refl _ | (simp; done) | (simp; omega) | omega) _) | (with_reducible refine Below.alloc ?_ (by first | exact Nat.le_refl _ | (simp; done) | (simp; omega) | omega) _) | (with_reducible refine below_drewN ?_ _) | (with_reducible refine Below.drew ?_)) (Nat.le_refl _))).mono ?_
  rintro e w1 ⟨rfl, m1, rfl⟩
  clear hcm
  have hsd := fun W => l00In_any (s : Int) 1 12 W
  rw [inB_side, sideB_yes (by omega) (by omega)] at hsd
  go_wp2_with (go_at_call 42; refine (hsd _).mono ?_; rintro e w' ⟨rfl, rfl⟩)
  go_at_call 43
  refine (hmu w.heap.size (w.heap.size + 1) _ (by simp [World.drewN]; omega) (by simp [World.drewN]) (by refine ⟨?_, ?_, ?_⟩ <;> simp [go_sem]) (by refine ⟨?_, ?_, ?_⟩ <;> simp [go_sem]) (h.below (by repeat first | (with_reducible exact Below.refl _ _) | (with_reducible refine Below.setCell ?_ (by first | exact Nat.le_refl _ | (simp; done) | (simp; omega) | omega) _) | (with_reducible refine Below.alloc ?_ (by first | exact Nat.le_refl _ | (simp; done) | (simp; omega) | omega) _) | (with_reducible refine below_drewN ?_ _) | (with_reducible refine Below.drew ?_)) (Nat.le_refl _)) (h2.below (by repeat first | (with_reducible exact Below.refl _ _) | (with_reducible refine Below.setCell ?_ (by first | exact Nat.le_refl _ | (simp; done) | (simp; omega) | omega) _) | (with_reducible refine Below.alloc ?_ (by first | exact Nat.le_refl _ | (simp; done) | (simp; omega) | omega) _) | (with_reducible refine below_drewN ?_ _) | (with_reducible refine Below.drew ?_)) (Nat.le_refl _))).mono ?_
  rintro e w3 ⟨g, cp, X, rfl, fX, hlow, hX, b3⟩
  have B3 : Below w.heap.size w w3 := Below.trans (by repeat first | (with_reducible exact Below.refl _ _) | (with_reducible refine Below.setCell ?_ (by first | exact Nat.le_refl _ | (simp; done) | (simp; omega) | omega) _) | (with_reducible refine Below.alloc ?_ (by first | exact Nat.le_refl _ | (simp; done) | (simp; omega) | omega) _) | (with_reducible refine below_drewN ?_ _) | (with_reducible refine Below.drew ?_)) (b3.mono (by simp [World.drewN]; omega))
  have s3 : w.heap.size + 1 + 1 + 1 ≤ w3.heap.size := by have := b3.size; simp [World.drewN] at this; omega
  have X3 : Box w3 (w.heap.size + 1 + 1) 0 0 none 0 0 ∧ ∀ i, w3.frozen? ⟨w.heap.size + 1 + 1, i, none⟩ = false := by
    obtain ⟨q, f⟩ := bcell b3
    refine ⟨⟨?_, ?_, ?_⟩, fun i => ?_⟩
    all_goals first | rw [q _ _ (by simp [World.drewN] <;> omega)] | rw [f _ _ (by simp [World.drewN] <;> omega)]
    all_goals simp [go_sem]
  obtain ⟨XR, IR⟩ := X3
  have hval : validB r k N (vals X) = allFin VV N := (validB_nat hr1 hr hk1 hk HN.out).trans (allFin_congr hX)
  have hfarg : ∀ q off, g = some ⟨q, off, none⟩ → q ≠ w.heap.size + 1 + 1 := by
    intro q off e
    have := hlow q off e
    simp [World.drewN] at this
    omega
  have HX := Lib.hid hX
  clear b3 hmu hX h h2
  cases hf : allFin VV N with
  | true =>
    rw [hf] at hval
    go_wp2_with fail
    go_at_call 34
    refine (specGive_yes r k g N cp X _ (by omega) fX hval).mono ?_
    rintro e w7 ⟨rfl, b7⟩
    obtain ⟨y0, y1, y2⟩ := XR.below b7 (by omega)
    have I7 : ∀ i, w7.frozen? ⟨w.heap.size + 1 + 1, i, none⟩ = false := fun i => (b7.frozen (p := ⟨w.heap.size + 1 + 1, i, none⟩) (by show w.heap.size + 1 + 1 < w3.heap.size; omega)).trans (IR i)
    have B7 := B3.trans (b7.mono B3.size)
    have fX7 := fX.below b7 (Nat.le_refl _)
    clear b7 B3 fX
    go_wp2_with fail
    refine bodyPost_ret (v := .tuple #[.agg #[.int .i64 r, .int .i64 k, .slice g N cp], .bool true]) (by simp [results, Try.results16, go_sem, y0, y1, y2]) rfl ?_
    exact BelIf.yes hf ⟨_, _, X, rfl, FS.to fX7 (by simp [World.setCell]) (fun q hq => by obtain ⟨off, e⟩ := hq; have hf := hfarg q off e; rw [Below.heap_setCell _ _ _ _ hf, Below.heap_setCell _ _ _ _ hf, Below.heap_setCell _ _ _ _ hf]), HX.out, (by repeat first | (with_reducible exact B7) | (with_reducible refine Below.setCell ?_ (by first | exact Nat.le_refl _ | (simp; done) | (simp; omega) | omega) _) | (with_reducible refine Below.alloc ?_ (by first | exact Nat.le_refl _ | (simp; done) | (simp; omega) | omega) _) | (with_reducible refine below_drewN ?_ _) | (with_reducible refine Below.drew ?_))⟩
  | false =>
    rw [hf] at hval
    go_wp2_with fail
    go_at_call 34
    refine (specGive_no r k g N cp X _ (by omega) fX hval).mono ?_
    rintro e w7 ⟨rfl, b7⟩
    obtain ⟨y0, y1, y2⟩ := XR.below b7 (by omega)
    have I7 : ∀ i, w7.frozen? ⟨w.heap.size + 1 + 1, i, none⟩ = false := fun i => (b7.frozen (p := ⟨w.heap.size + 1 + 1, i, none⟩) (by show w.heap.size + 1 + 1 < w3.heap.size; omega)).trans (IR i)
    have B7 := B3.trans (b7.mono B3.size)
    clear b7 B3 fX
    go_wp2_with fail
    refine bodyPost_ret (v := .tuple #[.agg #[.int .i64 0, .int .i64 0, .slice none 0 0], .bool false]) (by simp [results, Try.results16, go_sem, y0, y1, y2]) rfl ?_
    exact BelIf.no hf ⟨none, 0, fun _ => 0, rfl, ⟨Nat.le_refl _, Nat.zero_le _, fun i hi => by omega⟩, fun i hi => by omega, (by repeat first | (with_reducible exact B7) | (with_reducible refine Below.setCell ?_ (by first | exact Nat.le_refl _ | (simp; done) | (simp; omega) | omega) _) | (with_reducible refine Below.alloc ?_ (by first | exact Nat.le_refl _ | (simp; done) | (simp; omega) | omega) _) | (with_reducible refine below_drewN ?_ _) | (with_reducible refine Below.drew ?_))⟩
set_option maxRecDepth 20000 in
set_option maxHeartbeats 2000000 in
theorem implBlocks_no1 (x2 : Int) (R C : Int) (a : Option Addr) (n c : Nat) (Z : Nat → Nat) (R2 C2 : Int) (b : Option Addr) (n2 d : Nat) (Y : Nat → Nat) (w : World) (hn : n ≤ 1048576) (hm : n2 ≤ 1048576) (h : FS .f32 w a n c Z) (h2 : FS .f32 w b n2 d Y)
    (hno : mulB R C n (vals Z) R2 C2 n2 (vals Y) = false) :
    Calls Try.prog 17 #[.agg #[.int .i64 R, .int .i64 C, .slice a n c], .agg #[.int .i64 R2, .int .i64 C2, .slice b n2 d], .int .i64 x2] w (MatOwn false 0 0 0 (fun _ => none) w) := by
  have hcm := fun W k1 k2 => canMul_any R C a n c Z R2 C2 b n2 d Y W hn hm k1 k2
  rw [hno] at hcm
  clear hno
  go_enter Try.func17, Try.ntmps17
  go_wp2_with fail
  go_at_call 44
  refine (hcm _ (h.below (by repeat first | (with_reducible exact Below.refl _ _) | (with_reducible refine Below.setCell ?_ (by first | exact Nat.le_refl _ | (simp; done) | (simp; omega) | omega) _) | (with_reducible refine Below.alloc ?_ (by first | exact Nat.le_refl _ | (simp; done) | (simp; omega) | omega) _) | (with_reducible refine below_drewN ?_ _) | (with_reducible refine Below.drew ?_)) (Nat.le_refl _)) (h2.below (by repeat first | (with_reducible exact Below.refl _ _) | (with_reducible refine Below.setCell ?_ (by first | exact Nat.le_refl _ | (simp; done) | (simp; omega) | omega) _) | (with_reducible refine Below.alloc ?_ (by first | exact Nat.le_refl _ | (simp; done) | (simp; omega) | omega) _) | (with_reducible refine below_drewN ?_ _) | (with_reducible refine Below.drew ?_)) (Nat.le_refl _))).mono ?_
  rintro e w1 ⟨rfl, b1⟩
  have B1 : Below w.heap.size w w1 := Below.trans (by repeat first | (with_reducible exact Below.refl _ _) | (with_reducible refine Below.setCell ?_ (by first | exact Nat.le_refl _ | (simp; done) | (simp; omega) | omega) _) | (with_reducible refine Below.alloc ?_ (by first | exact Nat.le_refl _ | (simp; done) | (simp; omega) | omega) _) | (with_reducible refine below_drewN ?_ _) | (with_reducible refine Below.drew ?_)) (b1.mono (by simp; omega))
  obtain ⟨hc, hf⟩ := bcell b1
  have s1 : w.heap.size + 1 + 1 + 1 ≤ w1.heap.size := by have := b1.size; simp at this; omega
  go_wp2_with fail
  refine bodyPost_ret (v := .tuple #[.agg #[.int .i64 0, .int .i64 0, .slice none 0 0], .bool false]) (by simp [results, Try.results17, go_sem, hc]) rfl ?_
  exact ⟨none, 0, fun _ => 0, rfl, .inl ⟨rfl, rfl, rfl⟩, fun i hi => by omega, (by repeat first | (with_reducible exact B1) | (with_reducible refine Below.setCell ?_ (by first | exact Nat.le_refl _ | (simp; done) | (simp; omega) | omega) _) | (with_reducible refine Below.alloc ?_ (by first | exact Nat.le_refl _ | (simp; done) | (simp; omega) | omega) _) | (with_reducible refine below_drewN ?_ _) | (with_reducible refine Below.drew ?_))⟩
set_option maxRecDepth 20000 in
set_option maxHeartbeats 2000000 in
theorem implBlocks_no2 (x2 : Int) (R C : Int) (a : Option Addr) (n c : Nat) (Z : Nat → Nat) (R2 C2 : Int) (b : Option Addr) (n2 d : Nat) (Y : Nat → Nat) (w : World) (hn : n ≤ 1048576) (hm : n2 ≤ 1048576) (h : FS .f32 w a n c Z) (h2 : FS .f32 w b n2 d Y)
    (hyes : mulB R C n (vals Z) R2 C2 n2 (vals Y) = true) (hno : sideB x2 = false) :
    Calls Try.prog 17 #[.agg #[.int .i64 R, .int .i64 C, .slice a n c], .agg #[.int .i64 R2, .int .i64 C2, .slice b n2 d], .int .i64 x2] w (MatOwn false 0 0 0 (fun _ => none) w) := by
  have hcm := fun W k1 k2 => canMul_any R C a n c Z R2 C2 b n2 d Y W hn hm k1 k2
  rw [hyes] at hcm
  clear hyes
  go_enter Try.func17, Try.ntmps17
  go_wp2_with fail
  go_at_call 44
  refine (hcm _ (h.below (by repeat first | (with_reducible exact Below.refl _ _) | (with_reducible refine Below.setCell ?_ (by first | exact Nat.le_refl _ | (simp; done) | (simp; omega) | omega) _) | (with_reducible refine Below.alloc ?_ (by first | exact Nat.le_refl _ | (simp; done) | (simp; omega) | omega) _) | (with_reducible refine below_drewN ?_ _) | (with_reducible refine Below.drew ?_)) (Nat.le_refl _)) (h2.below (by repeat first | (with_reducible exact Below.refl _ _) | (with_reducible refine Below.setCell ?_ (by first | exact Nat.le_refl _ | (simp; done) | (simp; omega) | omega) _) | (with_reducible refine Below.alloc ?_ (by first | exact Nat.le_refl _ | (simp; done) | (simp; omega) | omega) _) | (with_reducible refine below_drewN ?_ _) | (with_reducible refine Below.drew ?_)) (Nat.le_refl _))).mono ?_
  rintro e w1 ⟨rfl, b1⟩
  have B1 : Below w.heap.size w w1 := Below.trans (by repeat first | (with_reducible exact Below.refl _ _) | (with_reducible refine Below.setCell ?_ (by first | exact Nat.le_refl _ | (simp; done) | (simp; omega) | omega) _) | (with_reducible refine Below.alloc ?_ (by first | exact Nat.le_refl _ | (simp; done) | (simp; omega) | omega) _) | (with_reducible refine below_drewN ?_ _) | (with_reducible refine Below.drew ?_)) (b1.mono (by simp; omega))
  obtain ⟨hc, hf⟩ := bcell b1
  have s1 : w.heap.size + 1 + 1 + 1 ≤ w1.heap.size := by have := b1.size; simp at this; omega
  go_wp2_with (go_at_call 37; refine (isSide_any _ _).mono ?_; rintro e w' ⟨rfl, rfl⟩)
  refine bodyPost_ret (v := .tuple #[.agg #[.int .i64 0, .int .i64 0, .slice none 0 0], .bool false]) (by simp [results, Try.results17, go_sem, hc]) rfl ?_
  exact ⟨none, 0, fun _ => 0, rfl, .inl ⟨rfl, rfl, rfl⟩, fun i hi => by omega, (by repeat first | (with_reducible exact B1) | (with_reducible refine Below.setCell ?_ (by first | exact Nat.le_refl _ | (simp; done) | (simp; omega) | omega) _) | (with_reducible refine Below.alloc ?_ (by first | exact Nat.le_refl _ | (simp; done) | (simp; omega) | omega) _) | (with_reducible refine below_drewN ?_ _) | (with_reducible refine Below.drew ?_))⟩
theorem keyMulBlocks (R0 C0 : Int) (n0 : Nat) (Z0 : Nat → Nat) (R1 C1 : Int) (n1 : Nat) (Z1 : Nat → Nat) (x2 : Int) (hn0 : n0 ≤ 1048576) (hn1 : n1 ≤ 1048576) (wx2 : (Lit.int .i64 x2).wf = true) : ∃ (ok : Bool) (R C : Int) (n : Nat) (V : Nat → Option Nat), n ≤ 144 ∧
    (∀ a c b d W, FS .f32 W a n0 c Z0 → FS .f32 W b n1 d Z1 → Calls Try.prog 16 #[.agg #[.int .i64 R0, .int .i64 C0, .slice a n0 c], .agg #[.int .i64 R1, .int .i64 C1, .slice b n1 d], .int .i64 x2] W (MatBel ok R C n V W)) ∧
    (∀ a c b d W, FS .f32 W a n0 c Z0 → FS .f32 W b n1 d Z1 → Calls Try.prog 17 #[.agg #[.int .i64 R0, .int .i64 C0, .slice a n0 c], .agg #[.int .i64 R1, .int .i64 C1, .slice b n1 d], .int .i64 x2] W (MatOwn ok R C n V W)) := by
  cases ho : mulB R0 C0 n0 (vals Z0) R1 C1 n1 (vals Z1) with
  | false => exact ⟨false, 0, 0, 0, fun _ => none, by omega, fun a c b d W h h2 => specBlocks_no1 _ _ _ _ _ _ _ _ _ _ _ _ _ _ hn0 hn1 h h2 ho, fun a c b d W h h2 => implBlocks_no1 _ _ _ _ _ _ _ _ _ _ _ _ _ _ hn0 hn1 h h2 ho⟩
  | true =>
    cases hx : sideB x2 with
    | false => exact ⟨false, 0, 0, 0, fun _ => none, by omega, fun a c b d W h h2 => specBlocks_no2 _ _ _ _ _ _ _ _ _ _ _ _ _ _ hn0 hn1 h h2 ho hx, fun a c b d W h h2 => implBlocks_no2 _ _ _ _ _ _ _ _ _ _ _ _ _ _ hn0 hn1 h h2 ho hx⟩
    | true =>
    obtain ⟨hx1, hx2⟩ := sideB_le hx
    obtain ⟨s, rfl⟩ : ∃ s : Nat, x2 = s := ⟨x2.toNat, by omega⟩
    have hs1 : 1 ≤ s := by omega
    have hs : s ≤ 12 := by omega
    obtain ⟨r, c, k, rfl, rfl, rfl, rfl, hr1, hr, hc1, hc, hk1, hk, e1, e2, f1, f2⟩ := mulB_nat ho
    have k1 : ∀ a c' b d W, FS .f32 W a n0 c' Z0 → FS .f32 W b n1 d Z1 → Calls Try.prog 16 #[.agg #[.int .i64 r, .int .i64 c, .slice a n0 c'], .agg #[.int .i64 c, .int .i64 k, .slice b n1 d], .int .i64 s] W (BelIf (allFin (blkV c k s Z0 Z1) (r * k)) r k (r * k) (blkV c k s Z0 Z1) W) := fun a c' b d W h h2 => by
      obtain ⟨p1, o1, rfl, _⟩ := h.at (show 0 < n0 by rw [e1]; exact Nat.mul_pos hr1 hc1)
      obtain ⟨p2, o2, rfl, _⟩ := h2.at (show 0 < n1 by rw [e2]; exact Nat.mul_pos hc1 hk1)
      exact specBlocks_yes s r c k n0 n1 (r * k) p1 o1 c' p2 o2 d Z0 Z1 W hs1 hs hr1 hr hc1 hc hk1 hk e1 e2 rfl ho f1 f2 h h2
    have k2 : ∀ a c' b d W, FS .f32 W a n0 c' Z0 → FS .f32 W b n1 d Z1 → Calls Try.prog 17 #[.agg #[.int .i64 r, .int .i64 c, .slice a n0 c'], .agg #[.int .i64 c, .int .i64 k, .slice b n1 d], .int .i64 s] W (OwnIf (allFin (blkV c k s Z0 Z1) (r * k)) r k (r * k) (blkV c k s Z0 Z1) W) := fun a c' b d W h h2 => by
      obtain ⟨p1, o1, rfl, _⟩ := h.at (show 0 < n0 by rw [e1]; exact Nat.mul_pos hr1 hc1)
      obtain ⟨p2, o2, rfl, _⟩ := h2.at (show 0 < n1 by rw [e2]; exact Nat.mul_pos hc1 hk1)
      exact implBlocks_yes s r c k n0 n1 (r * k) p1 o1 c' p2 o2 d Z0 Z1 W hs1 hs hr1 hr hc1 hc hk1 hk e1 e2 rfl ho h h2
    have hle := sides_le hr hk
    generalize allFin (blkV c k s Z0 Z1) (r * k) = ok at k1 k2
    cases ok
    · exact ⟨false, 0, 0, 0, fun _ => none, by omega, k1, k2⟩
    · exact ⟨true, r, k, r * k, blkV c k s Z0 Z1, hle, k1, k2⟩
end Go.Proofs.Ytffmjfgechdjjac
