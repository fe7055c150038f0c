/- Helper: the product of two matrices, of the program. Conditions: none. -/
import Derived.Test.YtmjlhmbnaifhaacFlipWalks
import Derived.Test.YtmjlhmbnaifhaacKindSteps
import Derived.Test.YtmjlhmbnaifhaacTri
import Derived.Test.YtmjlhmbnaifhaacGive
set_option linter.unusedVariables false
set_option linter.unusedSimpArgs false
namespace Go.Proofs.Ytmjlhmbnaifhaac
open Go.RowKit

/-- Whether two matrices have a product. -/
def mulB (R C : Int) (n : Nat) (V : Nat → Option Nat) (R2 C2 : Int) (n2 : Nat) (V2 : Nat → Option Nat) : Bool := validB R C n V && (validB R2 C2 n2 V2 && decide (C = R2))
/-- The numbers of the product. -/
def mulV (c k : Nat) (Z Y : Nat → Nat) (t : Nat) : Option Nat := dotG (vals fun i => Z (t / k * c + i)) (vals fun i => Y (i * k + t % k)) c
theorem mulV_at {c k j q : Nat} {Z Y : Nat → Nat} (hq : q < k) : mulV c k Z Y (j * k + q) = dotG (vals fun i => Z (j * c + i)) (vals fun i => flipZ c k Y (q * c + i)) c := by
  obtain ⟨h1, h2⟩ := place_div (j := j) hq
  unfold mulV
  rw [h1, h2]
  refine dotG_congr fun i hi => ⟨rfl, ?_⟩
  obtain ⟨h3, h4⟩ := place_div (j := q) hi
  unfold vals flipZ
  simp only [h3, h4]

theorem canMul_any (R C : Int) (a : Option Addr) (n c : Nat) (Z : Nat → Nat) (R2 C2 : Int) (b : Option Addr) (n2 d : Nat) (Y : Nat → Nat) (w : World) (hn : n ≤ 1048576) (hm : n2 ≤ 1048576) (h : FS .f32 w a n c Z) (h2 : FS .f32 w b n2 d Y) :
    Calls Try.prog 102 #[.agg #[.int .i64 R, .int .i64 C, .slice a n c], .agg #[.int .i64 R2, .int .i64 C2, .slice b n2 d]] w fun e w' => e = .returned (.bool (mulB R C n (vals Z) R2 C2 n2 (vals Y))) ∧ Below w.heap.size w w' := by
  have X0 := Box.new w 26 R C a n c
  unfold mulB
  cases hv : validB R C n (vals Z) with
  | false =>
    go_enter Try.func102, Try.ntmps102
    go_wp2_with fail
    go_at_call 70
    refine (implValid_any R C a n c Z _ hn (h.below (by repeat first | (with_reducible exact Below.refl _ _) | (with_reducible refine Below.setCell ?_ (by first | exact Nat.le_refl _ | (simp; done) | (simp; omega) | omega) _) | (with_reducible refine Below.alloc ?_ (by first | exact Nat.le_refl _ | (simp; done) | (simp; omega) | omega) _) | (with_reducible refine below_drewN ?_ _) | (with_reducible refine Below.drew ?_)) (Nat.le_refl _))).mono ?_
    rintro e w1 ⟨rfl, b1⟩
    have B1 : Below w.heap.size w w1 := Below.trans (by repeat first | (with_reducible exact Below.refl _ _) | (with_reducible refine Below.setCell ?_ (by first | exact Nat.le_refl _ | (simp; done) | (simp; omega) | omega) _) | (with_reducible refine Below.alloc ?_ (by first | exact Nat.le_refl _ | (simp; done) | (simp; omega) | omega) _) | (with_reducible refine below_drewN ?_ _) | (with_reducible refine Below.drew ?_)) (b1.mono (by simp; omega))
    go_wp2_with fail
    go_ret
    exact ⟨rfl, B1⟩
  | true =>
    cases hv2 : validB R2 C2 n2 (vals Y) with
    | false =>
      go_enter Try.func102, Try.ntmps102
      go_wp2_with fail
      go_at_call 70
      refine (implValid_any R C a n c Z _ hn (h.below (by repeat first | (with_reducible exact Below.refl _ _) | (with_reducible refine Below.setCell ?_ (by first | exact Nat.le_refl _ | (simp; done) | (simp; omega) | omega) _) | (with_reducible refine Below.alloc ?_ (by first | exact Nat.le_refl _ | (simp; done) | (simp; omega) | omega) _) | (with_reducible refine below_drewN ?_ _) | (with_reducible refine Below.drew ?_)) (Nat.le_refl _))).mono ?_
      rintro e w1 ⟨rfl, b1⟩
      have B1 : Below w.heap.size w w1 := Below.trans (by repeat first | (with_reducible exact Below.refl _ _) | (with_reducible refine Below.setCell ?_ (by first | exact Nat.le_refl _ | (simp; done) | (simp; omega) | omega) _) | (with_reducible refine Below.alloc ?_ (by first | exact Nat.le_refl _ | (simp; done) | (simp; omega) | omega) _) | (with_reducible refine below_drewN ?_ _) | (with_reducible refine Below.drew ?_)) (b1.mono (by simp; omega))
      have X1 : Box w1 (w.heap.size + 1) R2 C2 b n2 d := by have hX := (Box.new _ _ _ _ _ _ _).below b1 (by simp); simpa using hX
      obtain ⟨y0, y1, y2⟩ := X1
      go_wp2_with fail
      go_at_call 70
      refine (implValid_any R2 C2 b n2 d Y _ hm (h2.below B1 (Nat.le_refl _))).mono ?_
      rintro e w2 ⟨rfl, b2⟩
      have B2 := B1.trans (b2.mono B1.size)
      go_wp2_with fail
      go_ret
      exact ⟨rfl, B2⟩
    | true =>
      by_cases he : C = R2
      · rw [decide_eq_true he]
        have hd : (C == R2) = true := beq_iff_eq.2 he
        have he' := Lib.hid he
        clear he
        go_enter Try.func102, Try.ntmps102
        go_wp2_with fail
        go_at_call 70
        refine (implValid_any R C a n c Z _ hn (h.below (by repeat first | (with_reducible exact Below.refl _ _) | (with_reducible refine Below.setCell ?_ (by first | exact Nat.le_refl _ | (simp; done) | (simp; omega) | omega) _) | (with_reducible refine Below.alloc ?_ (by first | exact Nat.le_refl _ | (simp; done) | (simp; omega) | omega) _) | (with_reducible refine below_drewN ?_ _) | (with_reducible refine Below.drew ?_)) (Nat.le_refl _))).mono ?_
        rintro e w1 ⟨rfl, b1⟩
        have B1 : Below w.heap.size w w1 := Below.trans (by repeat first | (with_reducible exact Below.refl _ _) | (with_reducible refine Below.setCell ?_ (by first | exact Nat.le_refl _ | (simp; done) | (simp; omega) | omega) _) | (with_reducible refine Below.alloc ?_ (by first | exact Nat.le_refl _ | (simp; done) | (simp; omega) | omega) _) | (with_reducible refine below_drewN ?_ _) | (with_reducible refine Below.drew ?_)) (b1.mono (by simp; omega))
        have X1 : Box w1 (w.heap.size + 1) R2 C2 b n2 d := by have hX := (Box.new _ _ _ _ _ _ _).below b1 (by simp); simpa using hX
        have X0 : Box w1 w.heap.size R C a n c := ((Box.new _ _ _ _ _ _ _).below (Below.alloc (Below.refl _ _) (Nat.le_refl _) _) (by simp)).below b1 (by simp; omega)
        have s1 : w.heap.size + 1 < w1.heap.size := by have := b1.size; simp at this; omega
        have X1' := X1
        obtain ⟨y0, y1, y2⟩ := X1'
        go_wp2_with fail
        go_at_call 70
        refine (implValid_any R2 C2 b n2 d Y _ hm (h2.below B1 (Nat.le_refl _))).mono ?_
        rintro e w2 ⟨rfl, b2⟩
        have B2 := B1.trans (b2.mono B1.size)
        obtain ⟨z0, z1, z2⟩ := X0.below b2 (by omega)
        obtain ⟨v0, v1, v2⟩ := X1.below b2 (by omega)
        clear y0 y1 y2
        go_wp2_with fail
        go_ret
        exact ⟨rfl, B2⟩
      · rw [decide_eq_false he]
        have hd : (C == R2) = false := beq_eq_false_iff_ne.2 he
        have he' := Lib.hid he
        clear he
        go_enter Try.func102, Try.ntmps102
        go_wp2_with fail
        go_at_call 70
        refine (implValid_any R C a n c Z _ hn (h.below (by repeat first | (with_reducible exact Below.refl _ _) | (with_reducible refine Below.setCell ?_ (by first | exact Nat.le_refl _ | (simp; done) | (simp; omega) | omega) _) | (with_reducible refine Below.alloc ?_ (by first | exact Nat.le_refl _ | (simp; done) | (simp; omega) | omega) _) | (with_reducible refine below_drewN ?_ _) | (with_reducible refine Below.drew ?_)) (Nat.le_refl _))).mono ?_
        rintro e w1 ⟨rfl, b1⟩
        have B1 : Below w.heap.size w w1 := Below.trans (by repeat first | (with_reducible exact Below.refl _ _) | (with_reducible refine Below.setCell ?_ (by first | exact Nat.le_refl _ | (simp; done) | (simp; omega) | omega) _) | (with_reducible refine Below.alloc ?_ (by first | exact Nat.le_refl _ | (simp; done) | (simp; omega) | omega) _) | (with_reducible refine below_drewN ?_ _) | (with_reducible refine Below.drew ?_)) (b1.mono (by simp; omega))
        have X1 : Box w1 (w.heap.size + 1) R2 C2 b n2 d := by have hX := (Box.new _ _ _ _ _ _ _).below b1 (by simp); simpa using hX
        have X0 : Box w1 w.heap.size R C a n c := ((Box.new _ _ _ _ _ _ _).below (Below.alloc (Below.refl _ _) (Nat.le_refl _) _) (by simp)).below b1 (by simp; omega)
        have s1 : w.heap.size + 1 < w1.heap.size := by have := b1.size; simp at this; omega
        have X1' := X1
        obtain ⟨y0, y1, y2⟩ := X1'
        go_wp2_with fail
        go_at_call 70
        refine (implValid_any R2 C2 b n2 d Y _ hm (h2.below B1 (Nat.le_refl _))).mono ?_
        rintro e w2 ⟨rfl, b2⟩
        have B2 := B1.trans (b2.mono B1.size)
        obtain ⟨z0, z1, z2⟩ := X0.below b2 (by omega)
        obtain ⟨v0, v1, v2⟩ := X1.below b2 (by omega)
        clear y0 y1 y2
        go_wp2_with fail
        go_ret
        exact ⟨rfl, B2⟩
set_option maxRecDepth 20000 in
set_option maxHeartbeats 2000000 in
theorem multiplyRow_any (g p o gf k c d M N j B U : Nat) (A F X : Nat → Nat) (V : Nat → Option Nat) (w : World) (hk : k ≤ 12) (hc1 : 1 ≤ c) (hc : c ≤ 12) (hM : M = k * c) (hj : j * k + k ≤ N) (hN : N ≤ 144)
    (hA : FS .f32 w (some ⟨p, o, none⟩) c d A) (hF : FS .f32 w (some ⟨gf, 0, none⟩) M M F) (ho : Own 38 .f32 B U w (some ⟨g, 0, none⟩) N N X) (hgu : g < U) (hpg : p ≠ g) (hfg : gf ≠ g)
    (hX : ∀ t, t < j * k → FV .f32 (X t) (V t)) (hV : ∀ q, q < k → V (j * k + q) = dotG (vals A) (vals fun i => F (q * c + i)) c) (hUw : U ≤ w.heap.size) :
    Calls Try.prog 104 #[.slice (some ⟨g, j * k, none⟩) k k, .slice (some ⟨p, o, none⟩) c d, .agg #[.int .i64 k, .int .i64 c, .slice (some ⟨gf, 0, none⟩) M M]] w fun e w' =>
      e = .returned (.tuple #[]) ∧ ∃ X', Own 38 .f32 B U w' (some ⟨g, 0, none⟩) N N X' ∧ (∀ t, t < j * k + k → FV .f32 (X' t) (V t)) ∧ w.grownBy w' (some g) := by
  have HM := Lib.hid hM
  have hM144 : M ≤ 144 := by have := sides_le hk hc; omega
  have HX := Lib.hid hX
  have HV := Lib.hid hV
  clear hM hX hV
  go_enter Try.func104, Try.ntmps104
  go_wp2
  have b0 : Below w.heap.size w (w.alloc (.cells #[.int .i64 k, .int .i64 c, .slice (some ⟨gf, 0, none⟩) M M] 26)) := (by repeat first | (with_reducible exact Below.refl _ _) | (with_reducible refine Below.setCell ?_ (by first | exact Nat.le_refl _ | (simp; done) | (simp; omega) | omega) _) | (with_reducible refine Below.alloc ?_ (by first | exact Nat.le_refl _ | (simp; done) | (simp; omega) | omega) _) | (with_reducible refine below_drewN ?_ _) | (with_reducible refine Below.drew ?_))
  have XB := Box.new w 26 k c (some ⟨gf, 0, none⟩) M M
  have hs0 : w.heap.size < (w.alloc (.cells #[.int .i64 k, .int .i64 c, .slice (some ⟨gf, 0, none⟩) M M] 26)).heap.size := by simp
  generalize w.alloc (.cells #[.int .i64 k, .int .i64 c, .slice (some ⟨gf, 0, none⟩) M M] 26) = w1 at b0 XB hs0 ⊢
  have hA1 := hA.below b0 (Nat.le_refl _)
  have hF1 := hF.below b0 (Nat.le_refl _)
  have o1 := ho.kept (below_grew b0) (fun q hq => by cases hq)
  have G0 : w.grownBy w1 (some g) := ⟨b0.os, b0.tape, b0.output, b0.size, fun q hq _ => b0.block q hq⟩
  clear hA hF ho b0
  go_loopw [9] (fun i wr => ∃ (q : Nat) (X' : Nat → Nat), q ≤ k ∧ i = .int .i64 q ∧ (∀ t, t < j * k + q → FV .f32 (X' t) (V t)) ∧ Own 38 .f32 B U wr (some ⟨g, 0, none⟩) N N X' ∧ w1.grownBy wr (some g)) (fun i _ => k - (intOf i).toNat)
  case atStart => exact ⟨0, X, Nat.zero_le _, rfl, HX.out, o1, World.grownBy.refl _ _⟩
  case round =>
    obtain ⟨q, X', hq, rfl, hv, hk2, hg⟩ := hrel
    have HV2 := Lib.hid hv
    clear o1 hv
    have hsr := hg.size
    by_cases hlt : q < k
    · have XB2 := XB.grown hg hs0 (fun q hq => by cases hq; omega)
      obtain ⟨y0, y1, y2⟩ := XB2
      have fA := hA1.grown hg (fun q hq => by cases hq; exact hpg)
      have fF := hF1.grown hg (fun q hq => by cases hq; exact hfg)
      have hK := Lib.hid hk2
      have hG := Lib.hid hg
      clear hk2 hg
      go_wp2_with fail
      go_at_call 101
      refine (rowOf_any gf 0 k c M M q _ hk hc1 hc HM.out (Nat.le_refl _) (by omega) hlt).mono ?_
      rintro e w3 ⟨rfl, b3⟩
      have fA3 := fA.below b3 (Nat.le_refl _)
      have fF3 := (fF.below b3 (Nat.le_refl _)).row HM.out hlt c (Nat.le_refl _) (by unfold maxLen; omega)
      have hK3 := hK.out.kept (below_grew b3) (fun q hq => by cases hq)
      have hG3 : w1.grownBy w3 (some g) := grownBy_trans hG.out ⟨b3.os, b3.tape, b3.output, b3.size, fun q hq _ => b3.block q hq⟩
      clear b3 y0 y1 y2 fA fF hK hG
      simp only [Nat.zero_add] at fF3 ⊢
      go_wp2_with fail
      go_at_call 137
      refine (implDot_any (some ⟨p, o, none⟩) (some ⟨gf, q * c, none⟩) c d c c A (fun i => F (q * c + i)) w3 (by omega) (Nat.le_refl _) (by omega) fA3 fF3).mono ?_
      rintro e w4 ⟨rr, rfl, hrr, m4, rfl⟩
      have hpl : j * k + q < N := by omega
      obtain ⟨hce, hfr, _⟩ := hK3.cell hpl
      generalize X' (j * k + q) = old at hce
      have hst := Lib.hid ((show Own 38 .f32 B U (w3.drewN m4) (some ⟨g, 0, none⟩) N N X' from hK3).stored (t := j * k + q) (v := rr) hpl hrr.2)
      have hG4 := Lib.hid (grownBy_trans (grownBy_drewN hG3 m4) hst.out.2)
      have hvn : Hid (∀ t, t < j * k + (q + 1) → FV .f32 (if t = j * k + q then rr else X' t) (V t)) := by
        refine Lib.hid fun t ht => ?_
        by_cases e : t = j * k + q
        · subst e; rw [if_pos rfl, HV.out q hlt]; exact hrr
        · rw [if_neg e]; exact HV2.out t (by omega)
      clear fA3 fF3 hK3 hG3 hrr
      go_wp2_with fail
      go_roundw
      case rel => exact ⟨q + 1, _, by omega, by go_num, hvn.out, hst.out.1, hG4.out⟩
      case measure => simp [intOf]; omega
    · obtain rfl : q = k := by omega
      have hK := Lib.hid hk2
      have hG := Lib.hid (grownBy_trans G0 hg)
      clear hk2 hg
      go_wp2
      go_end0
      exact ⟨rfl, X', hK.out, HV2.out, hG.out⟩
theorem implMul_no (R C : Int) (a : Option Addr) (n c : Nat) (Z : Nat → Nat) (R2 C2 : Int) (b : Option Addr) (n2 d : Nat) (Y : Nat → Nat) (w : World) (hn : n ≤ 1048576) (hm : n2 ≤ 1048576) (h : FS .f32 w a n c Z) (h2 : FS .f32 w b n2 d Y)
    (hno : mulB R C n (vals Z) R2 C2 n2 (vals Y) = false) :
    Calls Try.prog 57 #[.agg #[.int .i64 R, .int .i64 C, .slice a n c], .agg #[.int .i64 R2, .int .i64 C2, .slice b n2 d]] w (MatOwn false 0 0 0 (fun _ => none) w) := by
  have hcm := fun W k1 k2 => canMul_any R C a n c Z R2 C2 b n2 d Y W hn hm k1 k2
  rw [hno] at hcm
  clear hno
  go_enter Try.func57, Try.ntmps57
  go_wp2_with fail
  go_at_call 102
  refine (hcm _ (h.below (by repeat first | (with_reducible exact Below.refl _ _) | (with_reducible refine Below.setCell ?_ (by first | exact Nat.le_refl _ | (simp; done) | (simp; omega) | omega) _) | (with_reducible refine Below.alloc ?_ (by first | exact Nat.le_refl _ | (simp; done) | (simp; omega) | omega) _) | (with_reducible refine below_drewN ?_ _) | (with_reducible refine Below.drew ?_)) (Nat.le_refl _)) (h2.below (by repeat first | (with_reducible exact Below.refl _ _) | (with_reducible refine Below.setCell ?_ (by first | exact Nat.le_refl _ | (simp; done) | (simp; omega) | omega) _) | (with_reducible refine Below.alloc ?_ (by first | exact Nat.le_refl _ | (simp; done) | (simp; omega) | omega) _) | (with_reducible refine below_drewN ?_ _) | (with_reducible refine Below.drew ?_)) (Nat.le_refl _))).mono ?_
  rintro e w1 ⟨rfl, b1⟩
  have B1 : Below w.heap.size w w1 := Below.trans (by repeat first | (with_reducible exact Below.refl _ _) | (with_reducible refine Below.setCell ?_ (by first | exact Nat.le_refl _ | (simp; done) | (simp; omega) | omega) _) | (with_reducible refine Below.alloc ?_ (by first | exact Nat.le_refl _ | (simp; done) | (simp; omega) | omega) _) | (with_reducible refine below_drewN ?_ _) | (with_reducible refine Below.drew ?_)) (b1.mono (by simp; omega))
  obtain ⟨hc, hf⟩ := bcell b1
  have s1 : w.heap.size + 1 + 1 + 1 ≤ w1.heap.size := by have := b1.size; simp at this; omega
  go_wp2_with fail
  refine bodyPost_ret (v := .tuple #[.agg #[.int .i64 0, .int .i64 0, .slice none 0 0], .bool false]) (by simp [results, Try.results57, go_sem, hc]) rfl ?_
  exact ⟨none, 0, fun _ => 0, rfl, .inl ⟨rfl, rfl, rfl⟩, fun i hi => by omega, (by repeat first | (with_reducible exact B1) | (with_reducible refine Below.setCell ?_ (by first | exact Nat.le_refl _ | (simp; done) | (simp; omega) | omega) _) | (with_reducible refine Below.alloc ?_ (by first | exact Nat.le_refl _ | (simp; done) | (simp; omega) | omega) _) | (with_reducible refine below_drewN ?_ _) | (with_reducible refine Below.drew ?_))⟩
set_option maxRecDepth 20000 in
set_option maxHeartbeats 4000000 in
theorem implMul_yes (r c k N1 N2 N p1 o1 d1 p2 o2 d2 : Nat) (Z Y : Nat → Nat) (w : World) (hr1 : 1 ≤ r) (hr : r ≤ 12) (hc1 : 1 ≤ c) (hc : c ≤ 12) (hk1 : 1 ≤ k) (hk : k ≤ 12) (hN1 : N1 = r * c) (hN2 : N2 = c * k) (hN : N = r * k)
    (hyes : mulB r c N1 (vals Z) c k N2 (vals Y) = true) (h : FS .f32 w (some ⟨p1, o1, none⟩) N1 d1 Z) (h2 : FS .f32 w (some ⟨p2, o2, none⟩) N2 d2 Y) :
    Calls Try.prog 57 #[.agg #[.int .i64 r, .int .i64 c, .slice (some ⟨p1, o1, none⟩) N1 d1], .agg #[.int .i64 c, .int .i64 k, .slice (some ⟨p2, o2, none⟩) N2 d2]] w (OwnIf (allFin (mulV c k Z Y) N) r k N (mulV c k Z Y) w) := by
  have HN1 := Lib.hid hN1
  have HN2 := Lib.hid hN2
  have HN := Lib.hid hN
  have h1144 : N1 ≤ 144 := by have := sides_le hr hc; omega
  have h2144 : N2 ≤ 144 := by have := sides_le hc hk; omega
  have h144 : N ≤ 144 := by have := sides_le hr hk; omega
  have hpos : 0 < N := by rw [hN]; exact Nat.mul_pos hr1 hk1
  have hcap1 := h.1
  have hmax1 : d1 ≤ 9223372036854775807 := by have := h.2.1; unfold maxLen at this; omega
  obtain ⟨_, _, e, hb1, _, _⟩ := h.at (show 0 < N1 by rw [hN1]; exact Nat.mul_pos hr1 hc1)
  simp only [Option.some.injEq, Addr.mk.injEq, and_true] at e
  obtain ⟨rfl, rfl⟩ := e
  have hcm := fun W q1 q2 => canMul_any r c (some ⟨p1, o1, none⟩) N1 d1 Z c k (some ⟨p2, o2, none⟩) N2 d2 Y W (by omega) (by omega) q1 q2
  rw [hyes] at hcm
  obtain ⟨VV, hVV⟩ : ∃ VV, VV = mulV c k Z Y := ⟨_, rfl⟩
  rw [← hVV]
  have HVV := Lib.hid hVV
  clear hyes hN1 hN2 hN hVV
  go_enter Try.func57, Try.ntmps57
  go_wp2_with fail
  go_at_call 102
  refine (hcm _ (h.below (by repeat first | (with_reducible exact Below.refl _ _) | (with_reducible refine Below.setCell ?_ (by first | exact Nat.le_refl _ | (simp; done) | (simp; omega) | omega) _) | (with_reducible refine Below.alloc ?_ (by first | exact Nat.le_refl _ | (simp; done) | (simp; omega) | omega) _) | (with_reducible refine below_drewN ?_ _) | (with_reducible refine Below.drew ?_)) (Nat.le_refl _)) (h2.below (by repeat first | (with_reducible exact Below.refl _ _) | (with_reducible refine Below.setCell ?_ (by first | exact Nat.le_refl _ | (simp; done) | (simp; omega) | omega) _) | (with_reducible refine Below.alloc ?_ (by first | exact Nat.le_refl _ | (simp; done) | (simp; omega) | omega) _) | (with_reducible refine below_drewN ?_ _) | (with_reducible refine Below.drew ?_)) (Nat.le_refl _))).mono ?_
  rintro e w1 ⟨rfl, b1⟩
  have B1 : Below w.heap.size w w1 := Below.trans (by repeat first | (with_reducible exact Below.refl _ _) | (with_reducible refine Below.setCell ?_ (by first | exact Nat.le_refl _ | (simp; done) | (simp; omega) | omega) _) | (with_reducible refine Below.alloc ?_ (by first | exact Nat.le_refl _ | (simp; done) | (simp; omega) | omega) _) | (with_reducible refine below_drewN ?_ _) | (with_reducible refine Below.drew ?_)) (b1.mono (by simp; omega))
  have s1 : w.heap.size + 1 + 1 + 1 ≤ w1.heap.size := by have := b1.size; simp at this; omega
  have X1 : Box w1 w.heap.size r c (some ⟨p1, o1, none⟩) N1 d1 ∧ Box w1 (w.heap.size + 1) c k (some ⟨p2, o2, none⟩) N2 d2 ∧ Box w1 (w.heap.size + 1 + 1) 0 0 none 0 0 ∧ ∀ i, w1.frozen? ⟨w.heap.size + 1 + 1, i, none⟩ = false := by
    obtain ⟨q, f⟩ := bcell b1
    refine ⟨⟨?_, ?_, ?_⟩, ⟨?_, ?_, ?_⟩, ⟨?_, ?_, ?_⟩, fun i => ?_⟩
    all_goals first | rw [q _ _ (by simp <;> omega)] | rw [f _ _ (by simp <;> omega)]
    all_goals simp [go_sem]
  obtain ⟨XA, XB, XR, IR⟩ := X1
  have XA' := XA
  obtain ⟨a0, a1, a2⟩ := XA'
  have XB' := XB
  obtain ⟨c0, c1, c2⟩ := XB'
  clear b1 hcm
  go_wp2_with fail
  go_at_call 100
  refine (newMatrix_any r k N _ hr hk HN.out).mono ?_
  rintro e w2 ⟨g, rfl, oP, b2⟩
  have s2 := b2.size
  obtain ⟨_, _, gB, gU, gS, _⟩ := oP.cell hpos
  have XA2 := XA.below b2 (by omega)
  have XB2 := XB.below b2 (by omega)
  have XR2 := XR.below b2 (by omega)
  have IR2 : ∀ i, w2.frozen? ⟨w.heap.size + 1 + 1, i, none⟩ = false := fun i => (b2.frozen (p := ⟨w.heap.size + 1 + 1, i, none⟩) (by show w.heap.size + 1 + 1 < w1.heap.size; omega)).trans (IR i)
  have B2 := B1.trans (b2.mono B1.size)
  clear b2 XA XB XR IR B1 a0 a1 a2 c0 c1 c2
  have XB2' := XB2
  obtain ⟨c0, c1, c2⟩ := XB2'
  have b3 : Below w2.heap.size w2 (w2.alloc (.cells #[.int .i64 r, .int .i64 k, .slice (some ⟨g, 0, none⟩) N N] 26)) := (by repeat first | (with_reducible exact Below.refl _ _) | (with_reducible refine Below.setCell ?_ (by first | exact Nat.le_refl _ | (simp; done) | (simp; omega) | omega) _) | (with_reducible refine Below.alloc ?_ (by first | exact Nat.le_refl _ | (simp; done) | (simp; omega) | omega) _) | (with_reducible refine below_drewN ?_ _) | (with_reducible refine Below.drew ?_))
  have XP3 := Box.new w2 26 r k (some ⟨g, 0, none⟩) N N
  have XB3 := XB2.below b3 (by omega)
  obtain ⟨v0, v1, v2⟩ := XB3
  go_wp2_with fail
  go_at_call 103
  refine (flipped_any c k N2 p2 o2 d2 Y _ hc1 hc hk1 hk HN2.out (h2.below (B2.trans (b3.mono B2.size)) (Nat.le_refl _))).mono ?_
  rintro e w4 ⟨gf, rfl, oF, b4⟩
  have s3 : w2.heap.size + 1 ≤ w4.heap.size := by have := b4.size; simp at this; omega
  obtain ⟨_, _, fB, fU, fS, _⟩ := oF.cell (show 0 < N2 by rw [HN2.out]; exact Nat.mul_pos hc1 hk1)
  have fB' : w2.heap.size + 1 ≤ gf := by simpa using fB
  have b34 : Below w2.heap.size w2 w4 := b3.trans (b4.mono (by simp))
  have XA4 := XA2.below b34 (by omega)
  have XR4 := XR2.below b34 (by omega)
  have XP4 : Box w4 w2.heap.size r k (some ⟨g, 0, none⟩) N N := XP3.below b4 (by simp)
  have IR4 : ∀ i, w4.frozen? ⟨w.heap.size + 1 + 1, i, none⟩ = false := fun i => (b34.frozen (p := ⟨w.heap.size + 1 + 1, i, none⟩) (by show w.heap.size + 1 + 1 < w2.heap.size; omega)).trans (IR2 i)
  have oP4 := oP.kept (below_grew b34) (fun q hq => by cases hq)
  have fF4 := oF.fs
  have B4 := B2.trans (b34.mono B2.size)
  clear b3 b4 b34 XA2 XB2 XR2 XP3 IR2 oP oF c0 c1 c2 v0 v1 v2 fB B2
  have XA4' := XA4
  obtain ⟨a0, a1, a2⟩ := XA4'
  have b5 : Below w4.heap.size w4 (w4.alloc (.cells #[.int .i64 k, .int .i64 c, .slice (some ⟨gf, 0, none⟩) N2 N2] 26)) := (by repeat first | (with_reducible exact Below.refl _ _) | (with_reducible refine Below.setCell ?_ (by first | exact Nat.le_refl _ | (simp; done) | (simp; omega) | omega) _) | (with_reducible refine Below.alloc ?_ (by first | exact Nat.le_refl _ | (simp; done) | (simp; omega) | omega) _) | (with_reducible refine below_drewN ?_ _) | (with_reducible refine Below.drew ?_))
  have XC := Box.new w4 26 k c (some ⟨gf, 0, none⟩) N2 N2
  have s5 : w4.heap.size < (w4.alloc (.cells #[.int .i64 k, .int .i64 c, .slice (some ⟨gf, 0, none⟩) N2 N2] 26)).heap.size := by simp
  have l4 : w.heap.size < w4.heap.size := by omega
  go_wp2
  generalize w4.alloc (.cells #[.int .i64 k, .int .i64 c, .slice (some ⟨gf, 0, none⟩) N2 N2] 26) = w5 at b5 XC s5 ⊢
  have XA5 := XA4.below b5 (by omega)
  have XR5 := XR4.below b5 (by omega)
  have XP5 := XP4.below b5 (by omega)
  have IR5 : ∀ i, w5.frozen? ⟨w.heap.size + 1 + 1, i, none⟩ = false := fun i => (b5.frozen (p := ⟨w.heap.size + 1 + 1, i, none⟩) (by show w.heap.size + 1 + 1 < w4.heap.size; omega)).trans (IR4 i)
  have oP5 := oP4.kept (below_grew b5) (fun q hq => by cases hq)
  have fF5 := fF4.below b5 (Nat.le_refl _)
  have B5 := B4.trans (b5.mono B4.size)
  have fA5 := h.below B5 (Nat.le_refl _)
  clear b5 XA4 XR4 XP4 IR4 oP4 fF4 B4 a0 a1 a2 h h2
  go_loopw [23] (fun i wr => ∃ (j : Nat) (X : Nat → Nat), j ≤ r ∧ i = .int .i64 j ∧ (∀ t, t < j * k → FV .f32 (X t) (VV t)) ∧ Own 38 .f32 w1.heap.size w2.heap.size wr (some ⟨g, 0, none⟩) N N X ∧ w5.grownBy wr (some g)) (fun i _ => r - (intOf i).toNat)
  case atStart => exact ⟨0, _, Nat.zero_le _, rfl, fun t ht => absurd ht (by rw [Nat.zero_mul]; exact Nat.not_lt_zero _), oP5, World.grownBy.refl _ _⟩
  case round =>
    obtain ⟨j, X, hj, rfl, hv, ho, hg⟩ := hrel
    have HV2 := Lib.hid hv
    clear oP5 hv
    have hsr := hg.size
    by_cases hlt : j < r
    · obtain ⟨u0, u1, u2⟩ := XP5.grown hg (by omega) (fun q hq => by cases hq; omega)
      obtain ⟨v0, v1, v2⟩ := XC.grown hg s5 (fun q hq => by cases hq; omega)
      obtain ⟨a0, a1, a2⟩ := XA5.grown hg (by omega) (fun q hq => by cases hq; omega)
      have hO := Lib.hid ho
      have hG := Lib.hid hg
      have XAr : Box wr w.heap.size r c (some ⟨p1, o1, none⟩) N1 d1 := ⟨a0, a1, a2⟩
      have XPr : Box wr w2.heap.size r k (some ⟨g, 0, none⟩) N N := ⟨u0, u1, u2⟩
      have XCr : Box wr w4.heap.size k c (some ⟨gf, 0, none⟩) N2 N2 := ⟨v0, v1, v2⟩
      clear ho hg u0 u1 u2 v0 v1 v2 a0 a1 a2
      have hjk : j * k + k ≤ N := by rw [HN.out]; have := Nat.mul_le_mul_right k hlt; rw [Nat.succ_mul] at this; exact this
      have hjc : j * c + c ≤ N1 := by rw [HN1.out]; have := Nat.mul_le_mul_right c hlt; rw [Nat.succ_mul] at this; exact this
      go_wp2
      generalize hw0 : wr = w0 at XAr XPr XCr hsr ⊢
      have rowP := fun W => rowOf_any g 0 r k N N j W hr hk1 hk HN.out (Nat.le_refl _) (by omega) hlt
      have rowA := fun W => rowOf_any p1 o1 r c N1 d1 j W hr hc1 hc HN1.out hcap1 hmax1 hlt
      simp only [Nat.zero_add] at rowP
      (refine wp_region_kinds (fun w' => Below w0.heap.size w0 w') (fun _ => 0) 7 (below_drewN (Below.refl _ _) 1) (by kernel_rfl) (by kernel_rfl) (by kernel_rfl) ?_; simp only [List.take_succ_cons, List.take_zero, List.drop_succ_cons, List.drop_zero])
      ((with_reducible refine wpKinds_run (.agg #[.int .i64 r, .int .i64 k, .slice (some ⟨g, 0, none⟩) N N]) ?hwant ?hkind ?hrun ?_); (case hwant => first | (simp [Region.wanted, yielded]; done) | rfl); (case hkind => rfl); (case hrun => intro W hW; obtain ⟨u0, u1, u2⟩ := Box.below XPr hW (by omega); simp [go_sem, BigFrame.eval_const, BigFrame.eval_global, BigFrame.eval_func, u0, u1, u2]); simp only [Act.put, List.setIfInBounds_toArray, List.set_cons_succ, List.set_cons_zero])
      ((with_reducible refine wpKinds_plain ?hwant ?hkind ?hplain (fun K hK => ?_)); (case hwant => first | (simp [Region.wanted, yielded]; done) | rfl); (case hkind => rfl); (case hplain => rfl); go_big_quiet_op; (first | refine hK _ ?_ | refine ⟨_, fun _ _ => rfl, hK _ ?_⟩); clear hK K)
      ((with_reducible refine wpKinds_call (f := 101) (args := #[.agg #[.int .i64 r, .int .i64 k, .slice (some ⟨g, 0, none⟩) N N], .int .i64 j]) (.slice (some ⟨g, j * k, none⟩) k k) ?hwant ?hkind ?hrun ?hinit ?hcall ?_); (case hwant => first | (simp [Region.wanted, yielded]; done) | rfl); (case hkind => rfl); (case hrun => intro W; simp [go_sem, BigFrame.eval_const, BigFrame.eval_global, BigFrame.eval_func]); (case hinit => kernel_rfl); (case hcall => intro W hW; (refine (rowP W).mono ?_; rintro e w' ⟨rfl, hb⟩; exact ⟨rfl, hW.trans (hb.mono hW.size)⟩)); simp only [Act.put, List.setIfInBounds_toArray, List.set_cons_succ, List.set_cons_zero])
      ((with_reducible refine wpKinds_run (.agg #[.int .i64 r, .int .i64 c, .slice (some ⟨p1, o1, none⟩) N1 d1]) ?hwant ?hkind ?hrun ?_); (case hwant => first | (simp [Region.wanted, yielded]; done) | rfl); (case hkind => rfl); (case hrun => intro W hW; obtain ⟨u0, u1, u2⟩ := Box.below XAr hW (by omega); simp [go_sem, BigFrame.eval_const, BigFrame.eval_global, BigFrame.eval_func, u0, u1, u2]); simp only [Act.put, List.setIfInBounds_toArray, List.set_cons_succ, List.set_cons_zero])
      ((with_reducible refine wpKinds_plain ?hwant ?hkind ?hplain (fun K hK => ?_)); (case hwant => first | (simp [Region.wanted, yielded]; done) | rfl); (case hkind => rfl); (case hplain => rfl); go_big_quiet_op; (first | refine hK _ ?_ | refine ⟨_, fun _ _ => rfl, hK _ ?_⟩); clear hK K)
      ((with_reducible refine wpKinds_call (f := 101) (args := #[.agg #[.int .i64 r, .int .i64 c, .slice (some ⟨p1, o1, none⟩) N1 d1], .int .i64 j]) (.slice (some ⟨p1, o1 + j * c, none⟩) c c) ?hwant ?hkind ?hrun ?hinit ?hcall ?_); (case hwant => first | (simp [Region.wanted, yielded]; done) | rfl); (case hkind => rfl); (case hrun => intro W; simp [go_sem, BigFrame.eval_const, BigFrame.eval_global, BigFrame.eval_func]); (case hinit => kernel_rfl); (case hcall => intro W hW; (refine (rowA W).mono ?_; rintro e w' ⟨rfl, hb⟩; exact ⟨rfl, hW.trans (hb.mono hW.size)⟩)); simp only [Act.put, List.setIfInBounds_toArray, List.set_cons_succ, List.set_cons_zero])
      ((with_reducible refine wpKinds_run (.agg #[.int .i64 k, .int .i64 c, .slice (some ⟨gf, 0, none⟩) N2 N2]) ?hwant ?hkind ?hrun ?_); (case hwant => first | (simp [Region.wanted, yielded]; done) | rfl); (case hkind => rfl); (case hrun => intro W hW; obtain ⟨u0, u1, u2⟩ := Box.below XCr hW (by omega); simp [go_sem, BigFrame.eval_const, BigFrame.eval_global, BigFrame.eval_func, u0, u1, u2]); simp only [Act.put, List.setIfInBounds_toArray, List.set_cons_succ, List.set_cons_zero])
      refine wpKinds_nil ?_
      intro w6 hC
      subst hw0
      have hG6 : w5.grownBy w6 (some g) := grownBy_trans hG.out ⟨hC.os, hC.tape, hC.output, hC.size, fun q hq _ => hC.block q hq⟩
      have hO6 := hO.out.kept (below_grew hC) (fun q hq => by cases hq)
      have fA6 := (fA5.grown hG6 (fun q hq => by cases hq; omega)).row HN1.out hlt c (Nat.le_refl _) (by unfold maxLen; omega)
      have fF6 := fF5.grown hG6 (fun q hq => by cases hq; omega)
      have hsz := hC.size
      clear hG hO XAr XPr XCr rowP rowA hC
      go_wp2_with fail
      go_at_call 104
      refine (multiplyRow_any g p1 (o1 + j * c) gf k c c N2 N j w1.heap.size w2.heap.size (fun i => Z (j * c + i)) (flipZ c k Y) X VV w6 hk hc1 hc (by rw [HN2.out, Nat.mul_comm]) hjk h144 fA6 fF6 hO6 gU (by omega) (by omega) HV2.out (fun q hq => by rw [HVV.out]; exact mulV_at hq) (by omega)).mono ?_
      rintro e w7 ⟨rfl, X7, oX, hX7, g7⟩
      have O7 := Lib.hid oX
      have G7 := Lib.hid (grownBy_trans hG6 g7)
      have HX7 := Lib.hid hX7
      clear oX hX7 g7 hG6 hO6 fA6 fF6
      go_wp2
      go_roundw
      case rel => exact ⟨j + 1, X7, by omega, by go_num, fun t ht => HX7.out t (by rw [Nat.succ_mul] at ht; exact ht), O7.out, G7.out⟩
      case measure => simp [intOf]; omega
    · obtain rfl : j = r := by omega
      have XPe := XP5.grown hg (by omega) (fun q hq => by cases hq; omega)
      have XRe := XR5.grown hg (by omega) (fun q hq => by cases hq; omega)
      have IRe : ∀ i, wr.frozen? ⟨w.heap.size + 1 + 1, i, none⟩ = false := fun i => (World.frozen?_of_block (a := ⟨w.heap.size + 1 + 1, i, none⟩) (hg.block (w.heap.size + 1 + 1) (by show w.heap.size + 1 + 1 < w5.heap.size; omega) (fun e => by cases e; omega))).trans (IR5 i)
      have Be := B5.grown hg B5.size (fun q hq => by cases hq; omega)
      have fP := ho.fs
      have hVe : ∀ t, t < N → vals X t = VV t := fun t ht => (HV2.out t (by rw [← HN.out]; exact ht)).1
      have hval : validB j k N (vals X) = allFin VV N := (validB_nat hr1 hr hk1 hk HN.out).trans (allFin_congr hVe)
      have XPe' := XPe
      obtain ⟨u0, u1, u2⟩ := XPe'
      have XRe' := XRe
      obtain ⟨z0, z1, z2⟩ := XRe'
      have HVe := Lib.hid hVe
      have HO := Lib.hid ho
      clear ho hg hVe XA5 XC fA5 fF5 XP5 XR5 IR5 HV2
      cases hf : allFin VV N with
      | true =>
        rw [hf] at hval
        go_wp2_with fail
        go_at_call 60
        refine (implGive_yes j k _ N N X _ (by omega) fP hval).mono ?_
        rintro e w7 ⟨rfl, b7⟩
        have Z7 := XRe.below b7 (by omega)
        obtain ⟨y0, y1, y2⟩ := Z7
        have I7 : ∀ i, w7.frozen? ⟨w.heap.size + 1 + 1, i, none⟩ = false := fun i => (b7.frozen (p := ⟨w.heap.size + 1 + 1, i, none⟩) (by show w.heap.size + 1 + 1 < wr.heap.size; omega)).trans (IRe i)
        have B7 := Be.trans (b7.mono Be.size)
        have O7 := HO.out.kept (below_grew b7) (fun q hq => by cases hq)
        have s7 := b7.size
        clear b7 Be z0 z1 z2 u0 u1 u2 XPe XRe IRe fP
        go_wp2_with fail
        refine bodyPost_ret (v := .tuple #[.agg #[.int .i64 j, .int .i64 k, .slice (some ⟨g, 0, none⟩) N N], .bool true]) (by simp [results, Try.results57, go_sem, y0, y1, y2]) rfl ?_
        exact OwnIf.yes hf ⟨_, _, _, rfl, (by refine Own.to O7 (hk := fun g hg1 hg2 => by (try simp at hg1 hg2); repeat (first | rw [Below.heap_setCell _ _ _ _ (by simp; omega)] | rw [Below.heap_alloc _ _ _ (by simp [World.setCell]; omega)])) ?_ ?_ ?_ ?_ <;> (first | exact Nat.le_refl _ | omega | (simp [World.setCell]; done) | (simp [World.setCell]; omega))), HVe.out, (by repeat first | (with_reducible exact B7) | (with_reducible refine Below.setCell ?_ (by first | exact Nat.le_refl _ | (simp; done) | (simp; omega) | omega) _) | (with_reducible refine Below.alloc ?_ (by first | exact Nat.le_refl _ | (simp; done) | (simp; omega) | omega) _) | (with_reducible refine below_drewN ?_ _) | (with_reducible refine Below.drew ?_))⟩
      | false =>
        rw [hf] at hval
        go_wp2_with fail
        go_at_call 60
        refine (implGive_no j k _ N N X _ (by omega) fP hval).mono ?_
        rintro e w7 ⟨rfl, b7⟩
        have Z7 := XRe.below b7 (by omega)
        obtain ⟨y0, y1, y2⟩ := Z7
        have I7 : ∀ i, w7.frozen? ⟨w.heap.size + 1 + 1, i, none⟩ = false := fun i => (b7.frozen (p := ⟨w.heap.size + 1 + 1, i, none⟩) (by show w.heap.size + 1 + 1 < wr.heap.size; omega)).trans (IRe i)
        have B7 := Be.trans (b7.mono Be.size)
        clear b7 Be z0 z1 z2 u0 u1 u2 XPe XRe IRe fP
        go_wp2_with fail
        refine bodyPost_ret (v := .tuple #[.agg #[.int .i64 0, .int .i64 0, .slice none 0 0], .bool false]) (by simp [results, Try.results57, go_sem, y0, y1, y2]) rfl ?_
        exact OwnIf.no hf ⟨none, 0, fun _ => 0, rfl, .inl ⟨rfl, rfl, rfl⟩, fun i hi => by omega, (by repeat first | (with_reducible exact B7) | (with_reducible refine Below.setCell ?_ (by first | exact Nat.le_refl _ | (simp; done) | (simp; omega) | omega) _) | (with_reducible refine Below.alloc ?_ (by first | exact Nat.le_refl _ | (simp; done) | (simp; omega) | omega) _) | (with_reducible refine below_drewN ?_ _) | (with_reducible refine Below.drew ?_))⟩
end Go.Proofs.Ytmjlhmbnaifhaac
