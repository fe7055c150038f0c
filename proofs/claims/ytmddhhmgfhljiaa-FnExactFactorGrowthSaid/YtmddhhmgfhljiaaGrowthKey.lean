/- Helper: how much greater the upper square of a factor is, of the program and of its reference. Conditions: none. -/
import Derived.Test.YtmddhhmgfhljiaaUpperOfKey
import Derived.Test.YtmddhhmgfhljiaaFactorKey
import Derived.Test.YtmddhhmgfhljiaaNormKey
set_option linter.unusedVariables false
set_option linter.unusedSimpArgs false
namespace Go.Proofs.Ytmddhhmgfhljiaa
open Go.RowKit

section
open Ieee
theorem pz_zero {X : Option Nat} (h : Pz X) : ford .f32 X (some 0) = some .eq ∨ ford .f32 X (some 0) = some .gt := by
  obtain ⟨q, rfl, hq⟩ := h
  have e1 : ford .f32 (some q) (some 0) = (single.read q).order (single.read 0) := rfl
  have e0 : single.read 0 = .number false 0 (-149) := by decide +kernel
  rw [e1, e0]
  rcases read_pz hq with h | ⟨m, e, h⟩
  · rw [h]; exact .inr rfl
  · rw [h]
    simp only [Datum.order, signed_zero]
    have := signed_nonneg m (e - min e (-149)).toNat
    rcases Int.lt_or_eq_of_le this with h1 | h1
    · exact .inr (by rw [Int.compare_eq_gt.2 h1])
    · exact .inl (by rw [← h1]; rfl)
end
/-- The greatest number without its sign. -/
def mostG (V : Nat → Option Nat) : Nat → Option Nat
  | 0 => some 0
  | n + 1 => pickMax (mostG V n) (fsize (V n))
theorem mostG_pz {V : Nat → Option Nat} : ∀ {n : Nat}, (∀ j, j < n → finite .f32 (V j) = true) → Pz (mostG V n)
  | 0, _ => Pz.zero
  | n + 1, h => by
    show Pz (pickMax (mostG V n) (fsize (V n)))
    unfold pickMax
    split
    · exact Pz.size (h n (by omega))
    · exact mostG_pz fun j hj => h j (by omega)
theorem mostG_congr {V W : Nat → Option Nat} : ∀ {n : Nat}, (∀ j, j < n → V j = W j) → mostG V n = mostG W n
  | 0, _ => rfl
  | n + 1, h => by
    show pickMax (mostG V n) (fsize (V n)) = pickMax (mostG W n) (fsize (W n))
    rw [mostG_congr fun j hj => h j (by omega), h n (by omega)]
set_option maxHeartbeats 1000000 in
theorem greatest_any (a : Option Addr) (n c : Nat) (Z : Nat → Nat) (w : World) (hn : n ≤ 1048576) (hv : allFin (vals Z) n = true) (h : FS .f32 w a n c Z) :
    Calls Try.prog 62 #[.slice a n c] w fun e w' => ∃ q, e = .returned (.float .f32 q) ∧ FV .f32 q (mostG (vals Z) n) ∧ ∃ m, w' = w.drewN m := by
  have hV := Lib.hid hv
  clear hv
  go_enter Try.func62, Try.ntmps62
  go_wp2
  go_loopw [3, 8] (fun s i wr => ∃ j m q : Nat, j ≤ n ∧ i = .int .i64 j ∧ s = .float .f32 q ∧ FV .f32 q (mostG (vals Z) j) ∧ wr = w.drewN m) (fun _ i _ => n - (intOf i).toNat)
  case atStart => exact ⟨0, 0, 0, Nat.zero_le _, rfl, rfl, FV.lit (by kernel_rfl) (by kernel_rfl), rfl⟩
  case round =>
    obtain ⟨j, m0, q0, hj, rfl, rfl, hq0, rfl⟩ := hrel
    by_cases hlt : j < n
    · obtain ⟨b', off', rfl, hbl, hce, hfv⟩ := h.at hlt
      obtain ⟨fz, ff⟩ := sizeAt hV.out hlt hfv.2
      have hQ := Lib.hid hq0
      clear hbl hfv hq0
      go_wp2_with fail
      go_at_call 97
      refine (implAbs_any _ fz ff _).mono ?_
      rintro e w3 ⟨q1, rfl, hq1, m1, rfl⟩
      obtain ⟨a1, ea, ha⟩ := mostG_pz (V := vals Z) (n := j) (fun k hk => allFin_lt hV.out (by omega))
      obtain ⟨a2, eb, hb2⟩ := Pz.size ff
      have g1 : q0 = a1 := FV.eq (ea ▸ hQ.out)
      have g2 : q1 = a2 := FV.eq (eb ▸ hq1)
      subst g1 g2
      have hG' : Hid (mostG (vals Z) (j + 1) = pickMax (some q0) (some q1)) := Lib.hid (by rw [← ea, ← eb]; rfl)
      have hQ1 := Lib.hid hq1
      have k1 := cn_pz ha
      have k2 := cn_pz hb2
      have k3 := neg_pz ha
      clear hq1 fz ff hce
      rcases Pz.order ha hb2 with ⟨o1, o2⟩ | ⟨o1, o2⟩ | ⟨o1, o2⟩
      all_goals
        have hO := Lib.hid o2
        have hmx := fun W => run_maxF (P := Try.prog) #[44, 44] 44 q0 q1 _ o1 k3 W
        clear o2
        go_wp2
        go_roundw
        case rel =>
          refine ⟨j + 1, _, _, by omega, by go_num, rfl, ?_, by first | rfl | simp only [World.drewN_drewN]; rfl⟩
          rw [hG'.out]
          unfold pickMax
          rw [hO.out]
          first | exact ⟨k2, hQ1.out.2⟩ | exact ⟨k1, hQ.out.2⟩
        case measure => simp [intOf]; omega
    · obtain rfl : j = n := by omega
      go_wp2
      go_ret
      exact ⟨_, rfl, hq0, _, rfl⟩
set_option maxRecDepth 20000 in
set_option maxHeartbeats 1000000 in
theorem l03Most_any (p : Nat) (a : Option Addr) (n c : Nat) (Z : Nat → Nat) (w : World) (hn : n ≤ 1048576) (hv : allFin (vals Z) n = true) (p2 : w.cell? ⟨p, 2, none⟩ = some (.slice a n c)) (h : FS .f32 w a n c Z) :
    Calls Try.prog 57 #[.pointer (some ⟨p, 0, none⟩)] w fun e w' => ∃ q, e = .returned (.float .f32 q) ∧ FV .f32 q (mostG (vals Z) n) ∧ ∃ m, w' = w.drewN m := by
  have hV := Lib.hid hv
  clear hv
  go_enter Try.func57, Try.ntmps57
  go_wp2
  go_loopw [3, 11] (fun s i wr => ∃ j m q : Nat, j ≤ n ∧ i = .int .i64 j ∧ s = .float .f32 q ∧ FV .f32 q (mostG (vals Z) j) ∧ wr = w.drewN m) (fun _ i _ => n - (intOf i).toNat)
  case atStart => exact ⟨0, 0, 0, Nat.zero_le _, rfl, rfl, FV.lit (by kernel_rfl) (by kernel_rfl), rfl⟩
  case round =>
    obtain ⟨j, m0, q0, hj, rfl, rfl, hq0, rfl⟩ := hrel
    by_cases hlt : j < n
    · obtain ⟨b', off', rfl, hbl, hce, hfv⟩ := h.at hlt
      obtain ⟨fz, ff⟩ := sizeAt hV.out hlt hfv.2
      have hQ := Lib.hid hq0
      clear hbl hfv hq0
      go_wp2_with fail
      go_at_call 92
      refine (specSize_any _ fz ff _).mono ?_
      rintro e w3 ⟨q1, rfl, hq1, m1, rfl⟩
      obtain ⟨a1, ea, ha⟩ := mostG_pz (V := vals Z) (n := j) (fun k hk => allFin_lt hV.out (by omega))
      obtain ⟨a2, eb, hb2⟩ := Pz.size ff
      have g1 : q0 = a1 := FV.eq (ea ▸ hQ.out)
      have g2 : q1 = a2 := FV.eq (eb ▸ hq1)
      subst g1 g2
      have hG' : Hid (mostG (vals Z) (j + 1) = pickMax (some q0) (some q1)) := Lib.hid (by rw [← ea, ← eb]; rfl)
      have hQ1 := Lib.hid hq1
      have k1 := cn_pz ha
      have k2 := cn_pz hb2
      clear hq1 fz ff hce
      rcases Pz.order ha hb2 with ⟨o1, o2⟩ | ⟨o1, o2⟩ | ⟨o1, o2⟩
      all_goals
        have hO := Lib.hid o2
        clear o1
        go_wp2
        go_roundw
        case rel =>
          refine ⟨j + 1, _, _, by omega, by go_num, rfl, ?_, by first | rfl | simp only [World.drewN_drewN]; rfl⟩
          rw [hG'.out]
          unfold pickMax
          rw [hO.out]
          first | exact ⟨k2, hQ1.out.2⟩ | exact ⟨k1, hQ.out.2⟩
        case measure => simp [intOf]; omega
    · obtain rfl : j = n := by omega
      go_wp2
      go_ret
      exact ⟨_, rfl, hq0, _, rfl⟩
theorem allFin_of_all {V : Nat → Option Nat} : ∀ {n : Nat}, (∀ i, i < n → finite .f32 (V i) = true) → allFin V n = true
  | 0, _ => rfl
  | n + 1, h => by
    have h1 := allFin_of_all (V := V) (n := n) fun i hi => h i (by omega)
    simp only [allFin, h1, h n (by omega), Bool.and_self]
/-- The numbers of the upper square. -/
def upV (R2 : Int) (Z2 : Nat → Nat) : Nat → Option Nat := vals (clearZ R2.toNat isBe Z2 R2.toNat 0)
def grN (n : Nat) (Z : Nat → Nat) (R2 : Int) (n2 : Nat) (Z2 : Nat → Nat) : Option Nat := fop .quo .f32 (mostG (upV R2 Z2) n2) (mostG (vals Z) n)
def grOk (R C : Int) (n : Nat) (Z : Nat → Nat) (R2 C2 : Int) (n2 : Nat) (Z2 : Nat → Nat) (m : Nat) (O : Nat → Int) : Bool :=
  factorB R2 C2 n2 (vals Z2) m O && (validB R C n (vals Z) && ((ford .f32 (mostG (vals Z) n) (some 0) == some .gt) && finite .f32 (grN n Z R2 n2 Z2)))
def grV (R C : Int) (n : Nat) (Z : Nat → Nat) (R2 C2 : Int) (n2 : Nat) (Z2 : Nat → Nat) (m : Nat) (O : Nat → Int) : Option Nat := pick (grOk R C n Z R2 C2 n2 Z2 m O) (grN n Z R2 n2 Z2)
theorem clear_fin {r n : Nat} {Z : Nat → Nat} (h : allFin (vals Z) n = true) : allFin (vals (clearZ r isBe Z r 0)) n = true := by
  refine allFin_of_all fun t ht => ?_
  show finite .f32 (cn .f32 (clearZ r isBe Z r 0 t)) = true
  unfold clearZ
  split
  · decide +kernel
  · exact allFin_lt (V := vals Z) h ht
set_option maxRecDepth 20000 in
set_option maxHeartbeats 2000000 in
theorem implGrowth_any (R C : Int) (a : Option Addr) (n c : Nat) (Z : Nat → Nat) (R2 C2 : Int) (a2 : Option Addr) (n2 c2 : Nat) (Z2 : Nat → Nat) (b : Option Addr) (m d : Nat) (O : Nat → Int) (w : World) (hn : n ≤ 1048576) (hn2 : n2 ≤ 1048576) (hm : m ≤ 1048576) (h : FS .f32 w a n c Z) (h2 : FS .f32 w a2 n2 c2 Z2) (h3 : IS .i64 w b m d O) :
    Calls Try.prog 24 #[.agg #[.int .i64 R, .int .i64 C, .slice a n c], .agg #[.int .i64 R2, .int .i64 C2, .slice a2 n2 c2, .slice b m d]] w (NumBel (grOk R C n Z R2 C2 n2 Z2 m O) (grV R C n Z R2 C2 n2 Z2 m O) w) := by
  unfold grV
  have c0 : cn .f32 0 = some 0 := by kernel_rfl
  cases hf : factorB R2 C2 n2 (vals Z2) m O with
  | false =>
    have HK : Hid (grOk R C n Z R2 C2 n2 Z2 m O = false) := Lib.hid (by unfold grOk; rw [hf]; rfl)
    go_enter Try.func24, Try.ntmps24
    go_wp2_with fail
    go_at_call 60
    refine (implUpper_no R2 C2 a2 n2 c2 Z2 b m d O _ hn2 hm (h2.below (by repeat first | (with_reducible exact Below.refl _ _) | (with_reducible refine Below.setCell ?_ (by first | exact Nat.le_refl _ | (simp; done) | (simp; omega) | omega) _) | (with_reducible refine Below.alloc ?_ (by first | exact Nat.le_refl _ | (simp; done) | (simp; omega) | omega) _) | (with_reducible refine below_drewN ?_ _) | (with_reducible refine Below.drew ?_)) (Nat.le_refl _)) (h3.below (by repeat first | (with_reducible exact Below.refl _ _) | (with_reducible refine Below.setCell ?_ (by first | exact Nat.le_refl _ | (simp; done) | (simp; omega) | omega) _) | (with_reducible refine Below.alloc ?_ (by first | exact Nat.le_refl _ | (simp; done) | (simp; omega) | omega) _) | (with_reducible refine below_drewN ?_ _) | (with_reducible refine Below.drew ?_)) (Nat.le_refl _)) hf).mono ?_
    rintro e w1 ⟨g, dd, Y, rfl, o1, hy, b1⟩
    have B1 : Below w.heap.size w w1 := Below.trans (by repeat first | (with_reducible exact Below.refl _ _) | (with_reducible refine Below.setCell ?_ (by first | exact Nat.le_refl _ | (simp; done) | (simp; omega) | omega) _) | (with_reducible refine Below.alloc ?_ (by first | exact Nat.le_refl _ | (simp; done) | (simp; omega) | omega) _) | (with_reducible refine below_drewN ?_ _) | (with_reducible refine Below.drew ?_)) (b1.mono (by simp <;> omega))
    have s1 : w.heap.size ≤ w1.heap.size := B1.size
    clear b1
    go_wp2_with fail
    go_ret2
    rw [HK.out]
    exact ⟨_, rfl, pick_no _ rfl, (by repeat first | (with_reducible exact B1) | (with_reducible refine Below.setCell ?_ (by first | exact Nat.le_refl _ | (simp; done) | (simp; omega) | omega) _) | (with_reducible refine Below.alloc ?_ (by first | exact Nat.le_refl _ | (simp; done) | (simp; omega) | omega) _) | (with_reducible refine below_drewN ?_ _) | (with_reducible refine Below.drew ?_))⟩
  | true =>
    obtain ⟨r, rfl, rfl, rfl, h1, h12, hN, hfz, _⟩ := factor_nat hf
    have hN' := Lib.hid hN
    obtain ⟨ba, oa, rfl, _, _, _⟩ := h2.at (show 0 < n2 by rw [hN]; exact Nat.mul_pos h1 h1)
    have hcf := clear_fin (r := m) hfz
    have HK : Hid (∀ x, grOk R C n Z m m n2 Z2 m O = x ↔ (validB R C n (vals Z) && ((ford .f32 (mostG (vals Z) n) (some 0) == some .gt) && finite .f32 (grN n Z m n2 Z2))) = x) := Lib.hid (fun x => by unfold grOk; rw [hf]; exact Iff.rfl)
    clear hN hfz
    go_enter Try.func24, Try.ntmps24
    go_wp2_with fail
    go_at_call 60
    refine (implUpper_yes m n2 ba oa c2 b d Z2 O _ hf (h2.below (by repeat first | (with_reducible exact Below.refl _ _) | (with_reducible refine Below.setCell ?_ (by first | exact Nat.le_refl _ | (simp; done) | (simp; omega) | omega) _) | (with_reducible refine Below.alloc ?_ (by first | exact Nat.le_refl _ | (simp; done) | (simp; omega) | omega) _) | (with_reducible refine below_drewN ?_ _) | (with_reducible refine Below.drew ?_)) (Nat.le_refl _)) (h3.below (by repeat first | (with_reducible exact Below.refl _ _) | (with_reducible refine Below.setCell ?_ (by first | exact Nat.le_refl _ | (simp; done) | (simp; omega) | omega) _) | (with_reducible refine Below.alloc ?_ (by first | exact Nat.le_refl _ | (simp; done) | (simp; omega) | omega) _) | (with_reducible refine below_drewN ?_ _) | (with_reducible refine Below.drew ?_)) (Nat.le_refl _))).mono ?_
    rintro e w1 ⟨g, dd, Y, rfl, o1, hy, b1⟩
    have B1 : Below w.heap.size w w1 := Below.trans (by repeat first | (with_reducible exact Below.refl _ _) | (with_reducible refine Below.setCell ?_ (by first | exact Nat.le_refl _ | (simp; done) | (simp; omega) | omega) _) | (with_reducible refine Below.alloc ?_ (by first | exact Nat.le_refl _ | (simp; done) | (simp; omega) | omega) _) | (with_reducible refine below_drewN ?_ _) | (with_reducible refine Below.drew ?_)) (b1.mono (by simp <;> omega))
    have s1 : w.heap.size + 1 < w1.heap.size := by have := b1.size; simp at this; omega
    have s0 : w.heap.size < w1.heap.size := by omega
    obtain ⟨x0, x1, x2⟩ : Box w1 w.heap.size R C a n c := Box.below (by refine ⟨?_, ?_, ?_⟩ <;> simp [go_sem]) b1 (by simp <;> omega)
    have hYf : allFin (vals Y) n2 = true := (allFin_congr hy).trans hcf
    have hmo : Hid (mostG (vals Y) n2 = mostG (upV m Z2) n2) := Lib.hid (mostG_congr fun j hj => hy j hj)
    have FY := o1.fs
    clear b1 hf o1 hy hcf
    cases hv : validB R C n (vals Z) with
    | false =>
      have HN : Hid (grOk R C n Z m m n2 Z2 m O = false) := Lib.hid ((HK.out _).2 (by rw [hv]; rfl))
      go_wp2_with fail
      go_at_call 61
      refine (implValid_any R C a n c Z _ hn (h.below (by repeat first | (with_reducible exact B1) | (with_reducible refine Below.setCell ?_ (by first | exact Nat.le_refl _ | (simp; done) | (simp; omega) | omega) _) | (with_reducible refine Below.alloc ?_ (by first | exact Nat.le_refl _ | (simp; done) | (simp; omega) | omega) _) | (with_reducible refine below_drewN ?_ _) | (with_reducible refine Below.drew ?_)) (Nat.le_refl _))).mono ?_
      rw [hv]
      rintro e w2 ⟨rfl, b2⟩
      have B2 : Below w.heap.size w w2 := Below.trans (show Below w.heap.size w (w1.alloc _) from (by repeat first | (with_reducible exact B1) | (with_reducible refine Below.setCell ?_ (by first | exact Nat.le_refl _ | (simp; done) | (simp; omega) | omega) _) | (with_reducible refine Below.alloc ?_ (by first | exact Nat.le_refl _ | (simp; done) | (simp; omega) | omega) _) | (with_reducible refine below_drewN ?_ _) | (with_reducible refine Below.drew ?_))) (b2.mono (by simp <;> omega))
      clear b2 hv
      go_wp2_with fail
      go_ret2
      rw [HN.out]
      exact ⟨_, rfl, pick_no _ rfl, (by repeat first | (with_reducible exact B2) | (with_reducible refine Below.setCell ?_ (by first | exact Nat.le_refl _ | (simp; done) | (simp; omega) | omega) _) | (with_reducible refine Below.alloc ?_ (by first | exact Nat.le_refl _ | (simp; done) | (simp; omega) | omega) _) | (with_reducible refine below_drewN ?_ _) | (with_reducible refine Below.drew ?_))⟩
    | true =>
      obtain ⟨rr, cc, rfl, rfl, _, _, _, _, hnn, hff⟩ := valid_nat hv
      have HFF := Lib.hid hff
      clear hnn hff
      go_wp2_with fail
      go_at_call 61
      have XU : Box (w1.alloc (.cells #[.int .i64 (m : Int), .int .i64 (m : Int), .slice g n2 dd] 31)) w1.heap.size m m g n2 dd := Box.new _ _ _ _ _ _ _
      have XA : Box (w1.alloc (.cells #[.int .i64 (m : Int), .int .i64 (m : Int), .slice g n2 dd] 31)) w.heap.size rr cc a n c := Box.below ⟨x0, x1, x2⟩ (Below.alloc (Below.refl _ _) (Nat.le_refl _) _) (by omega)
      have Ba : Below w.heap.size w (w1.alloc (.cells #[.int .i64 (m : Int), .int .i64 (m : Int), .slice g n2 dd] 31)) := (by repeat first | (with_reducible exact B1) | (with_reducible refine Below.setCell ?_ (by first | exact Nat.le_refl _ | (simp; done) | (simp; omega) | omega) _) | (with_reducible refine Below.alloc ?_ (by first | exact Nat.le_refl _ | (simp; done) | (simp; omega) | omega) _) | (with_reducible refine below_drewN ?_ _) | (with_reducible refine Below.drew ?_))
      have FYa := FY.below (show Below w1.heap.size w1 (w1.alloc (.cells #[.int .i64 (m : Int), .int .i64 (m : Int), .slice g n2 dd] 31)) from Below.alloc (Below.refl _ _) (Nat.le_refl _) _) (Nat.le_refl _)
      have sa : w1.heap.size < (w1.alloc (.cells #[.int .i64 (m : Int), .int .i64 (m : Int), .slice g n2 dd] 31)).heap.size := by simp
      generalize w1.alloc (.cells #[.int .i64 (m : Int), .int .i64 (m : Int), .slice g n2 dd] 31) = wa at XU XA Ba FYa sa ⊢
      refine (implValid_any (rr : Int) (cc : Int) a n c Z _ hn (h.below Ba (Nat.le_refl _))).mono ?_
      rw [hv]
      rintro e w2 ⟨rfl, b2⟩
      have B2 := Ba.trans (b2.mono Ba.size)
      have XU2 := XU.below b2 sa
      have XA2 := XA.below b2 (by omega)
      have FY2 := FYa.below b2 (Nat.le_refl _)
      obtain ⟨y0, y1, y2⟩ := XA2
      obtain ⟨z0, z1, z2⟩ := XU2
      have F2 := h.below B2 (Nat.le_refl _)
      clear b2 XU XA Ba FYa FY x0 x1 x2
      go_wp2_with fail
      go_at_call 62
      refine (greatest_any a n c Z _ hn HFF.out F2).mono ?_
      rintro e w3 ⟨q1, rfl, hq1, m1, rfl⟩
      have hpz := mostG_pz (V := vals Z) (n := n) (fun j hj => allFin_lt HFF.out hj)
      have HQ : Hid (grN n Z m n2 Z2 = fop .quo .f32 (mostG (vals Y) n2) (mostG (vals Z) n)) := Lib.hid (by rw [hmo.out]; rfl)
      rcases pz_zero hpz with ho | ho
      · have HN : Hid (grOk (rr : Int) (cc : Int) n Z m m n2 Z2 m O = false) := Lib.hid ((HK.out _).2 (by rw [hv, ho]; rfl))
        generalize mostG (vals Z) n = GG at hq1 ho
        have h1' := hq1.1
        clear hv HQ
        go_wp2_with fail
        go_ret2
        rw [HN.out]
        exact ⟨_, rfl, pick_no _ rfl, (by repeat first | (with_reducible exact B2) | (with_reducible refine Below.setCell ?_ (by first | exact Nat.le_refl _ | (simp; done) | (simp; omega) | omega) _) | (with_reducible refine Below.alloc ?_ (by first | exact Nat.le_refl _ | (simp; done) | (simp; omega) | omega) _) | (with_reducible refine below_drewN ?_ _) | (with_reducible refine Below.drew ?_))⟩
      · have HY : Hid (grOk (rr : Int) (cc : Int) n Z m m n2 Z2 m O = finite .f32 (grN n Z m n2 Z2)) := Lib.hid ((HK.out _).2 (by rw [hv, ho]; rfl))
        have HGr := Lib.hid (show FV .f32 q1 (mostG (vals Z) n) from hq1)
        generalize mostG (vals Z) n = GG at hq1 ho HQ
        have h1' := hq1.1
        clear hv
        go_wp2_with fail
        go_at_call 62
        refine (greatest_any g n2 dd Y _ hn2 hYf (FS.drewN FY2)).mono ?_
        rintro e w4 ⟨q2, rfl, hq2, m2, rfl⟩
        go_wp2_with (refine wpList_farith rfl _ _ _ _ _ rfl rfl _ _ _ rfl rfl hq2 hq1 ?_; intro r5 m5 hr5)
        go_at_call 63
        have hr6 : FV .f32 r5 (grN n Z m n2 Z2) := FV.of_eq hr5 HQ.out.symm
        refine (implNumber_any _ hr6 _).mono ?_
        rintro e w5 ⟨r7, rfl, hr7, m7, rfl⟩
        go_wp2_with fail
        go_ret2
        rw [HY.out]
        exact ⟨_, rfl, hr7, (by repeat first | (with_reducible exact B2) | (with_reducible refine Below.setCell ?_ (by first | exact Nat.le_refl _ | (simp; done) | (simp; omega) | omega) _) | (with_reducible refine Below.alloc ?_ (by first | exact Nat.le_refl _ | (simp; done) | (simp; omega) | omega) _) | (with_reducible refine below_drewN ?_ _) | (with_reducible refine Below.drew ?_))⟩
set_option maxRecDepth 20000 in
set_option maxHeartbeats 2000000 in
theorem specGrowth_any (R C : Int) (a : Option Addr) (n c : Nat) (Z : Nat → Nat) (R2 C2 : Int) (a2 : Option Addr) (n2 c2 : Nat) (Z2 : Nat → Nat) (b : Option Addr) (m d : Nat) (O : Nat → Int) (w : World) (hn : n ≤ 1048576) (hn2 : n2 ≤ 1048576) (hm : m ≤ 1048576) (h : FS .f32 w a n c Z) (h2 : FS .f32 w a2 n2 c2 Z2) (h3 : IS .i64 w b m d O) :
    Calls Try.prog 22 #[.agg #[.int .i64 R, .int .i64 C, .slice a n c], .agg #[.int .i64 R2, .int .i64 C2, .slice a2 n2 c2, .slice b m d]] w (NumBel (grOk R C n Z R2 C2 n2 Z2 m O) (grV R C n Z R2 C2 n2 Z2 m O) w) := by
  unfold grV
  have c0 : cn .f32 0 = some 0 := by kernel_rfl
  cases hv : validB R C n (vals Z) with
  | false =>
    have HK : Hid (grOk R C n Z R2 C2 n2 Z2 m O = false) := Lib.hid (by unfold grOk; rw [hv]; simp)
    go_enter Try.func22, Try.ntmps22
    go_wp2_with fail
    go_at_call 55
    refine (specIs_any _ R C a n c Z _ hn (by refine ⟨?_, ?_, ?_⟩ <;> simp [go_sem]) (h.below (by repeat first | (with_reducible exact Below.refl _ _) | (with_reducible refine Below.setCell ?_ (by first | exact Nat.le_refl _ | (simp; done) | (simp; omega) | omega) _) | (with_reducible refine Below.alloc ?_ (by first | exact Nat.le_refl _ | (simp; done) | (simp; omega) | omega) _) | (with_reducible refine below_drewN ?_ _) | (with_reducible refine Below.drew ?_)) (Nat.le_refl _))).mono ?_
    rw [hv]
    rintro e w1 ⟨rfl, m1, rfl⟩
    go_wp2_with fail
    go_ret2
    rw [HK.out]
    exact ⟨_, rfl, pick_no _ rfl, (by repeat first | (with_reducible exact Below.refl _ _) | (with_reducible refine Below.setCell ?_ (by first | exact Nat.le_refl _ | (simp; done) | (simp; omega) | omega) _) | (with_reducible refine Below.alloc ?_ (by first | exact Nat.le_refl _ | (simp; done) | (simp; omega) | omega) _) | (with_reducible refine below_drewN ?_ _) | (with_reducible refine Below.drew ?_))⟩
  | true =>
    obtain ⟨rr, cc, rfl, rfl, _, _, _, _, hnn, hff⟩ := valid_nat hv
    have HFF := Lib.hid hff
    clear hnn hff
    cases hf : factorB R2 C2 n2 (vals Z2) m O with
    | false =>
      have HK : Hid (grOk (rr : Int) (cc : Int) n Z R2 C2 n2 Z2 m O = false) := Lib.hid (by unfold grOk; rw [hf]; rfl)
      go_enter Try.func22, Try.ntmps22
      go_wp2_with fail
      go_at_call 55
      refine (specIs_any _ (rr : Int) (cc : Int) a n c Z _ hn (by refine ⟨?_, ?_, ?_⟩ <;> simp [go_sem]) (h.below (by repeat first | (with_reducible exact Below.refl _ _) | (with_reducible refine Below.setCell ?_ (by first | exact Nat.le_refl _ | (simp; done) | (simp; omega) | omega) _) | (with_reducible refine Below.alloc ?_ (by first | exact Nat.le_refl _ | (simp; done) | (simp; omega) | omega) _) | (with_reducible refine below_drewN ?_ _) | (with_reducible refine Below.drew ?_)) (Nat.le_refl _))).mono ?_
      rw [hv]
      rintro e w1 ⟨rfl, m1, rfl⟩
      go_wp2_with fail
      go_at_call 56
      refine (specFactor_any (w.heap.size + 1) R2 C2 a2 n2 c2 Z2 b m d O _ hn2 hm (by simp [World.drewN]) (BoxL.drewN (BoxL.four (by simp [go_sem]) (by simp [go_sem]) (by simp [go_sem]) (by simp [go_sem]))) (h2.below (by repeat first | (with_reducible exact Below.refl _ _) | (with_reducible refine Below.setCell ?_ (by first | exact Nat.le_refl _ | (simp; done) | (simp; omega) | omega) _) | (with_reducible refine Below.alloc ?_ (by first | exact Nat.le_refl _ | (simp; done) | (simp; omega) | omega) _) | (with_reducible refine below_drewN ?_ _) | (with_reducible refine Below.drew ?_)) (Nat.le_refl _)) (h3.below (by repeat first | (with_reducible exact Below.refl _ _) | (with_reducible refine Below.setCell ?_ (by first | exact Nat.le_refl _ | (simp; done) | (simp; omega) | omega) _) | (with_reducible refine Below.alloc ?_ (by first | exact Nat.le_refl _ | (simp; done) | (simp; omega) | omega) _) | (with_reducible refine below_drewN ?_ _) | (with_reducible refine Below.drew ?_)) (Nat.le_refl _))).mono ?_
      rw [hf]
      rintro e w2 ⟨rfl, b2⟩
      have B2 : Below w.heap.size w w2 := Below.trans (by repeat first | (with_reducible exact Below.refl _ _) | (with_reducible refine Below.setCell ?_ (by first | exact Nat.le_refl _ | (simp; done) | (simp; omega) | omega) _) | (with_reducible refine Below.alloc ?_ (by first | exact Nat.le_refl _ | (simp; done) | (simp; omega) | omega) _) | (with_reducible refine below_drewN ?_ _) | (with_reducible refine Below.drew ?_)) (b2.mono (by simp [World.drewN] <;> omega))
      clear b2
      go_wp2_with fail
      go_ret2
      rw [HK.out]
      exact ⟨_, rfl, pick_no _ rfl, (by repeat first | (with_reducible exact B2) | (with_reducible refine Below.setCell ?_ (by first | exact Nat.le_refl _ | (simp; done) | (simp; omega) | omega) _) | (with_reducible refine Below.alloc ?_ (by first | exact Nat.le_refl _ | (simp; done) | (simp; omega) | omega) _) | (with_reducible refine below_drewN ?_ _) | (with_reducible refine Below.drew ?_))⟩
    | true =>
      obtain ⟨r, rfl, rfl, rfl, h1, h12, hN, hfz, _⟩ := factor_nat hf
      have hN' := Lib.hid hN
      obtain ⟨ba, oa, rfl, _, _, _⟩ := h2.at (show 0 < n2 by rw [hN]; exact Nat.mul_pos h1 h1)
      have hcf := clear_fin (r := m) hfz
      have HK : Hid (∀ x, grOk (rr : Int) (cc : Int) n Z m m n2 Z2 m O = x ↔ ((ford .f32 (mostG (vals Z) n) (some 0) == some .gt) && finite .f32 (grN n Z m n2 Z2)) = x) := Lib.hid (fun x => by unfold grOk; rw [hf, hv]; exact Iff.rfl)
      clear hN hfz
      go_enter Try.func22, Try.ntmps22
      go_wp2_with fail
      go_at_call 55
      refine (specIs_any _ (rr : Int) (cc : Int) a n c Z _ hn (by refine ⟨?_, ?_, ?_⟩ <;> simp [go_sem]) (h.below (by repeat first | (with_reducible exact Below.refl _ _) | (with_reducible refine Below.setCell ?_ (by first | exact Nat.le_refl _ | (simp; done) | (simp; omega) | omega) _) | (with_reducible refine Below.alloc ?_ (by first | exact Nat.le_refl _ | (simp; done) | (simp; omega) | omega) _) | (with_reducible refine below_drewN ?_ _) | (with_reducible refine Below.drew ?_)) (Nat.le_refl _))).mono ?_
      rw [hv]
      rintro e w1 ⟨rfl, m1, rfl⟩
      go_wp2_with fail
      go_at_call 56
      have XA : Box (((w.alloc (.cells #[.int .i64 (rr : Int), .int .i64 (cc : Int), .slice a n c] 31)).alloc (.cells #[.int .i64 (m : Int), .int .i64 (m : Int), .slice (some ⟨ba, oa, none⟩) n2 c2, .slice b m d] 33)).drewN m1) w.heap.size rr cc a n c := by refine ⟨?_, ?_, ?_⟩ <;> simp [go_sem]
      have XF : BoxL (((w.alloc (.cells #[.int .i64 (rr : Int), .int .i64 (cc : Int), .slice a n c] 31)).alloc (.cells #[.int .i64 (m : Int), .int .i64 (m : Int), .slice (some ⟨ba, oa, none⟩) n2 c2, .slice b m d] 33)).drewN m1) (w.heap.size + 1) [.int .i64 (m : Int), .int .i64 (m : Int), .slice (some ⟨ba, oa, none⟩) n2 c2, .slice b m d] := BoxL.four (by simp [go_sem]) (by simp [go_sem]) (by simp [go_sem]) (by simp [go_sem])
      have Ba : Below w.heap.size w (((w.alloc (.cells #[.int .i64 (rr : Int), .int .i64 (cc : Int), .slice a n c] 31)).alloc (.cells #[.int .i64 (m : Int), .int .i64 (m : Int), .slice (some ⟨ba, oa, none⟩) n2 c2, .slice b m d] 33)).drewN m1) := (by repeat first | (with_reducible exact Below.refl _ _) | (with_reducible refine Below.setCell ?_ (by first | exact Nat.le_refl _ | (simp; done) | (simp; omega) | omega) _) | (with_reducible refine Below.alloc ?_ (by first | exact Nat.le_refl _ | (simp; done) | (simp; omega) | omega) _) | (with_reducible refine below_drewN ?_ _) | (with_reducible refine Below.drew ?_))
      have sa : w.heap.size + 1 < (((w.alloc (.cells #[.int .i64 (rr : Int), .int .i64 (cc : Int), .slice a n c] 31)).alloc (.cells #[.int .i64 (m : Int), .int .i64 (m : Int), .slice (some ⟨ba, oa, none⟩) n2 c2, .slice b m d] 33)).drewN m1).heap.size := by simp [World.drewN]
      generalize ((w.alloc (.cells #[.int .i64 (rr : Int), .int .i64 (cc : Int), .slice a n c] 31)).alloc (.cells #[.int .i64 (m : Int), .int .i64 (m : Int), .slice (some ⟨ba, oa, none⟩) n2 c2, .slice b m d] 33)).drewN m1 = wa at XA XF Ba sa ⊢
      refine (specFactor_any (w.heap.size + 1) (m : Int) (m : Int) _ n2 c2 Z2 b m d O _ hn2 hm sa XF (h2.below Ba (Nat.le_refl _)) (h3.below Ba (Nat.le_refl _))).mono ?_
      rw [hf]
      rintro e w2 ⟨rfl, b2⟩
      have B2 := Ba.trans (b2.mono Ba.size)
      have XA2 := XA.below b2 (by omega)
      have XF2 := XF.below b2 sa
      have s2 : w.heap.size + 1 < w2.heap.size := Nat.lt_of_lt_of_le sa b2.size
      obtain ⟨y0, y1, y2⟩ := XA2
      have F2 := h.below B2 (Nat.le_refl _)
      clear b2 XA XF Ba sa hf
      go_wp2_with fail
      go_at_call 57
      refine (l03Most_any w.heap.size a n c Z _ hn HFF.out y2 F2).mono ?_
      rintro e w3 ⟨q1, rfl, hq1, mm1, rfl⟩
      have hpz := mostG_pz (V := vals Z) (n := n) (fun j hj => allFin_lt HFF.out hj)
      rcases pz_zero hpz with ho | ho
      · have HN : Hid (grOk (rr : Int) (cc : Int) n Z m m n2 Z2 m O = false) := Lib.hid ((HK.out _).2 (by rw [ho]; rfl))
        generalize mostG (vals Z) n = GG at hq1 ho
        have h1' := hq1.1
        clear hv
        go_wp2_with fail
        go_ret2
        rw [HN.out]
        exact ⟨_, rfl, pick_no _ rfl, (by repeat first | (with_reducible exact B2) | (with_reducible refine Below.setCell ?_ (by first | exact Nat.le_refl _ | (simp; done) | (simp; omega) | omega) _) | (with_reducible refine Below.alloc ?_ (by first | exact Nat.le_refl _ | (simp; done) | (simp; omega) | omega) _) | (with_reducible refine below_drewN ?_ _) | (with_reducible refine Below.drew ?_))⟩
      · have HY : Hid (grOk (rr : Int) (cc : Int) n Z m m n2 Z2 m O = finite .f32 (grN n Z m n2 Z2)) := Lib.hid ((HK.out _).2 (by rw [ho]; rfl))
        have HQ : Hid (grN n Z m n2 Z2 = fop .quo .f32 (mostG (upV m Z2) n2) (mostG (vals Z) n)) := Lib.hid rfl
        generalize mostG (vals Z) n = GG at hq1 ho HQ
        have h1' := hq1.1
        clear hv
        have XQ : Box (w2.drewN mm1) (w.heap.size + 1) m m (some ⟨ba, oa, none⟩) n2 c2 := ⟨XF2 0 _ rfl, XF2 1 _ rfl, XF2 2 _ rfl⟩
        go_wp2_with fail
        go_at_call 58
        refine (l03Upper_any (w.heap.size + 1) m n2 ba oa c2 Z2 (w2.drewN mm1) h1 h12 hN'.out s2 XQ (FS.drewN (h2.below B2 (Nat.le_refl _)))).mono ?_
        rintro e w4 ⟨g, dd, rfl, o4, b4⟩
        have B4 := (below_drewN B2 mm1).trans (b4.mono (below_drewN B2 mm1).size)
        have s4 : w.heap.size ≤ w4.heap.size := B4.size
        have FU := o4.fs
        clear b4 o4 y0 y1 y2 XF2 XQ F2 s2
        go_wp2_with fail
        go_at_call 57
        refine (l03Most_any w4.heap.size (some ⟨g, 0, none⟩) n2 dd (clearZ m isBe Z2 m 0) _ hn2 hcf (by simp [go_sem]) (FU.below (Below.alloc (Below.refl _ _) (Nat.le_refl _) _) (Nat.le_refl _))).mono ?_
        rintro e w5 ⟨q2, rfl, hq2, m2, rfl⟩
        have hq2' : FV .f32 q2 (mostG (upV m Z2) n2) := hq2
        clear hq2
        go_wp2_with (refine wpList_farith rfl _ _ _ _ _ rfl rfl _ _ _ rfl rfl hq2' hq1 ?_; intro r5 m5 hr5)
        go_at_call 59
        have hr6 : FV .f32 r5 (grN n Z m n2 Z2) := FV.of_eq hr5 HQ.out.symm
        refine (specNumber_any _ hr6 _).mono ?_
        rintro e w6 ⟨r7, rfl, hr7, m7, rfl⟩
        go_wp2_with fail
        go_ret2
        rw [HY.out]
        exact ⟨_, rfl, hr7, (by repeat first | (with_reducible exact B4) | (with_reducible refine Below.setCell ?_ (by first | exact Nat.le_refl _ | (simp; done) | (simp; omega) | omega) _) | (with_reducible refine Below.alloc ?_ (by first | exact Nat.le_refl _ | (simp; done) | (simp; omega) | omega) _) | (with_reducible refine below_drewN ?_ _) | (with_reducible refine Below.drew ?_))⟩
theorem keyFactorGrowth (R C : Int) (n : Nat) (Z : Nat → Nat) (R2 C2 : Int) (n2 : Nat) (Z2 : Nat → Nat) (m : Nat) (O : Nat → Int) (wR : (Lit.int .i64 R).wf = true) (wC : (Lit.int .i64 C).wf = true) (hn : n ≤ 1048576) (wR2 : (Lit.int .i64 R2).wf = true) (wC2 : (Lit.int .i64 C2).wf = true) (hn2 : n2 ≤ 1048576) (hm : m ≤ 1048576) : ∃ (ok : Bool) (X : Option Nat),
    (∀ a c a2 c2 b d W, FS .f32 W a n c Z → FS .f32 W a2 n2 c2 Z2 → IS .i64 W b m d O → Calls Try.prog 22 #[.agg #[.int .i64 R, .int .i64 C, .slice a n c], .agg #[.int .i64 R2, .int .i64 C2, .slice a2 n2 c2, .slice b m d]] W (NumBel ok X W)) ∧
    (∀ a c a2 c2 b d W, FS .f32 W a n c Z → FS .f32 W a2 n2 c2 Z2 → IS .i64 W b m d O → Calls Try.prog 24 #[.agg #[.int .i64 R, .int .i64 C, .slice a n c], .agg #[.int .i64 R2, .int .i64 C2, .slice a2 n2 c2, .slice b m d]] W (NumBel ok X W)) :=
  ⟨_, _, fun a c a2 c2 b d W h h2 h3 => specGrowth_any R C a n c Z R2 C2 a2 n2 c2 Z2 b m d O W hn hn2 hm h h2 h3, fun a c a2 c2 b d W h h2 h3 => implGrowth_any R C a n c Z R2 C2 a2 n2 c2 Z2 b m d O W hn hn2 hm h h2 h3⟩
end Go.Proofs.Ytmddhhmgfhljiaa
