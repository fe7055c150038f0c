/- Helper: how far from the middle a sparse square tells numbers, of the reference. Conditions: none. -/
import Derived.Test.YtmjlhmbnaifhaabToldIter
set_option linter.unusedVariables false
set_option linter.unusedSimpArgs false
namespace Go.Proofs.Ytmjlhmbnaifhaab
open Go.RowKit

/-- How far from the middle the first numbers are. -/
def bandV (O K : Nat → Int) (s : Nat) : Nat → Int
  | 0 => 0
  | t + 1 => max (bandV O K s t) (max ((rowAt O t s : Int) - K t) (K t - (rowAt O t s : Int)))
theorem bandV_in {O K : Nat → Int} {s n : Nat} (h : ∀ t, t < n → 0 ≤ K t ∧ K t ≤ 32) (hr : ∀ t, t < n → rowAt O t s ≤ 32) : ∀ {t : Nat}, t ≤ n → 0 ≤ bandV O K s t ∧ bandV O K s t ≤ 32
  | 0, _ => ⟨Int.le_refl _, by show (0 : Int) ≤ 32; omega⟩
  | t + 1, ht => by
    have h1 := bandV_in h hr (t := t) (by omega)
    have h2 := h t (by omega)
    have h3 := hr t (by omega)
    show 0 ≤ max _ _ ∧ max _ _ ≤ 32
    omega
theorem l00Max_any (a b : Int) (w : World) : Calls Try.prog 56 #[.int .i64 a, .int .i64 b] w fun e w' => e = .returned (.int .i64 (max a b)) ∧ w = w' := by
  by_cases h : b < a
  · have hd : decide (b < a) = true := decide_eq_true h
    have hm : max a b = a := by omega
    have hd2 : decide (a > b) = true := decide_eq_true h
    rw [hm]
    go_enter Try.func56, Try.ntmps56
    go_wp2
    go_ret
    exact ⟨rfl, rfl⟩
  · have hd : decide (b < a) = false := decide_eq_false h
    have hm : max a b = b := by omega
    have hd2 : decide (a > b) = false := decide_eq_false h
    rw [hm]
    go_enter Try.func56, Try.ntmps56
    go_wp2
    go_ret
    exact ⟨rfl, rfl⟩
set_option maxRecDepth 20000 in
set_option maxHeartbeats 4000000 in
theorem l05Band_any (s n1 n2 b1 o1 c1 c2 c3 : Nat) (a2 a3 : Option Addr) (O K : Nat → Int) (Z : Nat → Nat) (w : World) (hs1 : 1 ≤ s) (hs : s ≤ 32) (hn1 : n1 = s + 1) (hn2 : n2 ≤ 512) (h00 : O 0 = 0) (hOs : O s = (n2 : Int)) (hso : sortB O s = true) (hro : rowsB O K s s = true) (hok : spB s n1 n2 n2 O K (vals Z) = true)
    (h1 : IS .i64 w (some ⟨b1, o1, none⟩) n1 c1 O) (h2 : IS .i64 w a2 n2 c2 K) (h3 : FS .f32 w a3 n2 c3 Z) :
    Calls Try.prog 27 #[.agg #[.int .i64 (s : Int), .slice (some ⟨b1, o1, none⟩) n1 c1, .slice a2 n2 c2, .slice a3 n2 c3]] w (fun e w' => e = .returned (.tuple #[.int .i64 (bandV O K s n2), .bool true]) ∧ Below w.heap.size w w') := by
  have B0 : Below w.heap.size w (w.alloc (.cells #[.int .i64 (s : Int), .slice (some ⟨b1, o1, none⟩) n1 c1, .slice a2 n2 c2, .slice a3 n2 c3] 30)) := (by repeat first | (with_reducible exact Below.refl _ _) | (with_reducible refine Below.setCell ?_ (by first | exact Nat.le_refl _ | (simp; done) | (simp; omega) | omega) _) | (with_reducible refine Below.alloc ?_ (by first | exact Nat.le_refl _ | (simp; done) | (simp; omega) | omega) _) | (with_reducible refine below_drewN ?_ _) | (with_reducible refine Below.drew ?_))
  have X0 : BoxL (w.alloc (.cells #[.int .i64 (s : Int), .slice (some ⟨b1, o1, none⟩) n1 c1, .slice a2 n2 c2, .slice a3 n2 c3] 30)) w.heap.size [.int .i64 (s : Int), .slice (some ⟨b1, o1, none⟩) n1 c1, .slice a2 n2 c2, .slice a3 n2 c3] := BoxL.four (by simp [go_sem]) (by simp [go_sem]) (by simp [go_sem]) (by simp [go_sem])
  have HR := Lib.hid (fun (i : Nat) (hi : i < s) => sp_row h00 hOs hso hro hi)
  have HSO := Lib.hid hso
  have HN1 := Lib.hid hn1
  have H00 := Lib.hid h00
  have HOS := Lib.hid hOs
  have HOK := Lib.hid hok
  have hn1b : n1 ≤ 1048576 := by omega
  clear h00 hOs hso hro hn1 hok
  go_enter Try.func27, Try.ntmps27
  go_wp2_with fail
  go_at_call 39
  refine (specSp_any _ s _ a2 a3 n1 c1 n2 c2 n2 c3 O K Z _ hn1b (by omega) (by omega) (by simp) X0 (h1.below B0 (Nat.le_refl _)) (h2.below B0 (Nat.le_refl _)) (h3.below B0 (Nat.le_refl _))).mono ?_
  rw [HOK.out]
  rintro e w1 ⟨rfl, b1'⟩
  have B1 := B0.trans (b1'.mono B0.size)
  have X1 := X0.below b1' (by simp)
  have s1 : w.heap.size < w1.heap.size := by have := b1'.size; simp at this; omega
  have HX := Lib.hid X1
  have x0 := X1 0 _ rfl
  clear X0 B0 b1' X1
  go_wp2
  go_loopw [4, 5] (fun v i wr => ∃ (j : Nat), j ≤ s ∧ i = .int .i64 j ∧ v = .int .i64 (bandV O K s (O j).toNat) ∧ Below w1.heap.size w1 wr) (fun _ i _ => s - (intOf i).toNat)
  case atStart => exact ⟨0, Nat.zero_le _, rfl, by rw [H00.out]; rfl, Below.refl _ _⟩
  case round =>
    obtain ⟨j, hj, rfl, rfl, hb⟩ := hrel
    clear x0
    have XR := HX.out.below hb s1
    have y0 := XR 0 _ rfl
    have HB := Lib.hid hb
    by_cases hlt : j < s
    · obtain ⟨A, m, hA, hAm, hAn, hcol⟩ := HR.out j hlt
      have HRA := Lib.hid (fun (x : Nat) (hx : x < m) => told_at HSO.out hlt hA hAm hx)
      have HC := Lib.hid (fun (t : Nat) (ht : t < m) => col_in (K := fun t => K (A + t)) hcol ht)
      obtain ⟨E, hE⟩ : ∃ E, E = A + m := ⟨_, rfl⟩
      rw [← hE] at hAm
      obtain ⟨j1, hj1⟩ : ∃ j1, j1 = j + 1 := ⟨_, rfl⟩
      have hA1 : O j1 = (E : Int) := by rw [hj1]; exact hAm
      have hjn : j < n1 := by have := HN1.out; omega
      have hj1n : j1 < n1 := by have := HN1.out; omega
      have hsj : IntKind.i64.wrap ((j : Int) + 1) = (j1 : Int) := by
        have e : (j : Int) + 1 = (j1 : Int) := by omega
        rw [e]; exact IntWalk.i64_in _ (by omega)
      have BR := B1.trans (hb.mono B1.size)
      have F1 := h1.below BR (Nat.le_refl _)
      obtain ⟨b', off', e, _, hcA, _⟩ := F1.at hjn
      simp only [Option.some.injEq, Addr.mk.injEq, and_true] at e
      obtain ⟨rfl, rfl⟩ := e
      obtain ⟨b', off', e, _, hcE, _⟩ := F1.at hj1n
      simp only [Option.some.injEq, Addr.mk.injEq, and_true] at e
      obtain ⟨rfl, rfl⟩ := e
      rw [hA] at hcA
      rw [hA1] at hcE
      have y1 := XR 1 _ rfl
      have y2 := XR 2 _ rfl
      have hpw : w.heap.size < wr.heap.size := Nat.lt_of_lt_of_le s1 hb.size
      have hlb : b1 < wr.heap.size := by obtain ⟨_, _, e, hl, _⟩ := F1.at hjn; simp only [Option.some.injEq, Addr.mk.injEq, and_true] at e; obtain ⟨rfl, rfl⟩ := e; exact hl
      have HE := Lib.hid hE
      have HJ := Lib.hid hj1
      have HA := Lib.hid hA
      have HAM := Lib.hid hAm
      have F2 := Lib.hid (h2.below BR (Nat.le_refl _))
      rw [hA, Int.toNat_natCast]
      clear hA hAm hA1 hE hj1 hcol F1 XR hb BR
      go_wp2
      obtain ⟨wo, hwo⟩ : ∃ wo, wo = wr := ⟨_, rfl⟩
      subst hwo
      go_loopw [4, 6] (fun v i wr2 => ∃ (t : Nat), t ≤ m ∧ i = .int .i64 ((A + t : Nat) : Int) ∧ v = .int .i64 (bandV O K s (A + t)) ∧ Below wo.heap.size wo wr2) (fun _ i _ => E - (intOf i).toNat)
      case atStart => exact ⟨0, Nat.zero_le _, rfl, rfl, Below.refl _ _⟩
      case round =>
        obtain ⟨t, ht, rfl, rfl, Br2⟩ := hrel
        have HW2 := Lib.hid Br2
        have z0 := (Br2.cell (p := ⟨w.heap.size, 0, none⟩) hpw).trans y0
        have z1 := (Br2.cell (p := ⟨w.heap.size, 1, none⟩) hpw).trans y1
        have z2 := (Br2.cell (p := ⟨w.heap.size, 2, none⟩) hpw).trans y2
        have zE := (Br2.cell (p := ⟨b1, o1 + j1, none⟩) hlb).trans hcE
        have G2 := F2.out.below Br2 (Nat.le_refl _)
        clear y0 y1 y2 hcA hcE Br2
        by_cases hlt2 : t < m
        · obtain ⟨kk, hkk⟩ : ∃ kk, kk = A + t := ⟨_, rfl⟩
          rw [← hkk]
          have hkn : kk < n2 := by have := HE.out; omega
          have hkE : kk < E := by have := HE.out; omega
          obtain ⟨p2, f2, rfl, hl2, hck, _⟩ := G2.at hkn
          obtain ⟨k1, k2⟩ := HC.out t hlt2
          simp only [← hkk] at k1 k2
          have hrow : rowAt O kk s = j := by rw [hkk]; exact HRA.out t hlt2
          have HN : Hid (bandV O K s (kk + 1) = max (bandV O K s kk) (max ((j : Int) - K kk) (K kk - (j : Int)))) := Lib.hid (by
            show max (bandV O K s kk) (max ((rowAt O kk s : Int) - K kk) (K kk - (rowAt O kk s : Int))) = _
            rw [hrow])
          have hd1 : decide ((kk : Int) < (E : Int)) = true := decide_eq_true (by omega)
          have hd2 : decide (kk < E) = true := decide_eq_true hkE
          have HKK := Lib.hid hkk
          generalize K kk = kq at hck k1 k2 HN
          generalize bandV O K s kk = bv at HN
          clear hrow hkk
          have m1 : ∀ k, Calls Try.prog 56 #[.int .i64 ((j : Int) - kq), .int .i64 (kq - (j : Int))] (wr.drewN k) (fun e w' => e = .returned (.int .i64 (max ((j : Int) - kq) (kq - (j : Int)))) ∧ ∃ q, w' = (wr.drewN k).drewN q) := fun k => (l00Max_any _ _ _).mono fun e w' hh => ⟨hh.1, 0, hh.2.symm⟩
          have m2 : ∀ k, Calls Try.prog 56 #[.int .i64 bv, .int .i64 (max ((j : Int) - kq) (kq - (j : Int)))] (wr.drewN k) (fun e w' => e = .returned (.int .i64 (max bv (max ((j : Int) - kq) (kq - (j : Int))))) ∧ ∃ q, w' = (wr.drewN k).drewN q) := fun k => (l00Max_any _ _ _).mono fun e w' hh => ⟨hh.1, 0, hh.2.symm⟩
          have hw1 : IntKind.i64.wrap ((j : Int) - kq) = (j : Int) - kq := IntWalk.i64_in _ (by omega)
          have hw2 : IntKind.i64.wrap (kq - (j : Int)) = kq - (j : Int) := IntWalk.i64_in _ (by omega)
          go_wp2
          go_quiet (first | (go_at_call 56; with_reducible exact Calls.quiet_of (m1 _)) | (go_at_call 56; with_reducible exact Calls.quiet_of (m2 _)))
          clear hw1 hw2 m1 m2 hsj
          go_wp2
          go_roundw
          case rel => exact ⟨t + 1, by omega, by rw [HKK.out]; go_num, by rw [← Nat.add_assoc, ← HKK.out, HN.out], below_drewN HW2.out _⟩
          case measure => simp [intOf]; omega
        · obtain rfl : t = m := by omega
          have hkE : A + t = E := HE.out.symm
          rw [hkE]
          have hd1 : decide ((E : Int) < (E : Int)) = false := decide_eq_false (by omega)
          have HEE : Hid ((O (j + 1)).toNat = E) := Lib.hid (by rw [HAM.out, Int.toNat_natCast])
          clear hkE
          go_wp2
          clear hsj
          go_wp2
          go_roundw
          case rel => exact ⟨j + 1, by omega, by rw [HJ.out], by rw [HEE.out], HB.out.trans (HW2.out.mono HB.out.size)⟩
          case measure => have := HJ.out; simp [intOf]; omega
    · obtain rfl : j = s := by omega
      have BR := Lib.hid (B1.trans (hb.mono B1.size))
      rw [HOS.out, Int.toNat_natCast]
      clear hb
      go_wp2
      go_ret2
      exact ⟨rfl, BR.out⟩
end Go.Proofs.Ytmjlhmbnaifhaab
