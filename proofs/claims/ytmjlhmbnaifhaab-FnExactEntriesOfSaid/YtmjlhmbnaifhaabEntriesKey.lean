/- Helper: all numbers of a sparse square as entries, of the reference, and of both. Conditions: none. -/
import Derived.Test.YtmjlhmbnaifhaabEntriesImpl
import Derived.Test.YtmjlhmbnaifhaabBuild
import Derived.Deep.RegionLaw
set_option linter.unusedVariables false
set_option linter.unusedSimpArgs false
namespace Go.Proofs.Ytmjlhmbnaifhaab
open Go.RowKit

theorem specEntries_no (S : Int) (a1 a2 a3 : Option Addr) (n1 c1 n2 c2 n3 c3 : Nat) (O K : Nat → Int) (Z : Nat → Nat) (X : Nat → Value) (w : World) (hn1 : n1 ≤ 1048576) (hn2 : n2 ≤ 1048576) (hn3 : n3 ≤ 1048576) (h1 : IS .i64 w a1 n1 c1 O) (h2 : IS .i64 w a2 n2 c2 K) (h3 : FS .f32 w a3 n3 c3 Z) (hno : spB S n1 n2 n3 O K (vals Z) = false) :
    Calls Try.prog 29 #[.agg #[.int .i64 S, .slice a1 n1 c1, .slice a2 n2 c2, .slice a3 n3 c3]] w (EntBel false 0 X w) := by
  have B0 : Below w.heap.size w (w.alloc (.cells #[.int .i64 S, .slice a1 n1 c1, .slice a2 n2 c2, .slice a3 n3 c3] 30)) := (by repeat first | (with_reducible exact Below.refl _ _) | (with_reducible refine Below.setCell ?_ (by first | exact Nat.le_refl _ | (simp; done) | (simp; omega) | omega) _) | (with_reducible refine Below.alloc ?_ (by first | exact Nat.le_refl _ | (simp; done) | (simp; omega) | omega) _) | (with_reducible refine below_drewN ?_ _) | (with_reducible refine Below.drew ?_))
  have X0 : BoxL (w.alloc (.cells #[.int .i64 S, .slice a1 n1 c1, .slice a2 n2 c2, .slice a3 n3 c3] 30)) w.heap.size [.int .i64 S, .slice a1 n1 c1, .slice a2 n2 c2, .slice a3 n3 c3] := BoxL.four (by simp [go_sem]) (by simp [go_sem]) (by simp [go_sem]) (by simp [go_sem])
  have HNO := Lib.hid hno
  clear hno
  go_enter Try.func29, Try.ntmps29
  go_wp2_with fail
  go_at_call 39
  refine (specSp_any _ S a1 a2 a3 n1 c1 n2 c2 n3 c3 O K Z _ hn1 hn2 hn3 (by simp) X0 (h1.below B0 (Nat.le_refl _)) (h2.below B0 (Nat.le_refl _)) (h3.below B0 (Nat.le_refl _))).mono ?_
  rw [HNO.out]
  rintro e w1 ⟨rfl, b1⟩
  have B1 := B0.trans (b1.mono B0.size)
  clear X0
  go_wp2_with fail
  go_ret2
  exact ⟨none, 0, rfl, .inl ⟨rfl, rfl, rfl⟩, B1⟩
set_option maxRecDepth 20000 in
set_option maxHeartbeats 4000000 in
theorem specEntries_any (s n1 n2 b1 o1 c1 c2 c3 : Nat) (a2 a3 : Option Addr) (O K : Nat → Int) (Z : Nat → Nat) (w : World) (hs1 : 1 ≤ s) (hs : s ≤ 32) (hn1 : n1 = s + 1) (hn2 : n2 ≤ 512) (h00 : O 0 = 0) (hOs : O s = (n2 : Int)) (hso : sortB O s = true) (hro : rowsB O K s s = true) (hok : spB s n1 n2 n2 O K (vals Z) = true)
    (h1 : IS .i64 w (some ⟨b1, o1, none⟩) n1 c1 O) (h2 : IS .i64 w a2 n2 c2 K) (h3 : FS .f32 w a3 n2 c3 Z) :
    Calls Try.prog 29 #[.agg #[.int .i64 (s : Int), .slice (some ⟨b1, o1, none⟩) n1 c1, .slice a2 n2 c2, .slice a3 n2 c3]] w (EntBel true n2 (entX (fun t => (rowAt O t s : Int)) K Z) w) := by
  obtain ⟨i0, hi, hz0, hz1, hz2⟩ := info_parts infoEnt
  obtain ⟨FE, hFE⟩ : ∃ FE, FE = flatE (fun t => (rowAt O t s : Int)) K Z := ⟨_, rfl⟩
  have HFE := Lib.hid hFE
  have B0 : Below w.heap.size w (w.alloc (.cells #[.int .i64 (s : Int), .slice (some ⟨b1, o1, none⟩) n1 c1, .slice a2 n2 c2, .slice a3 n2 c3] 30)) := (by repeat first | (with_reducible exact Below.refl _ _) | (with_reducible refine Below.setCell ?_ (by first | exact Nat.le_refl _ | (simp; done) | (simp; omega) | omega) _) | (with_reducible refine Below.alloc ?_ (by first | exact Nat.le_refl _ | (simp; done) | (simp; omega) | omega) _) | (with_reducible refine below_drewN ?_ _) | (with_reducible refine Below.drew ?_))
  have X0 : BoxL (w.alloc (.cells #[.int .i64 (s : Int), .slice (some ⟨b1, o1, none⟩) n1 c1, .slice a2 n2 c2, .slice a3 n2 c3] 30)) w.heap.size [.int .i64 (s : Int), .slice (some ⟨b1, o1, none⟩) n1 c1, .slice a2 n2 c2, .slice a3 n2 c3] := BoxL.four (by simp [go_sem]) (by simp [go_sem]) (by simp [go_sem]) (by simp [go_sem])
  have HR := Lib.hid (fun (i : Nat) (hi : i < s) => sp_row h00 hOs hso hro hi)
  have HSO := Lib.hid hso
  have HN1 := Lib.hid hn1
  have H00 := Lib.hid h00
  have HOS := Lib.hid hOs
  have HOK := Lib.hid hok
  have hn1b : n1 ≤ 1048576 := by omega
  clear h00 hOs hso hro hn1 hok hFE
  go_enter Try.func29, Try.ntmps29
  go_wp2_with fail
  go_at_call 39
  refine (specSp_any _ s _ a2 a3 n1 c1 n2 c2 n2 c3 O K Z _ hn1b (by omega) (by omega) (by simp) X0 (h1.below B0 (Nat.le_refl _)) (h2.below B0 (Nat.le_refl _)) (h3.below B0 (Nat.le_refl _))).mono ?_
  rw [HOK.out]
  rintro e w0 ⟨rfl, b1'⟩
  have B1 := B0.trans (b1'.mono B0.size)
  have X1 := X0.below b1' (by simp)
  have s1 : w.heap.size < w0.heap.size := by have := b1'.size; simp at this; omega
  clear X0 B0 b1'
  go_wp2_with fail
  have hrow0 := World.ownsRow_lit (base := w0.heap.size) (e := 89) (size := 3) w0 #[] 0 (Nat.le_refl _) (Nat.zero_le _) (by simp)
  have X2 : BoxL (w0.alloc (.cells #[] 89)) w.heap.size _ := X1.below ((Below.refl w0.heap.size w0).alloc (Nat.le_refl _) _) s1
  have B2 : Below w.heap.size w (w0.alloc (.cells #[] 89)) := B1.alloc B1.size _
  have s2 : w0.heap.size < (w0.alloc (.cells #[] 89)).heap.size := by simp
  generalize hG : w0.heap.size = G at hrow0 s1 s2 ⊢
  generalize (w0.alloc (.cells #[] 89)) = w1 at hrow0 X2 B2 s2 ⊢
  have HX := Lib.hid X2
  have H0 := Lib.hid hrow0
  clear X1 X2 hrow0 B1 hG
  go_loopw [4, 5] (fun v i wr => ∃ (j q : Nat) (a : Option Addr) (cp : Nat), j ≤ s ∧ i = .int .i64 j ∧ Hid (O j = (q : Int)) ∧ v = .slice a q cp ∧ wr.ownsRow G 89 3 (.slice a q cp) q (FE q) ∧ Below G w1 wr) (fun _ i _ => s - (intOf i).toNat)
  case atStart => exact ⟨0, 0, _, _, Nat.zero_le _, rfl, H00, rfl, by rw [HFE.out]; exact H0.out, Below.refl _ _⟩
  case round =>
    obtain ⟨j, q, a, cp, hj, rfl, hOq, rfl, hrow, hb⟩ := hrel
    clear H0
    have hbw : Below w.heap.size w wr := B2.trans (hb.mono (by omega))
    have XR : BoxL wr w.heap.size [.int .i64 (s : Int), .slice (some ⟨b1, o1, none⟩) n1 c1, .slice a2 n2 c2, .slice a3 n2 c3] := fun i v hv => (hb.cell (p := ⟨w.heap.size, i, none⟩) (by show w.heap.size < G; omega)).trans (HX.out i v hv)
    have y0 := XR 0 _ rfl
    have HB := Lib.hid hb
    have HBW := Lib.hid hbw
    have HROW := Lib.hid hrow
    clear hb hbw hrow
    by_cases hlt : j < s
    · obtain ⟨A, m, hA, hAm, hAn, hcol⟩ := HR.out j hlt
      have hqA : q = A := by have := hOq.out; omega
      subst hqA
      have HRA := Lib.hid (fun (x : Nat) (hx : x < m) => told_at HSO.out hlt hA hAm hx)
      obtain ⟨E, hE⟩ : ∃ E, E = q + m := ⟨_, rfl⟩
      rw [← hE] at hAm
      obtain ⟨j1, hj1⟩ : ∃ j1, j1 = j + 1 := ⟨_, rfl⟩
      have hA1 : O j1 = (E : Int) := by rw [hj1]; exact hAm
      have hjn : j < n1 := by have := HN1.out; omega
      have hj1n : j1 < n1 := by have := HN1.out; omega
      have hsj : IntKind.i64.wrap ((j : Int) + 1) = (j1 : Int) := by
        have e : (j : Int) + 1 = (j1 : Int) := by omega
        rw [e]; exact IntWalk.i64_in _ (by omega)
      obtain ⟨b', off', e, _, hcA, _⟩ := (h1.below HBW.out (Nat.le_refl _)).at hjn
      simp only [Option.some.injEq, Addr.mk.injEq, and_true] at e
      obtain ⟨rfl, rfl⟩ := e
      rw [hA] at hcA
      have y1 := XR 1 _ rfl
      have HE := Lib.hid hE
      have HJ := Lib.hid hj1
      have HA1 := Lib.hid hA1
      have HAM := Lib.hid hAm
      clear hA hAm hA1 hE hj1 hcol XR hOq
      go_wp2
      obtain ⟨wo, hwo⟩ : ∃ wo, wo = wr := ⟨_, rfl⟩
      subst hwo
      go_loopw [4, 6] (fun v i wr2 => ∃ (t : Nat) (a' : Option Addr) (cp' : Nat), t ≤ m ∧ i = .int .i64 ((q + t : Nat) : Int) ∧ v = .slice a' (q + t) cp' ∧ wr2.ownsRow G 89 3 (.slice a' (q + t) cp') (q + t) (FE (q + t)) ∧ Below G w1 wr2) (fun _ i _ => E - (intOf i).toNat)
      case atStart => exact ⟨0, a, cp, Nat.zero_le _, rfl, rfl, HROW.out, HB.out⟩
      case round =>
        obtain ⟨t, a', cp', ht, rfl, rfl, hrow2, hb2⟩ := hrel
        clear y0 y1 hcA HROW HB HBW
        have hbw2 : Below w.heap.size w wr := B2.trans (hb2.mono (by omega))
        have XR2 : BoxL wr w.heap.size [.int .i64 (s : Int), .slice (some ⟨b1, o1, none⟩) n1 c1, .slice a2 n2 c2, .slice a3 n2 c3] := fun i v hv => (hb2.cell (p := ⟨w.heap.size, i, none⟩) (by show w.heap.size < G; omega)).trans (HX.out i v hv)
        have z1 := XR2 1 _ rfl
        have z2 := XR2 2 _ rfl
        have z3 := XR2 3 _ rfl
        obtain ⟨b', off', e, hlb, hcE, _⟩ := (h1.below hbw2 (Nat.le_refl _)).at hj1n
        simp only [Option.some.injEq, Addr.mk.injEq, and_true] at e
        obtain ⟨rfl, rfl⟩ := e
        rw [HA1.out] at hcE
        have HB2 := Lib.hid hb2
        have HBW2 := Lib.hid hbw2
        have hGw : G ≤ wr.heap.size := by have := hb2.size; omega
        clear XR2 hb2 hbw2
        by_cases hlt2 : t < m
        · obtain ⟨kk, hkk⟩ : ∃ kk, kk = q + t := ⟨_, rfl⟩
          rw [← hkk] at hrow2 ⊢
          have hkn : kk < n2 := by have := HE.out; omega
          have hkE : kk < E := by have := HE.out; omega
          obtain ⟨p2, f2, e2, hl2, hck, _⟩ := (h2.below HBW2.out (Nat.le_refl _)).at hkn
          obtain ⟨p3, f3, e3, hl3, hcz, _⟩ := (h3.below HBW2.out (Nat.le_refl _)).at hkn
          subst e2
          subst e3
          have HFL : Hid (FE (kk + 1) = FE kk ++ [.int .i64 (j : Int), .int .i64 (K kk), .float .f32 (Z kk)]) := Lib.hid (by
            have hr : rowAt O kk s = j := by rw [hkk]; exact HRA.out t hlt2
            rw [HFE.out, ← hr]; rfl)
          have hd1 : decide ((kk : Int) < (E : Int)) = true := decide_eq_true (by omega)
          have hd2 : decide (kk < E) = true := decide_eq_true hkE
          have HKK := Lib.hid hkk
          generalize K kk = kq at hck HFL
          generalize Z kk = zq at hcz HFL
          clear hkk
          go_wp2
          go_region_law (first
            | (refine step_append_lies _ (by rfl) _ _ _ (by rfl) G 89 i0 (.agg #[.int .i64 0, .int .i64 0, .float .f32 0]) 3 24 Try.underlying50 hi hz0 hz1 hz2 rfl (by omega) (.slice a' kk cp') kk _ (by rfl) (by exact ownsRow_below hrow2 (by repeat first | (with_reducible exact Below.refl _ _) | (with_reducible refine Below.setCell ?_ (by first | exact Nat.le_refl _ | (simp; done) | (simp; omega) | omega) _) | (with_reducible refine Below.alloc ?_ (by first | exact Nat.le_refl _ | (simp; done) | (simp; omega) | omega) _) | (with_reducible refine below_drewN ?_ _) | (with_reducible refine Below.drew ?_))) ⟨wr.heap.size, 0, none⟩ 1 1 [.int .i64 (j : Int), .int .i64 kq, .float .f32 zq] (by rfl) (by rfl)
                (by exact World.news_of_block (cs := #[.int .i64 (j : Int), .int .i64 kq, .float .f32 zq]) (t := 89) (fr := (0, 0)) (heap_alloc_new _ _)) (by simp [Value.oneCell']) (by omega) (by unfold maxLen; omega) (by omega) (by simp [World.drew]; omega) (wr.heap.size + 1) (by simp [World.drew]) ?_
               intro gg cp2 w5 hown5 hgrow5 hat5 hlt5))
          all_goals
            have HB5 : Hid (Below G w1 w5) := Lib.hid (by
              refine Below.grown ?_ hgrow5 ?_ (fun g hg => (hrow2.lt g hg).1)
              · exact (by repeat first | (with_reducible exact HB2.out) | (with_reducible refine Below.setCell ?_ (by first | exact Nat.le_refl _ | (simp; done) | (simp; omega) | omega) _) | (with_reducible refine Below.alloc ?_ (by first | exact Nat.le_refl _ | (simp; done) | (simp; omega) | omega) _) | (with_reducible refine below_drewN ?_ _) | (with_reducible refine Below.drew ?_))
              · simp [World.drew]; omega)
            rw [← HFL.out] at hown5
            have HR5 := Lib.hid hown5
            clear hown5 hgrow5 hat5 hlt5 hsj hrow2
            have hs2 : IntKind.i64.wrap ((kk : Int) + 1) = ((kk + 1 : Nat) : Int) := by
              rw [← Int.natCast_succ]; exact IntWalk.i64_in _ (by omega)
            go_wp2
            go_roundw
            case rel => exact ⟨t + 1, _, _, by omega, by rw [← Nat.add_assoc, ← HKK.out]; go_num, by rw [← Nat.add_assoc, ← HKK.out], by rw [← Nat.add_assoc, ← HKK.out]; exact HR5.out, HB5.out⟩
            case measure => simp [intOf]; omega
        · obtain rfl : t = m := by omega
          have hkE : q + t = E := HE.out.symm
          rw [hkE] at hrow2 ⊢
          have hd1 : decide ((E : Int) < (E : Int)) = false := decide_eq_false (by omega)
          have HR2 := Lib.hid hrow2
          have HEE : Hid (O (j + 1) = (E : Int)) := HAM
          clear hkE hrow2
          go_wp2
          clear hsj
          go_wp2
          go_roundw
          case rel => exact ⟨j + 1, E, _, _, by omega, by rw [HJ.out], HEE, rfl, HR2.out, HB2.out⟩
          case measure => have := HJ.out; simp [intOf]; omega
    · obtain rfl : j = s := by omega
      have hqn : q = n2 := by have := hOq.out; have := HOS.out; omega
      subst hqn
      clear XR
      go_wp2
      go_ret2
      have hrow := HROW.out
      rw [HFE.out] at hrow
      obtain ⟨a4, c4, e4, hE4⟩ := ownE_of hrow
      simp only [Value.slice.injEq, true_and] at e4
      obtain ⟨rfl, rfl⟩ := e4
      exact ⟨_, _, rfl, hE4.mono (by omega) (Nat.le_refl _) (Nat.le_refl _), HBW.out⟩
theorem keyEntriesOf (S : Int) (n1 : Nat) (O : Nat → Int) (n2 : Nat) (K : Nat → Int) (n3 : Nat) (Z : Nat → Nat) (wS : (Lit.int .i64 S).wf = true) (hn1 : n1 ≤ 1048576) (hn2 : n2 ≤ 1048576) (hn3 : n3 ≤ 1048576) : ∃ (ok : Bool) (n : Nat) (R : Nat → Int), n ≤ 1024 ∧ n ≤ n3 ∧
    (∀ a1 c1 a2 c2 a3 c3 W, IS .i64 W a1 n1 c1 O → IS .i64 W a2 n2 c2 K → FS .f32 W a3 n3 c3 Z → Calls Try.prog 29 #[.agg #[.int .i64 S, .slice a1 n1 c1, .slice a2 n2 c2, .slice a3 n3 c3]] W (EntBel ok n (entX R K Z) W)) ∧
    (∀ a1 c1 a2 c2 a3 c3 W, IS .i64 W a1 n1 c1 O → IS .i64 W a2 n2 c2 K → FS .f32 W a3 n3 c3 Z → Calls Try.prog 30 #[.agg #[.int .i64 S, .slice a1 n1 c1, .slice a2 n2 c2, .slice a3 n3 c3]] W (EntBel ok n (entX R K Z) W)) := by
  cases hh : spB S n1 n2 n3 O K (vals Z) with
  | false => exact ⟨false, 0, fun _ => 0, Nat.zero_le _, Nat.zero_le _, fun a1 c1 a2 c2 a3 c3 W h1 h2 h3 => specEntries_no S a1 a2 a3 n1 c1 n2 c2 n3 c3 O K Z _ W hn1 hn2 hn3 h1 h2 h3 hh, fun a1 c1 a2 c2 a3 c3 W h1 h2 h3 => implEntries_no S a1 a2 a3 n1 c1 n2 c2 n3 c3 O K Z _ W hn1 hn2 hn3 h1 h2 h3 hh⟩
  | true =>
    obtain ⟨s, rfl, q1, q2, q3, q4, rfl, _, q7, q8, q9, q10⟩ := sp_nat hh
    refine ⟨true, n3, fun t => (rowAt O t s : Int), by omega, Nat.le_refl _, fun a1 c1 a2 c2 a3 c3 W h1 h2 h3 => ?_, fun a1 c1 a2 c2 a3 c3 W h1 h2 h3 => ?_⟩
    · obtain ⟨b1, o1, rfl, _⟩ := h1.at (show 0 < n1 by omega)
      exact specEntries_any s n1 n3 b1 o1 c1 c2 c3 a2 a3 O K Z W q1 q2 q3 q4 q7 q8 q9 q10 hh h1 h2 h3
    · obtain ⟨b1, o1, rfl, _⟩ := h1.at (show 0 < n1 by omega)
      exact implEntries_any s n1 n3 b1 o1 c1 c2 c3 a2 a3 O K Z W q1 q2 q3 q4 q7 q8 q9 q10 hh h1 h2 h3
end Go.Proofs.Ytmjlhmbnaifhaab
