/- Helper: the products of rows with rows, of the program. Conditions: none. -/
import Derived.Test.YtinekdfpgkmbnabTabGrow
import Derived.Test.YtinekdfpgkmbnabMulAt
set_option linter.unusedVariables false
set_option linter.unusedSimpArgs false
namespace Go.Proofs.Ytinekdfpgkmbnab
open Go.RowKit

set_option maxHeartbeats 1000000 in
theorem productOf_any (b1 o1 c1 b2 o2 c2 L : Nat) (F G : Nat → Int) (w : World) (hL : L ≤ 6) (h1 : IS .i64 w (some ⟨b1, o1, none⟩) L c1 F) (h2 : IS .i64 w (some ⟨b2, o2, none⟩) L c2 G) (hFG : ∀ j, j < L → (F j * G j).natAbs ≤ 1000000000000) :
    Calls Try.prog 68 #[.slice (some ⟨b1, o1, none⟩) L c1, .slice (some ⟨b2, o2, none⟩) L c2] w fun e w' => e = .returned (.int .i64 (dotI F G L)) ∧ ∃ m, w' = w.drewN m := by
  have hm1 : c1 ≤ 9223372036854775807 := by have := h1.2.1; unfold maxLen at this; omega
  have hm2 : c2 ≤ 9223372036854775807 := by have := h2.2.1; unfold maxLen at this; omega
  have hD := Lib.hid (dotI_abs hFG)
  have HFG := Lib.hid hFG
  have H1 := Lib.hid h1
  have H2 := Lib.hid h2
  clear h1 h2 hFG
  go_enter Try.func68, Try.ntmps68
  go_wp2
  go_loopw [5, 10] (fun s i wr => ∃ p m : Nat, p ≤ L ∧ i = .int .i64 p ∧ s = .int .i64 (dotI F G p) ∧ Hid (wr = w.drewN m)) (fun _ i _ => L - (intOf i).toNat)
  case atStart => exact ⟨0, 0, Nat.zero_le _, rfl, rfl, Lib.hid rfl⟩
  case round =>
    obtain ⟨p, m, hp, rfl, rfl, hw'⟩ := hrel
    by_cases hlt : p < L
    · obtain ⟨b', off', e, hbl1, hc1, _⟩ := (show IS .i64 wr _ L c1 F from by rw [hw'.out]; exact H1.out.below (by repeat first | (with_reducible exact Below.refl _ _) | (with_reducible refine Below.setCell ?_ (by first | exact Nat.le_refl _ | (simp; done) | (simp; omega) | omega) _) | (with_reducible refine Below.alloc ?_ (by first | exact Nat.le_refl _ | (simp; done) | (simp; omega) | omega) _) | (with_reducible refine below_drewN ?_ _) | (with_reducible refine Below.drew ?_)) (Nat.le_refl _)).at hlt
      simp only [Option.some.injEq, Addr.mk.injEq, and_true] at e
      obtain ⟨rfl, rfl⟩ := e
      obtain ⟨b', off', e, hbl2, hc2, _⟩ := (show IS .i64 wr _ L c2 G from by rw [hw'.out]; exact H2.out.below (by repeat first | (with_reducible exact Below.refl _ _) | (with_reducible refine Below.setCell ?_ (by first | exact Nat.le_refl _ | (simp; done) | (simp; omega) | omega) _) | (with_reducible refine Below.alloc ?_ (by first | exact Nat.le_refl _ | (simp; done) | (simp; omega) | omega) _) | (with_reducible refine below_drewN ?_ _) | (with_reducible refine Below.drew ?_)) (Nat.le_refl _)).at hlt
      simp only [Option.some.injEq, Addr.mk.injEq, and_true] at e
      obtain ⟨rfl, rfl⟩ := e
      have hb1 := hD.out p hp
      have hb2 := hD.out (p + 1) hlt
      have hb3 := HFG.out p hlt
      have hnx : Hid (dotI F G (p + 1) = dotI F G p + F p * G p) := Lib.hid rfl
      rw [hnx.out] at hb2
      have hc6 : p * 1000000000000 ≤ 6 * 1000000000000 := Nat.mul_le_mul_right _ (by omega)
      have hc7 : (p + 1) * 1000000000000 ≤ 6 * 1000000000000 := Nat.mul_le_mul_right _ (by omega)
      generalize dotI F G p = S at *
      generalize F p = z at *
      generalize G p = y at *
      generalize hzy : z * y = zy at *
      have hw1 : IntKind.i64.wrap (z * y) = zy := by rw [hzy]; exact IntWalk.i64_in _ (by omega)
      have hw2 : IntKind.i64.wrap (S + zy) = S + zy := IntWalk.i64_in _ (by omega)
      clear hzy hbl1 hbl2
      go_wp2
      go_roundw
      case rel => exact ⟨p + 1, m, by omega, by go_num, by rw [hnx.out], hw'⟩
      case measure => simp [intOf]; omega
    · obtain rfl : p = L := by omega
      go_wp2
      go_ret
      exact ⟨rfl, _, hw'.out⟩
def lenTo (n j q i : Nat) : Nat := if i < j then n else if i = j then q else 0
theorem lenTo_at (n j q : Nat) : lenTo n j q j = q := by unfold lenTo; rw [if_neg (by omega), if_pos rfl]
theorem lenTo_step (n j q i : Nat) : upd (lenTo n j q) j (q + 1) i = lenTo n j (q + 1) i := by
  by_cases e : i = j
  · subst e
    rw [upd_same, lenTo_at]
  · rw [upd_other _ _ e]
    unfold lenTo
    by_cases h : i < j
    · rw [if_pos h, if_pos h]
    · rw [if_neg h, if_neg h, if_neg e, if_neg e]
theorem lenTo_next (n j i : Nat) : lenTo n j n i = lenTo n (j + 1) 0 i := by
  unfold lenTo
  by_cases h : i < j
  · rw [if_pos h, if_pos (by omega)]
  · by_cases e : i = j
    · rw [if_neg h, if_pos e, if_pos (by omega)]
    · rw [if_neg h, if_neg e, if_neg (by omega)]; simp
set_option maxRecDepth 20000 in
set_option maxHeartbeats 4000000 in
theorem productsOf_any (b1 o1 n1 c1 b2 o2 n2 c2 L : Nat) (Y1 Y2 : Nat → Nat → Int) (w : World) (hn1 : 1 ≤ n1) (hn6 : n1 ≤ 6) (hm1 : 1 ≤ n2) (hm6 : n2 ≤ 6) (hL1 : 1 ≤ L) (hL : L ≤ 6)
    (h1 : RS w (some ⟨b1, o1, none⟩) n1 c1 L Y1) (h2 : RS w (some ⟨b2, o2, none⟩) n2 c2 L Y2) (hFG : ∀ i, i < n1 → ∀ k, k < n2 → ∀ j, j < L → (Y1 i j * Y2 k j).natAbs ≤ 1000000000000) :
    Calls Try.prog 47 #[.slice (some ⟨b1, o1, none⟩) n1 c1, .slice (some ⟨b2, o2, none⟩) n2 c2] w (RowsNew w n1 n2 (fun i k => dotI (Y1 i) (Y2 k) L)) := by
  obtain ⟨j0, gi, gz0, gz1, gz2⟩ := info_parts infoRow
  obtain ⟨i0, hi, hz0, hz1, hz2⟩ := info_parts info64
  have hx1 : c1 ≤ 9223372036854775807 := by have := h1.2.1; unfold maxLen at this; omega
  have hx2 : c2 ≤ 9223372036854775807 := by have := h2.2.1; unfold maxLen at this; omega
  have HFG := Lib.hid hFG
  have H1 := Lib.hid h1
  have H2 := Lib.hid h2
  clear h1 h2 hFG
  obtain ⟨DD, hDD⟩ : ∃ DD, DD = fun i k => dotI (Y1 i) (Y2 k) L := ⟨_, rfl⟩
  rw [← hDD]
  have HD := Lib.hid hDD
  clear hDD
  go_enter Try.func47, Try.ntmps47
  go_wp2_with (at_make; refine wpList_make_full _ rfl _ _ 53 rfl w.heap.size 22 j0 (.slice none 0 0) 1 Try.underlying53 gi gz0 gz1 _ _ _ _ n1 rfl rfl rfl rfl ?b2 ?b3 (Nat.le_refl _) ?_)
  case b2 => rw [gz2]; omega
  case b3 => unfold maxLen; omega
  intro w0 hown0 hgrow0
  have b0 := grew_below hgrow0
  have tab0 := Lib.hid (Tab.start hown0 b0 DD)
  clear hown0 hgrow0 b0
  go_wp2
  go_loopw [15] (fun i wr => ∃ (j : Nat) (V : Nat → Value), j ≤ n1 ∧ i = .int .i64 j ∧ Tab w w.heap.size n1 (lenTo n2 j 0) DD V wr) (fun i _ => n1 - (intOf i).toNat)
  case atStart => exact ⟨0, _, Nat.zero_le _, rfl, tab0.out.same (fun i hi => by unfold lenTo; rw [if_neg (by omega)]; simp) (fun i hi j hj => rfl)⟩
  case round =>
    obtain ⟨j, V, hj, rfl, hk⟩ := hrel
    by_cases hlt : j < n1
    · obtain ⟨b', off', ra, rc, e, hbl, hrow0, hR1⟩ := H1.out.2.2 j hlt
      simp only [Option.some.injEq, Addr.mk.injEq, and_true] at e
      obtain ⟨rfl, rfl⟩ := e
      obtain ⟨p1, f1, rfl, _⟩ := hR1.at (show 0 < L by omega)
      have hrow : wr.cell? ⟨b1, o1 + j, none⟩ = some (.slice (some ⟨p1, f1, none⟩) L rc) := (hk.bel.cell (p := ⟨b1, o1 + j, none⟩) hbl).trans hrow0
      have HR1 := Lib.hid hR1
      have HK0 := Lib.hid hk
      clear hk hbl hR1 hrow0
      go_wp2
      go_loopw [22] (fun i wr => ∃ (q : Nat) (V : Nat → Value), q ≤ n2 ∧ i = .int .i64 q ∧ Tab w w.heap.size n1 (lenTo n2 j q) DD V wr) (fun i _ => n2 - (intOf i).toNat)
      case atStart => exact ⟨0, V, Nat.zero_le _, rfl, HK0.out⟩
      case round =>
        obtain ⟨q, V', hq, rfl, hk2⟩ := hrel
        clear hrow
        by_cases hlt2 : q < n2
        · obtain ⟨b', off', sa, sc, e, hbl, hrow2, hR2⟩ := (H2.out.below hk2.bel).2.2 q hlt2
          simp only [Option.some.injEq, Addr.mk.injEq, and_true] at e
          obtain ⟨rfl, rfl⟩ := e
          obtain ⟨p2, f2, rfl, _⟩ := hR2.at (show 0 < L by omega)
          have hR1' := HR1.out.below hk2.bel (Nat.le_refl _)
          have hP : ∀ W, Below wr.heap.size wr W → Calls Try.prog 68 #[.slice (some ⟨p1, f1, none⟩) L rc, .slice (some ⟨p2, f2, none⟩) L sc] W fun e w' => e = .returned (.int .i64 (DD j q)) ∧ ∃ m, w' = W.drewN m := fun W hW => by
            rw [HD.out]
            exact productOf_any p1 f1 rc p2 f2 sc L _ _ W hL (hR1'.below hW (Nat.le_refl _)) (hR2.below hW (Nat.le_refl _)) (HFG.out j hlt q hlt2)
          have hwf : (Lit.int .i64 (DD j q)).wf = true := by
            rw [HD.out]
            refine Go.WalkArith.wf_i64 ?_
            have := dotI_abs (F := Y1 j) (G := Y2 q) (HFG.out j hlt q hlt2) L (Nat.le_refl _)
            have hc6 : L * 1000000000000 ≤ 6 * 1000000000000 := Nat.mul_le_mul_right _ hL
            show _ ∧ _
            dsimp only
            omega
          have hcell := hk2.cell j hlt
          have hown0 := hk2.own j hlt
          rw [lenTo_at] at hown0
          have hown := Lib.hid hown0
          have htop := hk2.top
          have hfrz := hk2.froz j
          have hbs := hk2.bel.size
          have HK := Lib.hid hk2
          have HWF := Lib.hid hwf
          generalize hYe : DD j q = x at hP HWF
          have HYE := Lib.hid hYe
          generalize hvq : V' j = vq at hcell hown
          have HVQ := Lib.hid hvq
          clear hvq hk2 hown0 hYe hbl hR2 hR1' hwf
          have hal : ∀ m o, ((wr.drewN m).alloc o).cell? ⟨w.heap.size, j, none⟩ = some vq := fun m o => (World.cell?_alloc_lt (wr.drewN m) o ⟨w.heap.size, j, none⟩ (by exact htop)).trans hcell
          go_wp2
          go_region_law (first
            | (go_simp; go_at_call 68; refine (hP _ (by repeat first | (with_reducible exact Below.refl _ _) | (with_reducible refine Below.setCell ?_ (by first | exact Nat.le_refl _ | (simp; done) | (simp; omega) | omega) _) | (with_reducible refine Below.alloc ?_ (by first | exact Nat.le_refl _ | (simp; done) | (simp; omega) | omega) _) | (with_reducible refine below_drewN ?_ _) | (with_reducible refine Below.drew ?_))).mono ?_; rintro e w' ⟨rfl, mA, rfl⟩; dsimp only)
            | (refine step_append_lies _ (by rfl) _ _ _ (by rfl) w.heap.size 2 i0 _ 1 8 Try.underlying22 hi hz0 hz1 hz2 rfl (by omega) vq q (cellsOfI (DD j) q) (by rfl) (by exact ownsRow_belowT hown.out (by repeat first | (with_reducible exact Below.refl _ _) | (with_reducible refine Below.setCell ?_ (by first | exact Nat.le_refl _ | (simp; done) | (simp; omega) | omega) _) | (with_reducible refine Below.alloc ?_ (by first | exact Nat.le_refl _ | (simp; done) | (simp; omega) | omega) _) | (with_reducible refine below_drewN ?_ _) | (with_reducible refine Below.drew ?_))) ⟨wr.heap.size, 0, none⟩ 1 1 [.int .i64 x] (by rfl) (by rfl)
                (by exact World.news_of_block (cs := #[.int .i64 x]) (t := 2) (fr := (0, 0)) (heap_alloc_new _ _)) (by simp [Value.oneCell']) (by omega) (by unfold maxLen; omega) (by omega) (by simp [World.drew]; omega) (wr.heap.size + 1) (by simp [World.drew]) ?_
               intro gg cp2 w6 hown2 hgrow2 hat2 hlt3
               have hgv : ∀ {A : World}, A.grownBy w6 vq.ownBlock → A.grownBy w6 (V' j).ownBlock := fun h => by rw [HVQ.out]; exact h
               have hgr := HK.out.grow (k := j) (x := x) (gg := gg) (cap := cp2) (w2 := w6) hlt HWF.out (by repeat first | (with_reducible exact Below.refl _ _) | (with_reducible refine Below.setCell ?_ (by first | exact Nat.le_refl _ | (simp; done) | (simp; omega) | omega) _) | (with_reducible refine Below.alloc ?_ (by first | exact Nat.le_refl _ | (simp; done) | (simp; omega) | omega) _) | (with_reducible refine below_drewN ?_ _) | (with_reducible refine Below.drew ?_)) (by rw [lenTo_at]; exact hown2) (hgv hgrow2) (by
                 rw [HVQ.out]
                 rcases hat2 with e | e
                 · exact .inl e
                 · exact .inr (by first | omega | (simp [World.drew] at e; omega)))
               obtain ⟨tab1, c6, f6⟩ := hgr
               rw [HVQ.out] at c6))
          all_goals
            rw [lenTo_at] at tab1
            have T2 := Lib.hid (tab1.same (len2 := lenTo n2 j (q + 1)) (Y2 := DD) (fun i hi => lenTo_step n2 j q i) (fun i hi t ht => by
              by_cases e : i = j
              · subst e
                rw [upd_same]
                by_cases e2 : t = q
                · rw [if_pos e2, e2, HYE.out]
                · rw [if_neg e2]
              · rw [upd_other _ _ e]))
            clear tab1 hown2 hgrow2 hat2 hlt3 hgv hal hP
            go_wp2
            go_roundw
            case rel => exact ⟨q + 1, _, by omega, by go_num, T2.out⟩
            case measure => simp [intOf]; omega
        · obtain rfl : q = n2 := by omega
          have T2 := Lib.hid (hk2.same (len2 := lenTo q (j + 1) 0) (Y2 := DD) (fun i hi => lenTo_next q j i) (fun i hi t ht => rfl))
          clear hk2
          go_wp2
          go_roundw
          case rel => exact ⟨j + 1, _, by omega, by go_num, T2.out⟩
          case measure => simp [intOf]; omega
    · obtain rfl : j = n1 := by omega
      have hR := Lib.hid (hk.rs (L := n2) (by omega) (fun i hi => by unfold lenTo; rw [if_pos hi]))
      have hB := Lib.hid hk.bel
      clear hk
      go_wp2
      go_ret
      exact ⟨_, _, rfl, hR.out, hB.out⟩
end Go.Proofs.Ytinekdfpgkmbnab
