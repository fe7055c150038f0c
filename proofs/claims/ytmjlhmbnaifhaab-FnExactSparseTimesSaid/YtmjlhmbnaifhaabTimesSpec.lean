/- Helper: a sparse square times a vector, of the reference. Conditions: none. -/
import Derived.Test.YtmjlhmbnaifhaabTimesRow
import Derived.Test.YtmjlhmbnaifhaabNums
set_option linter.unusedVariables false
set_option linter.unusedSimpArgs false
namespace Go.Proofs.Ytmjlhmbnaifhaab
open Go.RowKit

/-- One number of the product. -/
def spT (O K : Nat → Int) (Z Y : Nat → Nat) (i : Nat) : Option Nat := spRow K Z Y (O i).toNat ((O (i + 1)).toNat - (O i).toNat)
theorem spT_of {O K : Nat → Int} {Z Y : Nat → Nat} {i A m : Nat} (h0 : O i = (A : Int)) (h1 : O (i + 1) = ((A + m : Nat) : Int)) : spT O K Z Y i = spRow K Z Y A m := by
  unfold spT
  rw [h0, h1, Int.toNat_natCast, Int.toNat_natCast, Nat.add_sub_cancel_left]
set_option maxRecDepth 20000 in
set_option maxHeartbeats 4000000 in
theorem l05Times_any (p s n1 n2 b1 o1 c1 c2 c3 nv cv : Nat) (a2 a3 av : Option Addr) (O K : Nat → Int) (Z Y : Nat → Nat) (w : World) (hs1 : 1 ≤ s) (hs : s ≤ 32) (hn1 : n1 = s + 1) (hn2 : n2 ≤ 512) (h00 : O 0 = 0) (hOs : O s = (n2 : Int)) (hso : sortB O s = true) (hro : rowsB O K s s = true) (hnv : nv = s)
    (hp : p < w.heap.size) (hX : BoxL w p [.int .i64 (s : Int), .slice (some ⟨b1, o1, none⟩) n1 c1, .slice a2 n2 c2, .slice a3 n2 c3])
    (h1 : IS .i64 w (some ⟨b1, o1, none⟩) n1 c1 O) (h2 : IS .i64 w a2 n2 c2 K) (h3 : FS .f32 w a3 n2 c3 Z) (hv : FS .f32 w av nv cv Y) :
    Calls Try.prog 48 #[.pointer (some ⟨p, 0, none⟩), .slice av nv cv] w (fun e w' => ∃ a c2 X, e = .returned (.slice a s c2) ∧ FS .f32 w' a s c2 X ∧ (∀ i, i < s → vals X i = spT O K Z Y i) ∧ Below w.heap.size w w') := by
  obtain ⟨i0, hi, hz0, hz1, hz2⟩ := info_parts info32
  have hL := World.ownsRow_lit (base := w.heap.size) (e := 27) (size := 1) w #[] 0 (by simp) (Nat.zero_le _) rfl
  have HR := Lib.hid (fun (i : Nat) (hi : i < s) => sp_row h00 hOs hso hro hi)
  have HX := Lib.hid hX
  have HN1 := Lib.hid hn1
  have HNV := Lib.hid hnv
  have x0 := hX 0 _ rfl
  clear h00 hOs hso hro hX hn1 hnv
  go_enter Try.func48, Try.ntmps48
  go_wp2
  go_loopw [5, 6] (fun v i wr => ∃ (j : Nat) (xs : List Value), j ≤ s ∧ i = .int .i64 j ∧ Grow w j (spT O K Z Y) wr v xs) (fun _ i _ => s - (intOf i).toNat)
  case atStart => exact ⟨0, [], Nat.zero_le _, rfl, by simpa using hL, fun t ht => absurd ht (Nat.not_lt_zero _), (by repeat first | (with_reducible exact Below.refl _ _) | (with_reducible refine Below.setCell ?_ (by first | exact Nat.le_refl _ | (simp; done) | (simp; omega) | omega) _) | (with_reducible refine Below.alloc ?_ (by first | exact Nat.le_refl _ | (simp; done) | (simp; omega) | omega) _) | (with_reducible refine below_drewN ?_ _) | (with_reducible refine Below.drew ?_)), _, _, rfl⟩
  case round =>
    obtain ⟨j, xs, hj, rfl, hk⟩ := hrel
    clear hL x0
    have XR := HX.out.below hk.bel hp
    have y0 := XR 0 _ rfl
    obtain ⟨g, cp, rfl⟩ := hk.shape
    have HK := Lib.hid hk
    by_cases hlt : j < s
    · obtain ⟨A, m, hA, hAm, hAn, hcol⟩ := HR.out j hlt
      obtain ⟨E, hE⟩ : ∃ E, E = A + m := ⟨_, rfl⟩
      rw [← hE] at hAm
      obtain ⟨j1, hj1⟩ : ∃ j1, j1 = j + 1 := ⟨_, rfl⟩
      have hA1 : O j1 = (E : Int) := by rw [hj1]; exact hAm
      have hjn : j < n1 := by have := HN1.out; omega
      have hj1n : j1 < n1 := by have := HN1.out; omega
      have HT : Hid (spT O K Z Y j = spRow K Z Y A m) := Lib.hid (spT_of hA (by rw [hAm, hE]))
      have hsj : IntKind.i64.wrap ((j : Int) + 1) = (j1 : Int) := by
        have e : (j : Int) + 1 = (j1 : Int) := by omega
        rw [e]; exact IntWalk.i64_in _ (by omega)
      have F1 := h1.below hk.bel (Nat.le_refl _)
      obtain ⟨b', off', e, _, hcA, _⟩ := F1.at hjn
      simp only [Option.some.injEq, Addr.mk.injEq, and_true] at e
      obtain ⟨rfl, rfl⟩ := e
      obtain ⟨b', off', e, _, hcE, _⟩ := F1.at hj1n
      simp only [Option.some.injEq, Addr.mk.injEq, and_true] at e
      obtain ⟨rfl, rfl⟩ := e
      rw [hA] at hcA
      rw [hA1] at hcE
      have y1 := XR 1 _ rfl
      have y2 := XR 2 _ rfl
      have y3 := XR 3 _ rfl
      have hpw : p < wr.heap.size := Nat.lt_of_lt_of_le hp hk.bel.size
      have hlb : b1 < wr.heap.size := by obtain ⟨_, _, e, hl, _⟩ := F1.at hjn; simp only [Option.some.injEq, Addr.mk.injEq, and_true] at e; obtain ⟨rfl, rfl⟩ := e; exact hl
      have HE := Lib.hid hE
      have HJ := Lib.hid hj1
      have HC := Lib.hid (fun (t : Nat) (ht : t < m) => col_in hcol ht)
      have F2 := Lib.hid (h2.below hk.bel (Nat.le_refl _))
      have F3 := Lib.hid (h3.below hk.bel (Nat.le_refl _))
      have FV2 := Lib.hid (hv.below hk.bel (Nat.le_refl _))
      clear hA hAm hA1 hE hj1 hcol hk F1 XR
      go_wp2
      obtain ⟨wo, hwo⟩ : ∃ wo, wo = wr := ⟨_, rfl⟩
      subst hwo
      go_loopw [7, 8] (fun sm i wr2 => ∃ (t q : Nat), t ≤ m ∧ i = .int .i64 ((A + t : Nat) : Int) ∧ sm = .float .f32 q ∧ FV .f32 q (spRow K Z Y A t) ∧ Below wo.heap.size wo wr2) (fun _ i _ => E - (intOf i).toNat)
      case atStart => exact ⟨0, 0, Nat.zero_le _, rfl, rfl, FV.lit (by kernel_rfl) (by kernel_rfl), Below.refl _ _⟩
      case round =>
        obtain ⟨t, q, ht, rfl, rfl, hq, Br2⟩ := hrel
        have HW2 := Lib.hid Br2
        have z0 := (Br2.cell (p := ⟨p, 0, none⟩) hpw).trans y0
        have z1 := (Br2.cell (p := ⟨p, 1, none⟩) hpw).trans y1
        have z2 := (Br2.cell (p := ⟨p, 2, none⟩) hpw).trans y2
        have z3 := (Br2.cell (p := ⟨p, 3, none⟩) hpw).trans y3
        have zE := (Br2.cell (p := ⟨b1, o1 + j1, none⟩) hlb).trans hcE
        obtain ⟨w0, hw0⟩ : ∃ w0, w0 = wr := ⟨_, rfl⟩
        subst hw0
        have hs2 := Br2.size
        have hpw0 : p < w0.heap.size := by omega
        have G2 := F2.out.below Br2 (Nat.le_refl _)
        have G3 := F3.out.below Br2 (Nat.le_refl _)
        have GV := FV2.out.below Br2 (Nat.le_refl _)
        clear y0 y1 y2 y3 hcA hcE Br2
        by_cases hlt2 : t < m
        · obtain ⟨kk, hkk⟩ : ∃ kk, kk = A + t := ⟨_, rfl⟩
          rw [← hkk]
          have hkn : kk < n2 := by have := HE.out; omega
          have hkE : kk < E := by have := HE.out; omega
          obtain ⟨p2, f2, rfl, hl2, hck, _⟩ := G2.at hkn
          obtain ⟨p3, f3, rfl, hl3, hcz, hfz⟩ := G3.at hkn
          obtain ⟨k1, k2⟩ := HC.out t hlt2
          rw [← hkk] at k1 k2
          obtain ⟨cl, hcl⟩ : ∃ cl : Nat, K kk = (cl : Int) := ⟨(K kk).toNat, by omega⟩
          have hcls : cl < nv := by have := HNV.out; omega
          obtain ⟨pv, fv, rfl, hlv, hcv, hfv⟩ := GV.at hcls
          rw [hcl] at hck
          have HN : Hid (∀ r, FV .f32 r (fop .add .f32 (spRow K Z Y A t) (fop .mul .f32 (cn .f32 (Z kk)) (cn .f32 (Y cl)))) → FV .f32 r (spRow K Z Y A (t + 1))) := Lib.hid fun r hr => FV.of_eq hr (by
            have e2 : (K (A + t)).toNat = cl := by rw [← hkk, hcl, Int.toNat_natCast]
            rw [← spRow_succ, e2, ← hkk]; rfl)
          have hd1 : decide ((kk : Int) < (E : Int)) = true := decide_eq_true (by omega)
          have hd2 : decide (kk < E) = true := decide_eq_true hkE
          have HKK := Lib.hid hkk
          generalize Z kk = zk at hcz hfz HN
          generalize Y cl = yc at hcv hfv HN
          generalize spRow K Z Y A t = SS at hq HN
          clear k1 k2 hcl hkk
          go_wp2
          (refine wp_region_kinds (fun w' => Below w0.heap.size w0 w') (fun i => if i = 18 then 1 else if i = 19 then 1 else 0) 20 (below_drewN (Below.refl _ _) 1) (by kernel_rfl) (by kernel_rfl) (by kernel_rfl) ?_; simp only [List.take_succ_cons, List.take_zero, List.drop_succ_cons, List.drop_zero])
          ((with_reducible refine wpKinds_plain ?hwant ?hkind ?hplain (fun K hK => ?_)); (case hwant => first | (simp [Region.wanted, yielded]; done) | rfl); (case hkind => rfl); (case hplain => rfl); go_big_quiet_op; (first | refine hK _ ?_ | refine ⟨_, fun _ _ => rfl, hK _ ?_⟩); clear hK K)
          ((with_reducible refine wpKinds_plain ?hwant ?hkind ?hplain (fun K hK => ?_)); (case hwant => first | (simp [Region.wanted, yielded]; done) | rfl); (case hkind => rfl); (case hplain => rfl); go_big_quiet_op; (first | refine hK _ ?_ | refine ⟨_, fun _ _ => rfl, hK _ ?_⟩); clear hK K)
          ((with_reducible refine wpKinds_run (.pointer (some ⟨p, 0, none⟩)) ?hwant ?hkind ?hrun ?_); (case hwant => first | (simp [Region.wanted, yielded]; done) | rfl); (case hkind => rfl); (case hrun => intro W hW; simp [go_sem, BigFrame.eval_const, BigFrame.eval_global, BigFrame.eval_func]); simp only [Act.put, List.setIfInBounds_toArray, List.set_cons_succ, List.set_cons_zero])
          ((with_reducible refine wpKinds_plain ?hwant ?hkind ?hplain (fun K hK => ?_)); (case hwant => first | (simp [Region.wanted, yielded]; done) | rfl); (case hkind => rfl); (case hplain => rfl); go_big_quiet_op; (first | refine hK _ ?_ | refine ⟨_, fun _ _ => rfl, hK _ ?_⟩); clear hK K)
          ((with_reducible refine wpKinds_run (.slice (some ⟨p3, f3, none⟩) n2 c3) ?hwant ?hkind ?hrun ?_); (case hwant => first | (simp [Region.wanted, yielded]; done) | rfl); (case hkind => rfl); (case hrun => intro W hW; have hcell := (hW.cell (p := _) (by assumption)).trans z3; simp [go_sem, BigFrame.eval_const, BigFrame.eval_global, BigFrame.eval_func, hcell]); simp only [Act.put, List.setIfInBounds_toArray, List.set_cons_succ, List.set_cons_zero])
          ((with_reducible refine wpKinds_plain ?hwant ?hkind ?hplain (fun K hK => ?_)); (case hwant => first | (simp [Region.wanted, yielded]; done) | rfl); (case hkind => rfl); (case hplain => rfl); go_big_quiet_op; (first | refine hK _ ?_ | refine ⟨_, fun _ _ => rfl, hK _ ?_⟩); clear hK K)
          ((with_reducible refine wpKinds_run (.pointer (some ⟨p3, f3 + kk, none⟩)) ?hwant ?hkind ?hrun ?_); (case hwant => first | (simp [Region.wanted, yielded]; done) | rfl); (case hkind => rfl); (case hrun => intro W hW; simp [go_sem, BigFrame.eval_const, BigFrame.eval_global, BigFrame.eval_func, hkn]); simp only [Act.put, List.setIfInBounds_toArray, List.set_cons_succ, List.set_cons_zero])
          ((with_reducible refine wpKinds_run (.float .f32 zk) ?hwant ?hkind ?hrun ?_); (case hwant => first | (simp [Region.wanted, yielded]; done) | rfl); (case hkind => rfl); (case hrun => intro W hW; have hcell := (hW.cell (p := _) (by assumption)).trans hcz; simp [go_sem, BigFrame.eval_const, BigFrame.eval_global, BigFrame.eval_func, hcell]); simp only [Act.put, List.setIfInBounds_toArray, List.set_cons_succ, List.set_cons_zero])
          ((with_reducible refine wpKinds_plain ?hwant ?hkind ?hplain (fun K hK => ?_)); (case hwant => first | (simp [Region.wanted, yielded]; done) | rfl); (case hkind => rfl); (case hplain => rfl); go_big_quiet_op; (first | refine hK _ ?_ | refine ⟨_, fun _ _ => rfl, hK _ ?_⟩); clear hK K)
          ((with_reducible refine wpKinds_plain ?hwant ?hkind ?hplain (fun K hK => ?_)); (case hwant => first | (simp [Region.wanted, yielded]; done) | rfl); (case hkind => rfl); (case hplain => rfl); go_big_quiet_op; (first | refine hK _ ?_ | refine ⟨_, fun _ _ => rfl, hK _ ?_⟩); clear hK K)
          ((with_reducible refine wpKinds_run (.pointer (some ⟨p, 0, none⟩)) ?hwant ?hkind ?hrun ?_); (case hwant => first | (simp [Region.wanted, yielded]; done) | rfl); (case hkind => rfl); (case hrun => intro W hW; simp [go_sem, BigFrame.eval_const, BigFrame.eval_global, BigFrame.eval_func]); simp only [Act.put, List.setIfInBounds_toArray, List.set_cons_succ, List.set_cons_zero])
          ((with_reducible refine wpKinds_plain ?hwant ?hkind ?hplain (fun K hK => ?_)); (case hwant => first | (simp [Region.wanted, yielded]; done) | rfl); (case hkind => rfl); (case hplain => rfl); go_big_quiet_op; (first | refine hK _ ?_ | refine ⟨_, fun _ _ => rfl, hK _ ?_⟩); clear hK K)
          ((with_reducible refine wpKinds_run (.slice (some ⟨p2, f2, none⟩) n2 c2) ?hwant ?hkind ?hrun ?_); (case hwant => first | (simp [Region.wanted, yielded]; done) | rfl); (case hkind => rfl); (case hrun => intro W hW; have hcell := (hW.cell (p := _) (by assumption)).trans z2; simp [go_sem, BigFrame.eval_const, BigFrame.eval_global, BigFrame.eval_func, hcell]); simp only [Act.put, List.setIfInBounds_toArray, List.set_cons_succ, List.set_cons_zero])
          ((with_reducible refine wpKinds_plain ?hwant ?hkind ?hplain (fun K hK => ?_)); (case hwant => first | (simp [Region.wanted, yielded]; done) | rfl); (case hkind => rfl); (case hplain => rfl); go_big_quiet_op; (first | refine hK _ ?_ | refine ⟨_, fun _ _ => rfl, hK _ ?_⟩); clear hK K)
          ((with_reducible refine wpKinds_run (.pointer (some ⟨p2, f2 + kk, none⟩)) ?hwant ?hkind ?hrun ?_); (case hwant => first | (simp [Region.wanted, yielded]; done) | rfl); (case hkind => rfl); (case hrun => intro W hW; simp [go_sem, BigFrame.eval_const, BigFrame.eval_global, BigFrame.eval_func, hkn]); simp only [Act.put, List.setIfInBounds_toArray, List.set_cons_succ, List.set_cons_zero])
          ((with_reducible refine wpKinds_run (.int .i64 (cl : Int)) ?hwant ?hkind ?hrun ?_); (case hwant => first | (simp [Region.wanted, yielded]; done) | rfl); (case hkind => rfl); (case hrun => intro W hW; have hcell := (hW.cell (p := _) (by assumption)).trans hck; simp [go_sem, BigFrame.eval_const, BigFrame.eval_global, BigFrame.eval_func, hcell]); simp only [Act.put, List.setIfInBounds_toArray, List.set_cons_succ, List.set_cons_zero])
          ((with_reducible refine wpKinds_run (.pointer (some ⟨pv, fv + cl, none⟩)) ?hwant ?hkind ?hrun ?_); (case hwant => first | (simp [Region.wanted, yielded]; done) | rfl); (case hkind => rfl); (case hrun => intro W hW; simp [go_sem, BigFrame.eval_const, BigFrame.eval_global, BigFrame.eval_func, hcls]); simp only [Act.put, List.setIfInBounds_toArray, List.set_cons_succ, List.set_cons_zero])
          ((with_reducible refine wpKinds_run (.float .f32 yc) ?hwant ?hkind ?hrun ?_); (case hwant => first | (simp [Region.wanted, yielded]; done) | rfl); (case hkind => rfl); (case hrun => intro W hW; have hcell := (hW.cell (p := _) (by assumption)).trans hcv; simp [go_sem, BigFrame.eval_const, BigFrame.eval_global, BigFrame.eval_func, hcell]); simp only [Act.put, List.setIfInBounds_toArray, List.set_cons_succ, List.set_cons_zero])
          refine wpKinds_farith (fun W m hW => below_drewN hW m) rfl rfl _ _ _ _ _ rfl rfl _ _ _ rfl rfl hfz hfv (fun r5 hr5 => ?_)
          simp only [Act.put, List.setIfInBounds_toArray, List.set_cons_succ, List.set_cons_zero]
          refine wpKinds_farith (fun W m hW => below_drewN hW m) rfl rfl _ _ _ _ _ rfl rfl _ _ _ rfl rfl hq hr5 (fun r6 hr6 => ?_)
          simp only [Act.put, List.setIfInBounds_toArray, List.set_cons_succ, List.set_cons_zero]
          refine wpKinds_nil ?_
          intro w6 hC
          have hN6 := Lib.hid (HN.out _ hr6)
          have HC6 := Lib.hid hC
          clear hC hr5 hr6 hq hfz hfv hck hcz hcv hd1 hd2
          go_wp2
          go_roundw
          case rel => exact ⟨t + 1, r6, by omega, by rw [HKK.out]; go_num, rfl, hN6.out, HW2.out.trans (HC6.out.mono hs2)⟩
          case measure => simp [intOf]; omega
        · obtain rfl : t = m := by omega
          have hkE : A + t = E := HE.out.symm
          rw [hkE]
          have hq' := Lib.hid (FV.of_eq hq HT.out.symm)
          clear hq hkE
          go_wp2_with (first
            | (at_builtin
               refine wpList_append_lies _ rfl _ _ _ rfl w.heap.size 27 i0 _ 1 4 Try.underlying23 hi hz0 hz1 hz2 rfl (by omega) (.slice (some ⟨g, 0, none⟩) j cp) j xs rfl (by exact ownsRow_below HK.out.own (by repeat first | (with_reducible exact HW2.out) | (with_reducible refine Below.setCell ?_ (by first | exact Nat.le_refl _ | (simp; done) | (simp; omega) | omega) _) | (with_reducible refine Below.alloc ?_ (by first | exact Nat.le_refl _ | (simp; done) | (simp; omega) | omega) _) | (with_reducible refine below_drewN ?_ _) | (with_reducible refine Below.drew ?_))) ⟨w0.heap.size, 0, none⟩ 1 1 [.float .f32 q] rfl rfl
                    (by exact World.news_of_block (cs := #[.float .f32 q]) (t := 27) (fr := (0, 0)) (heap_alloc_new _ _)) (by simp [Value.oneCell']) (by omega) (by unfold maxLen; omega) (by omega) (by have := HK.out.bel.size; simp; omega) (w0.heap.size + 1) (by simp) ?_
               intro gg cp2 w2 hown2 hgrow2 hat2 hlt3
               have hst := Lib.hid (HK.out.step (by repeat first | (with_reducible exact HW2.out) | (with_reducible refine Below.setCell ?_ (by first | exact Nat.le_refl _ | (simp; done) | (simp; omega) | omega) _) | (with_reducible refine Below.alloc ?_ (by first | exact Nat.le_refl _ | (simp; done) | (simp; omega) | omega) _) | (with_reducible refine below_drewN ?_ _) | (with_reducible refine Below.drew ?_)) hown2 hgrow2 hq'.out)
               clear hown2 hgrow2 hat2 hlt3))
          go_roundw
          case rel => exact ⟨j + 1, _, by omega, by rw [HJ.out], hst.out⟩
          case measure => have := HJ.out; simp [intOf]; omega
    · obtain rfl : j = s := by omega
      obtain ⟨X, hX, hV⟩ := hk.fs
      have B := Lib.hid hk.bel
      have hX' := Lib.hid hX
      have hV' := Lib.hid hV
      clear hk hX hV
      go_wp2
      go_ret
      exact ⟨_, _, X, rfl, hX'.out, hV'.out, B.out⟩
end Go.Proofs.Ytmjlhmbnaifhaab
