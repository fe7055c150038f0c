/- Helper: a row of a sparse square times a vector, of the program. Conditions: none. -/
import Derived.Test.YtmjlhmbnaifhaabRowIter
import Derived.Test.YtmjlhmbnaifhaabRegionIn
import Derived.Test.YtmjlhmbnaifhaabValidSparseKey
set_option linter.unusedVariables false
set_option linter.unusedSimpArgs false
namespace Go.Proofs.Ytmjlhmbnaifhaab
open Go.RowKit Go.Shelf

attribute [local go_sem] Oper.semAt_some

theorem sp_nat {S : Int} {n1 n2 n3 : Nat} {O K : Nat → Int} {V : Nat → Option Nat} (h : spB S n1 n2 n3 O K V = true) : ∃ s : Nat, S = s ∧ 1 ≤ s ∧ s ≤ 32 ∧ n1 = s + 1 ∧ n2 ≤ 512 ∧ n3 = n2 ∧ allFin V n2 = true ∧ O 0 = 0 ∧ O s = (n2 : Int) ∧ sortB O s = true ∧ rowsB O K s s = true := by
  unfold spB at h
  simp only [Bool.and_eq_true, decide_eq_true_eq] at h
  obtain ⟨h1, h2, h3, h4, h5, h6⟩ := h
  obtain ⟨s, rfl, k1, k32, q1, q2, q3⟩ := hd_nat h1
  rw [Int.toNat_natCast] at h4 h5 h6
  exact ⟨s, rfl, k1, k32, q1, q2, q3, by rw [← q3]; exact h2, h3, h4, h5, h6⟩
/-- The numbers of a row: where they begin, how many. -/
theorem sp_row {s n2 i : Nat} {O K : Nat → Int} (h0 : O 0 = 0) (hs : O s = (n2 : Int)) (hso : sortB O s = true) (hr : rowsB O K s s = true) (hi : i < s) : ∃ A m : Nat, O i = (A : Int) ∧ O (i + 1) = ((A + m : Nat) : Int) ∧ A + m ≤ n2 ∧ colB (fun t => K (A + t)) s m = true := by
  have e1 : 0 ≤ O i := by have := sortB_le hso (i := 0) (d := i) (by omega); rw [Nat.zero_add, h0] at this; exact this
  have e2 : O i ≤ O (i + 1) := sortB_lt hso hi
  have e3 : O (i + 1) ≤ (n2 : Int) := by have := sortB_le hso (i := i + 1) (d := s - (i + 1)) (by omega); rw [show i + 1 + (s - (i + 1)) = s by omega, hs] at this; exact this
  refine ⟨(O i).toNat, (O (i + 1)).toNat - (O i).toNat, by omega, by omega, by omega, ?_⟩
  exact rowsB_lt hr hi
theorem col_in {K : Nat → Int} {S : Int} : ∀ {m t : Nat}, colB K S m = true → t < m → 0 ≤ K t ∧ K t < S
  | m, 0, h, ht => by
    have := colB_lt h ht
    have e : lastK K 0 = -1 := rfl
    rw [e] at this
    exact ⟨by omega, this.2⟩
  | m, t + 1, h, ht => by
    have h1 := colB_lt h ht
    have h0 := col_in (m := m) (t := t) h (by omega)
    have e : lastK K (t + 1) = K t := rfl
    rw [e] at h1
    exact ⟨by omega, h1.2⟩
/-- The sum of the products of a row's numbers and those of a vector. -/
def spRow (K : Nat → Int) (Z Y : Nat → Nat) (A : Nat) : Nat → Option Nat
  | 0 => some 0
  | t + 1 => fop .add .f32 (spRow K Z Y A t) (fop .mul .f32 (vals Z (A + t)) (vals Y (K (A + t)).toNat))
theorem spRow_succ (K : Nat → Int) (Z Y : Nat → Nat) (A t : Nat) : fop .add .f32 (spRow K Z Y A t) (fop .mul .f32 (vals Z (A + t)) (vals Y (K (A + t)).toNat)) = spRow K Z Y A (t + 1) := rfl

set_option maxRecDepth 100000 in
set_option maxHeartbeats 4000000 in
theorem timesRow_any (s A m n1 n2 b1 o1 c1 c2 c3 i nv cv : Nat) (a2 a3 av : Option Addr) (O K : Nat → Int) (Z Y : Nat → Nat) (w : World) (hn1 : n1 ≤ 1048576) (hi1 : i + 1 < n1) (hO : O i = (A : Int)) (hO1 : O (i + 1) = ((A + m : Nat) : Int)) (hE : A + m ≤ n2) (hn2 : n2 ≤ 512) (hnv : nv = s) (hs : s ≤ 32) (hcol : ∀ t, t < m → 0 ≤ K (A + t) ∧ K (A + t) < (s : Int))
    (h1 : IS .i64 w (some ⟨b1, o1, none⟩) n1 c1 O) (h2 : IS .i64 w a2 n2 c2 K) (h3 : FS .f32 w a3 n2 c3 Z) (hv : FS .f32 w av nv cv Y) :
    Calls Try.prog 50 #[.agg #[.int .i64 (s : Int), .slice (some ⟨b1, o1, none⟩) n1 c1, .slice a2 n2 c2, .slice a3 n2 c3], .int .i64 (i : Int), .slice av nv cv] w fun e w' => ∃ q, e = .returned (.float .f32 q) ∧ FV .f32 q (spRow K Z Y A m) ∧ Below w.heap.size w w' := by
  have HNV := Lib.hid hnv
  have HO := Lib.hid hO
  have HO1 := Lib.hid hO1
  have HCOL := Lib.hid hcol
  clear hnv hO hO1 hcol
  refine (callsIn_wide (n := 9)).1 ?_
  refine callsIn_of_wp_marks Try.func50 rfl trivial ?_ rfl
  simp only [Try.ntmps50, List.size_toArray, List.length_cons, List.length_nil, Nat.reduceAdd, Nat.reduceSub, Array.replicate_succ, Array.replicate_zero, List.push_toArray, List.append_toArray, List.nil_append, List.cons_append]
  gi_wp2_with fail
  refine ⟨trivial, ?_⟩
  have B0 : Below w.heap.size w (((w.alloc (.cells #[.int .i64 (s : Int), .slice (some ⟨b1, o1, none⟩) n1 c1, .slice a2 n2 c2, .slice a3 n2 c3] 30)).alloc (.cells #[.slice av nv cv] 23)).alloc (.cells #[.float .f32 0] 27)) := (by repeat first | (with_reducible exact Below.refl _ _) | (with_reducible refine Below.setCell ?_ (by first | exact Nat.le_refl _ | (simp; done) | (simp; omega) | omega) _) | (with_reducible refine Below.alloc ?_ (by first | exact Nat.le_refl _ | (simp; done) | (simp; omega) | omega) _) | (with_reducible refine below_drewN ?_ _) | (with_reducible refine Below.drew ?_))
  have S0 : (((w.alloc (.cells #[.int .i64 (s : Int), .slice (some ⟨b1, o1, none⟩) n1 c1, .slice a2 n2 c2, .slice a3 n2 c3] 30)).alloc (.cells #[.slice av nv cv] 23)).alloc (.cells #[.float .f32 0] 27)).heap.size = w.heap.size + 3 := by simp
  have V0 : (((w.alloc (.cells #[.int .i64 (s : Int), .slice (some ⟨b1, o1, none⟩) n1 c1, .slice a2 n2 c2, .slice a3 n2 c3] 30)).alloc (.cells #[.slice av nv cv] 23)).alloc (.cells #[.float .f32 0] 27)).cell? ⟨w.heap.size + 1, 0, none⟩ = some (.slice av nv cv) := by simp [go_sem]
  have T0 : Boxed (((w.alloc (.cells #[.int .i64 (s : Int), .slice (some ⟨b1, o1, none⟩) n1 c1, .slice a2 n2 c2, .slice a3 n2 c3] 30)).alloc (.cells #[.slice av nv cv] 23)).alloc (.cells #[.float .f32 0] 27)) (w.heap.size + 1 + 1) 27 (.float .f32 0) := by
    have := Boxed.new ((w.alloc (.cells #[.int .i64 (s : Int), .slice (some ⟨b1, o1, none⟩) n1 c1, .slice a2 n2 c2, .slice a3 n2 c3] 30)).alloc (.cells #[.slice av nv cv] 23)) 27 (.float .f32 0)
    simpa using this
  generalize (((w.alloc (.cells #[.int .i64 (s : Int), .slice (some ⟨b1, o1, none⟩) n1 c1, .slice a2 n2 c2, .slice a3 n2 c3] 30)).alloc (.cells #[.slice av nv cv] 23)).alloc (.cells #[.float .f32 0] 27)) = w0 at B0 S0 V0 T0 ⊢
  gi_at_call 45
  refine (callsIn_wide.2 (inRow_any _ _ _ _ _ _ rfl rfl rfl rfl)).mono ?_
  rintro e w1 ⟨rfl, X1, R1, S1, b1'⟩
  gi_wp2_with fail
  rw [S0] at X1 R1 S1
  have b1 : Below w0.heap.size w0 w1 := b1'
  have B1 : Below w.heap.size w w1 := B0.trans (b1.mono (by omega))
  have T1 : Boxed w1 (w.heap.size + 1 + 1) 27 (.float .f32 0) := T0.kept (below_grew b1) (fun h => by cases h)
  have V1 : w1.cell? ⟨w.heap.size + 1, 0, none⟩ = some (.slice av nv cv) := (b1.cell (p := ⟨w.heap.size + 1, 0, none⟩) (by show w.heap.size + 1 < w0.heap.size; omega)).trans V0
  clear b1' b1 T0 V0 B0 S0
  refine wpIn_rangeF (n := 9) rfl (enters_of Try.func69 (by kernel_rfl) rfl)
    (inRow_seqF 8 (w.heap.size + 3) (w.heap.size + 3 + 1) w.heap.size s A m n1 n2 b1 o1 c1 c2 c3 i a2 a3 O K Z (by omega) hn1 hi1 HO.out HO1.out hE hn2 w1 (by omega) (by omega) (by omega) X1 R1 (fun W' hb => h1.below (B1.trans hb) (Nat.le_refl _)) (fun W' hb => h2.below (B1.trans hb) (Nat.le_refl _)) (fun W' hb => h3.below (B1.trans hb) (Nat.le_refl _)))
    (Below.refl _ _) (fun k hk => by rcases hk with h | h | h <;> omega) (fun _ => rfl)
    (fun pre X W => (∃ q, Boxed W (w.heap.size + 1 + 1) 27 (.float .f32 q) ∧ FV .f32 q (spRow K Z Y A pre.length)) ∧ (∀ k, ¬ X k) ∧ Frm (fun k => k < w1.heap.size ∧ k ≠ w.heap.size + 1 + 1) w1 W)
    (fun _ _ _ _ => False)
    (fun pre X A B h hf => by
      obtain ⟨⟨q, hq, hv⟩, hx, hw⟩ := h
      exact ⟨⟨q, (hf.same _ hq.lt (.inl (by omega))).trans hq, hv⟩, hx, hw.trans (hf.mono fun k _ hk => .inl hk.1)⟩)
    (fun _ _ _ _ _ h _ => h)
    (fun pre X A k h hk => absurd hk (h.2.1 k)) (fun _ => False) ⟨⟨0, T1, FV.lit (by kernel_rfl) (by kernel_rfl)⟩, fun _ h => h, Frm.refl _ _⟩ ?round ?done ?stop
  case round =>
    rintro l pre x X W hl ⟨⟨q, hq, hfq⟩, hX, hf⟩ ⟨hpre, hxm⟩ hlW hnl K' hK
    simp only [rowEnc]
    have HQ := Lib.hid hq
    have HFQ := Lib.hid hfq
    have HF := Lib.hid hf
    have HX := Lib.hid hX
    clear hq hfq hf hX
    gi_wp2
    refine hK _ _ (Frm.refl _ _) (fun w₂ f₂ => ?_)
    clear hK
    have hq2 : Boxed w₂ (w.heap.size + 1 + 1) 27 (.float .f32 q) := (f₂.same _ HQ.out.lt (by omega)).trans HQ.out
    have f12 : Frm (fun k => k < w1.heap.size ∧ k ≠ w.heap.size + 1 + 1) w1 w₂ := HF.out.trans (f₂.mono fun k _ hk => by omega)
    have cq := hq2.cell
    have fz := hq2.frozen
    have cv2 := f12.cell (p := ⟨w.heap.size + 1, 0, none⟩) (by show w.heap.size + 1 < w1.heap.size; omega) (by show w.heap.size + 1 < w1.heap.size ∧ w.heap.size + 1 ≠ w.heap.size + 1 + 1; omega) V1
    have b12 : Below w.heap.size w1 w₂ := f12.below (by omega) (fun k hk => by omega)
    obtain ⟨k1, k2⟩ := HCOL.out x hxm
    have HFZ : Hid (FV .f32 (Z (A + x)) (cn .f32 (Z (A + x)))) := Lib.hid ((h3.at (show A + x < n2 by omega)).elim fun _ q => q.elim fun _ q => q.2.2.2)
    obtain ⟨cl, hcl⟩ : ∃ cl : Nat, K (A + x) = (cl : Int) := ⟨(K (A + x)).toNat, by omega⟩
    have hcls : cl < nv := by have := HNV.out; omega
    obtain ⟨pv, fv, e, hlv, hcv, hfv⟩ := (hv.below (B1.trans b12) (Nat.le_refl _)).at hcls
    subst e
    have HN : Hid (∀ r, FV .f32 r (fop .add .f32 (spRow K Z Y A x) (fop .mul .f32 (cn .f32 (Z (A + x))) (cn .f32 (Y cl)))) → FV .f32 r (spRow K Z Y A (x + 1))) := Lib.hid fun r hr => FV.of_eq hr (by
      have e2 : (K (A + x)).toNat = cl := by rw [hcl, Int.toNat_natCast]
      rw [← spRow_succ, e2]; rfl)
    have hfq : FV .f32 q (spRow K Z Y A x) := by have := HFQ.out; rw [hpre, List.length_range] at this; exact this
    have hfz := HFZ.out
    have s2 := f12.size
    have lq := hq2.lt
    have lv2 : w.heap.size + 1 < w₂.heap.size := by omega
    rw [hcl]
    generalize Z (A + x) = zk at hfz HN HFZ ⊢
    generalize Y cl = yc at hcv hfv HN
    generalize spRow K Z Y A x = SS at hfq HN
    have HPRE := Lib.hid hpre
    clear k1 k2 hcl hpre
    gi_wp2
    (refine wpIn_region_kinds (fun w' => Below w₂.heap.size w₂ w') (fun i => if i = 6 then 1 else if i = 7 then 1 else 0) 8 (by kernel_rfl) (by rintro ⟨a, w, h⟩; exact h) (below_drewN (Below.refl _ _) 1) (by kernel_rfl) (by kernel_rfl) (by kernel_rfl) ?_; simp only [List.take_succ_cons, List.take_zero, List.drop_succ_cons, List.drop_zero])
    ((with_reducible refine wpKinds_run (.float .f32 q) ?hwant ?hkind ?hrun ?_); (case hwant => first | (simp [Region.wanted, yielded]; done) | rfl); (case hkind => rfl); (case hrun => intro W hW; have hcell := (hW.cell (p := _) (by assumption)).trans cq; simp [go_sem, BigFrame.eval_const, BigFrame.eval_global, BigFrame.eval_func, hcell]); simp only [Act.put, List.setIfInBounds_toArray, List.set_cons_succ, List.set_cons_zero])
    ((with_reducible refine wpKinds_plain ?hwant ?hkind ?hplain (fun K hK => ?_)); (case hwant => first | (simp [Region.wanted, yielded]; done) | rfl); (case hkind => rfl); (case hplain => rfl); go_big_quiet_op; (first | refine hK _ ?_ | refine ⟨_, fun _ _ => rfl, hK _ ?_⟩); clear hK K)
    ((with_reducible refine wpKinds_run (.slice (some ⟨pv, fv, none⟩) nv cv) ?hwant ?hkind ?hrun ?_); (case hwant => first | (simp [Region.wanted, yielded]; done) | rfl); (case hkind => rfl); (case hrun => intro W hW; have hcell := (hW.cell (p := _) (by assumption)).trans cv2; simp [go_sem, BigFrame.eval_const, BigFrame.eval_global, BigFrame.eval_func, hcell]); simp only [Act.put, List.setIfInBounds_toArray, List.set_cons_succ, List.set_cons_zero])
    ((with_reducible refine wpKinds_plain ?hwant ?hkind ?hplain (fun K hK => ?_)); (case hwant => first | (simp [Region.wanted, yielded]; done) | rfl); (case hkind => rfl); (case hplain => rfl); go_big_quiet_op; (first | refine hK _ ?_ | refine ⟨_, fun _ _ => rfl, hK _ ?_⟩); clear hK K)
    ((with_reducible refine wpKinds_run (.pointer (some ⟨pv, fv + cl, none⟩)) ?hwant ?hkind ?hrun ?_); (case hwant => first | (simp [Region.wanted, yielded]; done) | rfl); (case hkind => rfl); (case hrun => intro W hW; simp [go_sem, BigFrame.eval_const, BigFrame.eval_global, BigFrame.eval_func, hcls]); simp only [Act.put, List.setIfInBounds_toArray, List.set_cons_succ, List.set_cons_zero])
    ((with_reducible refine wpKinds_run (.float .f32 yc) ?hwant ?hkind ?hrun ?_); (case hwant => first | (simp [Region.wanted, yielded]; done) | rfl); (case hkind => rfl); (case hrun => intro W hW; have hcell := (hW.cell (p := _) (by assumption)).trans hcv; simp [go_sem, BigFrame.eval_const, BigFrame.eval_global, BigFrame.eval_func, hcell]); simp only [Act.put, List.setIfInBounds_toArray, List.set_cons_succ, List.set_cons_zero])
    refine wpKinds_farith (fun W m hW => below_drewN hW m) rfl rfl _ _ _ _ _ rfl rfl _ _ _ rfl rfl hfz hfv (fun r5 hr5 => ?_)
    simp only [Act.put, List.setIfInBounds_toArray, List.set_cons_succ, List.set_cons_zero]
    refine wpKinds_farith (fun W m hW => below_drewN hW m) rfl rfl _ _ _ _ _ rfl rfl _ _ _ rfl rfl hfq hr5 (fun r6 hr6 => ?_)
    simp only [Act.put, List.setIfInBounds_toArray, List.set_cons_succ, List.set_cons_zero]
    refine wpKinds_nil ?_
    intro w6 hC
    have hq6 : Boxed w6 (w.heap.size + 1 + 1) 27 (.float .f32 q) := hq2.kept (below_grew hC) (fun h => by cases h)
    have cq6 := hq6.cell
    have fz6 := hq6.frozen
    have hN6 := HN.out _ hr6
    go_wp2
    have e1 : (pre ++ [x]).length = x + 1 := by rw [HPRE.out]; simp
    refine ⟨X, ⟨⟨r6, hq6.set _, by rw [e1]; exact hN6⟩, HX.out, (f12.trans (Frm.of_below hC _)).trans (Frm.set _ _ (fun h => h.2 rfl))⟩, ⟨(Frm.of_below hC _).trans (Frm.set _ _ (fun h => ?_)), fun k _ h => h⟩⟩
    rcases h with (h | h | h) | ⟨h, _⟩ <;> omega
  case done =>
    rintro xs X W rfl ⟨⟨q, hq, hv⟩, hX, hf⟩ hnX hD
    have cq := hq.cell
    have HV : Hid (FV .f32 q (spRow K Z Y A m)) := Lib.hid (by rw [List.length_range] at hv; exact hv)
    have HB : Hid (Below w.heap.size w W) := Lib.hid (B1.trans (hf.below (by omega) (fun k hk => by omega)))
    clear hv hf
    gi_wp2
    refine ⟨by simp, .inl ⟨_, _, rfl, run_takeDeferred hD, ?_⟩⟩
    exact ⟨_, results_tmp rfl _ _ _, q, rfl, HV.out, HB.out.trans ((Frm.put (M := fun k => k < w.heap.size) W _ (by omega)).below HB.out.size (fun k hk => hk))⟩
  case stop =>
    rintro c pre X W _ h _ _
    exact h.elim
end Go.Proofs.Ytmjlhmbnaifhaab
