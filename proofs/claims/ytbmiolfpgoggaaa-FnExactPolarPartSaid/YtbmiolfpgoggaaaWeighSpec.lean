/- Helper: the sum of two matrices that are weighed, of the reference. Conditions: none. -/
import Derived.Test.YtbmiolfpgoggaaaWeighImpl
import Derived.Test.YtbmiolfpgoggaaaHeavy
import Derived.Test.YtbmiolfpgoggaaaBuild
set_option linter.unusedVariables false
set_option linter.unusedSimpArgs false
namespace Go.Proofs.Ytbmiolfpgoggaaa
open Go.RowKit

theorem drewN_tw {w : World} {a b : Nat} : (w.drewN a).drewN b = w.drewN (a + b) := by
  simp only [World.drewN, Nat.add_assoc]
theorem heavyUpon_run {C : Act → World → Prop} {A : Value → Act} {K : Act → Prop} {r : Result Next} {v : Value} {w' : World} (h : r = .ok (.value v) w') (h1 : C (A v) w') (h2 : K (A v)) : heavyUpon C A K r := by
  subst h
  exact ⟨h1, h2⟩
theorem heavy_append_lies {P : Program} (w : World) {o : Oper} {a : Act} {C : Act → World → Prop} {K : Act → Prop} (s x : Operand) (t : TypeId)
    (ho : o.op = .call { callee := .builtin .append, args := #[s, x], argTypes := #[t, t] })
    (base : Nat) (e : TypeId) (i : TypeInfo) (z : Value) (size bytes : Nat) (ht : P.underlying t = some (.slice e)) (hi : P.info? e = some i) (hz : i.zero = some z)
    (hsize : i.size = size) (hby : i.bytes = bytes) (hzs : z.cells.size = size) (hsz : 0 < size)
    (v : Value) (n : Nat) (xs : List Value) (hs : a.eval s = v) (hown : w.ownsRow base e size v n xs)
    (ad : Addr) (m c : Nat) (news : List Value) (hx : a.eval x = .slice (some ad) m c) (hl : news.length = m * size) (hnews : ∀ j u, news[j]? = some u → w.cell? (ad.add j) = some u) (h1 : ∀ u ∈ news, u.oneCell' = true)
    (hm : 0 < m) (h63 : n + m ≤ maxLen) (hbytes : (n + m) * bytes ≤ 140737488355328) (hbase : base ≤ w.heap.size) (H : Nat) (hH : w.heap.size = H)
    (h : ∀ g cap w', w'.ownsRow base e size (.slice (some ⟨g, 0, none⟩) (n + m) cap) (n + m) (xs ++ news) → w.grownBy w' v.ownBlock → (v.ownBlock = some g ∨ g = H) → g < w'.heap.size → C (a.put o.dst (.slice (some ⟨g, 0, none⟩) (n + m) cap)) w' ∧ K (a.put o.dst (.slice (some ⟨g, 0, none⟩) (n + m) cap))) :
    heavyUpon C (fun u => a.put o.dst u) K ((execOp a.eval o).run P w) := by
  obtain ⟨g, cap, w', hr, h2, h3, h4, h5⟩ := run_append_lies (P := P) w t o.type base e i z size bytes ht hi hz hsize hby hzs hsz v n xs hown ad m c news hl hnews h1 hm h63 hbytes hbase H hH
  unfold execOp
  simp only [ho, resolve, invoke, builtin, Sem.run_bind, Sem.run_pure, Result.andThen_ok, List.map_toArray, List.map_cons, List.map_nil, hs, hx, hr]
  exact h g cap w' h2 h3 h4 h5
/-- The world while a number is appended to a list that is being built: s heavy operations have come up; the slots of the sum, and of the new list. -/
def AppF (wa wr : World) (ob : Nat) (a : Option Addr) (j cp : Nat) (xs : List Value) (s : Nat) (l : List Value) (W : World) : Prop :=
  (Below wa.heap.size wa W ∧ W.cell? ⟨ob, 2, none⟩ = some (.slice a j cp)) ∧ match s with
    | 0 => ∃ m, W = wr.drewN m
    | 1 => ∃ m, W = wr.drewN m
    | 2 => ∃ m k r, l[0]? = some (.float .f32 r) ∧ W = ((wr.drewN m).alloc (.cells #[.float .f32 r] 34)).drewN k
    | _ => ∃ g c2 r wx, l[0]? = some (.float .f32 r) ∧ l[1]? = some (.slice (some ⟨g, 0, none⟩) (j + 1) c2) ∧ Below wr.heap.size wr wx ∧ W.ownsRow wa.heap.size 34 1 (.slice (some ⟨g, 0, none⟩) (j + 1) c2) (j + 1) (xs ++ [.float .f32 r]) ∧ wx.grownBy W (Value.slice a j cp).ownBlock ∧ ((Value.slice a j cp).ownBlock = some g ∨ g = wx.heap.size) ∧ g < W.heap.size
theorem AppF.drew {wa wr : World} {ob : Nat} {a : Option Addr} {j cp : Nat} {xs : List Value} (s : Nat) (l : List Value) (W : World) (k : Nat) (h : AppF wa wr ob a j cp xs s l W) : AppF wa wr ob a j cp xs s l (W.drewN k) := by
  have hb : Below W.heap.size W (W.drewN k) := below_drewN (Below.refl _ _) _
  unfold AppF at *
  refine ⟨⟨below_drewN h.1.1 _, by rw [← h.1.2]; rfl⟩, ?_⟩
  obtain ⟨_, h⟩ := h
  match s with
  | 0 => obtain ⟨m, rfl⟩ := h; exact ⟨_, drewN_tw⟩
  | 1 => obtain ⟨m, rfl⟩ := h; exact ⟨_, drewN_tw⟩
  | 2 => obtain ⟨m, q, r, h1, rfl⟩ := h; exact ⟨m, _, r, h1, drewN_tw⟩
  | s + 3 =>
    obtain ⟨g, c2, r, wx, h1, h2, h3, h4, h5, h6, h7⟩ := h
    exact ⟨g, c2, r, wx, h1, h2, h3, ownsRow_below h4 hb, grownBy_trans h5 ⟨hb.os, hb.tape, hb.output, hb.size, fun q hq _ => hb.block q hq⟩, h6, Nat.lt_of_lt_of_le h7 hb.size⟩
set_option maxRecDepth 20000 in
set_option maxHeartbeats 4000000 in
theorem specWeigh_yes (p c n x y p1 o1 d1 p2 o2 d2 : Nat) (Z Y : Nat → Nat) (w : World) (hp1 : 1 ≤ p) (hp : p ≤ 12) (hc1 : 1 ≤ c) (hc : c ≤ 12) (hn : n = p * c) (wx : (Lit.float .f32 x).wf = true) (wy : (Lit.float .f32 y).wf = true)
    (hva : validB p c n (vals Z) = true) (hvb : validB p c n (vals Y) = true) (hfa : allFin (vals Z) n = true) (hfb : allFin (vals Y) n = true) (hx : finite .f32 (cn .f32 x) = true) (hy : finite .f32 (cn .f32 y) = true) (h : FS .f32 w (some ⟨p1, o1, none⟩) n d1 Z) (h2 : FS .f32 w (some ⟨p2, o2, none⟩) n d2 Y) :
    Calls Try.prog 18 #[.agg #[.int .i64 p, .int .i64 c, .slice (some ⟨p1, o1, none⟩) n d1], .agg #[.int .i64 p, .int .i64 c, .slice (some ⟨p2, o2, none⟩) n d2], .float .f32 x, .float .f32 y] w (BelIf (allFin (weighV x y Z Y) n) p c n (weighV x y Z Y) w) := by
  have hN := Lib.hid hn
  have hn144 : n ≤ 144 := by have := sides_le hp hc; omega
  have hpos : 0 < n := by rw [hn]; exact Nat.mul_pos hp1 hc1
  have fx : FV .f32 x (cn .f32 x) := FV.mk' wx
  have fy : FV .f32 y (cn .f32 y) := FV.mk' wy
  obtain ⟨VV, hVV⟩ : ∃ VV, VV = weighV x y Z Y := ⟨_, rfl⟩
  rw [← hVV]
  have HVV := Lib.hid hVV
  have HFA := Lib.hid hfa
  have HFB := Lib.hid hfb
  have HX := Lib.hid hx
  have HY := Lib.hid hy
  have fin1 := fun W => specFinite_any x fx W
  have fin2 := fun W => specFinite_any y fy W
  rw [hx] at fin1
  rw [hy] at fin2
  have hvA := fun q W hX (hW : FS .f32 W (some ⟨p1, o1, none⟩) n d1 Z) => specIs_any q p c _ n d1 Z W (by omega) hX hW
  have hvB := fun q W hX (hW : FS .f32 W (some ⟨p2, o2, none⟩) n d2 Y) => specIs_any q p c _ n d2 Y W (by omega) hX hW
  rw [hva] at hvA
  rw [hvb] at hvB
  clear hn hVV hx hy wx wy hva hvb hfa hfb
  go_enter Try.func18, Try.ntmps18
  go_wp2_with fail
  generalize hwa : (w.alloc (.cells #[.int .i64 p, .int .i64 c, .slice (some ⟨p1, o1, none⟩) n d1] 26)).alloc (.cells #[.int .i64 p, .int .i64 c, .slice (some ⟨p2, o2, none⟩) n d2] 26) = wa
  have Ba : Below w.heap.size w wa := by rw [← hwa]; exact (by repeat first | (with_reducible exact Below.refl _ _) | (with_reducible refine Below.setCell ?_ (by first | exact Nat.le_refl _ | (simp; done) | (simp; omega) | omega) _) | (with_reducible refine Below.alloc ?_ (by first | exact Nat.le_refl _ | (simp; done) | (simp; omega) | omega) _) | (with_reducible refine below_drewN ?_ _) | (with_reducible refine Below.drew ?_))
  have sa : wa.heap.size = w.heap.size + 1 + 1 := by rw [← hwa]; simp
  have Xa : Box wa w.heap.size p c (some ⟨p1, o1, none⟩) n d1 := by rw [← hwa]; refine ⟨?_, ?_, ?_⟩ <;> simp [go_sem]
  have Xb : Box wa (w.heap.size + 1) p c (some ⟨p2, o2, none⟩) n d2 := by rw [← hwa]; refine ⟨?_, ?_, ?_⟩ <;> simp [go_sem]
  have Fa := h.below Ba (Nat.le_refl _)
  have Fb := h2.below Ba (Nat.le_refl _)
  have la : w.heap.size < wa.heap.size := by omega
  have lb : w.heap.size + 1 < wa.heap.size := by omega
  try rw [← sa]
  clear hwa h h2
  go_at_call 33
  refine (hvA w.heap.size _ (Xa.below (by repeat first | (with_reducible exact Below.refl _ _) | (with_reducible refine Below.setCell ?_ (by first | exact Nat.le_refl _ | (simp; done) | (simp; omega) | omega) _) | (with_reducible refine Below.alloc ?_ (by first | exact Nat.le_refl _ | (simp; done) | (simp; omega) | omega) _) | (with_reducible refine below_drewN ?_ _) | (with_reducible refine Below.drew ?_)) la) (Fa.below (by repeat first | (with_reducible exact Below.refl _ _) | (with_reducible refine Below.setCell ?_ (by first | exact Nat.le_refl _ | (simp; done) | (simp; omega) | omega) _) | (with_reducible refine Below.alloc ?_ (by first | exact Nat.le_refl _ | (simp; done) | (simp; omega) | omega) _) | (with_reducible refine below_drewN ?_ _) | (with_reducible refine Below.drew ?_)) (Nat.le_refl _))).mono ?_
  rintro e w1 ⟨rfl, m1, rfl⟩
  go_wp2_with fail
  go_at_call 33
  refine (hvB (w.heap.size + 1) _ (Xb.below (by repeat first | (with_reducible exact Below.refl _ _) | (with_reducible refine Below.setCell ?_ (by first | exact Nat.le_refl _ | (simp; done) | (simp; omega) | omega) _) | (with_reducible refine Below.alloc ?_ (by first | exact Nat.le_refl _ | (simp; done) | (simp; omega) | omega) _) | (with_reducible refine below_drewN ?_ _) | (with_reducible refine Below.drew ?_)) lb) (Fb.below (by repeat first | (with_reducible exact Below.refl _ _) | (with_reducible refine Below.setCell ?_ (by first | exact Nat.le_refl _ | (simp; done) | (simp; omega) | omega) _) | (with_reducible refine Below.alloc ?_ (by first | exact Nat.le_refl _ | (simp; done) | (simp; omega) | omega) _) | (with_reducible refine below_drewN ?_ _) | (with_reducible refine Below.drew ?_)) (Nat.le_refl _))).mono ?_
  rintro e w1 ⟨rfl, m2, rfl⟩
  have x0 := Xa.1
  have x1 := Xa.2.1
  have v0 := Xb.1
  have v1 := Xb.2.1
  go_wp2_with (go_at_call 42; first | ((with_reducible refine (fin1 _).mono ?_); rintro e w' ⟨rfl, q1, rfl⟩) | ((with_reducible refine (fin2 _).mono ?_); rintro e w' ⟨rfl, q2, rfl⟩))
  go_at_call 38
  refine (l02Blank_any _ _ _).mono ?_
  rintro e w1 ⟨g, rfl, o1', b1⟩
  have s1 : wa.heap.size + 1 ≤ w1.heap.size := (by have hh := b1.size; (try simp [World.drewN] at hh); omega)
  have hB : Build wa w1.heap.size wa.heap.size p c 0 VV _ (some ⟨g, 0, none⟩) 0 [] := Build.start1 (T1 := 0) (T2 := 26) (by simp [World.drewN]) b1 (by refine ⟨?_, ?_, ?_⟩ <;> simp [go_sem]) (by intro i; simp [go_sem]) (by repeat first | (with_reducible exact Below.refl _ _) | (with_reducible refine Below.setCell ?_ (by first | exact Nat.le_refl _ | (simp; done) | (simp; omega) | omega) _) | (with_reducible refine Below.alloc ?_ (by first | exact Nat.le_refl _ | (simp; done) | (simp; omega) | omega) _) | (with_reducible refine below_drewN ?_ _) | (with_reducible refine Below.drew ?_)) o1'
  clear o1' b1 hvA hvB fin1 fin2 x0 x1 v0 v1
  generalize hob : w1.heap.size = ob at hB s1
  have hob' := Lib.hid hob
  go_wp2
  clear hob
  go_loopw [11] (fun i wr => ∃ (j : Nat) (a : Option Addr) (cp : Nat) (xs : List Value), j ≤ n ∧ i = .int .i64 j ∧ Build wa ob wa.heap.size p c j VV wr a cp xs) (fun i _ => n - (intOf i).toNat)
  case atStart => exact ⟨0, _, _, _, Nat.zero_le _, rfl, hB⟩
  case round =>
    obtain ⟨j, a, cp, xs, hj, rfl, hk⟩ := hrel
    clear hB
    obtain ⟨x0, x1, x2⟩ := Xa.below hk.bel la
    by_cases hlt : j < n
    · obtain ⟨b', off', e, lp1, hce, hfv⟩ := Fa.at hlt
      simp only [Option.some.injEq, Addr.mk.injEq, and_true] at e
      obtain ⟨rfl, rfl⟩ := e
      obtain ⟨b', off', e, lp2, hce3, hfv3⟩ := Fb.at hlt
      simp only [Option.some.injEq, Addr.mk.injEq, and_true] at e
      obtain ⟨rfl, rfl⟩ := e
      obtain ⟨m1, hm1, fm1⟩ := mul_fin HX.out (show finite .f32 (cn .f32 (Z j)) = true from allFin_lt (V := vals Z) HFA.out hlt)
      obtain ⟨m2, hm2, fm2⟩ := mul_fin HY.out (show finite .f32 (cn .f32 (Y j)) = true from allFin_lt (V := vals Y) HFB.out hlt)
      have HV : Hid (∀ r, FV .f32 r (fop .add .f32 (fop .mul .f32 (cn .f32 x) (cn .f32 (Z j))) (fop .mul .f32 (cn .f32 y) (cn .f32 (Y j)))) → FV .f32 r (VV j)) := Lib.hid (fun r hr => FV.of_eq hr (by rw [HVV.out]; rfl))
      clear hfv hfv3
      generalize fop .mul .f32 (cn .f32 x) (cn .f32 (Z j)) = zz at fm1 HV
      generalize fop .mul .f32 (cn .f32 y) (cn .f32 (Y j)) = ww at fm2 HV
      generalize Z j = z at hce hm1
      generalize Y j = y' at hce3 hm2
      have hmr1 : ∀ W : World, (binOp .mul 34 (.float .f32 x) (.float .f32 z)).run Try.prog W = .ok (.float .f32 m1) W := fun W => run_float_arith W .mul _ .f32 _ _ _ hm1
      have hmr2 : ∀ W : World, (binOp .mul 34 (.float .f32 y) (.float .f32 y')).run Try.prog W = .ok (.float .f32 m2) W := fun W => run_float_arith W .mul _ .f32 _ _ _ hm2
      obtain ⟨y0, y1, y2⟩ := hk.box
      obtain ⟨i0, hi, hz0, hz1, hz2⟩ := info_parts info32
      have htop := hk.top
      have hD0 : ∀ m, Below wa.heap.size wa (wr.drewN m) ∧ (wr.drewN m).cell? ⟨ob, 2, none⟩ = some (.slice a j cp) := fun m => ⟨below_drewN hk.bel m, by rw [← y2]; rfl⟩
      have hD1 : ∀ m k r, Below wa.heap.size wa (((wr.drewN m).alloc (.cells #[.float .f32 r] 34)).drewN k) ∧ (((wr.drewN m).alloc (.cells #[.float .f32 r] 34)).drewN k).cell? ⟨ob, 2, none⟩ = some (.slice a j cp) := fun m k r =>
        ⟨below_drewN (Below.alloc (hD0 m).1 hk.bel.size _) k, (World.cell?_alloc_lt (wr.drewN m) _ ⟨ob, 2, none⟩ (by exact htop)).trans y2⟩
      clear hm1 hm2
      go_wp2
      refine wp_region_heavy (fun W => Below wa.heap.size wa W ∧ W.cell? ⟨ob, 2, none⟩ = some (.slice a j cp)) (fun s a' W => AppF wa wr ob a j cp xs s ([71, 73].map fun d => a'.tmps.getD d undef) W) (fun i => if i = 16 then some 0 else if i = 17 then some 1 else if i = 18 then some 2 else none) 20 3
        (HClass.of (slots := [71, 73]) (F := AppF wa wr ob a j cp xs) (by kernel_rfl) (fun s l W h => h.1) (fun s l W m h => AppF.drew s l W m h)) ⟨hD0 1, 1, rfl⟩ (by kernel_rfl) (by kernel_rfl) (by kernel_rfl) (by kernel_rfl) ?_
      simp only [List.take_succ_cons, List.take_zero, List.drop_succ_cons, List.drop_zero]
      (refine wpHeavy_plain rfl rfl rfl (fun K hK => ?_); go_big_quiet_op; (first | refine hK _ ?_ | refine ⟨_, fun _ _ => rfl, hK _ ?_⟩ | refine ⟨_, fun _ _ _ => rfl, hK _ ?_⟩); clear hK K)
      (refine wpHeavy_run (.slice a j cp) rfl rfl (by rintro W ⟨hW, hO⟩; simp [go_sem, BigFrame.eval_const, BigFrame.eval_global, BigFrame.eval_func, hO]) ?_; simp only [Act.put, List.setIfInBounds_toArray, List.set_cons_succ, List.set_cons_zero])
      (refine wpHeavy_plain rfl rfl rfl (fun K hK => ?_); go_big_quiet_op; (first | refine hK _ ?_ | refine ⟨_, fun _ _ => rfl, hK _ ?_⟩ | refine ⟨_, fun _ _ _ => rfl, hK _ ?_⟩); clear hK K)
      (refine wpHeavy_plain rfl rfl rfl (fun K hK => ?_); go_big_quiet_op; (first | refine hK _ ?_ | refine ⟨_, fun _ _ => rfl, hK _ ?_⟩ | refine ⟨_, fun _ _ _ => rfl, hK _ ?_⟩); clear hK K)
      (refine wpHeavy_run (.slice (some ⟨p1, o1, none⟩) n d1) rfl rfl (by rintro W ⟨hW, hO⟩; have hcell := (hW.cell (p := _) la).trans Xa.2.2; simp [go_sem, BigFrame.eval_const, BigFrame.eval_global, BigFrame.eval_func, hcell]) ?_; simp only [Act.put, List.setIfInBounds_toArray, List.set_cons_succ, List.set_cons_zero])
      (refine wpHeavy_plain rfl rfl rfl (fun K hK => ?_); go_big_quiet_op; (first | refine hK _ ?_ | refine ⟨_, fun _ _ => rfl, hK _ ?_⟩ | refine ⟨_, fun _ _ _ => rfl, hK _ ?_⟩); clear hK K)
      (refine wpHeavy_plain rfl rfl rfl (fun K hK => ?_); go_big_quiet_op; (first | refine hK _ ?_ | refine ⟨_, fun _ _ => rfl, hK _ ?_⟩ | refine ⟨_, fun _ _ _ => rfl, hK _ ?_⟩); clear hK K)
      (refine wpHeavy_run (.float .f32 z) rfl rfl (by rintro W ⟨hW, hO⟩; have hcell := (hW.cell (p := _) lp1).trans hce; simp [go_sem, BigFrame.eval_const, BigFrame.eval_global, BigFrame.eval_func, hcell]) ?_; simp only [Act.put, List.setIfInBounds_toArray, List.set_cons_succ, List.set_cons_zero])
      (refine wpHeavy_run (.float .f32 m1) rfl rfl (by rintro W ⟨hW, hO⟩; simp [go_sem, BigFrame.eval_const, BigFrame.eval_global, BigFrame.eval_func, eqGuard, hmr1]) ?_; simp only [Act.put, List.setIfInBounds_toArray, List.set_cons_succ, List.set_cons_zero])
      (refine wpHeavy_plain rfl rfl rfl (fun K hK => ?_); go_big_quiet_op; (first | refine hK _ ?_ | refine ⟨_, fun _ _ => rfl, hK _ ?_⟩ | refine ⟨_, fun _ _ _ => rfl, hK _ ?_⟩); clear hK K)
      (refine wpHeavy_plain rfl rfl rfl (fun K hK => ?_); go_big_quiet_op; (first | refine hK _ ?_ | refine ⟨_, fun _ _ => rfl, hK _ ?_⟩ | refine ⟨_, fun _ _ _ => rfl, hK _ ?_⟩); clear hK K)
      (refine wpHeavy_run (.slice (some ⟨p2, o2, none⟩) n d2) rfl rfl (by rintro W ⟨hW, hO⟩; have hcell := (hW.cell (p := _) lb).trans Xb.2.2; simp [go_sem, BigFrame.eval_const, BigFrame.eval_global, BigFrame.eval_func, hcell]) ?_; simp only [Act.put, List.setIfInBounds_toArray, List.set_cons_succ, List.set_cons_zero])
      (refine wpHeavy_plain rfl rfl rfl (fun K hK => ?_); go_big_quiet_op; (first | refine hK _ ?_ | refine ⟨_, fun _ _ => rfl, hK _ ?_⟩ | refine ⟨_, fun _ _ _ => rfl, hK _ ?_⟩); clear hK K)
      (refine wpHeavy_plain rfl rfl rfl (fun K hK => ?_); go_big_quiet_op; (first | refine hK _ ?_ | refine ⟨_, fun _ _ => rfl, hK _ ?_⟩ | refine ⟨_, fun _ _ _ => rfl, hK _ ?_⟩); clear hK K)
      (refine wpHeavy_run (.float .f32 y') rfl rfl (by rintro W ⟨hW, hO⟩; have hcell := (hW.cell (p := _) lp2).trans hce3; simp [go_sem, BigFrame.eval_const, BigFrame.eval_global, BigFrame.eval_func, hcell]) ?_; simp only [Act.put, List.setIfInBounds_toArray, List.set_cons_succ, List.set_cons_zero])
      (refine wpHeavy_run (.float .f32 m2) rfl rfl (by rintro W ⟨hW, hO⟩; simp [go_sem, BigFrame.eval_const, BigFrame.eval_global, BigFrame.eval_func, eqGuard, hmr2]) ?_; simp only [Act.put, List.setIfInBounds_toArray, List.set_cons_succ, List.set_cons_zero])
      refine wpHeavy_farith rfl rfl ⟨wr.drewN 1, hD0 1, 1, rfl⟩ _ _ _ _ _ rfl rfl _ _ _ rfl rfl fm1 fm2 (fun r5 hr5 => ⟨?_, ?_⟩)
      · rintro W m ⟨hD, m0, rfl⟩
        exact ⟨by rw [drewN_tw]; exact hD0 _, _, drewN_tw⟩
      simp only [Act.put, List.setIfInBounds_toArray, List.set_cons_succ, List.set_cons_zero]
      refine wpHeavy_step rfl rfl ⟨wr.drewN 1, hD0 1, 1, rfl⟩ ?_
      rintro W ⟨hD, m0, rfl⟩
      refine heavyUpon_run (v := .slice (some ⟨wr.heap.size, 0, none⟩) 1 1) (w' := (wr.drewN m0).alloc (.cells #[.float .f32 r5] 34)) (by simp [go_sem, BigFrame.eval_const, BigFrame.eval_global, BigFrame.eval_func]) ⟨hD1 m0 0 r5, m0, 0, r5, rfl, rfl⟩ ?_
      simp only [Act.put, List.setIfInBounds_toArray, List.set_cons_succ, List.set_cons_zero]
      refine wpHeavy_step rfl rfl ⟨_, hD1 0 0 r5, 0, 0, r5, rfl, rfl⟩ ?_
      rintro W ⟨hD, m1', k1, r6, hl0, rfl⟩
      have hr65 : r6 = r5 := by simpa using hl0.symm
      subst hr65
      refine heavy_append_lies _ _ _ _ rfl wa.heap.size 34 i0 _ 1 4 Try.underlying22 hi hz0 hz1 hz2 rfl (by omega) (.slice a j cp) j xs rfl (ownsRow_below hk.own (by repeat first | (with_reducible exact Below.refl _ _) | (with_reducible refine Below.setCell ?_ (by first | exact Nat.le_refl _ | (simp; done) | (simp; omega) | omega) _) | (with_reducible refine Below.alloc ?_ (by first | exact Nat.le_refl _ | (simp; done) | (simp; omega) | omega) _) | (with_reducible refine below_drewN ?_ _) | (with_reducible refine Below.drew ?_))) ⟨wr.heap.size, 0, none⟩ 1 1 [.float .f32 r6] rfl rfl
        (by exact World.news_of_block (cs := #[.float .f32 r6]) (t := 34) (fr := (0, 0)) (heap_alloc_new _ _)) (by simp [Value.oneCell']) (by omega) (by unfold maxLen; omega) (by omega) (by have := hk.bel.size; simp [World.drewN]; omega) (wr.heap.size + 1) (by simp [World.drewN]) ?_
      intro gg c2 W2 hown2 hgrow2 hat2 hlt2
      have hbx : Below wr.heap.size wr (((wr.drewN m1').alloc (.cells #[.float .f32 r6] 34)).drewN k1) := (by repeat first | (with_reducible exact Below.refl _ _) | (with_reducible refine Below.setCell ?_ (by first | exact Nat.le_refl _ | (simp; done) | (simp; omega) | omega) _) | (with_reducible refine Below.alloc ?_ (by first | exact Nat.le_refl _ | (simp; done) | (simp; omega) | omega) _) | (with_reducible refine below_drewN ?_ _) | (with_reducible refine Below.drew ?_))
      refine ⟨⟨⟨hD.1.grown hgrow2 hD.1.size (fun q hq => (hk.own.lt q hq).1), ?_⟩, gg, c2, r6, _, rfl, rfl, hbx, hown2, hgrow2, by simpa [World.drewN] using hat2, hlt2⟩, ?_⟩
      · exact hgrow2.cell (a := ⟨ob, 2, none⟩) (v := .slice a j cp) hD.2 (by intro e; exact (hk.far ob e.symm).1 rfl)
      clear hown2 hgrow2 hat2 hlt2 hbx hD
      simp only [Act.put, List.setIfInBounds_toArray, List.set_cons_succ, List.set_cons_zero]
      (refine wpHeavy_plain rfl rfl rfl (fun K hK => ?_); go_big_quiet_op; (first | refine hK _ ?_ | refine ⟨_, fun _ _ => rfl, hK _ ?_⟩ | refine ⟨_, fun _ _ _ => rfl, hK _ ?_⟩); clear hK K)
      refine wpHeavy_nil ?_
      rintro W ⟨hD, g2, c3, r7, wx2, hl1, hl2, hbx, hown2, hgrow2, hat2, hlt2⟩
      have hr7 : r7 = r6 := by simpa using hl1.symm
      subst hr7
      obtain ⟨rfl, rfl⟩ : gg = g2 ∧ c2 = c3 := by simpa using hl2
      have hr' := HV.out _ hr5
      have q3 := hD.2
      have q4 : W.frozen? ⟨ob, 2, none⟩ = false := (World.frozen?_of_block (a := ⟨ob, 2, none⟩) (hgrow2.block ob (Nat.lt_of_lt_of_le htop hbx.size) (fun e => (hk.far ob e.symm).1 rfl))).trans ((hbx.frozen (p := ⟨ob, 2, none⟩) htop).trans (hk.ice2 2))
      have hst := Lib.hid (hk.step hbx hown2 hgrow2 hat2 hr')
      clear hk hown2 hgrow2 hat2 hbx hD hD0 hD1 hl1 hl2 hr5 hr' fm1 fm2 hmr1 hmr2 hce hce3 y0 y1 y2 x0 x1 x2 HV
      go_wp2
      go_roundw
      case rel => exact ⟨j + 1, _, _, _, by omega, by go_num, hst.out⟩
      case measure => simp [intOf]; omega
    · obtain rfl : j = n := by omega
      obtain ⟨y0, y1, y2⟩ := hk.box
      obtain ⟨X, hX, hV⟩ := hk.fs
      have hvB : validB p c j (vals X) = allFin VV j := (validB_nat hp1 hp hc1 hc hN.out).trans (allFin_congr hV)
      have hlow : ∀ q off, a = some ⟨q, off, none⟩ → wa.heap.size ≤ q := by rintro q off rfl; exact (hk.own.lt q rfl).1
      have hfar : ∀ q, (∃ off, a = some ⟨q, off, none⟩) → q ≠ wa.heap.size := by rintro q ⟨off, rfl⟩; exact (hk.far q rfl).2
      rw [sa] at hfar
      cases hf : allFin VV j with
      | true =>
        rw [hf] at hvB
        go_wp2_with fail
        go_at_call 19
        refine (specGive_yes _ _ _ _ _ X _ (by omega) hX hvB).mono ?_
        rintro e w3 ⟨rfl, b3⟩
        have hk2 := hk.below b3
        have hX3 := hX.below b3 (Nat.le_refl _)
        clear hk y0 y1 y2 hX x0 x1 x2
        obtain ⟨z0, z1, z2⟩ := hk2.res
        have B2 := Ba.trans (hk2.bel.mono (by omega))
        have hice : ∀ i, w3.frozen? ⟨w.heap.size + 1 + 1, i, none⟩ = false := fun i => by have hh := hk2.ice i; rwa [sa] at hh
        rw [sa] at z0 z1 z2
        clear hk2
        try rw [sa]
        go_wp2_with fail
        refine bodyPost_ret (v := .tuple #[.agg #[.int .i64 p, .int .i64 c, .slice a j cp], .bool true]) (by simp [results, Try.results18, go_sem, z0, z1, z2]) rfl ?_
        exact BelIf.yes hf ⟨_, _, X, rfl, FS.to hX3 (by simp [World.setCell]) (fun q hq => by have hf := hfar q hq; rw [Below.heap_setCell _ _ _ _ hf, Below.heap_setCell _ _ _ _ hf, Below.heap_setCell _ _ _ _ hf]), hV, (by repeat first | (with_reducible exact B2) | (with_reducible refine Below.setCell ?_ (by first | exact Nat.le_refl _ | (simp; done) | (simp; omega) | omega) _) | (with_reducible refine Below.alloc ?_ (by first | exact Nat.le_refl _ | (simp; done) | (simp; omega) | omega) _) | (with_reducible refine below_drewN ?_ _) | (with_reducible refine Below.drew ?_))⟩
      | false =>
        rw [hf] at hvB
        go_wp2_with fail
        go_at_call 19
        refine (specGive_no _ _ _ _ _ X _ (by omega) hX hvB).mono ?_
        rintro e w3 ⟨rfl, b3⟩
        have hk2 := hk.below b3
        clear hk y0 y1 y2 hX x0 x1 x2
        obtain ⟨z0, z1, z2⟩ := hk2.res
        have B2 := Ba.trans (hk2.bel.mono (by omega))
        have hice : ∀ i, w3.frozen? ⟨w.heap.size + 1 + 1, i, none⟩ = false := fun i => by have hh := hk2.ice i; rwa [sa] at hh
        rw [sa] at z0 z1 z2
        clear hk2
        try rw [sa]
        go_wp2_with fail
        refine bodyPost_ret (v := .tuple #[.agg #[.int .i64 0, .int .i64 0, .slice none 0 0], .bool false]) (by simp [results, Try.results18, go_sem, z0, z1, z2]) rfl ?_
        exact BelIf.no hf ⟨none, 0, fun _ => 0, rfl, ⟨Nat.le_refl _, Nat.zero_le _, fun i hi => by omega⟩, fun i hi => by omega, (by repeat first | (with_reducible exact B2) | (with_reducible refine Below.setCell ?_ (by first | exact Nat.le_refl _ | (simp; done) | (simp; omega) | omega) _) | (with_reducible refine Below.alloc ?_ (by first | exact Nat.le_refl _ | (simp; done) | (simp; omega) | omega) _) | (with_reducible refine below_drewN ?_ _) | (with_reducible refine Below.drew ?_))⟩
end Go.Proofs.Ytbmiolfpgoggaaa
