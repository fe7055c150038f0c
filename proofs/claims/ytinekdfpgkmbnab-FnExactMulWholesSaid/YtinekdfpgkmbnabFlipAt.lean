/- Helper: the number in a row and a column, and wholes with rows and columns exchanged, of the reference. Conditions: none. -/
import Derived.Test.YtinekdfpgkmbnabWorkI
import Derived.Test.YtinekdfpgkmbnabValidWholeKey
import Derived.Test.YtinekdfpgkmbnabConcat
import Derived.Test.YtinekdfpgkmbnabPivot
set_option linter.unusedVariables false
set_option linter.unusedSimpArgs false
namespace Go.Proofs.Ytinekdfpgkmbnab
open Go.RowKit

theorem l06AtF_any (p b off r c n cap i k : Nat) (Z : Nat → Int) (w : World) (hr : r ≤ 6) (hc : c ≤ 6) (hn : n = r * c) (hb : Box w p r c (some ⟨b, off, none⟩) n cap) (h : IS .i64 w (some ⟨b, off, none⟩) n cap Z) (hi : i < r) (hk : k < c) :
    Calls Try.prog 66 #[.pointer (some ⟨p, 0, none⟩), .int .i64 i, .int .i64 k] w fun e w' => e = .returned (.int .i64 (Z (i * c + k))) ∧ ∃ m, w' = w.drewN m := by
  obtain ⟨hb0, hb1, hb2⟩ := hb
  have h1 := placeI_lt hi hk
  have h2 : r * c ≤ 6 * 6 := Nat.mul_le_mul hr hc
  have h3 : i * c + k < n := by omega
  have h4 : n ≤ 36 := by omega
  obtain ⟨b', off', e, hbl, hce, hfv⟩ := h.at h3
  simp only [Option.some.injEq, Addr.mk.injEq, and_true] at e
  obtain ⟨rfl, rfl⟩ := e
  have he : ((i : Int) * (c : Int) + (k : Int)) = ((i * c + k : Nat) : Int) := by rw [Int.natCast_add, Int.natCast_mul]
  have ht : ((i : Int) * (c : Int) + (k : Int)).toNat = i * c + k := by rw [he]; exact Int.toNat_natCast _
  have hlt : (i : Int) * (c : Int) + (k : Int) < (n : Int) := by rw [he]; omega
  have h0 : (0 : Int) ≤ (i : Int) * (c : Int) := by rw [← Int.natCast_mul]; omega
  have h00 : (i : Int) * (c : Int) ≤ 36 := by omega
  have hw1 : IntKind.i64.wrap ((i : Int) * (c : Int)) = (i : Int) * (c : Int) := IntWalk.i64_in _ (by omega)
  have hw2 : IntKind.i64.wrap ((i : Int) * (c : Int) + (k : Int)) = (i : Int) * (c : Int) + (k : Int) := IntWalk.i64_in _ (by omega)
  clear hn h1 h2 he hfv hbl h
  go_enter Try.func66, Try.ntmps66
  go_wp2
  go_quiet (fail)
  go_wp2
  go_ret
  exact ⟨rfl, _, rfl⟩
/-- A whole in memory of its own. -/
def NewW (w : World) (R C : Int) (n : Nat) (Z : Nat → Int) (e : Ending) (w' : World) : Prop :=
  ∃ g, e = .returned (.agg #[.int .i64 R, .int .i64 C, .slice (some ⟨g, 0, none⟩) n n]) ∧ OwnI 2 .i64 w.heap.size w'.heap.size w' (some ⟨g, 0, none⟩) n n Z ∧ Below w.heap.size w w'
theorem heldSides {w0 W w' : World} {p q : Nat} {i k : Nat} {u0 u1 : Value} (hs : W.cell? ⟨p, i, none⟩ = some u0 ∧ W.cell? ⟨q, k, none⟩ = some u1 ∧ Below w0.heap.size w0 W) (hb : Below W.heap.size W w') (l : p < w0.heap.size) (l2 : q < w0.heap.size) :
    w'.cell? ⟨p, i, none⟩ = some u0 ∧ w'.cell? ⟨q, k, none⟩ = some u1 ∧ Below w0.heap.size w0 w' := by
  obtain ⟨h0, h1, h2⟩ := hs
  have e1 : p < W.heap.size := Nat.lt_of_lt_of_le l h2.size
  have e2 : q < W.heap.size := Nat.lt_of_lt_of_le l2 h2.size
  exact ⟨(hb.cell (p := ⟨p, i, none⟩) e1).trans h0, (hb.cell (p := ⟨q, k, none⟩) e2).trans h1, h2.trans (hb.mono h2.size)⟩
theorem heldSidesB {w0 w' : World} {p q : Nat} {i k : Nat} {u0 u1 : Value} (h0 : w0.cell? ⟨p, i, none⟩ = some u0) (h1 : w0.cell? ⟨q, k, none⟩ = some u1) (l : p < w0.heap.size) (l2 : q < w0.heap.size) (hb : Below w0.heap.size w0 w') :
    w'.cell? ⟨p, i, none⟩ = some u0 ∧ w'.cell? ⟨q, k, none⟩ = some u1 ∧ Below w0.heap.size w0 w' :=
  ⟨(hb.cell (p := ⟨p, i, none⟩) l).trans h0, (hb.cell (p := ⟨q, k, none⟩) l2).trans h1, hb⟩
/-- An operation of one value that is no plain one by its form, as a nil check. -/
theorem wpPivot_run {P : Program} {ops : Array Oper} {C : World → Prop} {p : Nat} {Q : Act → Prop} {a : Act} {k : Nat} {o : Oper} {rest : List Oper} (v : Value) (hw : Region.wanted o (yielded ops a.tmps) = true) (hk : (k == p) = false) (hr : ∀ w, C w → (execOp a.eval o).run P w = .ok (.value v) w)
    (h : wpPivot P ops C p Q rest (k + 1) (a.put o.dst v)) : wpPivot P ops C p Q (o :: rest) k a := by
  unfold wpPivot
  rw [if_pos hw, if_neg (by simpa using hk)]
  exact ⟨v, fun w hC => by rw [hr w hC]; exact ⟨rfl, rfl⟩, h⟩
/-- The numbers exchanged, of which the first i columns and k numbers of the next one are told. -/
def flipI (r c : Nat) (Z : Nat → Int) (i k t : Nat) : Int := if t % r < i ∨ (t % r = i ∧ t / r < k) then Z (t % r * c + t / r) else 0
theorem flipI_step {r c : Nat} {Z : Nat → Int} {i k : Nat} (hi : i < r) (t : Nat) : (if t = k * r + i then Z (i * c + k) else flipI r c Z i k t) = flipI r c Z i (k + 1) t := by
  unfold flipI
  by_cases e : t = k * r + i
  · subst e
    obtain ⟨h1, h2⟩ := placeI_div (c := r) (j := k) (k := i) hi
    rw [if_pos rfl, h1, h2, if_pos (.inr ⟨rfl, by omega⟩)]
  · rw [if_neg e]
    have hp := placeI_eq (c := r) (t := t)
    by_cases h : t % r < i ∨ (t % r = i ∧ t / r < k)
    · rw [if_pos h, if_pos (by omega)]
    · rw [if_neg h]
      by_cases h2 : t % r < i ∨ (t % r = i ∧ t / r < k + 1)
      · exfalso
        have e1 : t % r = i := by omega
        have e2 : t / r = k := by omega
        rw [e1, e2] at hp
        exact e hp.symm
      · rw [if_neg h2]
theorem flipI_zero {r c : Nat} {Z : Nat → Int} (t : Nat) : flipI r c Z 0 0 t = 0 := by
  unfold flipI
  rw [if_neg (by rintro (h | ⟨_, h⟩) <;> exact Nat.not_lt_zero _ h)]
theorem flipI_next {r c : Nat} {Z : Nat → Int} {i : Nat} (t : Nat) (ht : t < c * r) (hr : 0 < r) : flipI r c Z i c t = flipI r c Z (i + 1) 0 t := by
  unfold flipI
  have h1 : t / r < c := Nat.div_lt_of_lt_mul (by rw [Nat.mul_comm]; exact ht)
  have e : (t % r < i ∨ (t % r = i ∧ t / r < c)) ↔ (t % r < i + 1 ∨ (t % r = i + 1 ∧ t / r < 0)) := by
    generalize t / r = x at *
    generalize t % r = y at *
    omega
  simp only [e]
set_option maxRecDepth 20000 in
set_option maxHeartbeats 4000000 in
theorem l06Flip_any (p r c n b off cap : Nat) (Z : Nat → Int) (w : World) (hr1 : 1 ≤ r) (hr : r ≤ 6) (hc1 : 1 ≤ c) (hc : c ≤ 6) (hn : n = r * c) (hp : p < w.heap.size) (hb : Box w p r c (some ⟨b, off, none⟩) n cap) (h : IS .i64 w (some ⟨b, off, none⟩) n cap Z) :
    Calls Try.prog 41 #[.pointer (some ⟨p, 0, none⟩)] w (NewW w c r n (flipI r c Z r 0)) := by
  have hn2 : n = c * r := by rw [hn, Nat.mul_comm]
  have HN := Lib.hid hn
  have HN2 := Lib.hid hn2
  have hn36 : n ≤ 36 := by have : r * c ≤ 6 * 6 := Nat.mul_le_mul hr hc; omega
  have hpos : 0 < n := by rw [hn]; exact Nat.mul_pos hr1 hc1
  have hwfs := Lib.hid h.wfs
  have HB := Lib.hid hb
  have H := Lib.hid h
  obtain ⟨x0, x1, x2⟩ := hb
  clear hn hn2 h
  go_enter Try.func41, Try.ntmps41
  go_wp2_with fail
  go_region_held3 (fun w' => w'.cell? ⟨p, 1, none⟩ = some (.int .i64 c) ∧ w'.cell? ⟨p, 0, none⟩ = some (.int .i64 r) ∧ Below w.heap.size w w')
    (first | exact ⟨x1, x0, (by first | exact (Below.refl _ _).drew | exact (below_drewN (Below.refl _ _) _).drew)⟩ | exact heldSides (by assumption) (by assumption) hp hp | (refine heldSidesB x1 x0 hp hp ?_; (repeat first | (with_reducible exact B1) | (with_reducible exact Below.refl _ _) | (with_reducible refine Below.setCell ?_ (by first | exact Nat.le_refl _ | (simp; done) | (simp; omega) | omega) _) | (with_reducible refine Below.alloc ?_ (by first | exact Nat.le_refl _ | (simp; done) | (simp; omega) | omega) _) | (with_reducible refine below_drewN ?_ _) | (with_reducible refine Below.drew ?_)); done) | (refine heldSidesB x1 x0 hp hp ?_; (repeat first | (with_reducible exact Below.refl _ _) | (with_reducible exact Below.refl _ _) | (with_reducible refine Below.setCell ?_ (by first | exact Nat.le_refl _ | (simp; done) | (simp; omega) | omega) _) | (with_reducible refine Below.alloc ?_ (by first | exact Nat.le_refl _ | (simp; done) | (simp; omega) | omega) _) | (with_reducible refine below_drewN ?_ _) | (with_reducible refine Below.drew ?_)); done))
    (first | (go_at_call 63; refine (l06Zero_any c r n _ hc hr HN2.out).mono ?_; rintro e w1 ⟨g, rfl, o1, b1⟩; have B1 : Below w.heap.size w w1 := Below.trans (by repeat first | (with_reducible exact Below.refl _ _) | (with_reducible refine Below.setCell ?_ (by first | exact Nat.le_refl _ | (simp; done) | (simp; omega) | omega) _) | (with_reducible refine Below.alloc ?_ (by first | exact Nat.le_refl _ | (simp; done) | (simp; omega) | omega) _) | (with_reducible refine below_drewN ?_ _) | (with_reducible refine Below.drew ?_)) (b1.mono (by simp [World.drew] <;> omega)); have s1 : w.heap.size + 1 ≤ w1.heap.size := (by have hh := b1.size; (try simp [World.drew] at hh); omega); obtain ⟨hd1, hf1⟩ := bcell b1))
  have wk0 := WorkI.start (R := (c : Int)) (C := (r : Int)) 24 24 (OwnI.mono (B' := w.heap.size + 1) o1 (by simp [World.drew]) (Nat.le_refl _) (Nat.le_refl _)) ((Below.refl _ _).drew.trans b1)
  generalize hob : w1.heap.size = ob at wk0 ⊢
  obtain ⟨B0, U0, hB0, wk⟩ : ∃ B0 U0, w.heap.size ≤ B0 ∧ WorkI w B0 U0 g ob w.heap.size c r n (flipI r c Z 0 0) _ := ⟨_, _, by omega, wk0.same (fun t _ => (flipI_zero t).symm)⟩
  clear wk0
  rotate_left
  have wk0 := WorkI.start2 (w := w) (R := (c : Int)) (C := (r : Int)) (Z := fun _ => 0) (by simp [World.drew]) b1 (by refine ⟨?_, ?_, ?_⟩ <;> simp [go_sem]) (by intro i; simp [go_sem]) (by refine ⟨?_, ?_, ?_⟩ <;> simp [go_sem]) (by intro i; simp [go_sem]) (by repeat first | (with_reducible exact Below.refl _ _) | (with_reducible refine Below.setCell ?_ (by first | exact Nat.le_refl _ | (simp; done) | (simp; omega) | omega) _) | (with_reducible refine Below.alloc ?_ (by first | exact Nat.le_refl _ | (simp; done) | (simp; omega) | omega) _) | (with_reducible refine below_drewN ?_ _) | (with_reducible refine Below.drew ?_)) o1
  generalize hob : w.heap.size + 1 = ob at wk0 ⊢
  obtain ⟨B0, U0, hB0, wk⟩ : ∃ B0 U0, w.heap.size ≤ B0 ∧ WorkI w B0 U0 g ob w.heap.size c r n (flipI r c Z 0 0) _ := ⟨_, _, by omega, wk0.same (fun t _ => (flipI_zero t).symm)⟩
  clear wk0
  rotate_left
  all_goals
    clear hob o1 hd1 hf1 b1 B1 s1
    go_wp2
    go_loopw [4] (fun i wr => ∃ j : Nat, j ≤ r ∧ i = .int .i64 j ∧ WorkI w B0 U0 g ob w.heap.size c r n (flipI r c Z j 0) wr) (fun i _ => r - (intOf i).toNat)
    case atStart => exact ⟨0, Nat.zero_le _, rfl, wk⟩
    case round =>
      obtain ⟨j, hj, rfl, hk⟩ := hrel
      clear wk
      have q0 := (hk.bel.cell (p := ⟨p, 0, none⟩) hp).trans x0
      by_cases hlt : j < r
      · have hj1 : (j : Int) < (r : Int) := by omega
        go_wp2
        go_loopw [5] (fun i wr => ∃ k : Nat, k ≤ c ∧ i = .int .i64 k ∧ WorkI w B0 U0 g ob w.heap.size c r n (flipI r c Z j k) wr) (fun i _ => c - (intOf i).toNat)
        case atStart => exact ⟨0, Nat.zero_le _, rfl, hk⟩
        case round =>
          obtain ⟨k, hkc, rfl, hk2⟩ := hrel
          clear hk q0
          have q0 := (hk2.bel.cell (p := ⟨p, 0, none⟩) hp).trans x0
          have q1 := (hk2.bel.cell (p := ⟨p, 1, none⟩) hp).trans x1
          have q2 := (hk2.bel.cell (p := ⟨p, 2, none⟩) hp).trans x2
          obtain ⟨g1, g2, g3, g4⟩ := hk2.facts hpos
          obtain ⟨y0, y1, y2⟩ := hk2.box
          by_cases hlt2 : k < c
          · have hk1 : (k : Int) < (c : Int) := by omega
            have hpl : k * r + j < n := by rw [HN2.out]; exact placeI_lt hlt2 hlt
            have hv : (Lit.int .i64 (Z (j * c + k))).wf = true := hwfs.out _ (by rw [HN.out]; exact placeI_lt hlt hlt2)
            have hst := hk2.stored (t := k * r + j) (v := Z (j * c + k)) hpl hv
            obtain ⟨hce, hfr, _⟩ := hk2.own.cell hpl
            have hst' := Lib.hid (fun m => WorkI.same ((show WorkI w B0 U0 g ob w.heap.size c r n (flipI r c Z j k) (wr.drewN m) from hk2.drewN).stored (t := k * r + j) (v := Z (j * c + k)) hpl hv) (fun t _ => flipI_step hlt t))
            have hAt : ∀ W, (∃ m, W = wr.drewN m) → Calls Try.prog 66 #[.pointer (some ⟨p, 0, none⟩), .int .i64 j, .int .i64 k] W fun e w' => ∃ u, e = .returned u ∧ (∃ m, w' = wr.drewN m) ∧ u = .int .i64 (Z (j * c + k)) := by
              rintro _ ⟨m, rfl⟩
              refine (l06AtF_any p b off r c n cap j k Z (wr.drewN m) hr hc HN.out ⟨q0, q1, q2⟩ ((H.out.below hk2.bel (Nat.le_refl _)).below (by repeat first | (with_reducible exact Below.refl _ _) | (with_reducible refine Below.setCell ?_ (by first | exact Nat.le_refl _ | (simp; done) | (simp; omega) | omega) _) | (with_reducible refine Below.alloc ?_ (by first | exact Nat.le_refl _ | (simp; done) | (simp; omega) | omega) _) | (with_reducible refine below_drewN ?_ _) | (with_reducible refine Below.drew ?_)) (Nat.le_refl _)) hlt hlt2).mono ?_
              rintro e w' ⟨rfl, q, rfl⟩
              exact ⟨_, rfl, ⟨_, World.drewN_drewN _ _ _⟩, rfl⟩
            have HAt := Lib.hid hAt
            have he : ((k : Int) * (r : Int) + (j : Int)) = ((k * r + j : Nat) : Int) := by rw [Int.natCast_add, Int.natCast_mul]
            have ht : ((k : Int) * (r : Int) + (j : Int)).toNat = k * r + j := by rw [he]; exact Int.toNat_natCast _
            have hl1 : (k : Int) * (r : Int) + (j : Int) < (n : Int) := by rw [he]; omega
            have h0 : (0 : Int) ≤ (k : Int) * (r : Int) := by rw [← Int.natCast_mul]; omega
            have hw1 : IntKind.i64.wrap ((k : Int) * (r : Int)) = (k : Int) * (r : Int) := IntWalk.i64_in _ (by omega)
            have hw2 : IntKind.i64.wrap ((k : Int) * (r : Int) + (j : Int)) = (k : Int) * (r : Int) + (j : Int) := IntWalk.i64_in _ (by omega)
            clear hst hk2 he hv hAt
            go_wp2
            (refine wp_region_pivot_tail 13 15 (by kernel_rfl) (by kernel_rfl) ?_; simp only [List.take_succ_cons, List.take_zero, List.drop_succ_cons, List.drop_zero]; (repeat (refine wpPivot_plain rfl rfl rfl (fun K hK => ?_); go_big_quiet_op; refine hK _ ?_; clear hK K)))
            refine wpPivot_run (.pointer (some ⟨p, 0, none⟩)) rfl rfl (fun W _ => by simp [go_sem, BigFrame.eval_const, BigFrame.eval_global, BigFrame.eval_func]) ?_
            simp only [Act.put, List.setIfInBounds_toArray, List.set_cons_succ, List.set_cons_zero]
            repeat (refine wpPivot_plain rfl rfl rfl (fun K hK => ?_); go_big_quiet_op; refine hK _ ?_; clear hK K)
            refine wpPivot_noisy rfl rfl (fun K hK => ?_)
            apply noisy_of_call (f := 66) (args := #[.pointer (some ⟨p, 0, none⟩), .int .i64 j, .int .i64 k]) (fun u => u = .int .i64 (Z (j * c + k)))
            case hr =>
              intro W
              simp [go_sem, BigFrame.eval_const, BigFrame.eval_global, BigFrame.eval_func]
            case hc => exact HAt.out
            rintro _ rfl
            refine hK _ ?_
            clear hK K
            simp only [Act.put, List.setIfInBounds_toArray, List.set_cons_succ, List.set_cons_zero]
            repeat (refine wpPivot_plain rfl rfl rfl (fun K hK => ?_); go_big_quiet_op; refine hK _ ?_; clear hK K)
            refine wpPivot_nil ?_
            rintro _ ⟨kk, rfl⟩
            go_wp2
            go_roundw
            case rel => exact ⟨k + 1, by omega, by go_num, hst'.out kk⟩
            case measure => simp [intOf]; omega
          · obtain rfl : k = c := by omega
            have hnx := Lib.hid (hk2.same (fun t ht => flipI_next (i := j) t (by rw [← HN2.out]; exact ht) (by omega)))
            clear hk2
            go_wp2
            go_roundw
            case rel => exact ⟨j + 1, by omega, by go_num, hnx.out⟩
            case measure => simp [intOf]; omega
      · obtain rfl : j = r := by omega
        obtain ⟨y0, y1, y2⟩ := hk.box
        obtain ⟨z0, z1, z2⟩ := hk.res
        obtain ⟨g1, g2, g3, g4⟩ := hk.facts hpos
        have o2 := hk.own
        have B2 := hk.bel
        have hice := hk.ice
        have hmid := hk.mid
        clear hk
        go_wp2_with fail
        refine bodyPost_ret (v := .agg #[.int .i64 c, .int .i64 j, .slice (some ⟨g, 0, none⟩) n n]) (by simp [results, Try.results41, go_sem, y0, y1, y2, z0, z1, z2]) rfl ?_
        exact ⟨_, rfl, OwnI.mono (B := B0) (U := U0) (by refine OwnI.to o2 (hk := fun g hg1 hg2 => by (try simp at hg1 hg2); repeat (first | rw [Below.heap_setCell _ _ _ _ (by simp; omega)] | rw [Below.heap_alloc _ _ _ (by simp [World.setCell]; omega)])) ?_ ?_ ?_ ?_ <;> (first | exact Nat.le_refl _ | omega | (simp [World.setCell]; done) | (simp [World.setCell]; omega))) hB0 (by simp [World.setCell]; omega) (Nat.le_refl _), (by repeat first | (with_reducible exact B2) | (with_reducible refine Below.setCell ?_ (by first | exact Nat.le_refl _ | (simp; done) | (simp; omega) | omega) _) | (with_reducible refine Below.alloc ?_ (by first | exact Nat.le_refl _ | (simp; done) | (simp; omega) | omega) _) | (with_reducible refine below_drewN ?_ _) | (with_reducible refine Below.drew ?_))⟩
end Go.Proofs.Ytinekdfpgkmbnab
