/- Helper: NewDesk, of the program and of its reference; marks on desks and held numbers. Conditions: none. -/
import Derived.Test.YtmddhhmgfhljiabDesk
set_option linter.unusedVariables false
set_option linter.unusedSimpArgs false
namespace Go.Proofs.Ytmddhhmgfhljiab
open Go.RowKit

theorem ownF_lit (w : World) (cs : Array Value) (n : Nat) (Z : Nat → Nat) (hs : cs.size = n) (hn : n ≤ 16) (hx : ∀ j, j < n → cs.toList[j]? = some (.float .f32 (Z j))) (hw : ∀ j, j < n → (Lit.float .f32 (Z j)).wf = true) :
    Own 77 .f32 w.heap.size (w.heap.size + 1) (w.alloc (.cells cs 77)) (some ⟨w.heap.size, 0, none⟩) n n Z :=
  .inr ⟨w.heap.size, cs.toList, rfl, Nat.le_refl _, by unfold maxLen; omega, Nat.le_refl _, by omega, by simp, World.ownsRow_lit w cs n (Nat.le_refl _) (by unfold maxLen; omega) (by omega), hx, hw⟩
theorem ownI_lit (w : World) (cs : Array Value) (n : Nat) (Z : Nat → Int) (hs : cs.size = n) (hn : n ≤ 16) (hx : ∀ j, j < n → cs.toList[j]? = some (.int .i64 (Z j))) (hw : ∀ j, j < n → (Lit.int .i64 (Z j)).wf = true) :
    OwnI 2 .i64 w.heap.size (w.heap.size + 1) (w.alloc (.cells cs 2)) (some ⟨w.heap.size, 0, none⟩) n n Z :=
  .inr ⟨w.heap.size, cs.toList, rfl, Nat.le_refl _, by unfold maxLen; omega, Nat.le_refl _, by omega, by simp, World.ownsRow_lit w cs n (Nat.le_refl _) (by unfold maxLen; omega) (by omega), hx, hw⟩
def ndC (j : Nat) : Nat := match j with | 0 => 1073741824 | 1 => 1065353216 | 2 => 1065353216 | _ => 1073741824
def ndD (j : Nat) : Nat := match j with | 0 => 1065353216 | _ => 0
def ndE (_ : Nat) : Nat := 1073741824
def ndF (_ : Nat) : Nat := 1065353216
def ndI (j : Nat) : Int := match j with | 0 => 2 | 1 => 4 | 2 => 6 | _ => 8
theorem less4 {p : Nat → Prop} (h0 : p 0) (h1 : p 1) (h2 : p 2) (h3 : p 3) : ∀ j, j < 4 → p j := by
  intro j hj
  rcases j with _ | _ | _ | _ | j
  · exact h0
  · exact h1
  · exact h2
  · exact h3
  · omega
theorem less2 {p : Nat → Prop} (h0 : p 0) (h1 : p 1) : ∀ j, j < 2 → p j := by
  intro j hj
  rcases j with _ | _ | j
  · exact h0
  · exact h1
  · omega
theorem less1 {p : Nat → Prop} (h0 : p 0) : ∀ j, j < 1 → p j := by
  intro j hj
  rcases j with _ | j
  · exact h0
  · omega
set_option maxRecDepth 20000 in
set_option maxHeartbeats 2000000 in
theorem implNewDesk_sep (w : World) : Calls Try.prog 15 #[] w (SepDesk w 2 2 4 ndC 2 ndD 2 ndE 1 ndF 2 2 4 ndI) := by
  obtain ⟨w0, hw0⟩ : ∃ w0, w0 = w.alloc (.cells #[Value.int .i64 2, .int .i64 2, .slice (some ⟨w.heap.size + 1, 0, none⟩) 4 4, .slice (some ⟨w.heap.size + 1 + 1, 0, none⟩) 2 2, .slice (some ⟨w.heap.size + 1 + 1 + 1, 0, none⟩) 2 2, .slice (some ⟨w.heap.size + 1 + 1 + 1 + 1, 0, none⟩) 1 1, .int .i64 2, .int .i64 2, .slice (some ⟨w.heap.size + 1 + 1 + 1 + 1 + 1, 0, none⟩) 4 4] 38) := ⟨_, rfl⟩
  have s0 : w0.heap.size = w.heap.size + 1 := by rw [hw0]; simp
  obtain ⟨w1, hw1⟩ : ∃ w1, w1 = w0.alloc (.cells #[Value.float .f32 1073741824, .float .f32 1065353216, .float .f32 1065353216, .float .f32 1073741824] 77) := ⟨_, rfl⟩
  have s1 : w1.heap.size = w0.heap.size + 1 := by rw [hw1]; simp
  have g1 : w0.grownBy w1 none := by rw [hw1]; exact World.grownBy_alloc _ _ none
  have oc : Own 77 .f32 w0.heap.size (w0.heap.size + 1) w1 (some ⟨w0.heap.size, 0, none⟩) 4 4 ndC := by rw [hw1]; exact ownF_lit w0 #[Value.float .f32 1073741824, .float .f32 1065353216, .float .f32 1065353216, .float .f32 1073741824] 4 ndC rfl (by omega) (less4 rfl rfl rfl rfl) (less4 (by decide) (by decide) (by decide) (by decide))
  obtain ⟨w2, hw2⟩ : ∃ w2, w2 = w1.alloc (.cells #[Value.float .f32 1065353216, .float .f32 0] 77) := ⟨_, rfl⟩
  have s2 : w2.heap.size = w1.heap.size + 1 := by rw [hw2]; simp
  have g2 : w1.grownBy w2 none := by rw [hw2]; exact World.grownBy_alloc _ _ none
  have od : Own 77 .f32 w1.heap.size (w1.heap.size + 1) w2 (some ⟨w1.heap.size, 0, none⟩) 2 2 ndD := by rw [hw2]; exact ownF_lit w1 #[Value.float .f32 1065353216, .float .f32 0] 2 ndD rfl (by omega) (less2 rfl rfl) (less2 (by decide) (by decide))
  obtain ⟨w3, hw3⟩ : ∃ w3, w3 = w2.alloc (.cells #[Value.float .f32 1073741824, .float .f32 1073741824] 77) := ⟨_, rfl⟩
  have s3 : w3.heap.size = w2.heap.size + 1 := by rw [hw3]; simp
  have g3 : w2.grownBy w3 none := by rw [hw3]; exact World.grownBy_alloc _ _ none
  have oe : Own 77 .f32 w2.heap.size (w2.heap.size + 1) w3 (some ⟨w2.heap.size, 0, none⟩) 2 2 ndE := by rw [hw3]; exact ownF_lit w2 #[Value.float .f32 1073741824, .float .f32 1073741824] 2 ndE rfl (by omega) (less2 rfl rfl) (less2 (by decide) (by decide))
  obtain ⟨w4, hw4⟩ : ∃ w4, w4 = w3.alloc (.cells #[Value.float .f32 1065353216] 77) := ⟨_, rfl⟩
  have s4 : w4.heap.size = w3.heap.size + 1 := by rw [hw4]; simp
  have g4 : w3.grownBy w4 none := by rw [hw4]; exact World.grownBy_alloc _ _ none
  have of : Own 77 .f32 w3.heap.size (w3.heap.size + 1) w4 (some ⟨w3.heap.size, 0, none⟩) 1 1 ndF := by rw [hw4]; exact ownF_lit w3 #[Value.float .f32 1065353216] 1 ndF rfl (by omega) (less1 rfl) (less1 (by decide))
  obtain ⟨w5, hw5⟩ : ∃ w5, w5 = w4.alloc (.cells #[Value.int .i64 2, .int .i64 4, .int .i64 6, .int .i64 8] 2) := ⟨_, rfl⟩
  have s5 : w5.heap.size = w4.heap.size + 1 := by rw [hw5]; simp
  have g5 : w4.grownBy w5 none := by rw [hw5]; exact World.grownBy_alloc _ _ none
  have oi : OwnI 2 .i64 w4.heap.size (w4.heap.size + 1) w5 (some ⟨w4.heap.size, 0, none⟩) 4 4 ndI := by rw [hw5]; exact ownI_lit w4 #[Value.int .i64 2, .int .i64 4, .int .i64 6, .int .i64 8] 4 ndI rfl (by omega) (less4 rfl rfl rfl rfl) (less4 (by decide) (by decide) (by decide) (by decide))
  replace oc := oc.kept g2 (fun q hq => by cases hq)
  replace oc := oc.kept g3 (fun q hq => by cases hq)
  replace od := od.kept g3 (fun q hq => by cases hq)
  replace oc := oc.kept g4 (fun q hq => by cases hq)
  replace od := od.kept g4 (fun q hq => by cases hq)
  replace oe := oe.kept g4 (fun q hq => by cases hq)
  replace oc := oc.kept g5 (fun q hq => by cases hq)
  replace od := od.kept g5 (fun q hq => by cases hq)
  replace oe := oe.kept g5 (fun q hq => by cases hq)
  replace of := of.kept g5 (fun q hq => by cases hq)
  have B : Below w.heap.size w w5 := by rw [hw5, hw4, hw3, hw2, hw1, hw0]; exact (by repeat first | (with_reducible exact Below.refl _ _) | (with_reducible refine Below.setCell ?_ (by first | exact Nat.le_refl _ | (simp; done) | (simp; omega) | omega) _) | (with_reducible refine Below.alloc ?_ (by first | exact Nat.le_refl _ | (simp; done) | (simp; omega) | omega) _) | (with_reducible refine below_drewN ?_ _) | (with_reducible refine Below.drew ?_))
  have X : BoxL w5 w.heap.size [.int .i64 2, .int .i64 2, .slice (some ⟨w.heap.size + 1, 0, none⟩) 4 4, .slice (some ⟨w.heap.size + 1 + 1, 0, none⟩) 2 2, .slice (some ⟨w.heap.size + 1 + 1 + 1, 0, none⟩) 2 2, .slice (some ⟨w.heap.size + 1 + 1 + 1 + 1, 0, none⟩) 1 1, .int .i64 2, .int .i64 2, .slice (some ⟨w.heap.size + 1 + 1 + 1 + 1 + 1, 0, none⟩) 4 4] := by rw [hw5, hw4, hw3, hw2, hw1, hw0]; exact BoxL.nine (by simp [go_sem]) (by simp [go_sem]) (by simp [go_sem]) (by simp [go_sem]) (by simp [go_sem]) (by simp [go_sem]) (by simp [go_sem]) (by simp [go_sem]) (by simp [go_sem])
  have HW : ((((((w.alloc (.cells #[Value.int .i64 2, .int .i64 2, .slice (some ⟨w.heap.size + 1, 0, none⟩) 4 4, .slice (some ⟨w.heap.size + 1 + 1, 0, none⟩) 2 2, .slice (some ⟨w.heap.size + 1 + 1 + 1, 0, none⟩) 2 2, .slice (some ⟨w.heap.size + 1 + 1 + 1 + 1, 0, none⟩) 1 1, .int .i64 2, .int .i64 2, .slice (some ⟨w.heap.size + 1 + 1 + 1 + 1 + 1, 0, none⟩) 4 4] 38)).alloc (.cells #[Value.float .f32 1073741824, .float .f32 1065353216, .float .f32 1065353216, .float .f32 1073741824] 77)).alloc (.cells #[Value.float .f32 1065353216, .float .f32 0] 77)).alloc (.cells #[Value.float .f32 1073741824, .float .f32 1073741824] 77)).alloc (.cells #[Value.float .f32 1065353216] 77)).alloc (.cells #[Value.int .i64 2, .int .i64 4, .int .i64 6, .int .i64 8] 2)) = w5 := by rw [hw5, hw4, hw3, hw2, hw1, hw0]
  clear hw0 hw1 hw2 hw3 hw4 hw5
  clear g1 g2 g3 g4 g5
  go_enter Try.func15, Try.ntmps15
  go_wp2_with fail
  try rw [HW]
  clear HW
  have r0 := X 0 _ rfl
  have r1 := X 1 _ rfl
  have r2 := X 2 _ rfl
  have r3 := X 3 _ rfl
  have r4 := X 4 _ rfl
  have r5 := X 5 _ rfl
  have r6 := X 6 _ rfl
  have r7 := X 7 _ rfl
  have r8 := X 8 _ rfl
  refine bodyPost_ret (v := .agg #[.int .i64 2, .int .i64 2, .slice (some ⟨w.heap.size + 1, 0, none⟩) 4 4, .slice (some ⟨w.heap.size + 1 + 1, 0, none⟩) 2 2, .slice (some ⟨w.heap.size + 1 + 1 + 1, 0, none⟩) 2 2, .slice (some ⟨w.heap.size + 1 + 1 + 1 + 1, 0, none⟩) 1 1, .int .i64 2, .int .i64 2, .slice (some ⟨w.heap.size + 1 + 1 + 1 + 1 + 1, 0, none⟩) 4 4]) (by simp [results, Try.results15, go_sem, r0, r1, r2, r3, r4, r5, r6, r7, r8]) rfl ?_
  have ec : w0.heap.size = w.heap.size + 1 := by omega
  have ed : w1.heap.size = w.heap.size + 1 + 1 := by omega
  have ee : w2.heap.size = w.heap.size + 1 + 1 + 1 := by omega
  have ef : w3.heap.size = w.heap.size + 1 + 1 + 1 + 1 := by omega
  have ei : w4.heap.size = w.heap.size + 1 + 1 + 1 + 1 + 1 := by omega
  rw [ec] at oc
  rw [ed] at od
  rw [ee] at oe
  rw [ef] at of
  rw [ei] at oi
  exact ⟨_, _, _, _, _, _, _, _, _, _, w.heap.size + 1 + 1, w.heap.size + 1 + 1 + 1, w.heap.size + 1 + 1 + 1 + 1, w.heap.size + 1 + 1 + 1 + 1 + 1, rfl, by omega, by omega, by omega, by omega, by omega, oc.mono (by omega) (by omega) (by omega), od.mono (by omega) (by omega) (by omega), oe.mono (by omega) (by omega) (by omega), of.mono (by omega) (by omega) (by omega), oi.mono (by omega) (by omega) (by omega), B⟩
set_option maxRecDepth 20000 in
set_option maxHeartbeats 2000000 in
theorem specNewDesk_sep (w : World) : Calls Try.prog 14 #[] w (SepDesk w 2 2 4 ndC 2 ndD 2 ndE 1 ndF 2 2 4 ndI) := by
  obtain ⟨w0, hw0⟩ : ∃ w0, w0 = w.alloc (.cells #[Value.int .i64 2, .int .i64 2, .slice (some ⟨w.heap.size + 1, 0, none⟩) 4 4, .slice (some ⟨w.heap.size + 1 + 1 + 1, 0, none⟩) 2 2, .slice (some ⟨w.heap.size + 1 + 1 + 1 + 1, 0, none⟩) 2 2, .slice (some ⟨w.heap.size + 1 + 1 + 1 + 1 + 1, 0, none⟩) 1 1, .int .i64 2, .int .i64 2, .slice (some ⟨w.heap.size + 1 + 1 + 1 + 1 + 1 + 1, 0, none⟩) 4 4] 38) := ⟨_, rfl⟩
  have s0 : w0.heap.size = w.heap.size + 1 := by rw [hw0]; simp
  obtain ⟨w1, hw1⟩ : ∃ w1, w1 = w0.alloc (.cells #[Value.float .f32 1073741824, .float .f32 1065353216, .float .f32 1065353216, .float .f32 1073741824] 77) := ⟨_, rfl⟩
  have s1 : w1.heap.size = w0.heap.size + 1 := by rw [hw1]; simp
  have g1 : w0.grownBy w1 none := by rw [hw1]; exact World.grownBy_alloc _ _ none
  have oc : Own 77 .f32 w0.heap.size (w0.heap.size + 1) w1 (some ⟨w0.heap.size, 0, none⟩) 4 4 ndC := by rw [hw1]; exact ownF_lit w0 #[Value.float .f32 1073741824, .float .f32 1065353216, .float .f32 1065353216, .float .f32 1073741824] 4 ndC rfl (by omega) (less4 rfl rfl rfl rfl) (less4 (by decide) (by decide) (by decide) (by decide))
  obtain ⟨w2, hw2⟩ : ∃ w2, w2 = w1.alloc (.cells #[Value.int .i64 2, .int .i64 2, .slice (some ⟨w.heap.size + 1, 0, none⟩) 4 4, .slice (some ⟨w.heap.size + 1 + 1 + 1, 0, none⟩) 2 2, .slice (some ⟨w.heap.size + 1 + 1 + 1 + 1, 0, none⟩) 2 2, .slice (some ⟨w.heap.size + 1 + 1 + 1 + 1 + 1, 0, none⟩) 1 1, .int .i64 2, .int .i64 2, .slice (some ⟨w.heap.size + 1 + 1 + 1 + 1 + 1 + 1, 0, none⟩) 4 4] 38) := ⟨_, rfl⟩
  have s2 : w2.heap.size = w1.heap.size + 1 := by rw [hw2]; simp
  have g2 : w1.grownBy w2 none := by rw [hw2]; exact World.grownBy_alloc _ _ none
  obtain ⟨w3, hw3⟩ : ∃ w3, w3 = w2.alloc (.cells #[Value.float .f32 1065353216, .float .f32 0] 77) := ⟨_, rfl⟩
  have s3 : w3.heap.size = w2.heap.size + 1 := by rw [hw3]; simp
  have g3 : w2.grownBy w3 none := by rw [hw3]; exact World.grownBy_alloc _ _ none
  have od : Own 77 .f32 w2.heap.size (w2.heap.size + 1) w3 (some ⟨w2.heap.size, 0, none⟩) 2 2 ndD := by rw [hw3]; exact ownF_lit w2 #[Value.float .f32 1065353216, .float .f32 0] 2 ndD rfl (by omega) (less2 rfl rfl) (less2 (by decide) (by decide))
  obtain ⟨w4, hw4⟩ : ∃ w4, w4 = w3.alloc (.cells #[Value.float .f32 1073741824, .float .f32 1073741824] 77) := ⟨_, rfl⟩
  have s4 : w4.heap.size = w3.heap.size + 1 := by rw [hw4]; simp
  have g4 : w3.grownBy w4 none := by rw [hw4]; exact World.grownBy_alloc _ _ none
  have oe : Own 77 .f32 w3.heap.size (w3.heap.size + 1) w4 (some ⟨w3.heap.size, 0, none⟩) 2 2 ndE := by rw [hw4]; exact ownF_lit w3 #[Value.float .f32 1073741824, .float .f32 1073741824] 2 ndE rfl (by omega) (less2 rfl rfl) (less2 (by decide) (by decide))
  obtain ⟨w5, hw5⟩ : ∃ w5, w5 = w4.alloc (.cells #[Value.float .f32 1065353216] 77) := ⟨_, rfl⟩
  have s5 : w5.heap.size = w4.heap.size + 1 := by rw [hw5]; simp
  have g5 : w4.grownBy w5 none := by rw [hw5]; exact World.grownBy_alloc _ _ none
  have of : Own 77 .f32 w4.heap.size (w4.heap.size + 1) w5 (some ⟨w4.heap.size, 0, none⟩) 1 1 ndF := by rw [hw5]; exact ownF_lit w4 #[Value.float .f32 1065353216] 1 ndF rfl (by omega) (less1 rfl) (less1 (by decide))
  obtain ⟨w6, hw6⟩ : ∃ w6, w6 = w5.alloc (.cells #[Value.int .i64 2, .int .i64 4, .int .i64 6, .int .i64 8] 2) := ⟨_, rfl⟩
  have s6 : w6.heap.size = w5.heap.size + 1 := by rw [hw6]; simp
  have g6 : w5.grownBy w6 none := by rw [hw6]; exact World.grownBy_alloc _ _ none
  have oi : OwnI 2 .i64 w5.heap.size (w5.heap.size + 1) w6 (some ⟨w5.heap.size, 0, none⟩) 4 4 ndI := by rw [hw6]; exact ownI_lit w5 #[Value.int .i64 2, .int .i64 4, .int .i64 6, .int .i64 8] 4 ndI rfl (by omega) (less4 rfl rfl rfl rfl) (less4 (by decide) (by decide) (by decide) (by decide))
  replace oc := oc.kept g2 (fun q hq => by cases hq)
  replace oc := oc.kept g3 (fun q hq => by cases hq)
  replace oc := oc.kept g4 (fun q hq => by cases hq)
  replace od := od.kept g4 (fun q hq => by cases hq)
  replace oc := oc.kept g5 (fun q hq => by cases hq)
  replace od := od.kept g5 (fun q hq => by cases hq)
  replace oe := oe.kept g5 (fun q hq => by cases hq)
  replace oc := oc.kept g6 (fun q hq => by cases hq)
  replace od := od.kept g6 (fun q hq => by cases hq)
  replace oe := oe.kept g6 (fun q hq => by cases hq)
  replace of := of.kept g6 (fun q hq => by cases hq)
  have B : Below w.heap.size w w6 := by rw [hw6, hw5, hw4, hw3, hw2, hw1, hw0]; exact (by repeat first | (with_reducible exact Below.refl _ _) | (with_reducible refine Below.setCell ?_ (by first | exact Nat.le_refl _ | (simp; done) | (simp; omega) | omega) _) | (with_reducible refine Below.alloc ?_ (by first | exact Nat.le_refl _ | (simp; done) | (simp; omega) | omega) _) | (with_reducible refine below_drewN ?_ _) | (with_reducible refine Below.drew ?_))
  have X : BoxL w6 w.heap.size [.int .i64 2, .int .i64 2, .slice (some ⟨w.heap.size + 1, 0, none⟩) 4 4, .slice (some ⟨w.heap.size + 1 + 1 + 1, 0, none⟩) 2 2, .slice (some ⟨w.heap.size + 1 + 1 + 1 + 1, 0, none⟩) 2 2, .slice (some ⟨w.heap.size + 1 + 1 + 1 + 1 + 1, 0, none⟩) 1 1, .int .i64 2, .int .i64 2, .slice (some ⟨w.heap.size + 1 + 1 + 1 + 1 + 1 + 1, 0, none⟩) 4 4] := by rw [hw6, hw5, hw4, hw3, hw2, hw1, hw0]; exact BoxL.nine (by simp [go_sem]) (by simp [go_sem]) (by simp [go_sem]) (by simp [go_sem]) (by simp [go_sem]) (by simp [go_sem]) (by simp [go_sem]) (by simp [go_sem]) (by simp [go_sem])
  have HW : (((((((w.alloc (.cells #[Value.int .i64 2, .int .i64 2, .slice (some ⟨w.heap.size + 1, 0, none⟩) 4 4, .slice (some ⟨w.heap.size + 1 + 1 + 1, 0, none⟩) 2 2, .slice (some ⟨w.heap.size + 1 + 1 + 1 + 1, 0, none⟩) 2 2, .slice (some ⟨w.heap.size + 1 + 1 + 1 + 1 + 1, 0, none⟩) 1 1, .int .i64 2, .int .i64 2, .slice (some ⟨w.heap.size + 1 + 1 + 1 + 1 + 1 + 1, 0, none⟩) 4 4] 38)).alloc (.cells #[Value.float .f32 1073741824, .float .f32 1065353216, .float .f32 1065353216, .float .f32 1073741824] 77)).alloc (.cells #[Value.int .i64 2, .int .i64 2, .slice (some ⟨w.heap.size + 1, 0, none⟩) 4 4, .slice (some ⟨w.heap.size + 1 + 1 + 1, 0, none⟩) 2 2, .slice (some ⟨w.heap.size + 1 + 1 + 1 + 1, 0, none⟩) 2 2, .slice (some ⟨w.heap.size + 1 + 1 + 1 + 1 + 1, 0, none⟩) 1 1, .int .i64 2, .int .i64 2, .slice (some ⟨w.heap.size + 1 + 1 + 1 + 1 + 1 + 1, 0, none⟩) 4 4] 38)).alloc (.cells #[Value.float .f32 1065353216, .float .f32 0] 77)).alloc (.cells #[Value.float .f32 1073741824, .float .f32 1073741824] 77)).alloc (.cells #[Value.float .f32 1065353216] 77)).alloc (.cells #[Value.int .i64 2, .int .i64 4, .int .i64 6, .int .i64 8] 2)) = w6 := by rw [hw6, hw5, hw4, hw3, hw2, hw1, hw0]
  clear hw0 hw1 hw2 hw3 hw4 hw5 hw6
  clear g1 g2 g3 g4 g5 g6
  go_enter Try.func14, Try.ntmps14
  go_wp2_with fail
  try rw [HW]
  clear HW
  have r0 := X 0 _ rfl
  have r1 := X 1 _ rfl
  have r2 := X 2 _ rfl
  have r3 := X 3 _ rfl
  have r4 := X 4 _ rfl
  have r5 := X 5 _ rfl
  have r6 := X 6 _ rfl
  have r7 := X 7 _ rfl
  have r8 := X 8 _ rfl
  refine bodyPost_ret (v := .agg #[.int .i64 2, .int .i64 2, .slice (some ⟨w.heap.size + 1, 0, none⟩) 4 4, .slice (some ⟨w.heap.size + 1 + 1 + 1, 0, none⟩) 2 2, .slice (some ⟨w.heap.size + 1 + 1 + 1 + 1, 0, none⟩) 2 2, .slice (some ⟨w.heap.size + 1 + 1 + 1 + 1 + 1, 0, none⟩) 1 1, .int .i64 2, .int .i64 2, .slice (some ⟨w.heap.size + 1 + 1 + 1 + 1 + 1 + 1, 0, none⟩) 4 4]) (by simp [results, Try.results14, go_sem, r0, r1, r2, r3, r4, r5, r6, r7, r8]) rfl ?_
  have ec : w0.heap.size = w.heap.size + 1 := by omega
  have ed : w2.heap.size = w.heap.size + 1 + 1 + 1 := by omega
  have ee : w3.heap.size = w.heap.size + 1 + 1 + 1 + 1 := by omega
  have ef : w4.heap.size = w.heap.size + 1 + 1 + 1 + 1 + 1 := by omega
  have ei : w5.heap.size = w.heap.size + 1 + 1 + 1 + 1 + 1 + 1 := by omega
  rw [ec] at oc
  rw [ed] at od
  rw [ee] at oe
  rw [ef] at of
  rw [ei] at oi
  exact ⟨_, _, _, _, _, _, _, _, _, _, w.heap.size + 1 + 1, w.heap.size + 1 + 1 + 1 + 1, w.heap.size + 1 + 1 + 1 + 1 + 1, w.heap.size + 1 + 1 + 1 + 1 + 1 + 1, rfl, by omega, by omega, by omega, by omega, by omega, oc.mono (by omega) (by omega) (by omega), od.mono (by omega) (by omega) (by omega), oe.mono (by omega) (by omega) (by omega), of.mono (by omega) (by omega) (by omega), oi.mono (by omega) (by omega) (by omega), B⟩
set_option maxRecDepth 20000 in
set_option maxHeartbeats 1000000 in
theorem markDesk_sep (B Mc Md Me Mf U : Nat) (xa : Int) (xb : Int) (ac : Option Addr) (nc cc : Nat) (Zc : Nat → Nat) (ad : Option Addr) (nd cd : Nat) (Zd : Nat → Nat) (ae : Option Addr) (ne ce : Nat) (Ze : Nat → Nat) (af : Option Addr) (nf cf : Nat) (Zf : Nat → Nat) (xg : Int) (xh : Int) (ai : Option Addr) (ni ci : Nat) (Zi : Nat → Int) (k : Nat) (w : World) (hnc : nc ≤ 1000) (hnd : nd ≤ 1000) (hne : ne ≤ 1000) (hnf : nf ≤ 1000) (hni : ni ≤ 1000) (hk : k ≤ 1) (hb0 : B ≤ Mc) (hb1 : Mc ≤ Md) (hb2 : Md ≤ Me) (hb3 : Me ≤ Mf) (hb4 : Mf ≤ U) (hUw : U ≤ w.heap.size) (hc : Own 77 .f32 B Mc w ac nc cc Zc) (hd : Own 77 .f32 Mc Md w ad nd cd Zd) (he : Own 77 .f32 Md Me w ae ne ce Ze) (hf : Own 77 .f32 Me Mf w af nf cf Zf) (hi : OwnI 2 .i64 Mf U w ai ni ci Zi) :
    Calls Try.prog 16 #[.agg #[.int .i64 xa, .int .i64 xb, .slice ac nc cc, .slice ad nd cd, .slice ae ne ce, .slice af nf cf, .int .i64 xg, .int .i64 xh, .slice ai ni ci], .int .i64 k] w fun e w' => e = .returned (.int .i64 ((k + nc + nd + ne + nf + ni : Nat) : Int)) ∧ Own 77 .f32 B Mc w' ac nc cc (fun j => floatOfInt .f32 ((k + j : Nat) : Int)) ∧ Own 77 .f32 Mc Md w' ad nd cd (fun j => floatOfInt .f32 ((k + nc + j : Nat) : Int)) ∧ Own 77 .f32 Md Me w' ae ne ce (fun j => floatOfInt .f32 ((k + nc + nd + j : Nat) : Int)) ∧ Own 77 .f32 Me Mf w' af nf cf (fun j => floatOfInt .f32 ((k + nc + nd + ne + j : Nat) : Int)) ∧ OwnI 2 .i64 Mf U w' ai ni ci (fun j => ((k + nc + nd + ne + nf + j : Nat) : Int)) ∧ Grew B U w w' := by
  go_enter Try.func16, Try.ntmps16
  go_wp2_with fail
  go_at_call 49
  refine (markMatrix_more xa xb B Mc _ _ _ k Zc _ (by omega) (by omega) (hc.kept (World.grownBy_alloc w _ none) (fun g h => by cases h))).mono ?_
  rintro e w1 ⟨rfl, oc, r1⟩
  have G1 : Grew B U w w1 := (Grew.ofBelow (by repeat first | (with_reducible exact Below.refl _ _) | (with_reducible refine Below.setCell ?_ (by first | exact Nat.le_refl _ | (simp; done) | (simp; omega) | omega) _) | (with_reducible refine Below.alloc ?_ (by first | exact Nat.le_refl _ | (simp; done) | (simp; omega) | omega) _) | (with_reducible refine below_drewN ?_ _) | (with_reducible refine Below.drew ?_))).trans ((Marked.grew r1).wide (Nat.le_refl _) (by omega))
  replace hd := (hd.over (Grew.ofBelow (B := B) (U := Mc) (by repeat first | (with_reducible exact Below.refl _ _) | (with_reducible refine Below.setCell ?_ (by first | exact Nat.le_refl _ | (simp; done) | (simp; omega) | omega) _) | (with_reducible refine Below.alloc ?_ (by first | exact Nat.le_refl _ | (simp; done) | (simp; omega) | omega) _) | (with_reducible refine below_drewN ?_ _) | (with_reducible refine Below.drew ?_))) (.inr (by omega))).over (Marked.grew r1) (.inr (by omega))
  replace he := (he.over (Grew.ofBelow (B := B) (U := Mc) (by repeat first | (with_reducible exact Below.refl _ _) | (with_reducible refine Below.setCell ?_ (by first | exact Nat.le_refl _ | (simp; done) | (simp; omega) | omega) _) | (with_reducible refine Below.alloc ?_ (by first | exact Nat.le_refl _ | (simp; done) | (simp; omega) | omega) _) | (with_reducible refine below_drewN ?_ _) | (with_reducible refine Below.drew ?_))) (.inr (by omega))).over (Marked.grew r1) (.inr (by omega))
  replace hf := (hf.over (Grew.ofBelow (B := B) (U := Mc) (by repeat first | (with_reducible exact Below.refl _ _) | (with_reducible refine Below.setCell ?_ (by first | exact Nat.le_refl _ | (simp; done) | (simp; omega) | omega) _) | (with_reducible refine Below.alloc ?_ (by first | exact Nat.le_refl _ | (simp; done) | (simp; omega) | omega) _) | (with_reducible refine below_drewN ?_ _) | (with_reducible refine Below.drew ?_))) (.inr (by omega))).over (Marked.grew r1) (.inr (by omega))
  replace hi := (hi.over (Grew.ofBelow (B := B) (U := Mc) (by repeat first | (with_reducible exact Below.refl _ _) | (with_reducible refine Below.setCell ?_ (by first | exact Nat.le_refl _ | (simp; done) | (simp; omega) | omega) _) | (with_reducible refine Below.alloc ?_ (by first | exact Nat.le_refl _ | (simp; done) | (simp; omega) | omega) _) | (with_reducible refine below_drewN ?_ _) | (with_reducible refine Below.drew ?_))) (.inr (by omega))).over (Marked.grew r1) (.inr (by omega))
  have X1 : BoxL w1 w.heap.size [.int .i64 xa, .int .i64 xb, .slice ac nc cc, .slice ad nd cd, .slice ae ne ce, .slice af nf cf, .int .i64 xg, .int .i64 xh, .slice ai ni ci] := BoxL.over (BoxL.nine (by simp [go_sem]) (by simp [go_sem]) (by simp [go_sem]) (by simp [go_sem]) (by simp [go_sem]) (by simp [go_sem]) (by simp [go_sem]) (by simp [go_sem]) (by simp [go_sem])) (Marked.grew r1) (by simp) (.inr (by omega))
  have L1 : w.heap.size < w1.heap.size := by have := (Marked.grew r1).size; simp at this; omega
  clear r1
  have c1_3 := X1 3 _ rfl
  have c1_4 := X1 4 _ rfl
  have c1_5 := X1 5 _ rfl
  have c1_6 := X1 6 _ rfl
  have c1_7 := X1 7 _ rfl
  have c1_8 := X1 8 _ rfl
  go_wp2_with fail
  go_at_call 50
  refine (markFloat32S_more Mc Md _ _ _ (k + nc) Zd _ (by omega) (by omega) hd).mono ?_
  rintro e w2 ⟨rfl, od, r2⟩
  have G2 : Grew B U w w2 := G1.trans ((Marked.grew r2).wide (by omega) (by omega))
  replace oc := oc.over (Marked.grew r2) (.inl (by omega))
  replace he := he.over (Marked.grew r2) (.inr (by omega))
  replace hf := hf.over (Marked.grew r2) (.inr (by omega))
  replace hi := hi.over (Marked.grew r2) (.inr (by omega))
  have X2 := X1.over (Marked.grew r2) L1 (.inr (by omega))
  have L2 : w.heap.size < w2.heap.size := by have := (Marked.grew r2).size; omega
  clear r2 X1 L1 G1 c1_3 c1_4 c1_5 c1_6 c1_7 c1_8
  have c2_4 := X2 4 _ rfl
  have c2_5 := X2 5 _ rfl
  have c2_6 := X2 6 _ rfl
  have c2_7 := X2 7 _ rfl
  have c2_8 := X2 8 _ rfl
  go_wp2_with fail
  go_at_call 51
  refine (markChain_sep Md Me Mf _ _ _ Ze _ _ _ Zf (k + nc + nd) _ (by omega) (by omega) (by omega) (by omega) (by omega) (by omega) he hf).mono ?_
  rintro e w3 ⟨rfl, oe, of, r3⟩
  have G3 : Grew B U w w3 := G2.trans (r3.wide (by omega) (by omega))
  replace oc := oc.over r3 (.inl (by omega))
  replace od := od.over r3 (.inl (by omega))
  replace hi := hi.over r3 (.inr (by omega))
  have X3 := X2.over r3 L2 (.inr (by omega))
  have L3 : w.heap.size < w3.heap.size := by have := r3.size; omega
  clear r3 X2 L2 G2 c2_4 c2_5 c2_6 c2_7 c2_8
  have c3_6 := X3 6 _ rfl
  have c3_7 := X3 7 _ rfl
  have c3_8 := X3 8 _ rfl
  go_wp2_with fail
  go_at_call 52
  refine (markWhole_sep Mf U _ _ _ _ _ Zi (k + nc + nd + ne + nf) _ (by omega) (by omega) (by omega) (by omega) hi).mono ?_
  rintro e w4 ⟨rfl, oi, r4⟩
  have G4 : Grew B U w w4 := G3.trans (r4.wide (by omega) (by omega))
  replace oc := oc.over r4 (.inl (by omega))
  replace od := od.over r4 (.inl (by omega))
  replace oe := oe.over r4 (.inl (by omega))
  replace of := of.over r4 (.inl (by omega))
  clear r4 X3 L3 G3 c3_6 c3_7 c3_8
  go_wp2_with fail
  go_ret
  exact ⟨rfl, oc, od, oe, of, oi, G4⟩
theorem heldChain_any (a : Option Addr) (n c : Nat) (Z : Nat → Nat) (a2 : Option Addr) (n2 c2 : Nat) (Z2 : Nat → Nat) (k : Nat) (w : World) (hn : n ≤ 1000) (hn2 : n2 ≤ 1000) (hk : k ≤ 10000) (h : FS .f32 w a n c Z) (h2 : FS .f32 w a2 n2 c2 Z2) (hz : ∀ j, j < n → Z j = floatOfInt .f32 ((k + j : Nat) : Int)) (hz2 : ∀ j, j < n2 → Z2 j = floatOfInt .f32 ((k + n + j : Nat) : Int)) :
    Calls Try.prog 55 #[.agg #[.slice a n c, .slice a2 n2 c2], .int .i64 k] w fun e w' => e = .returned (.int .i64 ((k + n + n2 : Nat) : Int)) ∧ Below w.heap.size w w' := by
  have HZ := Lib.hid hz
  have HZ2 := Lib.hid hz2
  clear hz hz2
  have hd0 : decide (((k + n : Nat) : Int) < 0) = false := decide_eq_false (by omega)
  have hd1 : decide (((k + n + n2 : Nat) : Int) < 0) = false := decide_eq_false (by omega)
  have hg0 := hd0
  have hg1 := hd1
  simp only [Int.natCast_add] at hg0 hg1
  go_enter Try.func55, Try.ntmps55
  go_wp2_with fail
  go_at_call 54
  refine (heldFloat32S_any _ _ _ k Z _ (by omega) (by omega) (h.below (by repeat first | (with_reducible exact Below.refl _ _) | (with_reducible refine Below.setCell ?_ (by first | exact Nat.le_refl _ | (simp; done) | (simp; omega) | omega) _) | (with_reducible refine Below.alloc ?_ (by first | exact Nat.le_refl _ | (simp; done) | (simp; omega) | omega) _) | (with_reducible refine below_drewN ?_ _) | (with_reducible refine Below.drew ?_)) (Nat.le_refl _)) HZ.out).mono ?_
  rintro e w' ⟨rfl, rfl⟩
  go_wp2_with fail
  go_at_call 54
  refine (heldFloat32S_any _ _ _ (k + n) Z2 _ (by omega) (by omega) (h2.below (by repeat first | (with_reducible exact Below.refl _ _) | (with_reducible refine Below.setCell ?_ (by first | exact Nat.le_refl _ | (simp; done) | (simp; omega) | omega) _) | (with_reducible refine Below.alloc ?_ (by first | exact Nat.le_refl _ | (simp; done) | (simp; omega) | omega) _) | (with_reducible refine below_drewN ?_ _) | (with_reducible refine Below.drew ?_)) (Nat.le_refl _)) HZ2.out).mono ?_
  rintro e w' ⟨rfl, rfl⟩
  go_wp2_with fail
  go_ret
  exact ⟨by first | rfl | simp, (by repeat first | (with_reducible exact Below.refl _ _) | (with_reducible refine Below.setCell ?_ (by first | exact Nat.le_refl _ | (simp; done) | (simp; omega) | omega) _) | (with_reducible refine Below.alloc ?_ (by first | exact Nat.le_refl _ | (simp; done) | (simp; omega) | omega) _) | (with_reducible refine below_drewN ?_ _) | (with_reducible refine Below.drew ?_))⟩
set_option maxRecDepth 20000 in
set_option maxHeartbeats 1000000 in
theorem heldDesk_any (xa : Int) (xb : Int) (ac : Option Addr) (nc cc : Nat) (Zc : Nat → Nat) (ad : Option Addr) (nd cd : Nat) (Zd : Nat → Nat) (ae : Option Addr) (ne ce : Nat) (Ze : Nat → Nat) (af : Option Addr) (nf cf : Nat) (Zf : Nat → Nat) (xg : Int) (xh : Int) (ai : Option Addr) (ni ci : Nat) (Zi : Nat → Int) (k : Nat) (w : World) (hnc : nc ≤ 1000) (hnd : nd ≤ 1000) (hne : ne ≤ 1000) (hnf : nf ≤ 1000) (hni : ni ≤ 1000) (hk : k ≤ 1) (hc : FS .f32 w ac nc cc Zc) (hd : FS .f32 w ad nd cd Zd) (he : FS .f32 w ae ne ce Ze) (hf : FS .f32 w af nf cf Zf) (hi : IS .i64 w ai ni ci Zi) (zc : ∀ j, j < nc → Zc j = floatOfInt .f32 ((k + j : Nat) : Int)) (zd : ∀ j, j < nd → Zd j = floatOfInt .f32 ((k + nc + j : Nat) : Int)) (ze : ∀ j, j < ne → Ze j = floatOfInt .f32 ((k + nc + nd + j : Nat) : Int)) (zf : ∀ j, j < nf → Zf j = floatOfInt .f32 ((k + nc + nd + ne + j : Nat) : Int)) (zi : ∀ j, j < ni → Zi j = ((k + nc + nd + ne + nf + j : Nat) : Int)) :
    Calls Try.prog 17 #[.agg #[.int .i64 xa, .int .i64 xb, .slice ac nc cc, .slice ad nd cd, .slice ae ne ce, .slice af nf cf, .int .i64 xg, .int .i64 xh, .slice ai ni ci], .int .i64 k] w fun e w' => e = .returned (.int .i64 ((k + nc + nd + ne + nf + ni : Nat) : Int)) ∧ Below w.heap.size w w' := by
  have Hc := Lib.hid zc
  have Hd := Lib.hid zd
  have He := Lib.hid ze
  have Hf := Lib.hid zf
  have Hi := Lib.hid zi
  clear zc zd ze zf zi
  have hd1 : decide (((k + nc : Nat) : Int) < 0) = false := decide_eq_false (by omega)
  have hg1 := hd1
  have hd2 : decide (((k + nc + nd : Nat) : Int) < 0) = false := decide_eq_false (by omega)
  have hg2 := hd2
  have hd4 : decide (((k + nc + nd + ne + nf : Nat) : Int) < 0) = false := decide_eq_false (by omega)
  have hg4 := hd4
  have hd5 : decide (((k + nc + nd + ne + nf + ni : Nat) : Int) < 0) = false := decide_eq_false (by omega)
  have hg5 := hd5
  simp only [Int.natCast_add] at hg1 hg2 hg4 hg5
  go_enter Try.func17, Try.ntmps17
  go_wp2_with fail
  go_at_call 53
  refine (heldMatrix_any xa xb _ _ _ k Zc _ (by omega) (by omega) (hc.below (by repeat first | (with_reducible exact Below.refl _ _) | (with_reducible refine Below.setCell ?_ (by first | exact Nat.le_refl _ | (simp; done) | (simp; omega) | omega) _) | (with_reducible refine Below.alloc ?_ (by first | exact Nat.le_refl _ | (simp; done) | (simp; omega) | omega) _) | (with_reducible refine below_drewN ?_ _) | (with_reducible refine Below.drew ?_)) (Nat.le_refl _)) Hc.out).mono ?_
  rintro e w1 ⟨rfl, b1⟩
  have B1 : Below w.heap.size w w1 := Below.trans (by repeat first | (with_reducible exact Below.refl _ _) | (with_reducible refine Below.setCell ?_ (by first | exact Nat.le_refl _ | (simp; done) | (simp; omega) | omega) _) | (with_reducible refine Below.alloc ?_ (by first | exact Nat.le_refl _ | (simp; done) | (simp; omega) | omega) _) | (with_reducible refine below_drewN ?_ _) | (with_reducible refine Below.drew ?_)) (b1.mono (by simp))
  have s1 : w.heap.size < w1.heap.size := by have := b1.size; simp at this; omega
  have X1 : BoxL w1 w.heap.size [.int .i64 xa, .int .i64 xb, .slice ac nc cc, .slice ad nd cd, .slice ae ne ce, .slice af nf cf, .int .i64 xg, .int .i64 xh, .slice ai ni ci] := BoxL.below (BoxL.nine (by simp [go_sem]) (by simp [go_sem]) (by simp [go_sem]) (by simp [go_sem]) (by simp [go_sem]) (by simp [go_sem]) (by simp [go_sem]) (by simp [go_sem]) (by simp [go_sem])) b1 (by simp)
  clear b1
  have x3 := X1 3 _ rfl
  have x4 := X1 4 _ rfl
  have x5 := X1 5 _ rfl
  have x6 := X1 6 _ rfl
  have x7 := X1 7 _ rfl
  have x8 := X1 8 _ rfl
  go_wp2_with fail
  go_at_call 54
  refine (heldFloat32S_any _ _ _ (k + nc) Zd _ (by omega) (by omega) (hd.below B1 (Nat.le_refl _)) Hd.out).mono ?_
  rintro e w' ⟨rfl, rfl⟩
  go_wp2_with fail
  go_at_call 55
  refine (heldChain_any _ _ _ Ze _ _ _ Zf (k + nc + nd) _ hne hnf (by omega) (he.below B1 (Nat.le_refl _)) (hf.below B1 (Nat.le_refl _)) He.out Hf.out).mono ?_
  rintro e w2 ⟨rfl, b2⟩
  have B2 := B1.trans (b2.mono B1.size)
  have X2 := X1.below b2 s1
  clear b2 X1 B1 s1 x3 x4 x5 x6 x7 x8
  have x6 := X2 6 _ rfl
  have x7 := X2 7 _ rfl
  have x8 := X2 8 _ rfl
  go_wp2_with fail
  go_at_call 56
  refine (heldWhole_sep _ _ _ _ _ (k + nc + nd + ne + nf) Zi _ (by omega) (by omega) (hi.below B2 (Nat.le_refl _)) Hi.out).mono ?_
  rintro e w3 ⟨rfl, b3⟩
  have B3 := B2.trans (b3.mono B2.size)
  clear b3 x6 x7 x8 X2
  go_wp2_with fail
  go_ret
  exact ⟨by first | rfl | simp, B3⟩
end Go.Proofs.Ytmddhhmgfhljiab
