/- Helper: the adjoint of a low square, of the program. Conditions: none. -/
import Derived.Test.YtinekdfpgkmbnacDetKey
import Derived.Test.YtinekdfpgkmbnacTabGrow
import Derived.Test.YtinekdfpgkmbnacConcat
import Derived.Test.YtinekdfpgkmbnacMarkMore
set_option linter.unusedVariables false
set_option linter.unusedSimpArgs false
namespace Go.Proofs.Ytinekdfpgkmbnac
open Go.RowKit

/-- The determinant without a row and a column, with its sign. -/
def adjX (r : Nat) (Z : Nat → Int) (i k : Nat) : Int := minI Z r (r - 1) (withoutN (fun t => t) k) (withoutN (fun t => t) i)
def adjY (r : Nat) (Z : Nat → Int) (i k : Nat) : Int := if (i + k) % 2 = 1 then -adjX r Z i k else adjX r Z i k
theorem without_id {r k : Nat} (hr : 1 ≤ r) (hk : k < r) : ∀ t, t < r - 1 → withoutN (fun t => t) k t < r := fun t ht => by
  show (if t < k then t else t + 1) < r
  split <;> omega
theorem without_nat (k : Nat) : without natI k = fun t => ((withoutN (fun t => t) k t : Nat) : Int) := cast_without (fun t => t) k
theorem adjX_abs {r n i k : Nat} {Z : Nat → Int} (hr : 1 ≤ r) (hr6 : r ≤ 6) (hn : n = r * r) (hZ : ∀ i, i < n → (Z i).natAbs ≤ 100) (hi : i < r) (hk : k < r) : (adjX r Z i k).natAbs ≤ 720000000000000 :=
  Nat.le_trans (minI_abs hn hZ (r - 1) _ _ (without_id hr hk) (without_id hr hi)) (bn_le _ (by omega))
theorem adjY_abs {r n i k : Nat} {Z : Nat → Int} (hr : 1 ≤ r) (hr6 : r ≤ 6) (hn : n = r * r) (hZ : ∀ i, i < n → (Z i).natAbs ≤ 100) (hi : i < r) (hk : k < r) : (adjY r Z i k).natAbs ≤ 720000000000000 := by
  have h := adjX_abs hr hr6 hn hZ hi hk
  unfold adjY
  split <;> omega

set_option maxHeartbeats 1000000 in
theorem implAdj_no (R C : Int) (a : Option Addr) (n cap : Nat) (Z : Nat → Int) (w : World) (hn : n ≤ 1048576) (hv : lowSq R C n Z = false) (h : IS .i64 w a n cap Z) :
    Calls Try.prog 19 #[.agg #[.int .i64 R, .int .i64 C, .slice a n cap]] w (WholeOwn false 0 0 0 (fun _ => 0) w) := by
  have HV := Lib.hid hv
  clear hv
  go_enter Try.func19, Try.ntmps19
  go_wp2_with fail
  go_at_call 34
  refine (isLowSquare_any R C a n cap Z _ hn (h.below (by repeat first | (with_reducible exact Below.refl _ _) | (with_reducible refine Below.setCell ?_ (by first | exact Nat.le_refl _ | (simp; done) | (simp; omega) | omega) _) | (with_reducible refine Below.alloc ?_ (by first | exact Nat.le_refl _ | (simp; done) | (simp; omega) | omega) _) | (with_reducible refine below_drewN ?_ _) | (with_reducible refine Below.drew ?_)) (Nat.le_refl _))).mono ?_
  rintro e w1 ⟨rfl, b1⟩
  rw [HV.out]
  obtain ⟨hc, hf⟩ := bcell b1
  have hz : w.heap.size + 1 + 1 ≤ w1.heap.size := by have := b1.size; simp at this; omega
  have B1 : Below w.heap.size w w1 := Below.trans (by repeat first | (with_reducible exact Below.refl _ _) | (with_reducible refine Below.setCell ?_ (by first | exact Nat.le_refl _ | (simp; done) | (simp; omega) | omega) _) | (with_reducible refine Below.alloc ?_ (by first | exact Nat.le_refl _ | (simp; done) | (simp; omega) | omega) _) | (with_reducible refine below_drewN ?_ _) | (with_reducible refine Below.drew ?_)) (b1.mono (by simp; omega))
  have z0 : w1.cell? ⟨w.heap.size + 1, 0, none⟩ = some (.int .i64 0) := (hc _ _ (by simp)).trans (by simp [go_sem])
  have z1 : w1.cell? ⟨w.heap.size + 1, 1, none⟩ = some (.int .i64 0) := (hc _ _ (by simp)).trans (by simp [go_sem])
  have z2 : w1.cell? ⟨w.heap.size + 1, 2, none⟩ = some (.slice none 0 0) := (hc _ _ (by simp)).trans (by simp [go_sem])
  have hice : ∀ i, w1.frozen? ⟨w.heap.size + 1, i, none⟩ = false := fun i => (hf _ _ (by simp)).trans (by simp [go_sem])
  clear hc hf b1
  go_wp2_with fail
  refine bodyPost_ret (v := .tuple #[.agg #[.int .i64 0, .int .i64 0, .slice none 0 0], .bool false]) (by simp [results, Try.results19, go_sem, z0, z1, z2]) rfl ?_
  exact ⟨none, 0, fun _ => 0, rfl, .inl ⟨rfl, rfl, rfl⟩, fun i hi => by omega, (by repeat first | (with_reducible exact B1) | (with_reducible refine Below.setCell ?_ (by first | exact Nat.le_refl _ | (simp; done) | (simp; omega) | omega) _) | (with_reducible refine Below.alloc ?_ (by first | exact Nat.le_refl _ | (simp; done) | (simp; omega) | omega) _) | (with_reducible refine below_drewN ?_ _) | (with_reducible refine Below.drew ?_))⟩
set_option maxHeartbeats 1000000 in
theorem implAdj_big (R C : Int) (a : Option Addr) (n cap : Nat) (Z : Nat → Int) (w : World) (hn : n ≤ 1048576) (hv : lowSq R C n Z = true) (h4 : 4 < R) (h : IS .i64 w a n cap Z) :
    Calls Try.prog 19 #[.agg #[.int .i64 R, .int .i64 C, .slice a n cap]] w (WholeOwn false 0 0 0 (fun _ => 0) w) := by
  have HV := Lib.hid hv
  clear hv
  go_enter Try.func19, Try.ntmps19
  go_wp2_with fail
  go_at_call 34
  refine (isLowSquare_any R C a n cap Z _ hn (h.below (by repeat first | (with_reducible exact Below.refl _ _) | (with_reducible refine Below.setCell ?_ (by first | exact Nat.le_refl _ | (simp; done) | (simp; omega) | omega) _) | (with_reducible refine Below.alloc ?_ (by first | exact Nat.le_refl _ | (simp; done) | (simp; omega) | omega) _) | (with_reducible refine below_drewN ?_ _) | (with_reducible refine Below.drew ?_)) (Nat.le_refl _))).mono ?_
  rintro e w1 ⟨rfl, b1⟩
  rw [HV.out]
  obtain ⟨hc, hf⟩ := bcell b1
  have hz : w.heap.size + 1 + 1 ≤ w1.heap.size := by have := b1.size; simp at this; omega
  have B1 : Below w.heap.size w w1 := Below.trans (by repeat first | (with_reducible exact Below.refl _ _) | (with_reducible refine Below.setCell ?_ (by first | exact Nat.le_refl _ | (simp; done) | (simp; omega) | omega) _) | (with_reducible refine Below.alloc ?_ (by first | exact Nat.le_refl _ | (simp; done) | (simp; omega) | omega) _) | (with_reducible refine below_drewN ?_ _) | (with_reducible refine Below.drew ?_)) (b1.mono (by simp; omega))
  have a0 : w1.cell? ⟨w.heap.size, 0, none⟩ = some (.int .i64 R) := (hc _ _ (by simp; try omega)).trans (by simp [go_sem])
  have z0 : w1.cell? ⟨w.heap.size + 1, 0, none⟩ = some (.int .i64 0) := (hc _ _ (by simp)).trans (by simp [go_sem])
  have z1 : w1.cell? ⟨w.heap.size + 1, 1, none⟩ = some (.int .i64 0) := (hc _ _ (by simp)).trans (by simp [go_sem])
  have z2 : w1.cell? ⟨w.heap.size + 1, 2, none⟩ = some (.slice none 0 0) := (hc _ _ (by simp)).trans (by simp [go_sem])
  have hice : ∀ i, w1.frozen? ⟨w.heap.size + 1, i, none⟩ = false := fun i => (hf _ _ (by simp)).trans (by simp [go_sem])
  clear hc hf b1
  go_wp2_with fail
  refine bodyPost_ret (v := .tuple #[.agg #[.int .i64 0, .int .i64 0, .slice none 0 0], .bool false]) (by simp [results, Try.results19, go_sem, z0, z1, z2]) rfl ?_
  exact ⟨none, 0, fun _ => 0, rfl, .inl ⟨rfl, rfl, rfl⟩, fun i hi => by omega, (by repeat first | (with_reducible exact B1) | (with_reducible refine Below.setCell ?_ (by first | exact Nat.le_refl _ | (simp; done) | (simp; omega) | omega) _) | (with_reducible refine Below.alloc ?_ (by first | exact Nat.le_refl _ | (simp; done) | (simp; omega) | omega) _) | (with_reducible refine below_drewN ?_ _) | (with_reducible refine Below.drew ?_))⟩
def adjLen (r j q : Nat) (i : Nat) : Nat := if i < j then r else if i = j then q else 0
set_option maxRecDepth 20000 in
set_option maxHeartbeats 4000000 in
theorem implAdj_run (r n ab ao cap : Nat) (Z : Nat → Int) (w : World) (h1 : 1 ≤ r) (h4 : r ≤ 4) (hn : n = r * r) (hv : lowSq r r n Z = true) (hZ : ∀ i, i < n → (Z i).natAbs ≤ 100) (h : IS .i64 w (some ⟨ab, ao, none⟩) n cap Z)
    (ok : Bool) (R2 C2 : Int) (n2 : Nat) (V2 : Nat → Int) (hT : ∀ W b off c, RS W (some ⟨b, off, none⟩) r c r (adjY r Z) → Calls Try.prog 44 #[.slice (some ⟨b, off, none⟩) r c] W (WholeOwn ok R2 C2 n2 V2 W)) :
    Calls Try.prog 19 #[.agg #[.int .i64 r, .int .i64 r, .slice (some ⟨ab, ao, none⟩) n cap]] w (WholeOwn ok R2 C2 n2 V2 w) := by
  obtain ⟨j0, gi, gz0, gz1, gz2⟩ := info_parts infoRow
  obtain ⟨i0, hi, hz0, hz1, hz2⟩ := info_parts info64
  have hn16 : n ≤ 16 := by have : r * r ≤ 4 * 4 := Nat.mul_le_mul h4 h4; omega
  have HN := Lib.hid hn
  have HV := Lib.hid hv
  have HZ := Lib.hid hZ
  have HT := Lib.hid hT
  have hr4 : ¬ (4 < (r : Int)) := by omega
  clear hn hv hZ hT
  go_enter Try.func19, Try.ntmps19
  go_wp2_with fail
  go_at_call 34
  refine (isLowSquare_any r r _ n cap Z _ (by omega) (h.below (by repeat first | (with_reducible exact Below.refl _ _) | (with_reducible refine Below.setCell ?_ (by first | exact Nat.le_refl _ | (simp; done) | (simp; omega) | omega) _) | (with_reducible refine Below.alloc ?_ (by first | exact Nat.le_refl _ | (simp; done) | (simp; omega) | omega) _) | (with_reducible refine below_drewN ?_ _) | (with_reducible refine Below.drew ?_)) (Nat.le_refl _))).mono ?_
  rintro e w1 ⟨rfl, b1⟩
  rw [HV.out]
  obtain ⟨hc, hf⟩ := bcell b1
  have hz : w.heap.size + 1 + 1 ≤ w1.heap.size := by have := b1.size; simp at this; omega
  have B1 : Below w.heap.size w w1 := Below.trans (by repeat first | (with_reducible exact Below.refl _ _) | (with_reducible refine Below.setCell ?_ (by first | exact Nat.le_refl _ | (simp; done) | (simp; omega) | omega) _) | (with_reducible refine Below.alloc ?_ (by first | exact Nat.le_refl _ | (simp; done) | (simp; omega) | omega) _) | (with_reducible refine below_drewN ?_ _) | (with_reducible refine Below.drew ?_)) (b1.mono (by simp; omega))
  have a0 : w1.cell? ⟨w.heap.size, 0, none⟩ = some (.int .i64 r) := (hc _ _ (by simp; try omega)).trans (by simp [go_sem])
  have a1 : w1.cell? ⟨w.heap.size, 1, none⟩ = some (.int .i64 r) := (hc _ _ (by simp; try omega)).trans (by simp [go_sem])
  have a2 : w1.cell? ⟨w.heap.size, 2, none⟩ = some (.slice (some ⟨ab, ao, none⟩) n cap) := (hc _ _ (by simp; try omega)).trans (by simp [go_sem])
  have z0 : w1.cell? ⟨w.heap.size + 1, 0, none⟩ = some (.int .i64 0) := (hc _ _ (by simp)).trans (by simp [go_sem])
  have z1 : w1.cell? ⟨w.heap.size + 1, 1, none⟩ = some (.int .i64 0) := (hc _ _ (by simp)).trans (by simp [go_sem])
  have z2 : w1.cell? ⟨w.heap.size + 1, 2, none⟩ = some (.slice none 0 0) := (hc _ _ (by simp)).trans (by simp [go_sem])
  have hice : ∀ i, w1.frozen? ⟨w.heap.size + 1, i, none⟩ = false := fun i => (hf _ _ (by simp)).trans (by simp [go_sem])
  have F1 := h.below B1 (Nat.le_refl _)
  have HB1 := Lib.hid B1
  have HXz : Hid (Box w1 (w.heap.size + 1) 0 0 none 0 0) := Lib.hid ⟨z0, z1, z2⟩
  have HXa : Hid (Box w1 w.heap.size r r (some ⟨ab, ao, none⟩) n cap) := Lib.hid ⟨a0, a1, a2⟩
  have HIce := Lib.hid hice
  have HF1 := Lib.hid F1
  clear hc hf b1 h z0 z1 z2 hice F1 B1
  go_wp2_with fail
  go_at_call 36
  refine (plainOrder_any r _ (by omega)).mono ?_
  rintro e w2 ⟨qa0, qc, rfl, qI, b2⟩
  obtain ⟨qb, qo, rfl, _⟩ := qI.at (show 0 < r by omega)
  have l2 : w1.heap.size ≤ w2.heap.size := b2.size
  obtain ⟨a0, a1, a2⟩ := HXa.out.below b2 (by omega)
  have HQ := Lib.hid qI
  have HB2 := Lib.hid b2
  clear qI b2
  go_wp2_with (at_make; refine wpList_make_full _ rfl _ _ 54 rfl w2.heap.size 22 j0 (.slice none 0 0) 1 Try.underlying54 gi gz0 gz1 _ _ _ _ r rfl rfl rfl rfl ?b2 ?b3 (Nat.le_refl _) ?_)
  case b2 => rw [gz2]; omega
  case b3 => unfold maxLen; omega
  intro w0 hown0 hgrow0
  have b0 := grew_below hgrow0
  have tab0 := Lib.hid (Tab.start hown0 b0 (adjY r Z))
  obtain ⟨y0, y1, y2⟩ := (HXa.out.below HB2.out (by omega)).below b0 (by omega)
  clear hown0 hgrow0 a0 a1 a2 b0
  go_wp2
  go_loopw [26] (fun i wr => ∃ (j : Nat) (V : Nat → Value), j ≤ r ∧ i = .int .i64 j ∧ Tab w2 w2.heap.size r (adjLen r j 0) (adjY r Z) V wr) (fun i _ => r - (intOf i).toNat)
  case atStart => exact ⟨0, _, Nat.zero_le _, rfl, tab0.out.same (fun i hi => by unfold adjLen; rw [if_neg (by omega)]; simp) (fun i hi j hj => rfl)⟩
  case round =>
    obtain ⟨j, V, hj, rfl, hk⟩ := hrel
    clear y0 y1 y2
    by_cases hlt : j < r
    · have hj1 : (j : Int) < (r : Int) := by omega
      obtain ⟨y0, y1, y2⟩ := (HXa.out.below HB2.out (by omega)).below hk.bel (by omega)
      go_wp2
      go_loopw [31] (fun i wr => ∃ (q : Nat) (V : Nat → Value), q ≤ r ∧ i = .int .i64 q ∧ Tab w2 w2.heap.size r (adjLen r j q) (adjY r Z) V wr) (fun i _ => r - (intOf i).toNat)
      case atStart => exact ⟨0, V, Nat.zero_le _, rfl, hk⟩
      case round =>
        obtain ⟨q, V', hq, rfl, hk2⟩ := hrel
        clear hk y0 y1 y2 V
        by_cases hlt2 : q < r
        · have hq1 : (q : Int) < (r : Int) := by omega
          obtain ⟨x0, x1, x2⟩ := (HXa.out.below HB2.out (by omega)).below hk2.bel (by omega)
          have l1 : w.heap.size < wr.heap.size := by have := hk2.bel.size; omega
          have hAk : ∀ W, Below wr.heap.size wr W → Calls Try.prog 43 #[.slice (some ⟨qb, qo, none⟩) r qc, .int .i64 q] W (ListNew W (r - 1) (without natI q)) := fun W hW =>
            allBut_any qb qo r qc q natI W hlt2 (by omega) ((HQ.out.below hk2.bel (Nat.le_refl _)).below hW (Nat.le_refl _))
          have hAj : ∀ W, Below wr.heap.size wr W → Calls Try.prog 43 #[.slice (some ⟨qb, qo, none⟩) r qc, .int .i64 j] W (ListNew W (r - 1) (without natI j)) := fun W hW =>
            allBut_any qb qo r qc j natI W hlt (by omega) ((HQ.out.below hk2.bel (Nat.le_refl _)).below hW (Nat.le_refl _))
          have hm : ∀ W a1 c1 a2 c2, Below wr.heap.size wr W → IS .i64 W a1 (r - 1) c1 (without natI q) → IS .i64 W a2 (r - 1) c2 (without natI j) → Calls Try.prog 35 #[.agg #[.int .i64 r, .int .i64 r, .slice (some ⟨ab, ao, none⟩) n cap], .slice a1 (r - 1) c1, .slice a2 (r - 1) c2] W fun e w' => e = .returned (.int .i64 (adjX r Z j q)) ∧ Below W.heap.size W w' :=
            fun W a1 c1 a2 c2 k1 k2 k3 => by
              rw [without_nat] at k2 k3
              exact implMinor_any ab ao r r n cap Z (by omega) (by omega) HN.out HZ.out (r - 1) (by omega) a1 a2 c1 c2 _ _ W (((HF1.out.below HB2.out (Nat.le_refl _)).below hk2.bel (Nat.le_refl _)).below k1 (Nat.le_refl _)) k2 k3 (without_id h1 hlt2) (without_id h1 hlt)
          have hXb := adjX_abs h1 (by omega) HN.out HZ.out hlt hlt2
          have hYw : Hid ((Lit.int .i64 (adjY r Z j q)).wf = true) := Lib.hid (Go.WalkArith.wf_i64 (by have := adjY_abs h1 (by omega) HN.out HZ.out hlt hlt2; omega))
          have hYX : ((j + q) % 2 = 1 ∧ adjY r Z j q = -adjX r Z j q) ∨ ((j + q) % 2 = 0 ∧ adjY r Z j q = adjX r Z j q) := by
            unfold adjY
            by_cases ho : (j + q) % 2 = 1
            · exact .inl ⟨ho, if_pos ho⟩
            · exact .inr ⟨by omega, if_neg ho⟩
          have hlenj : adjLen r j q j = q := by unfold adjLen; rw [if_neg (by omega), if_pos rfl]
          have hcell := hk2.cell j hlt
          have hown0 := hk2.own j hlt
          rw [hlenj] at hown0
          have hown := Lib.hid hown0
          have hbs := Lib.hid hk2.bel.size
          have htop := hk2.top
          have hfrz := hk2.froz j
          have HK := Lib.hid hk2
          have HL := Lib.hid hlenj
          generalize adjX r Z j q = X at hm hXb hYX
          generalize hYe : adjY r Z j q = Y at hYw hYX
          have HYE := Lib.hid hYe
          generalize hvq : V' j = vq at hcell hown
          have HVQ := Lib.hid hvq
          clear hvq hk2 hown0 hlenj hYe
          generalize hM : r - 1 = M at hAk hAj hm
          have hw0 : IntKind.i64.wrap ((j : Int) + (q : Int)) = (j : Int) + (q : Int) := IntWalk.i64_in _ (by omega)
          have hw1 : IntKind.i64.wrap (-X) = -X := IntWalk.i64_in _ (by omega)
          have hmod : ((j : Int) + (q : Int)) % 2 = (((j + q) % 2 : Nat) : Int) := by rw [Int.natCast_emod, Int.natCast_add]; rfl
          clear hM
          rcases hYX with ⟨ho, rfl⟩ | ⟨ho, rfl⟩
          all_goals
            rw [ho] at hmod
            clear ho
            go_wp2_with fail
            go_region_held3 (fun w' => w'.cell? ⟨w.heap.size, 0, none⟩ = some (.int .i64 r) ∧ w'.cell? ⟨w.heap.size, 1, none⟩ = some (.int .i64 r) ∧ w'.cell? ⟨w.heap.size, 2, none⟩ = some (.slice (some ⟨ab, ao, none⟩) n cap) ∧ Below wr.heap.size wr w')
              (first | exact ⟨x0, x1, x2, (by first | exact (Below.refl _ _).drew | exact (below_drewN (Below.refl _ _) _).drew)⟩ | exact heldX (by assumption) (by assumption) l1)
              (first | (go_at_call 43; (with_reducible refine Calls.mono (hAk _ ?_) ?_); (go_split_ands; assumption); rintro e w3 ⟨sa, sc, rfl, qA, qB⟩) | (go_at_call 43; (with_reducible refine Calls.mono (hAj _ ?_) ?_); (go_split_ands; assumption); rintro e w4 ⟨ra, rc, rfl, rA, rB⟩) | (go_at_call 35; refine (hm _ _ _ _ _ (by go_split_ands; assumption) (by first | exact qA | exact qA.below rB (Nat.le_refl _)) (by first | exact rA | exact rA.below qB (Nat.le_refl _))).mono ?_; rintro e w5 ⟨rfl, mB⟩))
          all_goals
            have B3 : Below wr.heap.size wr w5 := by go_split_ands; assumption
            have s5 : wr.heap.size ≤ w5.heap.size := B3.size
            obtain ⟨hcc, hff⟩ := bcell B3
            have c5 : w5.cell? ⟨w2.heap.size, j, none⟩ = some vq := (hcc _ _ htop).trans hcell
            have f5 : w5.frozen? ⟨w2.heap.size, j, none⟩ = false := (hff _ _ htop).trans hfrz
            have HB3 := Lib.hid B3
            have hs2 := hbs.out
            clear hcc hff qA rA qB rB mB B3 hcell hfrz
            go_wp2_with (at_builtin; refine wpList_append_lies _ rfl _ _ _ rfl w2.heap.size 2 i0 _ 1 8 Try.underlying22 hi hz0 hz1 hz2 rfl (by omega) vq q (cellsOfI (adjY r Z j) q) rfl (by exact ownsRow_belowT hown.out (by repeat first | (with_reducible exact HB3.out) | (with_reducible refine Below.setCell ?_ (by first | exact Nat.le_refl _ | (simp; done) | (simp; omega) | omega) _) | (with_reducible refine Below.alloc ?_ (by first | exact Nat.le_refl _ | (simp; done) | (simp; omega) | omega) _) | (with_reducible refine below_drewN ?_ _) | (with_reducible refine Below.drew ?_))) ⟨w5.heap.size, 0, none⟩ 1 1 [.int .i64 _] rfl rfl (by exact World.news_of_block (cs := #[.int .i64 _]) (t := 2) (fr := (0, 0)) (heap_alloc_new _ _)) (by simp [Value.oneCell']) (by omega) (by unfold maxLen; omega) (by omega) (by simp; omega) (w5.heap.size + 1) (by simp) ?_)
            intro gg cp2 w6 hown2 hgrow2 hat2 hlt3
            have hgr := HK.out.grow (k := j) (gg := gg) (cap := cp2) (w2 := w6) hlt hYw.out (show Below wr.heap.size wr (w5.alloc (.cells #[.int .i64 _] 2)) from (by repeat first | (with_reducible exact HB3.out) | (with_reducible refine Below.setCell ?_ (by first | exact Nat.le_refl _ | (simp; done) | (simp; omega) | omega) _) | (with_reducible refine Below.alloc ?_ (by first | exact Nat.le_refl _ | (simp; done) | (simp; omega) | omega) _) | (with_reducible refine below_drewN ?_ _) | (with_reducible refine Below.drew ?_))) (by rw [HL.out]; exact hown2) (by rw [HVQ.out]; exact hgrow2) (by
              rw [HVQ.out]
              rcases hat2 with e | e
              · exact .inl e
              · exact .inr (by omega))
            obtain ⟨tab1, c6, f6⟩ := hgr
            rw [HL.out] at tab1
            rw [HVQ.out] at c6
            have tab2 := tab1.same (len2 := adjLen r j (q + 1)) (Y2 := adjY r Z) (fun i hi => by
              by_cases e : i = j
              · subst e
                rw [upd_same]
                unfold adjLen
                rw [if_neg (by omega), if_pos rfl]
              · rw [upd_other _ _ e]
                unfold adjLen
                by_cases h : i < j
                · rw [if_pos h, if_pos h]
                · rw [if_neg h, if_neg h, if_neg e, if_neg e]) (fun i hi t ht => by
              by_cases e : i = j
              · subst e
                rw [upd_same]
                by_cases e2 : t = q
                · rw [if_pos e2, e2, HYE.out]
                · rw [if_neg e2]
              · rw [upd_other _ _ e])
            have T2 := Lib.hid tab2
            clear tab1 tab2 hown2 hgrow2 hat2 hlt3 c5 f5
            go_wp2
            go_roundw
            case rel => exact ⟨q + 1, _, by omega, by go_num, T2.out⟩
            case measure => simp [intOf]; omega
        · obtain rfl : q = r := by omega
          have T2 := Lib.hid (hk2.same (len2 := adjLen q (j + 1) 0) (Y2 := adjY q Z) (fun i hi => by
            unfold adjLen
            by_cases h : i < j
            · rw [if_pos h, if_pos (by omega)]
            · by_cases e : i = j
              · rw [if_neg h, if_pos e, if_pos (by omega)]
              · rw [if_neg h, if_neg e, if_neg (by omega)]; simp) (fun i hi t ht => rfl))
          clear hk2
          go_wp2
          go_roundw
          case rel => exact ⟨j + 1, _, by omega, by go_num, T2.out⟩
          case measure => simp [intOf]; omega
    · obtain rfl : j = r := by omega
      have hR := hk.rs (L := j) (by omega) (fun i hi => by unfold adjLen; rw [if_pos hi])
      have b2 := HB2.out.trans (hk.bel.mono l2)
      clear hk
      go_wp2_with fail
      go_at_call 44
      refine (HT.out _ _ _ _ hR).mono ?_
      rintro e w3 ⟨g, d, Z2, rfl, o2, hV, b3⟩
      have bb := b2.trans (b3.mono b2.size)
      obtain ⟨y0, y1, y2⟩ := HXz.out.below bb (by omega)
      obtain ⟨hc, hf⟩ := bcell bb
      have hice2 : ∀ i, w3.frozen? ⟨w.heap.size + 1, i, none⟩ = false := fun i => (hf (w.heap.size + 1) i (by omega)).trans (HIce.out i)
      have B2 : Below w.heap.size w w3 := HB1.out.trans (bb.mono (by omega))
      have s1 : w.heap.size + 1 + 1 ≤ wr.heap.size := by have := b2.size; omega
      have s2 : wr.heap.size ≤ w3.heap.size := b3.size
      have HV2 := Lib.hid hV
      clear hc hf bb b2 b3 hV hR
      go_wp2_with fail
      refine bodyPost_ret (v := .tuple #[.agg #[.int .i64 R2, .int .i64 C2, .slice g n2 d], .bool ok]) (by simp [results, Try.results19, go_sem, y0, y1, y2]) rfl ?_
      exact ⟨_, _, Z2, rfl, (by refine OwnI.to o2 (hk := fun g hg1 hg2 => by (try simp at hg1 hg2); repeat (first | rw [Below.heap_setCell _ _ _ _ (by simp; omega)] | rw [Below.heap_alloc _ _ _ (by simp [World.setCell]; omega)])) ?_ ?_ ?_ ?_ <;> (first | exact Nat.le_refl _ | omega | (simp [World.setCell]; done) | (simp [World.setCell]; omega))), HV2.out, (by repeat first | (with_reducible exact B2) | (with_reducible refine Below.setCell ?_ (by first | exact Nat.le_refl _ | (simp; done) | (simp; omega) | omega) _) | (with_reducible refine Below.alloc ?_ (by first | exact Nat.le_refl _ | (simp; done) | (simp; omega) | omega) _) | (with_reducible refine below_drewN ?_ _) | (with_reducible refine Below.drew ?_))⟩
end Go.Proofs.Ytinekdfpgkmbnac
