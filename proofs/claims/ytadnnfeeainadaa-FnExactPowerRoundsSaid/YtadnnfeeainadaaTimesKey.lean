/- Helper: a matrix times a list of numbers, of the program and of its reference. Conditions: none. -/
import Derived.Test.YtadnnfeeainadaaNums
import Derived.Deep.RegionLaw
set_option linter.unusedVariables false
set_option linter.unusedSimpArgs false
namespace Go.Proofs.Ytadnnfeeainadaa
open Go.RowKit

def tmOk (R C : Int) (n n2 : Nat) (V W : Nat → Option Nat) : Bool := validB R C n V && (vecB n2 W && decide ((n2 : Int) = C))
/-- One number of the product. -/
def tv (c : Nat) (Z Y : Nat → Nat) (i : Nat) : Option Nat := dotG (vals fun k => Z (i * c + k)) (vals Y) c
set_option maxHeartbeats 2000000 in
theorem implTimes_no (R C : Int) (a b : Option Addr) (n c n2 d : Nat) (Z Y : Nat → Nat) (w : World) (hn : n ≤ 1048576) (hm : n2 ≤ 1048576) (h : FS .f32 w a n c Z) (h2 : FS .f32 w b n2 d Y) (ho : tmOk R C n n2 (vals Z) (vals Y) = false) :
    Calls Try.prog 34 #[.agg #[.int .i64 R, .int .i64 C, .slice a n c], .slice b n2 d] w (NumsOwn false 0 (fun _ => none) w) := by
  cases hv : validB R C n (vals Z) with
  | false =>
    go_enter Try.func34, Try.ntmps34
    go_wp2_with fail
    go_at_call 71
    refine (implValid_any R C a n c Z _ hn (h.below (by repeat first | (with_reducible exact Below.refl _ _) | (with_reducible refine Below.setCell ?_ (by first | exact Nat.le_refl _ | (simp; done) | (simp; omega) | omega) _) | (with_reducible refine Below.alloc ?_ (by first | exact Nat.le_refl _ | (simp; done) | (simp; omega) | omega) _) | (with_reducible refine below_drewN ?_ _) | (with_reducible refine Below.drew ?_)) (Nat.le_refl _))).mono ?_
    rintro e w1 ⟨rfl, b1⟩
    have B1 : Below w.heap.size w w1 := Below.trans (by repeat first | (with_reducible exact Below.refl _ _) | (with_reducible refine Below.setCell ?_ (by first | exact Nat.le_refl _ | (simp; done) | (simp; omega) | omega) _) | (with_reducible refine Below.alloc ?_ (by first | exact Nat.le_refl _ | (simp; done) | (simp; omega) | omega) _) | (with_reducible refine below_drewN ?_ _) | (with_reducible refine Below.drew ?_)) (b1.mono (by simp))
    go_wp2_with fail
    go_ret2
    exact ⟨none, 0, fun _ => 0, rfl, .inl ⟨rfl, rfl, rfl⟩, fun i hi => by omega, B1⟩
  | true =>
    cases hv2 : vecB n2 (vals Y) with
    | false =>
      go_enter Try.func34, Try.ntmps34
      go_wp2_with fail
      go_at_call 71
      refine (implValid_any R C a n c Z _ hn (h.below (by repeat first | (with_reducible exact Below.refl _ _) | (with_reducible refine Below.setCell ?_ (by first | exact Nat.le_refl _ | (simp; done) | (simp; omega) | omega) _) | (with_reducible refine Below.alloc ?_ (by first | exact Nat.le_refl _ | (simp; done) | (simp; omega) | omega) _) | (with_reducible refine below_drewN ?_ _) | (with_reducible refine Below.drew ?_)) (Nat.le_refl _))).mono ?_
      rintro e w1 ⟨rfl, b1⟩
      have B1 : Below w.heap.size w w1 := Below.trans (by repeat first | (with_reducible exact Below.refl _ _) | (with_reducible refine Below.setCell ?_ (by first | exact Nat.le_refl _ | (simp; done) | (simp; omega) | omega) _) | (with_reducible refine Below.alloc ?_ (by first | exact Nat.le_refl _ | (simp; done) | (simp; omega) | omega) _) | (with_reducible refine below_drewN ?_ _) | (with_reducible refine Below.drew ?_)) (b1.mono (by simp))
      go_wp2_with fail
      go_at_call 67
      refine (implVector_any b n2 d Y _ hm (h2.below B1 (Nat.le_refl _))).mono ?_
      rintro e w2 ⟨rfl, q, rfl⟩
      go_wp2_with fail
      go_ret2
      exact ⟨none, 0, fun _ => 0, rfl, .inl ⟨rfl, rfl, rfl⟩, fun i hi => by omega, below_drewN B1 _⟩
    | true =>
      have hne : ¬ (n2 : Int) = C := by
        intro e
        unfold tmOk at ho
        rw [hv, hv2, decide_eq_true e] at ho
        cases ho
      have hd : ((n2 : Int) == C) = false := beq_eq_false_iff_ne.2 hne
      have hne' := Lib.hid hne
      clear hne ho
      go_enter Try.func34, Try.ntmps34
      go_wp2_with fail
      go_at_call 71
      refine (implValid_any R C a n c Z _ hn (h.below (by repeat first | (with_reducible exact Below.refl _ _) | (with_reducible refine Below.setCell ?_ (by first | exact Nat.le_refl _ | (simp; done) | (simp; omega) | omega) _) | (with_reducible refine Below.alloc ?_ (by first | exact Nat.le_refl _ | (simp; done) | (simp; omega) | omega) _) | (with_reducible refine below_drewN ?_ _) | (with_reducible refine Below.drew ?_)) (Nat.le_refl _))).mono ?_
      rintro e w1 ⟨rfl, b1⟩
      have B1 : Below w.heap.size w w1 := Below.trans (by repeat first | (with_reducible exact Below.refl _ _) | (with_reducible refine Below.setCell ?_ (by first | exact Nat.le_refl _ | (simp; done) | (simp; omega) | omega) _) | (with_reducible refine Below.alloc ?_ (by first | exact Nat.le_refl _ | (simp; done) | (simp; omega) | omega) _) | (with_reducible refine below_drewN ?_ _) | (with_reducible refine Below.drew ?_)) (b1.mono (by simp))
      obtain ⟨x0, x1, x2⟩ := (Box.new _ _ _ _ _ _ _).below b1 (by simp)
      go_wp2_with fail
      go_at_call 67
      refine (implVector_any b n2 d Y _ hm (h2.below B1 (Nat.le_refl _))).mono ?_
      rintro e w2 ⟨rfl, q, rfl⟩
      go_wp2_with fail
      go_ret2
      exact ⟨none, 0, fun _ => 0, rfl, .inl ⟨rfl, rfl, rfl⟩, fun i hi => by omega, below_drewN B1 _⟩
set_option maxRecDepth 20000 in
set_option maxHeartbeats 2000000 in
theorem implTimes_yes (r c n b off cap p2 o2 d : Nat) (Z Y : Nat → Nat) (w : World) (hr1 : 1 ≤ r) (hr : r ≤ 12) (hc1 : 1 ≤ c) (hc : c ≤ 12) (hn : n = r * c) (hv : validB r c n (vals Z) = true) (hv2 : vecB c (vals Y) = true)
    (h : FS .f32 w (some ⟨b, off, none⟩) n cap Z) (h2 : FS .f32 w (some ⟨p2, o2, none⟩) c d Y) :
    Calls Try.prog 34 #[.agg #[.int .i64 r, .int .i64 c, .slice (some ⟨b, off, none⟩) n cap], .slice (some ⟨p2, o2, none⟩) c d] w (NOwnIf (allFin (tv c Z Y) r) r (tv c Z Y) w) := by
  obtain ⟨i0, hi, hz0, hz1, hz2⟩ := info_parts info32
  have hN := Lib.hid hn
  have hn144 : n ≤ 144 := by have := sides_le hr hc; omega
  have hcap := h.1
  have hmx := h.2.1
  have hmax : cap ≤ 9223372036854775807 := by unfold maxLen at hmx; omega
  clear hn
  go_enter Try.func34, Try.ntmps34
  go_wp2_with fail
  go_at_call 71
  refine (implValid_any r c _ n cap Z _ (by omega) (h.below (by repeat first | (with_reducible exact Below.refl _ _) | (with_reducible refine Below.setCell ?_ (by first | exact Nat.le_refl _ | (simp; done) | (simp; omega) | omega) _) | (with_reducible refine Below.alloc ?_ (by first | exact Nat.le_refl _ | (simp; done) | (simp; omega) | omega) _) | (with_reducible refine below_drewN ?_ _) | (with_reducible refine Below.drew ?_)) (Nat.le_refl _))).mono ?_
  rintro e w1 ⟨rfl, b1⟩
  have B1 : Below w.heap.size w w1 := Below.trans (by repeat first | (with_reducible exact Below.refl _ _) | (with_reducible refine Below.setCell ?_ (by first | exact Nat.le_refl _ | (simp; done) | (simp; omega) | omega) _) | (with_reducible refine Below.alloc ?_ (by first | exact Nat.le_refl _ | (simp; done) | (simp; omega) | omega) _) | (with_reducible refine below_drewN ?_ _) | (with_reducible refine Below.drew ?_)) (b1.mono (by simp))
  have X1 := (Box.new _ _ _ _ _ _ _).below b1 (by simp)
  have s1 : w.heap.size < w1.heap.size := by have := b1.size; simp at this; omega
  obtain ⟨x0, x1, x2⟩ := X1
  clear b1
  go_wp2_with fail
  go_at_call 67
  refine (implVector_any _ c d Y _ (by omega) (h2.below B1 (Nat.le_refl _))).mono ?_
  rintro e w2 ⟨rfl, q, rfl⟩
  have B2 : Below w.heap.size w (w1.drewN q) := below_drewN B1 _
  have X2 : Box (w1.drewN q) w.heap.size r c (some ⟨b, off, none⟩) n cap := ⟨x0, x1, x2⟩
  have s2 : w.heap.size < (w1.drewN q).heap.size := s1
  generalize w1.drewN q = w2 at B2 X2 s2 ⊢
  clear x0 x1 x2 B1 s1 hv
  obtain ⟨x0, x1, x2⟩ := X2
  go_wp2_with (at_make; refine wpList_make_full _ rfl _ _ 22 rfl w2.heap.size 26 i0 (.float .f32 0) 1 Try.underlying22 hi hz0 hz1 _ _ _ _ r rfl rfl rfl rfl ?b2 ?b3 (Nat.le_refl _) ?_)
  case b2 => rw [hz2]; omega
  case b3 => unfold maxLen; omega
  intro w0 hown0 hgrow0
  have hU := (hown0.lt w2.heap.size rfl).2
  have o0 := own_zero (w := w2) (U := w0.heap.size) hown0 (Nat.le_refl _) hU (Nat.le_refl _) (by unfold maxLen; omega)
  have b0 : Below w2.heap.size w2 w0 := (Below.refl _ _).grown hgrow0 (Nat.le_refl _) (fun k h => by cases h)
  have X0 := (show Box w2 w.heap.size r c (some ⟨b, off, none⟩) n cap from ⟨x0, x1, x2⟩)
  clear hown0 hgrow0 x0 x1 x2
  go_wp2
  clear hv2
  go_loopw [28] (fun i wr => ∃ (j : Nat) (X : Nat → Nat), j ≤ r ∧ i = .int .i64 j ∧ (∀ t, t < j → FV .f32 (X t) (tv c Z Y t)) ∧ Own 26 .f32 w2.heap.size w0.heap.size wr (some ⟨w2.heap.size, 0, none⟩) r r X ∧ Below w2.heap.size w2 wr) (fun i _ => r - (intOf i).toNat)
  case atStart => exact ⟨0, _, Nat.zero_le _, rfl, fun t ht => absurd ht (Nat.not_lt_zero _), o0, b0⟩
  case round =>
    obtain ⟨j, X, hj, rfl, hV, hk, hb⟩ := hrel
    have hV' := Lib.hid hV
    clear o0 b0 hV
    by_cases hlt : j < r
    · obtain ⟨y0, y1, y2⟩ := X0.below hb s2
      obtain ⟨hce, hfr, _⟩ := hk.cell hlt
      have hk' := Lib.hid hk
      have hb' := Lib.hid hb
      clear hk hb
      generalize X j = old at hce
      go_wp2_with fail
      go_at_call 48
      refine (rowOf_any b off r c n cap j _ hr hc1 hc hN.out hcap hmax hlt).mono ?_
      rintro e w3 ⟨rfl, b3⟩
      have B3 := hb'.out.trans (b3.mono hb'.out.size)
      have hk3 := hk'.out.kept (below_grew b3) (fun q hq => by cases hq)
      have f3 := ((h.below B2 (Nat.le_refl _)).below B3 (Nat.le_refl _)).row hN.out hlt c (Nat.le_refl _) (by unfold maxLen; omega)
      have g3 := (h2.below B2 (Nat.le_refl _)).below B3 (Nat.le_refl _)
      clear y0 y1 y2 hce hfr b3
      go_wp2_with fail
      go_at_call 68
      refine (implDot_any _ _ c c c d _ Y _ (by omega) (Nat.le_refl _) (by omega) f3 g3).mono ?_
      rintro e w4 ⟨rr, rfl, hrr, m4, rfl⟩
      obtain ⟨hce, hfr, _⟩ := hk3.cell hlt
      obtain ⟨hst, hgr⟩ := hk3.stored (t := j) (v := rr) hlt hrr.2
      have hst' : Hid (Own 26 .f32 w2.heap.size w0.heap.size ((w3.drewN m4).setCell ⟨w2.heap.size, j, none⟩ (.float .f32 rr)) (some ⟨w2.heap.size, 0, none⟩) r r (fun t => if t = j then rr else X t)) := Lib.hid hst
      have hb4 : Hid (Below w2.heap.size w2 ((w3.drewN m4).setCell ⟨w2.heap.size, j, none⟩ (.float .f32 rr))) := Lib.hid ((below_drewN B3 m4).setCell (Nat.le_refl _) _)
      have hvn : Hid (∀ t, t < j + 1 → FV .f32 (if t = j then rr else X t) (tv c Z Y t)) := by
        refine Lib.hid fun t ht => ?_
        by_cases e : t = j
        · subst e; rw [if_pos rfl]; exact hrr
        · rw [if_neg e]; exact hV'.out t (by omega)
      clear hst hgr hk3 B3 f3 g3 hk' hb'
      go_wp2
      go_roundw
      case rel => exact ⟨j + 1, _, by omega, by go_num, hvn.out, hst'.out, hb4.out⟩
      case measure => simp [intOf]; omega
    · obtain rfl : j = r := by omega
      have hvec : vecB j (vals X) = allFin (tv c Z Y) j := by
        unfold vecB
        have e3 : allFin (vals X) j = allFin (tv c Z Y) j := allFin_congr fun t ht => (hV'.out t ht).1
        rw [decide_eq_true hr1, decide_eq_true (show j ≤ 256 by omega), e3]
        rfl
      have hh := hk
      have hU2 : w0.heap.size ≤ wr.heap.size := (hk.cell (show 0 < j by omega)).2.2.2.2.1
      have hk' := Lib.hid hk
      have hb' := Lib.hid (B2.trans (hb.mono B2.size))
      have hs2 := B2.size
      clear hk hb
      cases hf : allFin (tv c Z Y) j with
      | true =>
        rw [hf] at hvec
        go_wp2_with fail
        go_at_call 67
        refine (implVector_any _ j j X _ (by omega) hh.fs).mono ?_
        rintro e w3 ⟨rfl, q3, rfl⟩
        go_wp2_with fail
        go_ret2
        exact NOwnIf.yes hf ⟨_, _, _, rfl, Own.mono (U := w0.heap.size) (B := w2.heap.size) hk'.out hs2 hU2 (Nat.le_refl _), fun i hi => (hV'.out i hi).1, below_drewN hb'.out _⟩
      | false =>
        rw [hf] at hvec
        go_wp2_with fail
        go_at_call 67
        refine (implVector_any _ j j X _ (by omega) hh.fs).mono ?_
        rintro e w3 ⟨rfl, q3, rfl⟩
        go_wp2_with fail
        go_ret2
        exact NOwnIf.no hf ⟨none, 0, fun _ => 0, rfl, .inl ⟨rfl, rfl, rfl⟩, fun i hi => by omega, below_drewN hb'.out _⟩

set_option maxRecDepth 20000 in
set_option maxHeartbeats 2000000 in
theorem l02Times_any (p r c n b off cap p2 o2 d : Nat) (Z Y : Nat → Nat) (w : World) (hr1 : 1 ≤ r) (hr : r ≤ 12) (hc1 : 1 ≤ c) (hc : c ≤ 12) (hn : n = r * c) (hp : p < w.heap.size) (hb : Box w p r c (some ⟨b, off, none⟩) n cap)
    (h : FS .f32 w (some ⟨b, off, none⟩) n cap Z) (h2 : FS .f32 w (some ⟨p2, o2, none⟩) c d Y) :
    Calls Try.prog 64 #[.pointer (some ⟨p, 0, none⟩), .slice (some ⟨p2, o2, none⟩) c d] w (fun e w' => ∃ a c2 X, e = .returned (.slice a r c2) ∧ FS .f32 w' a r c2 X ∧ (∀ i, i < r → vals X i = tv c Z Y i) ∧ Below w.heap.size w w') := by
  have hN := Lib.hid hn
  have hn144 : n ≤ 144 := by have := sides_le hr hc; omega
  have hcap := h.1
  have hmx := h.2.1
  obtain ⟨x0, x1, x2⟩ := hb
  obtain ⟨i0, hi, hz0, hz1, hz2⟩ := info_parts info32
  clear hn
  have hL := World.ownsRow_lit (base := w.heap.size) (e := 26) (size := 1) w #[] 0 (by simp) (Nat.zero_le _) rfl
  go_enter Try.func64, Try.ntmps64
  go_wp2
  go_loopw [5, 6] (fun v i wr => ∃ (j : Nat) (xs : List Value), j ≤ r ∧ i = .int .i64 j ∧ Grow w j (tv c Z Y) wr v xs) (fun _ i _ => r - (intOf i).toNat)
  case atStart => exact ⟨0, [], Nat.zero_le _, rfl, by simpa using hL, fun t ht => absurd ht (Nat.not_lt_zero _), (by repeat first | (with_reducible exact Below.refl _ _) | (with_reducible refine Below.setCell ?_ (by first | exact Nat.le_refl _ | (simp; done) | (simp; omega) | omega) _) | (with_reducible refine Below.alloc ?_ (by first | exact Nat.le_refl _ | (simp; done) | (simp; omega) | omega) _) | (with_reducible refine below_drewN ?_ _) | (with_reducible refine Below.drew ?_)), _, _, rfl⟩
  case round =>
    obtain ⟨j, xs, hj, rfl, hk⟩ := hrel
    clear hL
    by_cases hlt : j < r
    · have q0 := (hk.bel.cell (p := ⟨p, 0, none⟩) hp).trans x0
      have q1 := (hk.bel.cell (p := ⟨p, 1, none⟩) hp).trans x1
      have q2 := (hk.bel.cell (p := ⟨p, 2, none⟩) hp).trans x2
      obtain ⟨g, cp, rfl⟩ := hk.shape
      have hx1 : (j + 1) * c ≤ r * c := Nat.mul_le_mul_right c hlt
      have hx2 : j * c + c ≤ n := by rw [Nat.add_mul, Nat.one_mul] at hx1; rw [hN.out]; exact hx1
      obtain ⟨lo, hlo⟩ : ∃ lo, j * c = lo := ⟨_, rfl⟩
      obtain ⟨H, hH⟩ : ∃ H, lo + c = H := ⟨_, rfl⟩
      have hW0 : IntKind.i64.wrap ((j : Int) + 1) = (j : Int) + 1 := IntWalk.i64_in _ (by omega)
      have hW1 : IntKind.i64.wrap ((j : Int) * (c : Int)) = (lo : Int) := by
        have e : (j : Int) * (c : Int) = (lo : Int) := by rw [← hlo, Int.natCast_mul]
        rw [e]; exact IntWalk.i64_in _ (by omega)
      have hW2 : IntKind.i64.wrap (((j : Int) + 1) * (c : Int)) = (H : Int) := by
        have e : ((j : Int) + 1) * (c : Int) = (H : Int) := by rw [← hH, ← hlo, Int.natCast_add, Int.natCast_mul, Int.add_mul, Int.one_mul]
        rw [e]; exact IntWalk.i64_in _ (by omega)
      have hD : ∀ m (d' : Nat), c ≤ d' → d' ≤ maxLen → Calls Try.prog 65 #[.slice (some ⟨b, off + lo, none⟩) c d', .slice (some ⟨p2, o2, none⟩) c d] (wr.drewN m) fun e w' => ∃ rr, e = .returned (.float .f32 rr) ∧ FV .f32 rr (tv c Z Y j) ∧ ∃ q, w' = (wr.drewN m).drewN q := fun m d' h1 h3 => by
        subst hlo
        exact specDot_any _ _ c d' c d _ Y _ (by omega) (Nat.le_refl _) (by omega) (FS.drewN ((h.below hk.bel (Nat.le_refl _)).row hN.out hlt d' h1 h3)) (FS.drewN (h2.below hk.bel (Nat.le_refl _)))
      have hn1 : ¬ cap = lo := by omega
      have hn2 : H - lo = c := by omega
      have hn3 : (lo : Int) ≤ max (H : Int) 0 := by omega
      have hn4 : H ≤ cap := by omega
      have hn7 : lo ≤ H := by omega
      have hn5 : c ≤ cap - lo := by omega
      have hn6 : cap - lo ≤ maxLen := by omega
      clear hlo hx2 hH
      have hsz := hk.bel.size
      clear hx1
      go_wp2
      go_region_law (first
        | (go_simp; go_at_call 65; refine (hD _ _ hn5 hn6).mono ?_; rintro e w' ⟨rr, rfl, hrr, mA, rfl⟩; dsimp only)
        | (refine step_append_lies _ (by rfl) _ _ _ (by rfl) w.heap.size 26 i0 _ 1 4 Try.underlying22 hi hz0 hz1 hz2 rfl (by omega) (.slice (some ⟨g, 0, none⟩) j cp) j xs (by rfl) (by exact ownsRow_below hk.own (by repeat first | (with_reducible exact Below.refl _ _) | (with_reducible refine Below.setCell ?_ (by first | exact Nat.le_refl _ | (simp; done) | (simp; omega) | omega) _) | (with_reducible refine Below.alloc ?_ (by first | exact Nat.le_refl _ | (simp; done) | (simp; omega) | omega) _) | (with_reducible refine below_drewN ?_ _) | (with_reducible refine Below.drew ?_))) ⟨wr.heap.size, 0, none⟩ 1 1 [.float .f32 rr] (by rfl) (by rfl)
                (by exact World.news_of_block (cs := #[.float .f32 rr]) (t := 26) (fr := (0, 0)) (heap_alloc_new _ _)) (by simp [Value.oneCell']) (by omega) (by unfold maxLen; omega) (by omega) (by simp [World.drew]; omega) (wr.heap.size + 1) (by simp [World.drew]) ?_
           intro gg cp2 w2 hown2 hgrow2 hat2 hlt3))
      all_goals
        have hst := Lib.hid (hk.step (by repeat first | (with_reducible exact Below.refl _ _) | (with_reducible refine Below.setCell ?_ (by first | exact Nat.le_refl _ | (simp; done) | (simp; omega) | omega) _) | (with_reducible refine Below.alloc ?_ (by first | exact Nat.le_refl _ | (simp; done) | (simp; omega) | omega) _) | (with_reducible refine below_drewN ?_ _) | (with_reducible refine Below.drew ?_)) hown2 hgrow2 hrr)
        clear hown2 hgrow2 hat2 hlt3 hD hk hW0 hW1 hW2 q0 q1 q2
        go_wp2
        go_roundw
        case rel => exact ⟨j + 1, _, by omega, by go_num, hst.out⟩
        case measure => simp [intOf]; omega
    · obtain rfl : j = r := by omega
      have q0 := (hk.bel.cell (p := ⟨p, 0, none⟩) hp).trans x0
      obtain ⟨g, cp, rfl⟩ := hk.shape
      obtain ⟨X, hX, hV⟩ := hk.fs
      have B := Lib.hid hk.bel
      have hX' := Lib.hid hX
      have hV' := Lib.hid hV
      clear hk hX hV
      go_wp2
      go_ret
      exact ⟨_, _, X, rfl, hX'.out, hV'.out, B.out⟩
set_option maxHeartbeats 2000000 in
theorem specTimes_no (R C : Int) (a b : Option Addr) (n c n2 d : Nat) (Z Y : Nat → Nat) (w : World) (hn : n ≤ 1048576) (hm : n2 ≤ 1048576) (h : FS .f32 w a n c Z) (h2 : FS .f32 w b n2 d Y) (ho : tmOk R C n n2 (vals Z) (vals Y) = false) :
    Calls Try.prog 30 #[.agg #[.int .i64 R, .int .i64 C, .slice a n c], .slice b n2 d] w (NumsBel false 0 (fun _ => none) w) := by
  cases hv : validB R C n (vals Z) with
  | false =>
    go_enter Try.func30, Try.ntmps30
    go_wp2_with fail
    go_at_call 59
    refine (specIs_any _ R C a n c Z _ hn (Box.new _ _ _ _ _ _ _) (h.below (by repeat first | (with_reducible exact Below.refl _ _) | (with_reducible refine Below.setCell ?_ (by first | exact Nat.le_refl _ | (simp; done) | (simp; omega) | omega) _) | (with_reducible refine Below.alloc ?_ (by first | exact Nat.le_refl _ | (simp; done) | (simp; omega) | omega) _) | (with_reducible refine below_drewN ?_ _) | (with_reducible refine Below.drew ?_)) (Nat.le_refl _))).mono ?_
    rintro e w1 ⟨rfl, m1, rfl⟩
    go_wp2_with fail
    go_ret2
    exact ⟨none, 0, fun _ => 0, rfl, ⟨Nat.le_refl _, Nat.zero_le _, fun i hi => by omega⟩, fun i hi => by omega, (by repeat first | (with_reducible exact Below.refl _ _) | (with_reducible refine Below.setCell ?_ (by first | exact Nat.le_refl _ | (simp; done) | (simp; omega) | omega) _) | (with_reducible refine Below.alloc ?_ (by first | exact Nat.le_refl _ | (simp; done) | (simp; omega) | omega) _) | (with_reducible refine below_drewN ?_ _) | (with_reducible refine Below.drew ?_))⟩
  | true =>
    cases hv2 : vecB n2 (vals Y) with
    | false =>
      go_enter Try.func30, Try.ntmps30
      go_wp2_with fail
      go_at_call 59
      refine (specIs_any _ R C a n c Z _ hn (Box.new _ _ _ _ _ _ _) (h.below (by repeat first | (with_reducible exact Below.refl _ _) | (with_reducible refine Below.setCell ?_ (by first | exact Nat.le_refl _ | (simp; done) | (simp; omega) | omega) _) | (with_reducible refine Below.alloc ?_ (by first | exact Nat.le_refl _ | (simp; done) | (simp; omega) | omega) _) | (with_reducible refine below_drewN ?_ _) | (with_reducible refine Below.drew ?_)) (Nat.le_refl _))).mono ?_
      rintro e w1 ⟨rfl, m1, rfl⟩
      go_wp2_with fail
      go_at_call 27
      refine (specVector_any b n2 d Y _ hm (h2.below (by repeat first | (with_reducible exact Below.refl _ _) | (with_reducible refine Below.setCell ?_ (by first | exact Nat.le_refl _ | (simp; done) | (simp; omega) | omega) _) | (with_reducible refine Below.alloc ?_ (by first | exact Nat.le_refl _ | (simp; done) | (simp; omega) | omega) _) | (with_reducible refine below_drewN ?_ _) | (with_reducible refine Below.drew ?_)) (Nat.le_refl _))).mono ?_
      rintro e w2 ⟨rfl, q, rfl⟩
      go_wp2_with fail
      go_ret2
      exact ⟨none, 0, fun _ => 0, rfl, ⟨Nat.le_refl _, Nat.zero_le _, fun i hi => by omega⟩, fun i hi => by omega, (by repeat first | (with_reducible exact Below.refl _ _) | (with_reducible refine Below.setCell ?_ (by first | exact Nat.le_refl _ | (simp; done) | (simp; omega) | omega) _) | (with_reducible refine Below.alloc ?_ (by first | exact Nat.le_refl _ | (simp; done) | (simp; omega) | omega) _) | (with_reducible refine below_drewN ?_ _) | (with_reducible refine Below.drew ?_))⟩
    | true =>
      have hne : ¬ (n2 : Int) = C := by
        intro e
        unfold tmOk at ho
        rw [hv, hv2, decide_eq_true e] at ho
        cases ho
      have hd : ((n2 : Int) == C) = false := beq_eq_false_iff_ne.2 hne
      have hne' := Lib.hid hne
      clear hne ho
      go_enter Try.func30, Try.ntmps30
      go_wp2_with fail
      go_at_call 59
      refine (specIs_any _ R C a n c Z _ hn (Box.new _ _ _ _ _ _ _) (h.below (by repeat first | (with_reducible exact Below.refl _ _) | (with_reducible refine Below.setCell ?_ (by first | exact Nat.le_refl _ | (simp; done) | (simp; omega) | omega) _) | (with_reducible refine Below.alloc ?_ (by first | exact Nat.le_refl _ | (simp; done) | (simp; omega) | omega) _) | (with_reducible refine below_drewN ?_ _) | (with_reducible refine Below.drew ?_)) (Nat.le_refl _))).mono ?_
      rintro e w1 ⟨rfl, m1, rfl⟩
      go_wp2_with fail
      go_at_call 27
      refine (specVector_any b n2 d Y _ hm (h2.below (by repeat first | (with_reducible exact Below.refl _ _) | (with_reducible refine Below.setCell ?_ (by first | exact Nat.le_refl _ | (simp; done) | (simp; omega) | omega) _) | (with_reducible refine Below.alloc ?_ (by first | exact Nat.le_refl _ | (simp; done) | (simp; omega) | omega) _) | (with_reducible refine below_drewN ?_ _) | (with_reducible refine Below.drew ?_)) (Nat.le_refl _))).mono ?_
      rintro e w2 ⟨rfl, q, rfl⟩
      go_wp2_with fail
      go_ret2
      exact ⟨none, 0, fun _ => 0, rfl, ⟨Nat.le_refl _, Nat.zero_le _, fun i hi => by omega⟩, fun i hi => by omega, (by repeat first | (with_reducible exact Below.refl _ _) | (with_reducible refine Below.setCell ?_ (by first | exact Nat.le_refl _ | (simp; done) | (simp; omega) | omega) _) | (with_reducible refine Below.alloc ?_ (by first | exact Nat.le_refl _ | (simp; done) | (simp; omega) | omega) _) | (with_reducible refine below_drewN ?_ _) | (with_reducible refine Below.drew ?_))⟩
set_option maxHeartbeats 2000000 in
theorem specTimes_yes (r c n b off cap p2 o2 d : Nat) (Z Y : Nat → Nat) (w : World) (hr1 : 1 ≤ r) (hr : r ≤ 12) (hc1 : 1 ≤ c) (hc : c ≤ 12) (hn : n = r * c) (hv : validB r c n (vals Z) = true) (hv2 : vecB c (vals Y) = true)
    (h : FS .f32 w (some ⟨b, off, none⟩) n cap Z) (h2 : FS .f32 w (some ⟨p2, o2, none⟩) c d Y) :
    Calls Try.prog 30 #[.agg #[.int .i64 r, .int .i64 c, .slice (some ⟨b, off, none⟩) n cap], .slice (some ⟨p2, o2, none⟩) c d] w (NBelIf (allFin (tv c Z Y) r) r (tv c Z Y) w) := by
  have hN := Lib.hid hn
  have hn144 : n ≤ 144 := by have := sides_le hr hc; omega
  clear hn
  go_enter Try.func30, Try.ntmps30
  go_wp2_with fail
  go_at_call 59
  refine (specIs_any _ r c _ n cap Z _ (by omega) (Box.new _ _ _ _ _ _ _) (h.below (by repeat first | (with_reducible exact Below.refl _ _) | (with_reducible refine Below.setCell ?_ (by first | exact Nat.le_refl _ | (simp; done) | (simp; omega) | omega) _) | (with_reducible refine Below.alloc ?_ (by first | exact Nat.le_refl _ | (simp; done) | (simp; omega) | omega) _) | (with_reducible refine below_drewN ?_ _) | (with_reducible refine Below.drew ?_)) (Nat.le_refl _))).mono ?_
  rintro e w1 ⟨rfl, m1, rfl⟩
  go_wp2_with fail
  go_at_call 27
  refine (specVector_any _ c d Y _ (by omega) (h2.below (by repeat first | (with_reducible exact Below.refl _ _) | (with_reducible refine Below.setCell ?_ (by first | exact Nat.le_refl _ | (simp; done) | (simp; omega) | omega) _) | (with_reducible refine Below.alloc ?_ (by first | exact Nat.le_refl _ | (simp; done) | (simp; omega) | omega) _) | (with_reducible refine below_drewN ?_ _) | (with_reducible refine Below.drew ?_)) (Nat.le_refl _))).mono ?_
  rintro e w2 ⟨rfl, q, rfl⟩
  go_wp2_with fail
  go_at_call 64
  refine (l02Times_any w.heap.size r c n b off cap p2 o2 d Z Y _ hr1 hr hc1 hc hN.out (by simp [World.drewN]) (by refine ⟨?_, ?_, ?_⟩ <;> simp [go_sem]) (h.below (by repeat first | (with_reducible exact Below.refl _ _) | (with_reducible refine Below.setCell ?_ (by first | exact Nat.le_refl _ | (simp; done) | (simp; omega) | omega) _) | (with_reducible refine Below.alloc ?_ (by first | exact Nat.le_refl _ | (simp; done) | (simp; omega) | omega) _) | (with_reducible refine below_drewN ?_ _) | (with_reducible refine Below.drew ?_)) (Nat.le_refl _)) (h2.below (by repeat first | (with_reducible exact Below.refl _ _) | (with_reducible refine Below.setCell ?_ (by first | exact Nat.le_refl _ | (simp; done) | (simp; omega) | omega) _) | (with_reducible refine Below.alloc ?_ (by first | exact Nat.le_refl _ | (simp; done) | (simp; omega) | omega) _) | (with_reducible refine below_drewN ?_ _) | (with_reducible refine Below.drew ?_)) (Nat.le_refl _))).mono ?_
  rintro e w3 ⟨a3, c3, X, rfl, f3, hV, b3⟩
  have B3 : Below w.heap.size w w3 := Below.trans (by repeat first | (with_reducible exact Below.refl _ _) | (with_reducible refine Below.setCell ?_ (by first | exact Nat.le_refl _ | (simp; done) | (simp; omega) | omega) _) | (with_reducible refine Below.alloc ?_ (by first | exact Nat.le_refl _ | (simp; done) | (simp; omega) | omega) _) | (with_reducible refine below_drewN ?_ _) | (with_reducible refine Below.drew ?_)) (b3.mono (by simp [World.drewN]))
  have hfin : allFin (vals X) r = allFin (tv c Z Y) r := allFin_congr hV
  clear b3
  cases hf : allFin (tv c Z Y) r with
  | true =>
    rw [hf] at hfin
    have hl : Calls Try.prog 63 #[.slice a3 r c3] w3 fun e w' => e = .returned (.tuple #[.slice a3 r c3, .bool true]) ∧ ∃ m, w' = w3.drewN m := by
      go_enter Try.func63, Try.ntmps63
      go_wp2_with fail
      go_at_call 60
      refine (specFin_any a3 r c3 X _ (by omega) f3).mono ?_
      rintro e w4 ⟨rfl, m4, rfl⟩
      go_wp2_with fail
      go_ret2
      exact ⟨rfl, _, rfl⟩
    go_wp2_with fail
    go_at_call 63
    refine hl.mono ?_
    rintro e w4 ⟨rfl, m4, rfl⟩
    go_wp2_with fail
    go_ret2
    exact NBelIf.yes hf ⟨_, _, X, rfl, FS.drewN f3, hV, below_drewN B3 _⟩
  | false =>
    rw [hf] at hfin
    have hl : Calls Try.prog 63 #[.slice a3 r c3] w3 fun e w' => e = .returned (.tuple #[.slice none 0 0, .bool false]) ∧ ∃ m, w' = w3.drewN m := by
      go_enter Try.func63, Try.ntmps63
      go_wp2_with fail
      go_at_call 60
      refine (specFin_any a3 r c3 X _ (by omega) f3).mono ?_
      rintro e w4 ⟨rfl, m4, rfl⟩
      go_wp2_with fail
      go_ret2
      exact ⟨rfl, _, rfl⟩
    go_wp2_with fail
    go_at_call 63
    refine hl.mono ?_
    rintro e w4 ⟨rfl, m4, rfl⟩
    go_wp2_with fail
    go_ret2
    exact NBelIf.no hf ⟨none, 0, fun _ => 0, rfl, ⟨Nat.le_refl _, Nat.zero_le _, fun i hi => by omega⟩, fun i hi => by omega, below_drewN B3 _⟩
theorem keyTimesVector (R C : Int) (n : Nat) (Z : Nat → Nat) (n2 : Nat) (Y : Nat → Nat) (hn : n ≤ 1048576) (hm : n2 ≤ 1048576) : ∃ (ok : Bool) (n' : Nat) (V : Nat → Option Nat), n' ≤ 144 ∧
    (∀ a c b d W, FS .f32 W a n c Z → FS .f32 W b n2 d Y → Calls Try.prog 30 #[.agg #[.int .i64 R, .int .i64 C, .slice a n c], .slice b n2 d] W (NumsBel ok n' V W)) ∧
    (∀ a c b d W, FS .f32 W a n c Z → FS .f32 W b n2 d Y → Calls Try.prog 34 #[.agg #[.int .i64 R, .int .i64 C, .slice a n c], .slice b n2 d] W (NumsOwn ok n' V W)) := by
  cases ho : tmOk R C n n2 (vals Z) (vals Y) with
  | false => exact ⟨false, 0, fun _ => none, by omega, fun a c b d W h h2 => specTimes_no R C a b n c n2 d Z Y W hn hm h h2 ho, fun a c b d W h h2 => implTimes_no R C a b n c n2 d Z Y W hn hm h h2 ho⟩
  | true =>
    unfold tmOk at ho
    simp only [Bool.and_eq_true, decide_eq_true_eq] at ho
    obtain ⟨hv, hv2, he⟩ := ho
    obtain ⟨r, c, rfl, rfl, h1, h2, h3, h4, h5, _⟩ := valid_nat hv
    obtain rfl : n2 = c := by omega
    have h0 : 0 < n := by rw [h5]; exact Nat.mul_pos h1 h3
    cases hf : allFin (tv n2 Z Y) r with
    | true =>
      refine ⟨true, r, tv n2 Z Y, by omega, fun a c b d W k1 k2 => ?_, fun a c b d W k1 k2 => ?_⟩
      all_goals
        obtain ⟨p1, o1, rfl, _⟩ := k1.at h0
        obtain ⟨p2, o2, rfl, _⟩ := k2.at (show 0 < n2 by omega)
      · have hh := specTimes_yes r n2 n p1 o1 c p2 o2 d Z Y W h1 h2 h3 h4 h5 hv hv2 k1 k2
        rw [hf] at hh; exact hh
      · have hh := implTimes_yes r n2 n p1 o1 c p2 o2 d Z Y W h1 h2 h3 h4 h5 hv hv2 k1 k2
        rw [hf] at hh; exact hh
    | false =>
      refine ⟨false, 0, fun _ => none, by omega, fun a c b d W k1 k2 => ?_, fun a c b d W k1 k2 => ?_⟩
      all_goals
        obtain ⟨p1, o1, rfl, _⟩ := k1.at h0
        obtain ⟨p2, o2, rfl, _⟩ := k2.at (show 0 < n2 by omega)
      · have hh := specTimes_yes r n2 n p1 o1 c p2 o2 d Z Y W h1 h2 h3 h4 h5 hv hv2 k1 k2
        rw [hf] at hh; exact hh
      · have hh := implTimes_yes r n2 n p1 o1 c p2 o2 d Z Y W h1 h2 h3 h4 h5 hv hv2 k1 k2
        rw [hf] at hh; exact hh
end Go.Proofs.Ytadnnfeeainadaa
