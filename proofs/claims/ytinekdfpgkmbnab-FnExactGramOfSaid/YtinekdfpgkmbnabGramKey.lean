/- Helper: the products of all rows with all rows, of program and reference, their key. Conditions: none. -/
import Derived.Test.YtinekdfpgkmbnabGramImpl
set_option linter.unusedVariables false
set_option linter.unusedSimpArgs false
namespace Go.Proofs.Ytinekdfpgkmbnab
open Go.RowKit

theorem gram_same {r c t : Nat} {Z : Nat → Int} (hr : 0 < r) : mulZ c r Z (flipI r c Z r 0) t = joinZ r (gramY c Z) t := by
  unfold mulZ joinZ gramY
  refine dotI_congr (fun j _ => rfl) (fun j hj => ?_)
  have h2 : t % r < r := Nat.mod_lt _ hr
  obtain ⟨e1, e2⟩ := placeI_div (c := r) (j := j) (k := t % r) h2
  unfold flipI
  rw [e1, e2, if_pos (.inl h2)]
theorem flip_abs {r c n : Nat} {Z : Nat → Int} (hr : 0 < r) (hn : n = r * c) (hZ : ∀ t, t < n → (Z t).natAbs ≤ 1000000) : ∀ t, t < n → (flipI r c Z r 0 t).natAbs ≤ 1000000 := fun t ht => by
  have h2 : t % r < r := Nat.mod_lt _ hr
  have h3 : t / r < c := Nat.div_lt_of_lt_mul (by rw [← hn]; exact ht)
  unfold flipI
  rw [if_pos (.inl h2)]
  exact hZ _ (by rw [hn]; exact placeI_lt h2 h3)
set_option maxHeartbeats 1000000 in
theorem specGram_no (R C : Int) (a : Option Addr) (n cap : Nat) (Z : Nat → Int) (w : World) (hn : n ≤ 1048576) (hv : wholeB 1000000 R C n Z = false) (h : IS .i64 w a n cap Z) :
    Calls Try.prog 20 #[.agg #[.int .i64 R, .int .i64 C, .slice a n cap]] w (WholeBel false 0 0 0 (fun _ => 0) w) := by
  have HV := Lib.hid hv
  clear hv
  go_enter Try.func20, Try.ntmps20
  go_wp2_with fail
  go_at_call 40
  refine (specWhole_any 1000000 w.heap.size R C a n cap Z _ (by omega) hn ⟨by simp [go_sem], by simp [go_sem], by simp [go_sem]⟩ (h.below (by repeat first | (with_reducible exact Below.refl _ _) | (with_reducible refine Below.setCell ?_ (by first | exact Nat.le_refl _ | (simp; done) | (simp; omega) | omega) _) | (with_reducible refine Below.alloc ?_ (by first | exact Nat.le_refl _ | (simp; done) | (simp; omega) | omega) _) | (with_reducible refine below_drewN ?_ _) | (with_reducible refine Below.drew ?_)) (Nat.le_refl _))).mono ?_
  rintro e w1 ⟨rfl, m1, rfl⟩
  rw [show wholeB ((1000000 : Nat) : Int) R C n Z = false from HV.out]
  go_wp2_with fail
  refine bodyPost_ret (v := .tuple #[.agg #[.int .i64 0, .int .i64 0, .slice none 0 0], .bool false]) (by simp [results, Try.results20, go_sem]) rfl ?_
  exact ⟨none, 0, fun _ => 0, rfl, ⟨Nat.le_refl _, Nat.zero_le _, fun i hi => by omega⟩, fun i hi => by omega, (by repeat first | (with_reducible exact Below.refl _ _) | (with_reducible refine Below.setCell ?_ (by first | exact Nat.le_refl _ | (simp; done) | (simp; omega) | omega) _) | (with_reducible refine Below.alloc ?_ (by first | exact Nat.le_refl _ | (simp; done) | (simp; omega) | omega) _) | (with_reducible refine below_drewN ?_ _) | (with_reducible refine Below.drew ?_))⟩
set_option maxHeartbeats 4000000 in
theorem specGram_run (r c n N b off cap : Nat) (Z : Nat → Int) (w : World) (h1 : 1 ≤ r) (h2 : r ≤ 6) (h3 : 1 ≤ c) (h4 : c ≤ 6) (hn : n = r * c) (hN : N = r * r) (hv : wholeB 1000000 r c n Z = true) (hZ : ∀ t, t < n → (Z t).natAbs ≤ 1000000)
    (h : IS .i64 w (some ⟨b, off, none⟩) n cap Z) (ok : Bool) (hok : wholeB 1000000 r r N (mulZ c r Z (flipI r c Z r 0)) = ok) :
    Calls Try.prog 20 #[.agg #[.int .i64 r, .int .i64 c, .slice (some ⟨b, off, none⟩) n cap]] w (WholeBel ok (bif ok then (r : Int) else 0) (bif ok then (r : Int) else 0) (bif ok then N else 0) (fun t => bif ok then joinZ r (gramY c Z) t else 0) w) := by
  have HN := Lib.hid hn
  have HN2 := Lib.hid (show n = c * r by rw [hn, Nat.mul_comm])
  have HNN := Lib.hid hN
  have hn36 : n ≤ 36 := by have : r * c ≤ 6 * 6 := Nat.mul_le_mul h2 h4; omega
  have hN36 : N ≤ 36 := by have : r * r ≤ 6 * 6 := Nat.mul_le_mul h2 h2; omega
  have HV := Lib.hid hv
  have HZ := Lib.hid hZ
  have HY := Lib.hid (flip_abs (by omega) hn hZ)
  have HOK := Lib.hid hok
  clear hn hN hv hZ hok
  go_enter Try.func20, Try.ntmps20
  go_wp2_with fail
  generalize hwa : w.alloc (.cells #[.int .i64 r, .int .i64 c, .slice (some ⟨b, off, none⟩) n cap] 24) = wa
  have Ba : Below w.heap.size w wa := by rw [← hwa]; exact (by repeat first | (with_reducible exact Below.refl _ _) | (with_reducible refine Below.setCell ?_ (by first | exact Nat.le_refl _ | (simp; done) | (simp; omega) | omega) _) | (with_reducible refine Below.alloc ?_ (by first | exact Nat.le_refl _ | (simp; done) | (simp; omega) | omega) _) | (with_reducible refine below_drewN ?_ _) | (with_reducible refine Below.drew ?_))
  have sa : wa.heap.size = w.heap.size + 1 := by rw [← hwa]; simp
  have Xa : Box wa w.heap.size r c (some ⟨b, off, none⟩) n cap := by rw [← hwa]; exact Box.new _ _ _ _ _ _ _
  have Fa := h.below Ba (Nat.le_refl _)
  rw [← sa]
  clear hwa h
  have la : w.heap.size < wa.heap.size := by omega
  go_at_call 40
  refine (specWhole_any 1000000 w.heap.size r c _ n cap Z _ (by omega) (by omega) (Xa.below (by repeat first | (with_reducible exact Below.refl _ _) | (with_reducible refine Below.setCell ?_ (by first | exact Nat.le_refl _ | (simp; done) | (simp; omega) | omega) _) | (with_reducible refine Below.alloc ?_ (by first | exact Nat.le_refl _ | (simp; done) | (simp; omega) | omega) _) | (with_reducible refine below_drewN ?_ _) | (with_reducible refine Below.drew ?_)) la) (Fa.below (by repeat first | (with_reducible exact Below.refl _ _) | (with_reducible refine Below.setCell ?_ (by first | exact Nat.le_refl _ | (simp; done) | (simp; omega) | omega) _) | (with_reducible refine Below.alloc ?_ (by first | exact Nat.le_refl _ | (simp; done) | (simp; omega) | omega) _) | (with_reducible refine below_drewN ?_ _) | (with_reducible refine Below.drew ?_)) (Nat.le_refl _))).mono ?_
  rintro e w2 ⟨rfl, m1, rfl⟩
  rw [show wholeB ((1000000 : Nat) : Int) r c n Z = true from HV.out]
  go_wp2_with fail
  go_at_call 41
  refine (l06Flip_any w.heap.size r c n b off cap Z _ h1 h2 h3 h4 HN.out (by simp [World.drewN]; omega) (Xa.below (by repeat first | (with_reducible exact Below.refl _ _) | (with_reducible refine Below.setCell ?_ (by first | exact Nat.le_refl _ | (simp; done) | (simp; omega) | omega) _) | (with_reducible refine Below.alloc ?_ (by first | exact Nat.le_refl _ | (simp; done) | (simp; omega) | omega) _) | (with_reducible refine below_drewN ?_ _) | (with_reducible refine Below.drew ?_)) la) (Fa.below (by repeat first | (with_reducible exact Below.refl _ _) | (with_reducible refine Below.setCell ?_ (by first | exact Nat.le_refl _ | (simp; done) | (simp; omega) | omega) _) | (with_reducible refine Below.alloc ?_ (by first | exact Nat.le_refl _ | (simp; done) | (simp; omega) | omega) _) | (with_reducible refine below_drewN ?_ _) | (with_reducible refine Below.drew ?_)) (Nat.le_refl _))).mono ?_
  rintro e w3 ⟨g, rfl, o3, b3⟩
  obtain ⟨hc, hf⟩ := bcell b3
  have hz : wa.heap.size + 1 ≤ w3.heap.size := by have := b3.size; simp [World.drewN] at this; omega
  have B3 : Below wa.heap.size wa w3 := Below.trans (by repeat first | (with_reducible exact Below.refl _ _) | (with_reducible refine Below.setCell ?_ (by first | exact Nat.le_refl _ | (simp; done) | (simp; omega) | omega) _) | (with_reducible refine Below.alloc ?_ (by first | exact Nat.le_refl _ | (simp; done) | (simp; omega) | omega) _) | (with_reducible refine below_drewN ?_ _) | (with_reducible refine Below.drew ?_)) (b3.mono (by simp [World.drewN]))
  have z0 : w3.cell? ⟨wa.heap.size, 0, none⟩ = some (.int .i64 0) := (hc _ _ (by simp [World.drewN])).trans (by simp [go_sem])
  have z1 : w3.cell? ⟨wa.heap.size, 1, none⟩ = some (.int .i64 0) := (hc _ _ (by simp [World.drewN])).trans (by simp [go_sem])
  have z2 : w3.cell? ⟨wa.heap.size, 2, none⟩ = some (.slice none 0 0) := (hc _ _ (by simp [World.drewN])).trans (by simp [go_sem])
  have hice : ∀ i, w3.frozen? ⟨wa.heap.size, i, none⟩ = false := fun i => (hf _ _ (by simp [World.drewN])).trans (by simp [go_sem])
  have HZ3 : Hid (Box w3 wa.heap.size 0 0 none 0 0) := Lib.hid ⟨z0, z1, z2⟩
  have HI3 := Lib.hid hice
  have HB3 := Lib.hid B3
  have F3 := Lib.hid o3.is
  clear hc hf b3 o3 z0 z1 z2 hice B3
  go_wp2_with fail
  generalize hw4 : w3.alloc (.cells #[.int .i64 c, .int .i64 r, .slice (some ⟨g, 0, none⟩) n n] 24) = w4
  have b4 : Below w3.heap.size w3 w4 := by rw [← hw4]; exact (by repeat first | (with_reducible exact Below.refl _ _) | (with_reducible refine Below.setCell ?_ (by first | exact Nat.le_refl _ | (simp; done) | (simp; omega) | omega) _) | (with_reducible refine Below.alloc ?_ (by first | exact Nat.le_refl _ | (simp; done) | (simp; omega) | omega) _) | (with_reducible refine below_drewN ?_ _) | (with_reducible refine Below.drew ?_))
  have s4 : w4.heap.size = w3.heap.size + 1 := by rw [← hw4]; simp
  have X4 : Box w4 w3.heap.size c r (some ⟨g, 0, none⟩) n n := by rw [← hw4]; exact Box.new _ _ _ _ _ _ _
  have B34 := HB3.out.trans (b4.mono HB3.out.size)
  clear hw4
  go_at_call 46
  refine (l06Mul_any w.heap.size w3.heap.size r c r n n N b off cap g 0 n Z (flipI r c Z r 0) w4 h1 h2 h3 h4 h1 h2 HN.out HN2.out HNN.out (by omega) (by omega) (Xa.below B34 la) X4 HZ.out HY.out (Fa.below B34 (Nat.le_refl _)) (F3.out.below b4 (Nat.le_refl _))).mono ?_
  rintro e w5 ⟨g5, rfl, o5, b5⟩
  have b35 := b4.trans (b5.mono b4.size)
  have F5 := o5.is
  have X5 := HZ3.out.below b35 (by omega)
  have B5 := Ba.trans ((HB3.out.trans (b35.mono HB3.out.size)).mono (by omega))
  have hice5 : ∀ i, w5.frozen? ⟨wa.heap.size, i, none⟩ = false := fun i => (b35.frozen (p := ⟨wa.heap.size, i, none⟩) (by show wa.heap.size < _; omega)).trans (HI3.out i)
  have s5 : wa.heap.size + 1 ≤ w5.heap.size := by have := b35.size; omega
  have o6 := OwnI.mono (B' := wa.heap.size + 1) o5 (by omega) (Nat.le_refl _) (Nat.le_refl _)
  clear b4 X4 B34 b5 o5 b35
  cases ok with
  | false =>
    go_wp2_with fail
    go_at_call 45
    refine (giveW_no r r _ N N _ _ (by omega) HOK.out F5).mono ?_
    rintro e w9 ⟨rfl, b9⟩
    obtain ⟨z0, z1, z2⟩ := X5.below b9 (by omega)
    obtain ⟨hc, hf⟩ := bcell b9
    have hice9 : ∀ i, w9.frozen? ⟨w.heap.size + 1, i, none⟩ = false := fun i => by rw [← sa]; exact (hf wa.heap.size i (by omega)).trans (hice5 i)
    have B9 := B5.trans (b9.mono B5.size)
    rw [sa] at z0 z1 z2
    clear hc hf b9 hice5
    go_wp2_with fail
    refine bodyPost_ret (v := .tuple #[.agg #[.int .i64 0, .int .i64 0, .slice none 0 0], .bool false]) (by simp [results, Try.results20, go_sem, z0, z1, z2]) rfl ?_
    exact ⟨none, 0, fun _ => 0, rfl, ⟨Nat.le_refl _, Nat.zero_le _, fun i hi => absurd hi (Nat.not_lt_zero i)⟩, fun i hi => absurd hi (Nat.not_lt_zero i), (by repeat first | (with_reducible exact B9) | (with_reducible refine Below.setCell ?_ (by first | exact Nat.le_refl _ | (simp; done) | (simp; omega) | omega) _) | (with_reducible refine Below.alloc ?_ (by first | exact Nat.le_refl _ | (simp; done) | (simp; omega) | omega) _) | (with_reducible refine below_drewN ?_ _) | (with_reducible refine Below.drew ?_))⟩
  | true =>
    go_wp2_with fail
    go_at_call 45
    refine (giveW_yes r r _ N N _ _ (by omega) HOK.out F5).mono ?_
    rintro e w9 ⟨rfl, b9⟩
    obtain ⟨z0, z1, z2⟩ := X5.below b9 (by omega)
    obtain ⟨hc, hf⟩ := bcell b9
    have hice9 : ∀ i, w9.frozen? ⟨w.heap.size + 1, i, none⟩ = false := fun i => by rw [← sa]; exact (hf wa.heap.size i (by omega)).trans (hice5 i)
    have B9 := B5.trans (b9.mono B5.size)
    have o9 := o6.kept (below_grew b9) (fun q hq => by cases hq)
    have hs9 := b9.size
    rw [sa] at z0 z1 z2 o9
    clear hc hf b9 hice5
    go_wp2_with fail
    refine bodyPost_ret (v := .tuple #[.agg #[.int .i64 r, .int .i64 r, .slice (some ⟨g5, 0, none⟩) N N], .bool true]) (by simp [results, Try.results20, go_sem, z0, z1, z2]) rfl ?_
    exact ⟨_, _, _, rfl, OwnI.is (B := w.heap.size + 1 + 1) (U := w5.heap.size) (by refine OwnI.to o9 (hk := fun g hg1 hg2 => by (try simp at hg1 hg2); repeat (first | rw [Below.heap_setCell _ _ _ _ (by simp; omega)] | rw [Below.heap_alloc _ _ _ (by simp [World.setCell]; omega)])) ?_ ?_ ?_ ?_ <;> (first | exact Nat.le_refl _ | omega | (simp [World.setCell]; done) | (simp [World.setCell]; omega))), fun i hi => gram_same (by omega), (by repeat first | (with_reducible exact B9) | (with_reducible refine Below.setCell ?_ (by first | exact Nat.le_refl _ | (simp; done) | (simp; omega) | omega) _) | (with_reducible refine Below.alloc ?_ (by first | exact Nat.le_refl _ | (simp; done) | (simp; omega) | omega) _) | (with_reducible refine below_drewN ?_ _) | (with_reducible refine Below.drew ?_))⟩
theorem keyGramOf (R C : Int) (n : Nat) (Z : Nat → Int) (wR : (Lit.int .i64 R).wf = true) (wC : (Lit.int .i64 C).wf = true) (hn : n ≤ 1048576) : ∃ (ok : Bool) (R2 C2 : Int) (n2 : Nat) (V : Nat → Int), n2 ≤ 144 ∧
    (∀ a c W, IS .i64 W a n c Z → Calls Try.prog 20 #[.agg #[.int .i64 R, .int .i64 C, .slice a n c]] W (WholeBel ok R2 C2 n2 V W)) ∧
    (∀ a c W, IS .i64 W a n c Z → Calls Try.prog 21 #[.agg #[.int .i64 R, .int .i64 C, .slice a n c]] W (WholeOwn ok R2 C2 n2 V W)) := by
  cases hv : wholeB 1000000 R C n Z with
  | false => exact ⟨false, 0, 0, 0, fun _ => 0, by omega, fun a c W h => specGram_no R C a n c Z W hn hv h, fun a c W h => implGram_no R C a n c Z W hn hv h⟩
  | true =>
    obtain ⟨r, c, rfl, rfl, h1, h2, h3, h4, h5, h6⟩ := whole_nat hv
    have hpos : 0 < n := by rw [h5]; exact Nat.mul_pos h1 h3
    have hN36 : r * r ≤ 6 * 6 := Nat.mul_le_mul h2 h2
    have hZ := with_abs h6
    have hsq : wholeB 1000000 r r (r * r) (mulZ c r Z (flipI r c Z r 0)) = withB 1000000 (joinZ r (gramY c Z)) (r * r) := by
      rw [show mulZ c r Z (flipI r c Z r 0) = joinZ r (gramY c Z) from funext fun t => gram_same (by omega)]
      exact whole_rc h1 h2 h1 h2 rfl
    have hS : ∀ ok, wholeB 1000000 r r (r * r) (mulZ c r Z (flipI r c Z r 0)) = ok → ∀ a d W, IS .i64 W a n d Z → Calls Try.prog 20 #[.agg #[.int .i64 r, .int .i64 c, .slice a n d]] W (WholeBel ok (bif ok then (r : Int) else 0) (bif ok then (r : Int) else 0) (bif ok then r * r else 0) (fun t => bif ok then joinZ r (gramY c Z) t else 0) W) := by
      intro ok e a d W h
      obtain ⟨b, off, rfl, _⟩ := IS.at h hpos
      exact specGram_run r c n (r * r) b off d Z W h1 h2 h3 h4 h5 rfl hv hZ h ok e
    cases hk : withB 1000000 (joinZ r (gramY c Z)) (r * r) with
    | false =>
      rw [hk] at hsq
      refine ⟨false, 0, 0, 0, fun _ => 0, by omega, fun a d W h => hS false hsq a d W h, fun a d W h => ?_⟩
      obtain ⟨b, off, rfl, _⟩ := IS.at h hpos
      exact implGram_run r c n b off d Z W h1 h2 h3 h4 h5 hv hZ h false 0 0 0 (fun _ => 0) (fun W b off c2 hR => wholeOfRows_no b off r c2 r (gramY c Z) W h1 h2 h1 h2 hR hk)
    | true =>
      rw [hk] at hsq
      refine ⟨true, r, r, r * r, joinZ r (gramY c Z), by omega, fun a d W h => hS true hsq a d W h, fun a d W h => ?_⟩
      obtain ⟨b, off, rfl, _⟩ := IS.at h hpos
      exact implGram_run r c n b off d Z W h1 h2 h3 h4 h5 hv hZ h true r r (r * r) (joinZ r (gramY c Z)) (fun W b off c2 hR => wholeOfRows_yes b off r c2 r (gramY c Z) W h1 h2 h1 h2 hR hk)
end Go.Proofs.Ytinekdfpgkmbnab
