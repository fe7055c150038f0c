/- Helper: the root of a square with shifts of its middle, of the reference, and of both. Conditions: none. -/
import Derived.Test.YtmjlhmbnaifhaaaRootShImpl
set_option linter.unusedVariables false
set_option linter.unusedSimpArgs false
namespace Go.Proofs.Ytmjlhmbnaifhaaa
open Go.RowKit

theorem ShOwn.bel {ok : Bool} {R C : Int} {n : Nat} {V : Nat → Option Nat} {X : Option Nat} {w w' : World} {e : Ending} (h : ShOwn ok R C n V X w e w') : ShBel ok R C n V X w e w' := by
  obtain ⟨g, d, Y, r, e1, o, v, f, b⟩ := h
  exact ⟨g, d, Y, r, e1, o.fs, v, f, b⟩
theorem l02Above_any (x : Nat) {X : Option Nat} (fx : FV .f32 x X) (w : World) :
    Calls Try.prog 40 #[.float .f32 x] w fun e w' => e = .returned (.bool (finite .f32 X && (ford .f32 X (some 0) == some .gt))) ∧ ∃ m, w' = w.drewN m := by
  have hxc := fx.1
  have hZ0 : cn .f32 0 = some 0 := by kernel_rfl
  obtain ⟨b, hb⟩ : ∃ b, b = (finite .f32 X && (ford .f32 X (some 0) == some .gt)) := ⟨_, rfl⟩
  rw [← hb]
  have HB := Lib.hid hb
  clear hb
  go_enter Try.func40, Try.ntmps40
  go_wp2_with fail
  go_at_call 41
  refine (specFinite_any _ fx _).mono ?_
  rintro e w1 ⟨rfl, m1, rfl⟩
  cases hf : finite .f32 X with
  | false =>
    have hb := HB.out
    rw [hf] at hb
    have hb' : b = false := hb
    subst hb'
    clear hf hb
    go_wp2_with fail
    go_ret
    exact ⟨rfl, _, rfl⟩
  | true =>
    obtain ⟨o, ho⟩ := ford_some hf
    have hb := HB.out
    rw [hf, ho] at hb
    clear hf
    cases o
    case gt =>
      have hb' : b = true := hb
      subst hb'
      clear hb
      go_wp2_with fail
      go_ret
      exact ⟨rfl, _, rfl⟩
    all_goals
      have hb' : b = false := hb
      subst hb'
      clear hb
      go_wp2_with fail
      go_ret
      exact ⟨rfl, _, rfl⟩
theorem specRootSh_sq (R C : Int) (a : Option Addr) (n c x : Nat) (Z : Nat → Nat) (w : World) (hn : n ≤ 1048576) (h : FS .f32 w a n c Z) (hsq : squareB R C n (vals Z) = false) :
    Calls Try.prog 16 #[.agg #[.int .i64 R, .int .i64 C, .slice a n c], .float .f32 x] w (ShOwn false 0 0 0 (fun _ => none) (some 0) w) := by
  have HSQ := Lib.hid hsq
  clear hsq
  go_enter Try.func16, Try.ntmps16
  go_wp2_with fail
  go_at_call 32
  refine (specSquare_any _ R C a n c Z _ hn (by refine ⟨?_, ?_, ?_⟩ <;> simp [go_sem]) (h.below (by repeat first | (with_reducible exact Below.refl _ _) | (with_reducible refine Below.setCell ?_ (by first | exact Nat.le_refl _ | (simp; done) | (simp; omega) | omega) _) | (with_reducible refine Below.alloc ?_ (by first | exact Nat.le_refl _ | (simp; done) | (simp; omega) | omega) _) | (with_reducible refine below_drewN ?_ _) | (with_reducible refine Below.drew ?_)) (Nat.le_refl _))).mono ?_
  rintro e w1 ⟨rfl, m1, rfl⟩
  rw [HSQ.out]
  go_wp2_with fail
  refine bodyPost_ret (v := .tuple #[.agg #[.int .i64 0, .int .i64 0, .slice none 0 0], .float .f32 0, .bool false]) (by simp [results, Try.results16, go_sem]) rfl ?_
  exact ShOwn.no (by repeat first | (with_reducible exact Below.refl _ _) | (with_reducible refine Below.setCell ?_ (by first | exact Nat.le_refl _ | (simp; done) | (simp; omega) | omega) _) | (with_reducible refine Below.alloc ?_ (by first | exact Nat.le_refl _ | (simp; done) | (simp; omega) | omega) _) | (with_reducible refine below_drewN ?_ _) | (with_reducible refine Below.drew ?_))
set_option maxRecDepth 20000 in
theorem specRootSh_no (R C : Int) (a : Option Addr) (n c x : Nat) (Z : Nat → Nat) (w : World) (hn : n ≤ 1048576) (wx : (Lit.float .f32 x).wf = true) (h : FS .f32 w a n c Z) (hsq : squareB R C n (vals Z) = true) (hno : (finite .f32 (cn .f32 x) && (ford .f32 (cn .f32 x) (some 0) == some .gt)) = false) :
    Calls Try.prog 16 #[.agg #[.int .i64 R, .int .i64 C, .slice a n c], .float .f32 x] w (ShOwn false 0 0 0 (fun _ => none) (some 0) w) := by
  have HSQ := Lib.hid hsq
  have HNO := Lib.hid hno
  clear hsq hno
  go_enter Try.func16, Try.ntmps16
  go_wp2_with fail
  go_at_call 32
  refine (specSquare_any _ R C a n c Z _ hn (by refine ⟨?_, ?_, ?_⟩ <;> simp [go_sem]) (h.below (by repeat first | (with_reducible exact Below.refl _ _) | (with_reducible refine Below.setCell ?_ (by first | exact Nat.le_refl _ | (simp; done) | (simp; omega) | omega) _) | (with_reducible refine Below.alloc ?_ (by first | exact Nat.le_refl _ | (simp; done) | (simp; omega) | omega) _) | (with_reducible refine below_drewN ?_ _) | (with_reducible refine Below.drew ?_)) (Nat.le_refl _))).mono ?_
  rintro e w1 ⟨rfl, m1, rfl⟩
  rw [HSQ.out]
  go_wp2_with fail
  go_at_call 40
  refine (l02Above_any x (FV.mk' wx) _).mono ?_
  rintro e w2 ⟨rfl, m2, rfl⟩
  rw [HNO.out]
  go_wp2_with fail
  refine bodyPost_ret (v := .tuple #[.agg #[.int .i64 0, .int .i64 0, .slice none 0 0], .float .f32 0, .bool false]) (by simp [results, Try.results16, go_sem]) rfl ?_
  exact ShOwn.no (by repeat first | (with_reducible exact Below.refl _ _) | (with_reducible refine Below.setCell ?_ (by first | exact Nat.le_refl _ | (simp; done) | (simp; omega) | omega) _) | (with_reducible refine Below.alloc ?_ (by first | exact Nat.le_refl _ | (simp; done) | (simp; omega) | omega) _) | (with_reducible refine below_drewN ?_ _) | (with_reducible refine Below.drew ?_))
set_option maxRecDepth 20000 in
set_option maxHeartbeats 4000000 in
theorem specRootSh_yes (r N p1 o1 d1 s : Nat) (Z : Nat → Nat) (w : World) (h1 : 1 ≤ r) (h12 : r ≤ 12) (hn : N = r * r) (ws : (Lit.float .f32 s).wf = true) (hs0 : 0 < s) (hs : s < 2139095040) (hg0 : ford .f32 (some s) (some 0) = some .gt) (hsq : squareB r r N (vals Z) = true) (hfz : allFin (vals Z) N = true) (h : FS .f32 w (some ⟨p1, o1, none⟩) N d1 Z) :
    Calls Try.prog 16 #[.agg #[.int .i64 r, .int .i64 r, .slice (some ⟨p1, o1, none⟩) N d1], .float .f32 s] w (ShOwnIf (shRound r N (vals Z) s) r N (vals Z) s w) := by
  have HN := Lib.hid hn
  have h144 : N ≤ 144 := by have := sides_le h12 h12; omega
  have hpos : 0 < N := by rw [hn]; exact Nat.mul_pos h1 h1
  have HSQ := Lib.hid hsq
  have HFZ := Lib.hid hfz
  have hcs : cn .f32 s = some s := cn_pz (by omega)
  have fS : FV .f32 s (some s) := ⟨hcs, ws⟩
  have hfs : finite .f32 (some s) = true := by rw [word_finite (by omega)]; exact decide_eq_true hs
  have HAB : Hid ((finite .f32 (some s) && (ford .f32 (some s) (some 0) == some .gt)) = true) := Lib.hid (by rw [hfs, hg0]; rfl)
  obtain ⟨K, hK⟩ : ∃ K, K = shRound r N (vals Z) s := ⟨_, rfl⟩
  rw [← hK]
  have HK := Lib.hid hK
  have hZ0 : cn .f32 0 = some 0 := by kernel_rfl
  clear hn hsq hfz hK hfs
  go_enter Try.func16, Try.ntmps16
  go_wp2_with fail
  go_at_call 32
  refine (specSquare_any _ r r _ N d1 Z _ (by omega) (by refine ⟨?_, ?_, ?_⟩ <;> simp [go_sem]) (h.below (by repeat first | (with_reducible exact Below.refl _ _) | (with_reducible refine Below.setCell ?_ (by first | exact Nat.le_refl _ | (simp; done) | (simp; omega) | omega) _) | (with_reducible refine Below.alloc ?_ (by first | exact Nat.le_refl _ | (simp; done) | (simp; omega) | omega) _) | (with_reducible refine below_drewN ?_ _) | (with_reducible refine Below.drew ?_)) (Nat.le_refl _))).mono ?_
  rintro e w1 ⟨rfl, m1, rfl⟩
  rw [HSQ.out]
  go_wp2_with fail
  go_at_call 40
  refine (l02Above_any s fS _).mono ?_
  rintro e w2 ⟨rfl, m2, rfl⟩
  rw [HAB.out]
  go_wp2
  have XA : Box ((w.alloc (.cells #[.int .i64 r, .int .i64 r, .slice (some ⟨p1, o1, none⟩) N d1] 26)).alloc (.cells #[.int .i64 0, .int .i64 0, .slice none 0 0] 26)) w.heap.size r r (some ⟨p1, o1, none⟩) N d1 := by refine ⟨?_, ?_, ?_⟩ <;> simp [go_sem]
  have XR : Box ((w.alloc (.cells #[.int .i64 r, .int .i64 r, .slice (some ⟨p1, o1, none⟩) N d1] 26)).alloc (.cells #[.int .i64 0, .int .i64 0, .slice none 0 0] 26)) (w.heap.size + 1) 0 0 none 0 0 := by refine ⟨?_, ?_, ?_⟩ <;> simp [go_sem]
  have IR : ∀ i, ((w.alloc (.cells #[.int .i64 r, .int .i64 r, .slice (some ⟨p1, o1, none⟩) N d1] 26)).alloc (.cells #[.int .i64 0, .int .i64 0, .slice none 0 0] 26)).frozen? ⟨w.heap.size + 1, i, none⟩ = false := fun i => by simp [go_sem]
  have B1 : Below w.heap.size w ((w.alloc (.cells #[.int .i64 r, .int .i64 r, .slice (some ⟨p1, o1, none⟩) N d1] 26)).alloc (.cells #[.int .i64 0, .int .i64 0, .slice none 0 0] 26)) := (by repeat first | (with_reducible exact Below.refl _ _) | (with_reducible refine Below.setCell ?_ (by first | exact Nat.le_refl _ | (simp; done) | (simp; omega) | omega) _) | (with_reducible refine Below.alloc ?_ (by first | exact Nat.le_refl _ | (simp; done) | (simp; omega) | omega) _) | (with_reducible refine below_drewN ?_ _) | (with_reducible refine Below.drew ?_))
  have s1 : w.heap.size + 1 + 1 ≤ ((w.alloc (.cells #[.int .i64 r, .int .i64 r, .slice (some ⟨p1, o1, none⟩) N d1] 26)).alloc (.cells #[.int .i64 0, .int .i64 0, .slice none 0 0] 26)).heap.size := by simp
  generalize ((w.alloc (.cells #[.int .i64 r, .int .i64 r, .slice (some ⟨p1, o1, none⟩) N d1] 26)).alloc (.cells #[.int .i64 0, .int .i64 0, .slice none 0 0] 26)) = w1 at XA XR IR B1 s1 ⊢
  generalize hw3 : w1.drewN (m1 + m2) = w3
  have B3 : Below w.heap.size w w3 := by rw [← hw3]; exact below_drewN B1 _
  have XA3 : Box w3 w.heap.size r r (some ⟨p1, o1, none⟩) N d1 := by rw [← hw3]; exact XA.drewN
  have XR3 : Box w3 (w.heap.size + 1) 0 0 none 0 0 := by rw [← hw3]; exact XR.drewN
  have IR3 : ∀ i, w3.frozen? ⟨w.heap.size + 1, i, none⟩ = false := by rw [← hw3]; exact IR
  have s3 : w.heap.size + 1 + 1 ≤ w3.heap.size := by rw [← hw3]; exact s1
  clear hw3 XA XR IR s1 B1 hg0
  have la : w.heap.size < w3.heap.size := by omega
  have lr : w.heap.size + 1 < w3.heap.size := by omega
  go_loopw [7, 8] (fun x i wr => ∃ k : Nat, k ≤ 24 ∧ i = .int .i64 k ∧ x = .float .f32 (shS s k) ∧ FV .f32 (shS s k) (some (shS s k)) ∧ (∀ j, 1 ≤ j → j ≤ k → shS s j < 2139095040) ∧ rsR (fun k => rtGood r N (diagV r (vals Z) (some (shS s k)))) (shF s) (24 - k) k = K ∧ Below w3.heap.size w3 wr) (fun _ i _ => 24 - (intOf i).toNat)
  case atStart => exact ⟨0, Nat.zero_le _, rfl, rfl, FV.lit (by kernel_rfl) (by kernel_rfl), fun j h1 h2 => by omega, HK.out.symm, Below.refl _ _⟩
  case round =>
    obtain ⟨k, hk, rfl, rfl, fsh, hall, hrun, hb⟩ := hrel
    have sr := hb.size
    have XAr := XA3.below hb la
    have XRr := XR3.below hb lr
    have IRr : ∀ i, wr.frozen? ⟨w.heap.size + 1, i, none⟩ = false := fun i => (hb.frozen (p := ⟨w.heap.size + 1, i, none⟩) lr).trans (IR3 i)
    have Br := B3.trans (hb.mono B3.size)
    by_cases hlt : k < 24
    · obtain ⟨f, hf⟩ : ∃ f, 24 - k = f + 1 := ⟨23 - k, by omega⟩
      rw [hf] at hrun
      have hfx : finite .f32 (some (shS s k)) = true := by
        have hlt2 : shS s k < 2139095040 := by
          cases k with
          | zero => show 0 < 2139095040; omega
          | succ j => exact hall _ (by omega) (Nat.le_refl _)
        rw [word_finite (by omega)]; exact decide_eq_true hlt2
      have hFr := h.below Br (Nat.le_refl _)
      have HALL := Lib.hid hall
      have HRUN := Lib.hid hrun
      have HFF := Lib.hid hf
      have fR := l03Root_any w.heap.size r N p1 o1 d1 (shS s k) (some (shS s k)) Z wr h1 h12 HN.out (by omega) XAr fsh hFr
      clear hall hrun hf
      go_wp2_with fail
      go_at_call 33
      refine fR.mono ?_
      clear fR
      cases hG : rtGood r N (diagV r (vals Z) (some (shS s k))) with
      | true =>
        have hKk : K = some k := by rw [← HRUN.out]; show (if rtGood r N (diagV r (vals Z) (some (shS s k))) = true then some k else _) = _; rw [if_pos hG]
        subst hKk
        rintro e w6 ⟨g', d2, Y2, rfl, o6, hY2, b6⟩
        obtain ⟨g2, rfl⟩ := o6.addrR hpos
        obtain ⟨_, _, gB', _, _, _⟩ := o6.cell hpos
        have c6 : Below wr.heap.size wr w6 := b6
        have gB : wr.heap.size ≤ g2 := gB'
        have s6 := c6.size
        have C6 := c6
        have XR6 := XRr.below C6 (by omega)
        have I6 : ∀ i, w6.frozen? ⟨w.heap.size + 1, i, none⟩ = false := fun i => (C6.frozen (p := ⟨w.heap.size + 1, i, none⟩) (by show w.heap.size + 1 < wr.heap.size; omega)).trans (IRr i)
        have B6 := Br.trans (C6.mono Br.size)
        have o6' := Own.mono (B' := w.heap.size + 1 + 1) o6 (by omega) (Nat.le_refl _) (Nat.le_refl _)
        have hal0 : ∀ o, (w6.alloc o).cell? ⟨w.heap.size + 1, 0, none⟩ = some (.int .i64 0) := fun o => (World.cell?_alloc_lt w6 o ⟨w.heap.size + 1, 0, none⟩ (by show w.heap.size + 1 < w6.heap.size; omega)).trans XR6.1
        have hal1 : ∀ o, (w6.alloc o).cell? ⟨w.heap.size + 1, 1, none⟩ = some (.int .i64 0) := fun o => (World.cell?_alloc_lt w6 o ⟨w.heap.size + 1, 1, none⟩ (by show w.heap.size + 1 < w6.heap.size; omega)).trans XR6.2.1
        have hal2 : ∀ o, (w6.alloc o).cell? ⟨w.heap.size + 1, 2, none⟩ = some (.slice none 0 0) := fun o => (World.cell?_alloc_lt w6 o ⟨w.heap.size + 1, 2, none⟩ (by show w.heap.size + 1 < w6.heap.size; omega)).trans XR6.2.2
        have hfz2 : ∀ o i, (w6.alloc o).frozen? ⟨w.heap.size + 1, i, none⟩ = false := fun o i => ((show Below w6.heap.size w6 (w6.alloc o) from (by repeat first | (with_reducible exact Below.refl _ _) | (with_reducible refine Below.setCell ?_ (by first | exact Nat.le_refl _ | (simp; done) | (simp; omega) | omega) _) | (with_reducible refine Below.alloc ?_ (by first | exact Nat.le_refl _ | (simp; done) | (simp; omega) | omega) _) | (with_reducible refine below_drewN ?_ _) | (with_reducible refine Below.drew ?_))).frozen (p := ⟨w.heap.size + 1, i, none⟩) (by show w.heap.size + 1 < w6.heap.size; omega)).trans (I6 i)
        have o7 := o6'.kept (World.grownBy_alloc w6 (.cells #[.int .i64 r, .int .i64 r, .slice (some ⟨g2, 0, none⟩) N d2] 26) none) (fun q hq => by cases hq)
        have HY2 := Lib.hid hY2
        clear b6 o6 gB' c6 C6 XR6 I6 hY2 XRr IRr Br hb
        go_wp2_with fail
        refine bodyPost_ret (v := .tuple #[.agg #[.int .i64 r, .int .i64 r, .slice (some ⟨g2, 0, none⟩) N d2], .float .f32 (shS s k), .bool true]) (by simp [results, Try.results16, go_sem, hal0, hal1, hal2]) rfl ?_
        exact ⟨_, _, Y2, _, rfl, (by refine Own.to o7 (hk := fun g hg1 hg2 => by (try simp at hg1 hg2); repeat (first | rw [Below.heap_setCell _ _ _ _ (by simp; omega)] | rw [Below.heap_alloc _ _ _ (by simp [World.setCell]; omega)])) ?_ ?_ ?_ ?_ <;> (first | exact Nat.le_refl _ | omega | (simp [World.setCell]; done) | (simp [World.setCell]; omega))), HY2.out, fsh, (by repeat first | (with_reducible exact B6) | (with_reducible refine Below.setCell ?_ (by first | exact Nat.le_refl _ | (simp; done) | (simp; omega) | omega) _) | (with_reducible refine Below.alloc ?_ (by first | exact Nat.le_refl _ | (simp; done) | (simp; omega) | omega) _) | (with_reducible refine below_drewN ?_ _) | (with_reducible refine Below.drew ?_))⟩
      | false =>
        have hKk : (if shF s (k + 1) = true then rsR (fun k => rtGood r N (diagV r (vals Z) (some (shS s k)))) (shF s) f (k + 1) else none) = K := by
          have hh := HRUN.out
          simp only [rsR, hG, Bool.false_eq_true, if_false] at hh
          exact hh
        rintro e w6 ⟨g2, d2, Y2, rfl, o6, hY2, b6⟩
        have c6 : Below wr.heap.size wr w6 := b6
        have s6 := c6.size
        have C6 := c6
        have HKk := Lib.hid hKk
        have XR6 := XRr.below C6 (by omega)
        have I6 : ∀ i, w6.frozen? ⟨w.heap.size + 1, i, none⟩ = false := fun i => (C6.frozen (p := ⟨w.heap.size + 1, i, none⟩) (by show w.heap.size + 1 < wr.heap.size; omega)).trans (IRr i)
        have B6 := Br.trans (C6.mono Br.size)
        have D6 := hb.trans (C6.mono hb.size)
        have hal0 : ∀ o, (w6.alloc o).cell? ⟨w.heap.size + 1, 0, none⟩ = some (.int .i64 0) := fun o => (World.cell?_alloc_lt w6 o ⟨w.heap.size + 1, 0, none⟩ (by show w.heap.size + 1 < w6.heap.size; omega)).trans XR6.1
        have hal1 : ∀ o, (w6.alloc o).cell? ⟨w.heap.size + 1, 1, none⟩ = some (.int .i64 0) := fun o => (World.cell?_alloc_lt w6 o ⟨w.heap.size + 1, 1, none⟩ (by show w.heap.size + 1 < w6.heap.size; omega)).trans XR6.2.1
        have hal2 : ∀ o, (w6.alloc o).cell? ⟨w.heap.size + 1, 2, none⟩ = some (.slice none 0 0) := fun o => (World.cell?_alloc_lt w6 o ⟨w.heap.size + 1, 2, none⟩ (by show w.heap.size + 1 < w6.heap.size; omega)).trans XR6.2.2
        have hfz2 : ∀ o i, (w6.alloc o).frozen? ⟨w.heap.size + 1, i, none⟩ = false := fun o i => ((show Below w6.heap.size w6 (w6.alloc o) from (by repeat first | (with_reducible exact Below.refl _ _) | (with_reducible refine Below.setCell ?_ (by first | exact Nat.le_refl _ | (simp; done) | (simp; omega) | omega) _) | (with_reducible refine Below.alloc ?_ (by first | exact Nat.le_refl _ | (simp; done) | (simp; omega) | omega) _) | (with_reducible refine below_drewN ?_ _) | (with_reducible refine Below.drew ?_))).frozen (p := ⟨w.heap.size + 1, i, none⟩) (by show w.heap.size + 1 < w6.heap.size; omega)).trans (I6 i)
        have hfin : finite .f32 (some (shS s (k + 1))) = shF s (k + 1) := word_finite (sh_ge hs0 hs (k := k) (fun j h1 h2 => HALL.out j h1 h2)).2
        have hnext : Hid (shF s (k + 1) = true → ∀ j, 1 ≤ j → j ≤ k + 1 → shS s j < 2139095040) := Lib.hid fun hh j h1 h2 => by
          by_cases e : j = k + 1
          · subst e; exact of_decide_eq_true hh
          · exact HALL.out j h1 (by omega)
        have HFI := Lib.hid hfin
        clear XR6 I6 C6 Br hb hfin XRr IRr
        clear b6 o6 hY2 c6 hKk
        by_cases hk0 : k = 0
        · subst hk0
          go_wp2_with fail
          go_at_call 41
          refine (specFinite_any _ (show FV .f32 (shS s (0 + 1)) (some (shS s (0 + 1))) from fS) _).mono ?_
          rintro e w7 ⟨rfl, m7, rfl⟩
          rw [HFI.out]
          cases hF : shF s (0 + 1) with
          | false =>
            have hKn : K = none := by have hh := HKk.out; rw [hF] at hh; exact hh.symm
            subst hKn
            clear hF
            go_wp2_with fail
            refine bodyPost_ret (v := .tuple #[.agg #[.int .i64 0, .int .i64 0, .slice none 0 0], .float .f32 0, .bool false]) (by simp [results, Try.results16, go_sem, hal0, hal1, hal2]) rfl ?_
            exact ShOwn.no (by repeat first | (with_reducible exact B6) | (with_reducible refine Below.setCell ?_ (by first | exact Nat.le_refl _ | (simp; done) | (simp; omega) | omega) _) | (with_reducible refine Below.alloc ?_ (by first | exact Nat.le_refl _ | (simp; done) | (simp; omega) | omega) _) | (with_reducible refine below_drewN ?_ _) | (with_reducible refine Below.drew ?_))
          | true =>
            have hrun2 : Hid (rsR (fun k => rtGood r N (diagV r (vals Z) (some (shS s k)))) (shF s) (24 - (0 + 1)) (0 + 1) = K) := Lib.hid (by have hh := HKk.out; rw [hF] at hh; have := HFF.out; rw [show 24 - (0 + 1) = f by omega]; exact hh)
            have hn2 := Lib.hid (hnext.out hF)
            clear hF
            go_wp2_with fail
            go_roundw
            case rel => exact ⟨0 + 1, by omega, by go_num, rfl, fS, hn2.out, hrun2.out, (by repeat first | (with_reducible exact D6) | (with_reducible refine Below.setCell ?_ (by first | exact Nat.le_refl _ | (simp; done) | (simp; omega) | omega) _) | (with_reducible refine Below.alloc ?_ (by first | exact Nat.le_refl _ | (simp; done) | (simp; omega) | omega) _) | (with_reducible refine below_drewN ?_ _) | (with_reducible refine Below.drew ?_))⟩
            case measure => simp [intOf] <;> omega
        · obtain ⟨j, rfl⟩ : ∃ j, k = j + 1 := ⟨k - 1, by omega⟩
          have hd0 : (((j + 1 : Nat) : Int) == 0) = false := beq_eq_false_iff_ne.2 (by omega)
          obtain ⟨ge1, _⟩ := sh_ge hs0 hs (k := j) (fun i h1 h2 => HALL.out i h1 (by omega))
          obtain ⟨e1, e2, e3⟩ := sh_next hs0 hs ge1 (HALL.out (j + 1) (by omega) (Nat.le_refl _))
          have HE1 := Lib.hid e1
          clear e1 hk0
          go_wp2_with (refine wpList_farith rfl _ _ _ _ _ rfl rfl _ _ _ rfl rfl (FV.lit (by kernel_rfl) (by kernel_rfl)) fsh ?_; intro r5 m5 hr5; rw [HE1.out] at hr5; obtain rfl := hr5.eq)
          go_at_call 41
          refine (specFinite_any _ hr5 _).mono ?_
          rintro e w7 ⟨rfl, m7, rfl⟩
          rw [HFI.out]
          cases hF : shF s (j + 1 + 1) with
          | false =>
            have hKn : K = none := by have hh := HKk.out; rw [hF] at hh; exact hh.symm
            subst hKn
            clear hF
            go_wp2_with fail
            refine bodyPost_ret (v := .tuple #[.agg #[.int .i64 0, .int .i64 0, .slice none 0 0], .float .f32 0, .bool false]) (by simp [results, Try.results16, go_sem, hal0, hal1, hal2]) rfl ?_
            exact ShOwn.no (by repeat first | (with_reducible exact B6) | (with_reducible refine Below.setCell ?_ (by first | exact Nat.le_refl _ | (simp; done) | (simp; omega) | omega) _) | (with_reducible refine Below.alloc ?_ (by first | exact Nat.le_refl _ | (simp; done) | (simp; omega) | omega) _) | (with_reducible refine below_drewN ?_ _) | (with_reducible refine Below.drew ?_))
          | true =>
            have hrun2 : Hid (rsR (fun k => rtGood r N (diagV r (vals Z) (some (shS s k)))) (shF s) (24 - (j + 1 + 1)) (j + 1 + 1) = K) := Lib.hid (by have hh := HKk.out; rw [hF] at hh; have := HFF.out; rw [show 24 - (j + 1 + 1) = f by omega]; exact hh)
            have hn2 := Lib.hid (hnext.out hF)
            clear hF
            go_wp2_with fail
            go_roundw
            case rel => exact ⟨j + 1 + 1, by omega, by go_num, rfl, hr5, hn2.out, hrun2.out, (by repeat first | (with_reducible exact D6) | (with_reducible refine Below.setCell ?_ (by first | exact Nat.le_refl _ | (simp; done) | (simp; omega) | omega) _) | (with_reducible refine Below.alloc ?_ (by first | exact Nat.le_refl _ | (simp; done) | (simp; omega) | omega) _) | (with_reducible refine below_drewN ?_ _) | (with_reducible refine Below.drew ?_))⟩
            case measure => simp [intOf] <;> omega
    · obtain rfl : k = 24 := by omega
      have hKn : K = none := hrun.symm
      subst hKn
      obtain ⟨z0, z1, z2⟩ := XRr
      clear hrun hall hb
      go_wp2_with fail
      refine bodyPost_ret (v := .tuple #[.agg #[.int .i64 0, .int .i64 0, .slice none 0 0], .float .f32 0, .bool false]) (by simp [results, Try.results16, go_sem, z0, z1, z2]) rfl ?_
      exact ShOwn.no (by repeat first | (with_reducible exact Br) | (with_reducible refine Below.setCell ?_ (by first | exact Nat.le_refl _ | (simp; done) | (simp; omega) | omega) _) | (with_reducible refine Below.alloc ?_ (by first | exact Nat.le_refl _ | (simp; done) | (simp; omega) | omega) _) | (with_reducible refine below_drewN ?_ _) | (with_reducible refine Below.drew ?_))
theorem keyRootShifted (R0 C0 : Int) (n0 : Nat) (Z0 : Nat → Nat) (x1 : Nat) (wR : (Lit.int .i64 R0).wf = true) (wC : (Lit.int .i64 C0).wf = true) (hn0 : n0 ≤ 1048576) (wx1 : (Lit.float .f32 x1).wf = true) : ∃ (ok : Bool) (R C : Int) (n : Nat) (V : Nat → Option Nat) (X : Option Nat), n ≤ 144 ∧
    (∀ a c W, FS .f32 W a n0 c Z0 → Calls Try.prog 16 #[.agg #[.int .i64 R0, .int .i64 C0, .slice a n0 c], .float .f32 x1] W (ShBel ok R C n V X W)) ∧
    (∀ a c W, FS .f32 W a n0 c Z0 → Calls Try.prog 17 #[.agg #[.int .i64 R0, .int .i64 C0, .slice a n0 c], .float .f32 x1] W (ShOwn ok R C n V X W)) := by
  cases hs : squareB R0 C0 n0 (vals Z0) with
  | false => exact ⟨false, 0, 0, 0, fun _ => none, some 0, by omega, fun a c W h => (specRootSh_sq R0 C0 a n0 c x1 Z0 W hn0 h hs).mono fun e w' hh => hh.bel, fun a c W h => implRootSh_sq R0 C0 a n0 c x1 Z0 W hn0 h hs⟩
  | true =>
    cases ho : (finite .f32 (cn .f32 x1) && (ford .f32 (cn .f32 x1) (some 0) == some .gt)) with
    | false => exact ⟨false, 0, 0, 0, fun _ => none, some 0, by omega, fun a c W h => (specRootSh_no R0 C0 a n0 c x1 Z0 W hn0 wx1 h hs ho).mono fun e w' hh => hh.bel, fun a c W h => implRootSh_no R0 C0 a n0 c x1 Z0 W hn0 wx1 h hs ho⟩
    | true =>
      obtain ⟨r, rfl, rfl, h1, h12, hN, hf⟩ := square_nat hs
      have hpos : 0 < n0 := by rw [hN]; exact Nat.mul_pos h1 h1
      simp only [Bool.and_eq_true] at ho
      obtain ⟨ec, _⟩ := cn_fin ho.1
      have hg0 : ford .f32 (some x1) (some 0) = some .gt := by
        have hh := ho.2
        rw [ec] at hh
        exact eq_of_beq hh
      have hfx := ho.1
      rw [ec] at hfx
      have hlt := lt32 wx1
      obtain ⟨p0, p1⟩ := word_pos (by omega) hfx hg0
      have k1 : ∀ a c W, FS .f32 W a n0 c Z0 → Calls Try.prog 16 #[.agg #[.int .i64 (r : Int), .int .i64 (r : Int), .slice a n0 c], .float .f32 x1] W (ShOwnIf (shRound r n0 (vals Z0) x1) r n0 (vals Z0) x1 W) := fun a c W h => by
        obtain ⟨q1, q2, rfl, _⟩ := h.at hpos
        exact specRootSh_yes r n0 q1 q2 c x1 Z0 W h1 h12 hN wx1 p0 p1 hg0 hs hf h
      have k2 : ∀ a c W, FS .f32 W a n0 c Z0 → Calls Try.prog 17 #[.agg #[.int .i64 (r : Int), .int .i64 (r : Int), .slice a n0 c], .float .f32 x1] W (ShOwnIf (shRound r n0 (vals Z0) x1) r n0 (vals Z0) x1 W) := fun a c W h => by
        obtain ⟨q1, q2, rfl, _⟩ := h.at hpos
        exact implRootSh_yes r n0 q1 q2 c x1 Z0 W h1 h12 hN wx1 p0 p1 hg0 hs hf h
      cases hK : shRound r n0 (vals Z0) x1 with
      | none =>
        rw [hK] at k1 k2
        exact ⟨false, 0, 0, 0, fun _ => none, some 0, by omega, fun a c W h => (k1 a c W h).mono fun e w' hh => ShOwn.bel hh, k2⟩
      | some k =>
        rw [hK] at k1 k2
        exact ⟨true, r, r, n0, _, _, by have := sides_le h12 h12; omega, fun a c W h => (k1 a c W h).mono fun e w' hh => ShOwn.bel hh, k2⟩
end Go.Proofs.Ytmjlhmbnaifhaaa
