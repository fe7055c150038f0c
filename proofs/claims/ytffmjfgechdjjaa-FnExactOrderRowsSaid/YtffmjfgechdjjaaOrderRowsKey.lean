/- Helper: a matrix with its rows in an order, of the reference. Conditions: none. -/
import Derived.Test.YtffmjfgechdjjaaOrderRowsImpl
import Derived.Deep.AppendLies
set_option linter.unusedVariables false
set_option linter.unusedSimpArgs false
namespace Go.Proofs.Ytffmjfgechdjjaa
open Go.RowKit

/-- The start, where the box is made behind the list, and more lies between. -/
theorem Build.start3 {w w0 w1 : World} {g rb : Nat} {R C : Int} {V : Nat → Option Nat} {T2 : TypeId} (hrb : w.heap.size ≤ rb) (hrb2 : rb < w0.heap.size) (b1 : Below w0.heap.size w0 w1) (hz : Box w0 rb 0 0 none 0 0) (hi : ∀ i, w0.frozen? ⟨rb, i, none⟩ = false)
    (B0 : Below w.heap.size w w0) (o1 : w1.ownsRow w0.heap.size 44 1 (.slice (some ⟨g, 0, none⟩) 0 0) 0 []) :
    Build w w1.heap.size rb R C 0 V (w1.alloc (.cells #[.int .i64 R, .int .i64 C, .slice (some ⟨g, 0, none⟩) 0 0] T2)) (some ⟨g, 0, none⟩) 0 [] := by
  have s1 := b1.size
  have hl := o1.lt g rfl
  have s0 := B0.size
  have b2 : Below w1.heap.size w1 (w1.alloc (.cells #[.int .i64 R, .int .i64 C, .slice (some ⟨g, 0, none⟩) 0 0] T2)) := (by repeat first | (with_reducible exact Below.refl _ _) | (with_reducible refine Below.setCell ?_ (by first | exact Nat.le_refl _ | (simp; done) | (simp; omega) | omega) _) | (with_reducible refine Below.alloc ?_ (by first | exact Nat.le_refl _ | (simp; done) | (simp; omega) | omega) _) | (with_reducible refine below_drewN ?_ _) | (with_reducible refine Below.drew ?_))
  have B1 := B0.trans (b1.mono B0.size)
  refine ⟨?_, fun t ht => by omega, Box.new _ _ _ _ _ _ _, (hz.below b1 hrb2).below b2 (by omega), B1.trans (b2.mono B1.size), fun q hq => ?_, hrb, by omega, by simp, fun i => ?_, fun i => by simp [go_sem]⟩
  · have hh := ownsRow_below o1 b2
    refine ⟨hh.1, ?_⟩
    rcases hh.2 with hh | ⟨g', cap, cur, e, hb, r⟩
    · exact .inl hh
    · exact .inr ⟨g', cap, cur, e, by omega, r⟩
  · simp [Value.ownBlock] at hq; subst hq; omega
  · have e1 := b2.frozen (p := ⟨rb, i, none⟩) (by show rb < w1.heap.size; omega)
    have e2 := b1.frozen (p := ⟨rb, i, none⟩) (by show rb < w0.heap.size; omega)
    rw [e1, e2]; exact hi i
/-- Some numbers more. -/
theorem Build.steps {W0 wr wx w' : World} {ob rb : Nat} {R C : Int} {j : Nat} {V : Nat → Option Nat} {a : Option Addr} {cap : Nat} {xs : List Value} (h : Build W0 ob rb R C j V wr a cap xs)
    (hb : Below wr.heap.size wr wx) {g cap' m : Nat} {Y : Nat → Nat} (ho : w'.ownsRow W0.heap.size 44 1 (.slice (some ⟨g, 0, none⟩) (j + m) cap') (j + m) (xs ++ cellsOf32 Y m))
    (hg : wx.grownBy w' (Value.slice a j cap).ownBlock) (hat : (Value.slice a j cap).ownBlock = some g ∨ g = wx.heap.size) (hr : ∀ i, i < m → FV .f32 (Y i) (V (j + i))) :
    Build W0 ob rb R C (j + m) V (w'.setCell ⟨ob, 2, none⟩ (.slice (some ⟨g, 0, none⟩) (j + m) cap')) (some ⟨g, 0, none⟩) cap' (xs ++ cellsOf32 Y m) := by
  have hs := hb.size
  have hl := h.lo
  have hm := h.mid
  have ht := h.top
  have hgne : g ≠ ob ∧ g ≠ rb := by
    rcases hat with e | e
    · exact h.far g e
    · omega
  have hrow : ∀ q, (Value.slice a j cap).ownBlock = some q → W0.heap.size ≤ q := fun q hq => (h.own.lt q hq).1
  have hbw : Below W0.heap.size W0 w' := (h.bel.trans (hb.mono h.bel.size)).grown hg (by have := h.bel.size; omega) hrow
  have hx : Box w' ob R C a j cap := (h.box.below hb ht).grown hg (by omega) (fun q hq e => (h.far q hq).1 e.symm)
  have hrs : Box w' rb 0 0 none 0 0 := (h.res.below hb (by omega)).grown hg (by omega) (fun q hq e => (h.far q hq).2 e.symm)
  have hlen : xs.length = j := by simpa using h.own.1
  have hsz : wx.heap.size ≤ w'.heap.size := hg.size
  refine ⟨?_, fun t htj => ?_, ?_, ?_, hbw.setCell (by show W0.heap.size ≤ ob; omega) _, fun q hq => ?_, h.lo, h.mid, ?_, fun i => ?_, fun i => ?_⟩
  · refine ho.kept (row := some ob) ⟨rfl, rfl, rfl, by simp, fun k _ hk => Below.heap_setCell _ _ _ _ (fun e => hk (by simp [e]))⟩ (.inr ?_)
    simp [Value.ownBlock]; exact hgne.1
  · by_cases e : j ≤ t
    · refine ⟨Y (t - j), ?_, ?_⟩
      · rw [List.getElem?_append_right (by omega), hlen]; exact cells32_at (by omega)
      · have hh := hr (t - j) (by omega)
        rw [show j + (t - j) = t by omega] at hh; exact hh
    · obtain ⟨q, hq, hv⟩ := h.val t (by omega)
      exact ⟨q, by rw [List.getElem?_append_left (by omega)]; exact hq, hv⟩
  · obtain ⟨x0, x1, x2⟩ := hx
    refine ⟨?_, ?_, ?_⟩
    · rw [World.cell?_setCell_other _ _ _ _ (by simp)]; exact x0
    · rw [World.cell?_setCell_other _ _ _ _ (by simp)]; exact x1
    · exact World.cell?_setCell_same _ _ _ x2
  · obtain ⟨x0, x1, x2⟩ := hrs
    refine ⟨?_, ?_, ?_⟩ <;> (rw [World.cell?_setCell_other _ _ _ _ (by simp <;> omega)]; assumption)
  · simp [Value.ownBlock] at hq; subst hq; exact hgne
  · simp [World.setCell]; omega
  · rw [World.frozen?_setCell]
    exact ((World.frozen?_of_block (a := ⟨rb, i, none⟩) (hg.block rb (by omega) (fun e => (h.far rb e.symm).2 rfl))).trans (hb.frozen (p := ⟨rb, i, none⟩) (by show rb < wr.heap.size; omega))).trans (h.ice i)
  · rw [World.frozen?_setCell]
    exact ((World.frozen?_of_block (a := ⟨ob, i, none⟩) (hg.block ob (by omega) (fun e => (h.far ob e.symm).1 rfl))).trans (hb.frozen (p := ⟨ob, i, none⟩) ht)).trans (h.ice2 i)

set_option maxHeartbeats 1000000 in
theorem specOrderRows_no (R C : Int) (a b : Option Addr) (n c n2 d : Nat) (Z : Nat → Nat) (L : Nat → Int) (w : World) (hn : n ≤ 1048576) (hm : n2 ≤ 1048576) (h : FS .f32 w a n c Z) (h2 : IS .i64 w b n2 d L) (ho : orOk R C n n2 Z L = false) :
    Calls Try.prog 20 #[.agg #[.int .i64 R, .int .i64 C, .slice a n c], .slice b n2 d] w (MatBel false 0 0 0 (fun _ => none) w) := by
  cases hv : validB R C n (vals Z) with
  | false =>
    clear ho
    go_enter Try.func20, Try.ntmps20
    go_wp2_with fail
    go_at_call 35
    refine (specIs_any _ R C a n c Z _ hn (by refine ⟨?_, ?_, ?_⟩ <;> simp [go_sem]) (h.below (by repeat first | (with_reducible exact Below.refl _ _) | (with_reducible refine Below.setCell ?_ (by first | exact Nat.le_refl _ | (simp; done) | (simp; omega) | omega) _) | (with_reducible refine Below.alloc ?_ (by first | exact Nat.le_refl _ | (simp; done) | (simp; omega) | omega) _) | (with_reducible refine below_drewN ?_ _) | (with_reducible refine Below.drew ?_)) (Nat.le_refl _))).mono ?_
    rintro e w1 ⟨rfl, m1, rfl⟩
    go_wp2_with fail
    refine bodyPost_ret (v := .tuple #[.agg #[.int .i64 0, .int .i64 0, .slice none 0 0], .bool false]) (by simp [results, Try.results20, go_sem]) rfl ?_
    exact ⟨none, 0, fun _ => 0, rfl, ⟨Nat.le_refl _, Nat.zero_le _, fun i hi => by omega⟩, fun i hi => by omega, (by repeat first | (with_reducible exact Below.refl _ _) | (with_reducible refine Below.setCell ?_ (by first | exact Nat.le_refl _ | (simp; done) | (simp; omega) | omega) _) | (with_reducible refine Below.alloc ?_ (by first | exact Nat.le_refl _ | (simp; done) | (simp; omega) | omega) _) | (with_reducible refine below_drewN ?_ _) | (with_reducible refine Below.drew ?_))⟩
  | true =>
    have HV := Lib.hid hv
    have hcase : ordB L n2 = false ∨ (ordB L n2 = true ∧ ¬ (n2 : Int) = R) := by
      cases hL : ordB L n2 with
      | false => exact .inl rfl
      | true =>
        refine .inr ⟨rfl, fun e => ?_⟩
        unfold orOk at ho
        rw [HV.out, hL, decide_eq_true e] at ho
        cases ho
    clear ho
    rcases hcase with hL | ⟨hL, hne⟩
    all_goals
      try (have hd := ne_lenI hne; have hne' := Lib.hid hne; clear hne)
      go_enter Try.func20, Try.ntmps20
      go_wp2_with fail
      go_at_call 35
      refine (specIs_any _ R C a n c Z _ hn (by refine ⟨?_, ?_, ?_⟩ <;> simp [go_sem]) (h.below (by repeat first | (with_reducible exact Below.refl _ _) | (with_reducible refine Below.setCell ?_ (by first | exact Nat.le_refl _ | (simp; done) | (simp; omega) | omega) _) | (with_reducible refine Below.alloc ?_ (by first | exact Nat.le_refl _ | (simp; done) | (simp; omega) | omega) _) | (with_reducible refine below_drewN ?_ _) | (with_reducible refine Below.drew ?_)) (Nat.le_refl _))).mono ?_
      rintro e w1 ⟨rfl, m1, rfl⟩
      go_wp2_with fail
      go_at_call 30
      refine (specOrder_any b n2 d L _ hm (h2.below (by repeat first | (with_reducible exact Below.refl _ _) | (with_reducible refine Below.setCell ?_ (by first | exact Nat.le_refl _ | (simp; done) | (simp; omega) | omega) _) | (with_reducible refine Below.alloc ?_ (by first | exact Nat.le_refl _ | (simp; done) | (simp; omega) | omega) _) | (with_reducible refine below_drewN ?_ _) | (with_reducible refine Below.drew ?_)) (Nat.le_refl _))).mono ?_
      rintro e w2 ⟨rfl, b2⟩
      have B2 : Below w.heap.size w w2 := Below.trans (by repeat first | (with_reducible exact Below.refl _ _) | (with_reducible refine Below.setCell ?_ (by first | exact Nat.le_refl _ | (simp; done) | (simp; omega) | omega) _) | (with_reducible refine Below.alloc ?_ (by first | exact Nat.le_refl _ | (simp; done) | (simp; omega) | omega) _) | (with_reducible refine below_drewN ?_ _) | (with_reducible refine Below.drew ?_)) (b2.mono (by simp [World.drewN] <;> omega))
      have s2 : w.heap.size + 1 + 1 ≤ w2.heap.size := by have := b2.size; simp [World.drewN] at this; omega
      have X2 : Box w2 w.heap.size R C a n c := by
        obtain ⟨hc, hf⟩ := bcell b2
        refine ⟨?_, ?_, ?_⟩ <;> (rw [hc _ _ (by simp [World.drewN] <;> omega)]; simp [go_sem])
      have Z2 : Box w2 (w.heap.size + 1) 0 0 none 0 0 := by
        obtain ⟨hc, hf⟩ := bcell b2
        refine ⟨?_, ?_, ?_⟩ <;> (rw [hc _ _ (by simp [World.drewN] <;> omega)]; simp [go_sem])
      have I2 : ∀ i, w2.frozen? ⟨w.heap.size + 1, i, none⟩ = false := fun i => by rw [(bcell b2).2 _ _ (by simp [World.drewN] <;> omega)]; simp [go_sem]
      obtain ⟨x0, x1, x2⟩ := X2
      obtain ⟨z0, z1, z2⟩ := Z2
      clear b2
      go_wp2_with fail
      refine bodyPost_ret (v := .tuple #[.agg #[.int .i64 0, .int .i64 0, .slice none 0 0], .bool false]) (by simp [results, Try.results20, go_sem, z0, z1, z2]) rfl ?_
      exact ⟨none, 0, fun _ => 0, rfl, ⟨Nat.le_refl _, Nat.zero_le _, fun i hi => by omega⟩, fun i hi => by omega, (by repeat first | (with_reducible exact B2) | (with_reducible refine Below.setCell ?_ (by first | exact Nat.le_refl _ | (simp; done) | (simp; omega) | omega) _) | (with_reducible refine Below.alloc ?_ (by first | exact Nat.le_refl _ | (simp; done) | (simp; omega) | omega) _) | (with_reducible refine below_drewN ?_ _) | (with_reducible refine Below.drew ?_))⟩
set_option maxRecDepth 20000 in
set_option maxHeartbeats 2000000 in
theorem specOrderRows_yes (r c n p2 o2 b off cap d : Nat) (Z : Nat → Nat) (L : Nat → Int) (w : World) (hr1 : 1 ≤ r) (hr : r ≤ 12) (hc1 : 1 ≤ c) (hc : c ≤ 12) (hn : n = r * c) (hv : validB r c n (vals Z) = true) (hL : ordB L r = true)
    (h : FS .f32 w (some ⟨b, off, none⟩) n cap Z) (h2 : IS .i64 w (some ⟨p2, o2, none⟩) r d L) :
    Calls Try.prog 20 #[.agg #[.int .i64 r, .int .i64 c, .slice (some ⟨b, off, none⟩) n cap], .slice (some ⟨p2, o2, none⟩) r d] w (MatBel true r c n (fun t => vals (ordZ c L Z) t) w) := by
  have hn144 : n ≤ 144 := by have := sides_le hr hc; omega
  have hN := Lib.hid hn
  have hcap := h.1
  have hmx := h.2.1
  have hd : ((r : Int) != (r : Int)) = false := by simp
  have hLt : Hid (∀ i, i < r → 0 ≤ L i ∧ L i < r) := Lib.hid fun i hi => by
    unfold ordB at hL
    simp only [Bool.and_eq_true, decide_eq_true_eq] at hL
    exact okTo_lt hL.2.2 hi
  clear hn
  go_enter Try.func20, Try.ntmps20
  go_wp2_with fail
  go_at_call 35
  refine (specIs_any _ r c _ n cap Z _ (by omega) (by refine ⟨?_, ?_, ?_⟩ <;> simp [go_sem]) (h.below (by repeat first | (with_reducible exact Below.refl _ _) | (with_reducible refine Below.setCell ?_ (by first | exact Nat.le_refl _ | (simp; done) | (simp; omega) | omega) _) | (with_reducible refine Below.alloc ?_ (by first | exact Nat.le_refl _ | (simp; done) | (simp; omega) | omega) _) | (with_reducible refine below_drewN ?_ _) | (with_reducible refine Below.drew ?_)) (Nat.le_refl _))).mono ?_
  rintro e w1 ⟨rfl, m1, rfl⟩
  go_wp2_with fail
  go_at_call 30
  refine (specOrder_any _ r d L _ (by omega) (h2.below (by repeat first | (with_reducible exact Below.refl _ _) | (with_reducible refine Below.setCell ?_ (by first | exact Nat.le_refl _ | (simp; done) | (simp; omega) | omega) _) | (with_reducible refine Below.alloc ?_ (by first | exact Nat.le_refl _ | (simp; done) | (simp; omega) | omega) _) | (with_reducible refine below_drewN ?_ _) | (with_reducible refine Below.drew ?_)) (Nat.le_refl _))).mono ?_
  rintro e w2 ⟨rfl, b2⟩
  have BA : Below (w.alloc (.cells #[.int .i64 r, .int .i64 c, .slice (some ⟨b, off, none⟩) n cap] 35)).heap.size (w.alloc (.cells #[.int .i64 r, .int .i64 c, .slice (some ⟨b, off, none⟩) n cap] 35)) w2 := Below.trans (by repeat first | (with_reducible exact Below.refl _ _) | (with_reducible refine Below.setCell ?_ (by first | exact Nat.le_refl _ | (simp; done) | (simp; omega) | omega) _) | (with_reducible refine Below.alloc ?_ (by first | exact Nat.le_refl _ | (simp; done) | (simp; omega) | omega) _) | (with_reducible refine below_drewN ?_ _) | (with_reducible refine Below.drew ?_)) (b2.mono (by simp [World.drewN] <;> omega))
  have s2 : w.heap.size + 1 + 1 ≤ w2.heap.size := by have := b2.size; simp [World.drewN] at this; omega
  have Z2 : Box w2 (w.heap.size + 1) 0 0 none 0 0 := by
    obtain ⟨hc, hf⟩ := bcell b2
    refine ⟨?_, ?_, ?_⟩ <;> (rw [hc _ _ (by simp [World.drewN] <;> omega)]; simp [go_sem])
  have I2 : ∀ i, w2.frozen? ⟨w.heap.size + 1, i, none⟩ = false := fun i => by rw [(bcell b2).2 _ _ (by simp [World.drewN] <;> omega)]; simp [go_sem]
  have XA := Box.new w 35 r c (some ⟨b, off, none⟩) n cap
  have B0 : Below w.heap.size w (w.alloc (.cells #[.int .i64 r, .int .i64 c, .slice (some ⟨b, off, none⟩) n cap] 35)) := (by repeat first | (with_reducible exact Below.refl _ _) | (with_reducible refine Below.setCell ?_ (by first | exact Nat.le_refl _ | (simp; done) | (simp; omega) | omega) _) | (with_reducible refine Below.alloc ?_ (by first | exact Nat.le_refl _ | (simp; done) | (simp; omega) | omega) _) | (with_reducible refine below_drewN ?_ _) | (with_reducible refine Below.drew ?_))
  have hsA : (w.alloc (.cells #[.int .i64 r, .int .i64 c, .slice (some ⟨b, off, none⟩) n cap] 35)).heap.size = w.heap.size + 1 := by simp
  clear b2
  generalize w.alloc (.cells #[.int .i64 r, .int .i64 c, .slice (some ⟨b, off, none⟩) n cap] 35) = wA at BA XA B0 hsA
  have FA := h.below B0 (Nat.le_refl _)
  have LA := h2.below B0 (Nat.le_refl _)
  obtain ⟨x0, x1, x2⟩ := XA.below BA (by omega)
  clear h h2
  go_wp2_with fail
  go_at_call 36
  refine (l02Blank_any _ _ _).mono ?_
  rintro e w3 ⟨g, rfl, o3, b3⟩
  have hB : Build wA w3.heap.size (w.heap.size + 1) r c 0 (fun t => vals (ordZ c L Z) t) _ (some ⟨g, 0, none⟩) 0 [] := Build.start3 (T2 := 35) (by omega) (by omega) b3 Z2 I2 BA o3
  have s3 := b3.size
  clear b3 o3 x0 x1 x2 Z2 I2 hv hL hd BA
  generalize hob : w3.heap.size = ob at hB
  have hob' := Lib.hid hob
  obtain ⟨i0, hi, hz0, hz1, hz2⟩ := info_parts info32
  go_wp2
  clear hob
  go_loopw [7] (fun i wr => ∃ (j e : Nat) (a : Option Addr) (cp : Nat) (xs : List Value), j ≤ r ∧ Hid (e = j * c) ∧ i = .int .i64 j ∧ Build wA ob (w.heap.size + 1) r c e (fun t => vals (ordZ c L Z) t) wr a cp xs) (fun i _ => r - (intOf i).toNat)
  case atStart => exact ⟨0, 0, _, _, _, Nat.zero_le _, Lib.hid (by rw [Nat.zero_mul]), rfl, hB⟩
  case round =>
    obtain ⟨j, e, a, cp, xs, hj, he, rfl, hk⟩ := hrel
    clear hB
    have hlo := hk.lo
    have hmid := hk.mid
    by_cases hlt : j < r
    · have q0 := (hk.bel.cell (p := ⟨w.heap.size, 0, none⟩) (by show w.heap.size < wA.heap.size; omega)).trans XA.1
      have q1 := (hk.bel.cell (p := ⟨w.heap.size, 1, none⟩) (by show w.heap.size < wA.heap.size; omega)).trans XA.2.1
      have q2 := (hk.bel.cell (p := ⟨w.heap.size, 2, none⟩) (by show w.heap.size < wA.heap.size; omega)).trans XA.2.2
      have FZ := FA.below hk.bel (Nat.le_refl _)
      obtain ⟨b', off', e', _, hcl, _⟩ := (LA.below hk.bel (Nat.le_refl _)).at hlt
      simp only [Option.some.injEq, Addr.mk.injEq, and_true] at e'
      obtain ⟨rfl, rfl⟩ := e'
      obtain ⟨hl0, hl1⟩ := hLt.out j hlt
      obtain ⟨k, hkL⟩ : ∃ k : Nat, L j = k := ⟨(L j).toNat, by omega⟩
      have hkr : k < r := by omega
      rw [hkL] at hcl
      have HK := Lib.hid hkL
      clear hkL hl0 hl1
      obtain ⟨y0, y1, y2⟩ := hk.box
      have hice2 := hk.ice2
      have htop := hk.top
      have hal : ∀ m, (wr.drewN m).cell? ⟨ob, 2, none⟩ = some (.slice a e cp) := fun m => y2
      have hx1 : (k + 1) * c ≤ r * c := Nat.mul_le_mul_right c hkr
      have hx2 : k * c + c ≤ n := by rw [Nat.add_mul, Nat.one_mul] at hx1; rw [hN.out]; exact hx1
      have hje : (j + 1) * c ≤ r * c := Nat.mul_le_mul_right c hlt
      have hen : e + c ≤ n := by rw [Nat.add_mul, Nat.one_mul] at hje; rw [hN.out, he.out]; exact hje
      obtain ⟨lo, hlo'⟩ : ∃ lo, k * c = lo := ⟨_, rfl⟩
      obtain ⟨H, hH⟩ : ∃ H, lo + c = H := ⟨_, rfl⟩
      have hW0 : IntKind.i64.wrap ((k : Int) + 1) = (k : Int) + 1 := IntWalk.i64_in _ (by omega)
      have hW1 : IntKind.i64.wrap ((k : Int) * (c : Int)) = (lo : Int) := by
        have e : (k : Int) * (c : Int) = (lo : Int) := by rw [← hlo', Int.natCast_mul]
        rw [e]; exact IntWalk.i64_in _ (by omega)
      have hW2 : IntKind.i64.wrap (((k : Int) + 1) * (c : Int)) = (H : Int) := by
        have e : ((k : Int) + 1) * (c : Int) = (H : Int) := by rw [← hH, ← hlo', Int.natCast_add, Int.natCast_mul, Int.add_mul, Int.one_mul]
        rw [e]; exact IntWalk.i64_in _ (by omega)
      have hn1 : ¬ cap = lo := by omega
      have hn2 : H - lo = c := by omega
      have hn3 : (lo : Int) ≤ max (H : Int) 0 := by omega
      have hn4 : H ≤ cap := by omega
      have hn7 : lo ≤ H := by omega
      have hn5 : c ≤ cap - lo := by omega
      have hn6 : cap - lo ≤ maxLen := by omega
      have FR : FS .f32 wr (some ⟨b, off + lo, none⟩) c (cap - lo) (fun t => Z (k * c + t)) := by
        have hh := FZ.row hN.out hkr (cap - lo) hn5 hn6
        rw [hlo'] at hh ⊢
        exact hh
      have HLO := Lib.hid hlo'
      have FR' := Lib.hid FR
      clear hx1 hx2 hje hlo' hH FR FZ
      go_wp2
      (refine wp_region_pivot_tail 99 20 (by kernel_rfl) (by kernel_rfl) ?_; simp only [List.take_succ_cons, List.take_zero, List.drop_succ_cons, List.drop_zero]; (repeat (refine wpPivot_plain rfl rfl rfl (fun K hK => ?_); go_big_quiet_op; refine hK _ ?_; clear hK K)))
      refine wpPivot_nil ?_
      rintro _ ⟨kk, rfl⟩
      refine wpList_append_lies _ rfl _ _ _ rfl wA.heap.size 44 i0 _ 1 4 Try.underlying31 hi hz0 hz1 hz2 rfl (by omega) (.slice a e cp) e xs rfl (by exact ownsRow_below hk.own (by repeat first | (with_reducible exact Below.refl _ _) | (with_reducible refine Below.setCell ?_ (by first | exact Nat.le_refl _ | (simp; done) | (simp; omega) | omega) _) | (with_reducible refine Below.alloc ?_ (by first | exact Nat.le_refl _ | (simp; done) | (simp; omega) | omega) _) | (with_reducible refine below_drewN ?_ _) | (with_reducible refine Below.drew ?_))) ⟨b, off + lo, none⟩ c (cap - lo) (cellsOf32 (fun t => Z (k * c + t)) c) rfl (by rw [cells32_len]; omega) (fun i v hv => by rw [Addr.add_lit]; exact cells32_cell FR'.out.drewN i v hv) cells32_one (by omega) (by unfold maxLen; omega) (by omega) (by have := hk.bel.size; simp [World.drewN]; omega) wr.heap.size (by simp [World.drewN]) ?_
      intro gg cp2 w5 hown2 hgrow2 hat2 hlt3
      have q3 := hgrow2.cell (a := ⟨ob, 2, none⟩) (v := .slice a e cp) (hal kk) (by intro e; exact (hk.far ob e.symm).1 rfl)
      have q4 : w5.frozen? ⟨ob, 2, none⟩ = false := (World.frozen?_of_block (a := ⟨ob, 2, none⟩) (hgrow2.block ob (by exact htop) (fun e => (hk.far ob e.symm).1 rfl))).trans (hice2 2)
      have hst := Lib.hid (hk.steps (m := c) (by repeat first | (with_reducible exact Below.refl _ _) | (with_reducible refine Below.setCell ?_ (by first | exact Nat.le_refl _ | (simp; done) | (simp; omega) | omega) _) | (with_reducible refine Below.alloc ?_ (by first | exact Nat.le_refl _ | (simp; done) | (simp; omega) | omega) _) | (with_reducible refine below_drewN ?_ _) | (with_reducible refine Below.drew ?_)) hown2 hgrow2 hat2 (fun i hi => by
        have hv : ordZ c L Z (e + i) = Z (k * c + i) := by
          unfold ordZ
          obtain ⟨d1, d2⟩ := place_div (j := j) hi
          rw [he.out, d1, d2, HK.out]; rfl
        show FV .f32 (Z (k * c + i)) (cn .f32 (ordZ c L Z (e + i)))
        rw [hv]
        exact FV.mk' ((FR'.out.at hi).elim fun _ q => q.elim fun _ q => q.2.2.2.2)))
      clear hown2 hgrow2 hat2 hlt3 hk hal hW0 hW1 hW2 hn1 hn2 hn3 hn4 hn7 hn5 hn6 q0 q1 q2
      go_wp2
      go_roundw
      case rel => exact ⟨j + 1, e + c, _, _, _, by omega, Lib.hid (by rw [he.out, Nat.add_mul, Nat.one_mul]), by go_num, hst.out⟩
      case measure => simp [intOf]; omega
    · obtain rfl : j = r := by omega
      obtain ⟨y0, y1, y2⟩ := hk.box
      obtain ⟨z0, z1, z2⟩ := hk.res
      have hen : e = n := by rw [he.out, hN.out]
      subst hen
      obtain ⟨Y, hY, hV⟩ := hk.fs
      have B5 := B0.trans (hk.bel.mono B0.size)
      have hice := hk.ice
      have hfar : ∀ q, (∃ off, a = some ⟨q, off, none⟩) → q ≠ w.heap.size + 1 := by rintro q ⟨off, rfl⟩; exact (hk.far q rfl).2
      clear hk
      go_wp2_with fail
      refine bodyPost_ret (v := .tuple #[.agg #[.int .i64 j, .int .i64 c, .slice a e cp], .bool true]) (by simp [results, Try.results20, go_sem, y0, y1, y2, z0, z1, z2]) rfl ?_
      exact ⟨_, _, Y, rfl, FS.to hY (by simp [World.setCell]) (fun q hq => by have hf := hfar q hq; rw [Below.heap_setCell _ _ _ _ hf, Below.heap_setCell _ _ _ _ hf, Below.heap_setCell _ _ _ _ hf]), hV, (by repeat first | (with_reducible exact B5) | (with_reducible refine Below.setCell ?_ (by first | exact Nat.le_refl _ | (simp; done) | (simp; omega) | omega) _) | (with_reducible refine Below.alloc ?_ (by first | exact Nat.le_refl _ | (simp; done) | (simp; omega) | omega) _) | (with_reducible refine below_drewN ?_ _) | (with_reducible refine Below.drew ?_))⟩
theorem keyOrderRows (R C : Int) (n : Nat) (Z : Nat → Nat) (n2 : Nat) (L : Nat → Int) (hn : n ≤ 1048576) (hm : n2 ≤ 1048576) : ∃ (ok : Bool) (R' C' : Int) (n' : Nat) (V : Nat → Option Nat), n' ≤ 144 ∧
    (∀ a c b d W, FS .f32 W a n c Z → IS .i64 W b n2 d L → Calls Try.prog 20 #[.agg #[.int .i64 R, .int .i64 C, .slice a n c], .slice b n2 d] W (MatBel ok R' C' n' V W)) ∧
    (∀ a c b d W, FS .f32 W a n c Z → IS .i64 W b n2 d L → Calls Try.prog 22 #[.agg #[.int .i64 R, .int .i64 C, .slice a n c], .slice b n2 d] W (MatOwn ok R' C' n' V W)) := by
  cases ho : orOk R C n n2 Z L with
  | false => exact ⟨false, 0, 0, 0, fun _ => none, by omega, fun a c b d W h h2 => specOrderRows_no R C a b n c n2 d Z L W hn hm h h2 ho, fun a c b d W h h2 => implOrderRows_no R C a b n c n2 d Z L W hn hm h h2 ho⟩
  | true =>
    unfold orOk at ho
    simp only [Bool.and_eq_true, decide_eq_true_eq] at ho
    obtain ⟨hv, hL, he⟩ := ho
    obtain ⟨r, c, rfl, rfl, h1, h2, h3, h4, h5, _⟩ := valid_nat hv
    obtain rfl : n2 = r := by omega
    refine ⟨true, n2, c, n, fun t => vals (ordZ c L Z) t, by have := sides_le h2 h4; omega, fun a cap b d W k1 k2 => ?_, fun a cap b d W k1 k2 => ?_⟩
    all_goals
      have h0 : 0 < n := by rw [h5]; exact Nat.mul_pos h1 h3
      obtain ⟨p1, o1, rfl, _⟩ := k1.at h0
      obtain ⟨p2, o2, rfl, _⟩ := k2.at (show 0 < n2 by omega)
    · exact specOrderRows_yes n2 c n p2 o2 p1 o1 cap d Z L W h1 h2 h3 h4 h5 hv hL k1 k2
    · exact implOrderRows_yes n2 c n p2 o2 p1 o1 cap d Z L W h1 h2 h3 h4 h5 hv hL k1 k2
end Go.Proofs.Ytffmjfgechdjjaa
