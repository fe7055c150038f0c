/- Helper: units in integers, of the program and of its reference. Conditions: none. -/
import Derived.Test.YtinekdfpgkmbnabConcat
set_option linter.unusedVariables false
set_option linter.unusedSimpArgs false
namespace Go.Proofs.Ytinekdfpgkmbnab
open Go.RowKit

theorem cellsI_set (Z : Nat → Int) (n t : Nat) (v : Int) : (cellsOfI Z n).set t (.int .i64 v) = cellsOfI (fun j => if j = t then v else Z j) n := by
  apply List.ext_getElem?
  intro j
  by_cases hj : j < n
  · by_cases e : j = t
    · subst e
      rw [List.getElem?_set_self (by rw [cellsI_len]; exact hj), cellsI_at hj, if_pos rfl]
    · rw [List.getElem?_set_ne (Ne.symm e), cellsI_at hj, cellsI_at hj, if_neg e]
  · rw [List.getElem?_eq_none (by simp [cellsI_len]; omega), List.getElem?_eq_none (by rw [cellsI_len]; omega)]
/-- A number of a row is stored. -/
theorem Tab.stored {W0 wr : World} {G n k t g c : Nat} {v : Int} {len : Nat → Nat} {Y : Nat → Nat → Int} {V : Nat → Value} (h : Tab W0 G n len Y V wr) (hk : k < n) (hv : (Lit.int .i64 v).wf = true) (hV : V k = .slice (some ⟨g, 0, none⟩) (len k) c) :
    Tab W0 G n len (upd Y k (fun j => if j = t then v else Y k j)) V (wr.setCell ⟨g, t, none⟩ (.int .i64 v)) := by
  have ho := h.own k hk
  rw [hV] at ho
  obtain ⟨ho1, hg1⟩ := ho.stored t (.int .i64 v)
  rw [cellsI_set] at ho1
  have hb : (V k).ownBlock = some g := by rw [hV]; rfl
  have hgG : g ≠ G := fun e => h.apart k hk (by rw [hb, e])
  have hG' : (wr.setCell ⟨g, t, none⟩ (.int .i64 v)).heap[G]? = wr.heap[G]? := hg1.block G h.top (fun e => hgG (by cases e; rfl))
  refine ⟨fun i hi => (World.cell?_of_block (a := ⟨G, i, none⟩) hG').trans (h.cell i hi), fun i hi => ?_, fun i hi j hj => ?_, h.apart, h.two, fun i => (World.frozen?_of_block (a := ⟨G, i, none⟩) hG').trans (h.froz i), h.bel.grown hg1 h.bel.size (fun q hq => by cases hq; exact (ho.lt g rfl).1), h.lo, Nat.lt_of_lt_of_le h.top hg1.size⟩
  · by_cases e : i = k
    · subst e; rw [upd_same, hV]; exact ho1
    · rw [upd_other _ _ e]
      refine (h.own i hi).kept hg1 ?_
      cases hq : (V i).ownBlock with
      | none => exact .inl rfl
      | some q => exact .inr (fun e2 => h.two i k hi hk e q hq (by rw [hb]; exact e2.symm))
  · by_cases e : i = k
    · subst e
      rw [upd_same]
      show (Lit.int .i64 (if j = t then v else Y i j)).wf = true
      split
      · exact hv
      · exact h.wfs i hi j hj
    · rw [upd_other _ _ e]; exact h.wfs i hi j hj
theorem Tab.same {W0 wr : World} {G n : Nat} {len len2 : Nat → Nat} {Y Y2 : Nat → Nat → Int} {V : Nat → Value} (h : Tab W0 G n len Y V wr) (hl : ∀ i, i < n → len i = len2 i) (hY : ∀ i, i < n → ∀ j, j < len i → Y i j = Y2 i j) : Tab W0 G n len2 Y2 V wr := by
  refine ⟨h.cell, fun i hi => ?_, fun i hi j hj => ?_, h.apart, h.two, h.froz, h.bel, h.lo, h.top⟩
  · have := h.own i hi
    rw [← hl i hi]
    have e : cellsOfI (Y i) (len i) = cellsOfI (Y2 i) (len i) := by
      apply List.ext_getElem?
      intro j
      by_cases hj : j < len i
      · rw [cellsI_at hj, cellsI_at hj, hY i hi j hj]
      · rw [List.getElem?_eq_none (by rw [cellsI_len]; omega), List.getElem?_eq_none (by rw [cellsI_len]; omega)]
    rw [← e]; exact this
  · rw [← hl i hi] at hj
    rw [← hY i hi j hj]; exact h.wfs i hi j hj
theorem infoRow : (Try.prog.info? 22).map (fun i => (i.zero, i.size, i.bytes)) = some (some (.slice none 0 0), 1, 24) := by kernel_rfl
/-- A new table of empty rows. -/
theorem Tab.start {w w0 : World} {n : Nat} (hown0 : w0.ownsRow w.heap.size 22 1 (.slice (some ⟨w.heap.size, 0, none⟩) n n) n (madeCells #[Value.slice none 0 0] n).toList) (hb : Below w.heap.size w w0) (Y : Nat → Nat → Int) : Tab w w.heap.size n (fun _ => 0) Y (fun _ => .slice none 0 0) w0 := by
  refine ⟨fun i hi => ?_, fun i hi => ⟨by simp [cellsOfI], .inl ⟨rfl, rfl⟩⟩, fun i hi j hj => absurd hj (Nat.not_lt_zero _), fun i hi => by simp [Value.ownBlock], fun i k hi hk hik q hq => by simp [Value.ownBlock] at hq, fun i => hown0.frozenAt i, hb, Nat.le_refl _, (hown0.lt _ rfl).2⟩
  rw [hown0.cellAt i (by omega), toList_madeCells_one, List.getElem?_replicate, if_pos hi]
def unitY (i t : Nat) : Int := if t = i then 1 else 0
theorem unitY_le (i t : Nat) : 0 ≤ unitY i t ∧ unitY i t ≤ 1 := by unfold unitY; split <;> omega
set_option maxRecDepth 20000 in
set_option maxHeartbeats 4000000 in
theorem unitRows_any (n : Nat) (w : World) (h1 : 1 ≤ n) (h6 : n ≤ 6) : Calls Try.prog 35 #[.int .i64 n] w (RowsNew w n n unitY) := by
  obtain ⟨j0, gi, gz0, gz1, gz2⟩ := info_parts infoRow
  obtain ⟨i0, hi, hz0, hz1, hz2⟩ := info_parts info64
  go_enter Try.func35, Try.ntmps35
  go_wp2_with (at_make; refine wpList_make_full _ rfl _ _ 53 rfl w.heap.size 22 j0 (.slice none 0 0) 1 Try.underlying53 gi gz0 gz1 _ _ _ _ n rfl rfl rfl rfl ?b2 ?b3 (Nat.le_refl _) ?_)
  case b2 => rw [gz2]; omega
  case b3 => unfold maxLen; omega
  intro w0 hown0 hgrow0
  have tab0 := Lib.hid (Tab.start hown0 (grew_below hgrow0) unitY)
  clear hown0 hgrow0
  go_wp2
  go_loopw [9] (fun i wr => ∃ (j : Nat) (V : Nat → Value), j ≤ n ∧ i = .int .i64 j ∧ Tab w w.heap.size n (fun i => if i < j then n else 0) unitY V wr) (fun i _ => n - (intOf i).toNat)
  case atStart => exact ⟨0, _, Nat.zero_le _, rfl, tab0.out.same (fun i hi => by rw [if_neg (by omega)]) (fun i hi j hj => rfl)⟩
  case round =>
    obtain ⟨j, V, hj, rfl, hk⟩ := hrel
    by_cases hlt : j < n
    · have hcell := hk.cell j hlt
      have hfr := hk.froz j
      have htop := hk.top
      have hbs := Lib.hid hk.bel.size
      have HK := Lib.hid hk
      clear hk
      generalize hvj : V j = vj at hcell
      have HV := Lib.hid hvj
      clear hvj
      go_wp2_with (at_make; refine wpList_make_full _ rfl _ _ 22 rfl w.heap.size 2 i0 (.int .i64 0) 1 Try.underlying22 hi hz0 hz1 _ _ _ _ n rfl rfl rfl rfl ?b4 ?b5 hbs.out ?_)
      case b4 => rw [hz2]; omega
      case b5 => unfold maxLen; omega
      intro w1 hown1 hgrow1
      have b1 : Below wr.heap.size wr w1 := grew_below hgrow1
      have hz : (madeCells #[Value.int .i64 0] n).toList = cellsOfI (fun _ => 0) n := by
        apply List.ext_getElem?
        intro t
        rw [toList_madeCells_one, List.getElem?_replicate]
        by_cases ht : t < n
        · rw [if_pos ht, cellsI_at ht]
        · rw [if_neg ht, List.getElem?_eq_none (by rw [cellsI_len]; omega)]
      rw [hz] at hown1
      have hlen : (if j < j then n else 0) = 0 := if_neg (by omega)
      -- the row is told, then its number
      have tab1 := HK.out.step (k := j) (l' := n) (Y' := fun _ => 0) (Below.refl _ _) hgrow1 hlt (fun q hq => by cases hq) hown1 (fun t ht => by decide) (fun q hq => by simp [Value.ownBlock] at hq; exact .inr (by omega))
      have tab2 := tab1.stored (k := j) (t := j) (v := 1) (g := wr.heap.size) (c := n) hlt (by decide) (by rw [upd_same, upd_same])
      have tab3 := tab2.same (len2 := fun i => if i < j + 1 then n else 0) (Y2 := unitY) (fun i hi => by
        by_cases e : i = j
        · subst e; rw [upd_same, if_pos (by omega)]
        · rw [upd_other _ _ e]
          by_cases h : i < j
          · rw [if_pos h, if_pos (by omega)]
          · rw [if_neg h, if_neg (by omega)]) (fun i hi t ht => by
        by_cases e : i = j
        · subst e
          rw [upd_same, upd_same]
          unfold unitY
          rfl
        · rw [upd_other _ _ e, upd_other _ _ e])
      have T3 := Lib.hid tab3
      obtain ⟨hcc1, hff1⟩ := bcell b1
      have c1 : w1.cell? ⟨w.heap.size, j, none⟩ = some vj := (hcc1 _ _ htop).trans hcell
      have f1 : w1.frozen? ⟨w.heap.size, j, none⟩ = false := (hff1 _ _ htop).trans hfr
      have c2 : w1.cell? ⟨wr.heap.size, j, none⟩ = some (.int .i64 0) := by rw [hown1.cellAt j (by omega)]; exact cellsI_at hlt
      have f2 : w1.frozen? ⟨wr.heap.size, j, none⟩ = false := hown1.frozenAt j
      have hne : w.heap.size ≠ wr.heap.size := by omega
      have c3 : (w1.setCell ⟨w.heap.size, j, none⟩ (.slice (some ⟨wr.heap.size, 0, none⟩) n n)).cell? ⟨wr.heap.size, j, none⟩ = some (.int .i64 0) := by rw [World.cell?_setCell_other _ _ _ _ (by first | (simp; done) | (simp; omega))]; exact c2
      have f3 : (w1.setCell ⟨w.heap.size, j, none⟩ (.slice (some ⟨wr.heap.size, 0, none⟩) n n)).frozen? ⟨wr.heap.size, j, none⟩ = false := by rw [World.frozen?_setCell]; exact f2
      clear tab1 tab2 tab3 b1 hown1 hgrow1 hz hcc1 hff1 hlen
      go_wp2
      go_roundw
      case rel => exact ⟨j + 1, _, by omega, by go_num, T3.out⟩
      case measure => simp [intOf]; omega
    · obtain rfl : j = n := by omega
      have hR := Lib.hid (hk.rs (L := j) (by omega) (fun i hi => if_pos hi))
      have hB := Lib.hid hk.bel
      clear hk
      go_wp2
      go_ret
      exact ⟨_, _, rfl, hR.out, hB.out⟩
theorem unit_with (n : Nat) : ∀ k, withB 1000000 (joinZ n unitY) k = true
  | 0 => rfl
  | k + 1 => by
    have h := unitY_le (k / n) (k % n)
    simp only [withB, unit_with n k, Bool.true_and]
    show inB (unitY (k / n) (k % n)) _ _ = true
    unfold inB
    rw [decide_eq_true (by omega), decide_eq_true (by omega)]; rfl
set_option maxHeartbeats 1000000 in
theorem implUnitW_yes (n : Nat) (w : World) (h1 : 1 ≤ n) (h6 : n ≤ 6) :
    Calls Try.prog 10 #[.int .i64 n] w (WholeOwn true n n (n * n) (joinZ n unitY) w) := by
  have hs : side6 (n : Int) = true := side6_yes (by omega) (by omega)
  go_enter Try.func10, Try.ntmps10
  go_wp2_with fail
  go_at_call 33
  refine (isWholeSide_any _ _).mono ?_
  rintro e w' ⟨rfl, rfl⟩
  rw [hs]
  go_wp2_with fail
  go_at_call 35
  refine (unitRows_any n _ h1 h6).mono ?_
  rintro e w1 ⟨a, c, rfl, hR, b1⟩
  obtain ⟨b, off, ra, rc, rfl, _⟩ := hR.2.2 0 (by omega)
  have HR := Lib.hid hR
  clear hR
  go_wp2_with fail
  go_at_call 34
  refine (wholeOfRows_yes b off n c n unitY _ h1 h6 h1 h6 HR.out (unit_with n _)).mono ?_
  rintro e w2 ⟨g, d, Z2, rfl, o2, hV, b2⟩
  have bb := b1.trans (b2.mono b1.size)
  obtain ⟨hc, hf⟩ := bcell bb
  have z0 : w2.cell? ⟨w.heap.size, 0, none⟩ = some (.int .i64 0) := (hc _ _ (by simp)).trans (by simp [go_sem])
  have z1 : w2.cell? ⟨w.heap.size, 1, none⟩ = some (.int .i64 0) := (hc _ _ (by simp)).trans (by simp [go_sem])
  have z2 : w2.cell? ⟨w.heap.size, 2, none⟩ = some (.slice none 0 0) := (hc _ _ (by simp)).trans (by simp [go_sem])
  have hice : ∀ i, w2.frozen? ⟨w.heap.size, i, none⟩ = false := fun i => (hf _ _ (by simp)).trans (by simp [go_sem])
  have B2 : Below w.heap.size w w2 := Below.trans (by repeat first | (with_reducible exact Below.refl _ _) | (with_reducible refine Below.setCell ?_ (by first | exact Nat.le_refl _ | (simp; done) | (simp; omega) | omega) _) | (with_reducible refine Below.alloc ?_ (by first | exact Nat.le_refl _ | (simp; done) | (simp; omega) | omega) _) | (with_reducible refine below_drewN ?_ _) | (with_reducible refine Below.drew ?_)) (bb.mono (by simp))
  have s1 : w.heap.size + 1 ≤ w1.heap.size := by have := b1.size; simpa using this
  have HV := Lib.hid hV
  clear hc hf bb b1 b2 hV
  go_wp2_with fail
  refine bodyPost_ret (v := .tuple #[.agg #[.int .i64 n, .int .i64 n, .slice g (n * n) d], .bool true]) (by simp [results, Try.results10, go_sem, z0, z1, z2]) rfl ?_
  exact ⟨_, _, Z2, rfl, (by refine OwnI.to o2 (hk := fun g hg1 hg2 => by (try simp at hg1 hg2); repeat (first | rw [Below.heap_setCell _ _ _ _ (by simp; omega)] | rw [Below.heap_alloc _ _ _ (by simp [World.setCell]; omega)])) ?_ ?_ ?_ ?_ <;> (first | exact Nat.le_refl _ | omega | (simp [World.setCell]; done) | (simp [World.setCell]; omega))), HV.out, (by repeat first | (with_reducible exact B2) | (with_reducible refine Below.setCell ?_ (by first | exact Nat.le_refl _ | (simp; done) | (simp; omega) | omega) _) | (with_reducible refine Below.alloc ?_ (by first | exact Nat.le_refl _ | (simp; done) | (simp; omega) | omega) _) | (with_reducible refine below_drewN ?_ _) | (with_reducible refine Below.drew ?_))⟩
theorem implUnitW_no (x : Int) (w : World) (hs : side6 x = false) :
    Calls Try.prog 10 #[.int .i64 x] w (WholeOwn false 0 0 0 (fun _ => 0) w) := by
  go_enter Try.func10, Try.ntmps10
  go_wp2_with fail
  go_at_call 33
  refine (isWholeSide_any _ _).mono ?_
  rintro e w' ⟨rfl, rfl⟩
  rw [hs]
  go_wp2_with fail
  refine bodyPost_ret (v := .tuple #[.agg #[.int .i64 0, .int .i64 0, .slice none 0 0], .bool false]) (by simp [results, Try.results10, go_sem]) rfl ?_
  exact ⟨none, 0, fun _ => 0, rfl, .inl ⟨rfl, rfl, rfl⟩, fun i hi => by omega, (by repeat first | (with_reducible exact Below.refl _ _) | (with_reducible refine Below.setCell ?_ (by first | exact Nat.le_refl _ | (simp; done) | (simp; omega) | omega) _) | (with_reducible refine Below.alloc ?_ (by first | exact Nat.le_refl _ | (simp; done) | (simp; omega) | omega) _) | (with_reducible refine below_drewN ?_ _) | (with_reducible refine Below.drew ?_))⟩
def unitI (c j t : Nat) : Int := if t / c = t % c ∧ t / c < j then 1 else 0
theorem unitI_step {c j : Nat} (hj : j < c) (t : Nat) : (if t = j * c + j then 1 else unitI c j t) = unitI c (j + 1) t := by
  unfold unitI
  by_cases e : t = j * c + j
  · subst e
    obtain ⟨h1, h2⟩ := placeI_div hj
    rw [if_pos rfl, h1, h2, if_pos ⟨rfl, by omega⟩]
  · rw [if_neg e]
    by_cases h : t / c = t % c ∧ t / c < j + 1
    · rw [if_pos h]
      have hp := placeI_eq (c := c) (t := t)
      by_cases h2 : t / c < j
      · rw [if_pos ⟨h.1, h2⟩]
      · have e2 : t / c = j := by omega
        rw [← h.1, e2] at hp
        exact absurd hp.symm e
    · rw [if_neg h, if_neg (fun k => h ⟨k.1, by omega⟩)]
theorem unitI_join {c t : Nat} (hc : 0 < c) (ht : t < c * c) : unitI c c t = joinZ c unitY t := by
  have h1 : t / c < c := Nat.div_lt_of_lt_mul ht
  unfold unitI joinZ unitY
  by_cases e : t / c = t % c
  · rw [if_pos ⟨e, h1⟩, if_pos e.symm]
  · rw [if_neg (fun h => e h.1), if_neg (fun h => e h.symm)]
def NewUnitI (w : World) (c n : Nat) (e : Ending) (w' : World) : Prop :=
  ∃ g, e = .returned (.agg #[.int .i64 c, .int .i64 c, .slice (some ⟨g, 0, none⟩) n n]) ∧ OwnI 2 .i64 w.heap.size w'.heap.size w' (some ⟨g, 0, none⟩) n n (unitI c c) ∧ Below w.heap.size w w'
set_option maxHeartbeats 1000000 in
theorem l06Unit_any (c n : Nat) (w : World) (h1 : 1 ≤ c) (h2 : c ≤ 6) (hn : n = c * c) :
    Calls Try.prog 32 #[.int .i64 c] w (NewUnitI w c n) := by
  have hN := Lib.hid hn
  have hn36 : n ≤ 36 := by have : c * c ≤ 6 * 6 := Nat.mul_le_mul h2 h2; omega
  clear hn
  go_enter Try.func32, Try.ntmps32
  go_wp2_with fail
  go_at_call 63
  refine (l06Zero_any c c n _ h2 h2 hN.out).mono ?_
  rintro e w1 ⟨g, rfl, o1, b1⟩
  have wk := WorkI.start (R := (c : Int)) (C := (c : Int)) 24 24 (OwnI.mono (B' := w.heap.size + 1) o1 (by simp) (Nat.le_refl _) (Nat.le_refl _)) b1
  clear o1 b1
  go_wp2
  go_loopw [4] (fun i wr => ∃ j : Nat, j ≤ c ∧ i = .int .i64 j ∧ WorkI w (w.heap.size + 1) w1.heap.size g w1.heap.size w.heap.size c c n (unitI c j) wr) (fun i _ => c - (intOf i).toNat)
  case atStart => exact ⟨0, Nat.zero_le _, rfl, wk.same (fun j _ => by unfold unitI; rw [if_neg (by omega)])⟩
  case round =>
    obtain ⟨j, hj, rfl, hk⟩ := hrel
    clear wk
    have hpos : 0 < n := by rw [hN.out]; exact Nat.mul_pos h1 h1
    obtain ⟨g1, g2, g3, g4⟩ := hk.facts hpos
    by_cases hlt : j < c
    · have hpl := placeI_lt hlt hlt
      rw [← hN.out] at hpl
      obtain ⟨y0, y1, y2⟩ := hk.box
      have hst := hk.stored (t := j * c + j) (v := 1) hpl (by decide)
      obtain ⟨hce, hfr, _⟩ := hk.own.cell hpl
      have hst' := Lib.hid (hst.same (fun t _ => unitI_step hlt t))
      have he : ((j : Int) * (c : Int) + (j : Int)) = ((j * c + j : Nat) : Int) := by rw [Int.natCast_add, Int.natCast_mul]
      have ht : ((j : Int) * (c : Int) + (j : Int)).toNat = j * c + j := by rw [he]; exact Int.toNat_natCast _
      have hl1 : (j : Int) * (c : Int) + (j : Int) < (n : Int) := by rw [he]; omega
      have h0 : (0 : Int) ≤ (j : Int) * (c : Int) := by rw [← Int.natCast_mul]; omega
      clear hst hk he
      go_wp2_with fail
      go_roundw
      case rel => exact ⟨j + 1, by omega, by go_num, hst'.out⟩
      case measure => simp [intOf]; omega
    · obtain rfl : j = c := by omega
      obtain ⟨y0, y1, y2⟩ := hk.box
      obtain ⟨z0, z1, z2⟩ := hk.res
      have o2 := hk.own
      have B2 := hk.bel
      have hlo := hk.lo
      have hmid := hk.mid
      have hice := hk.ice
      clear hk
      go_wp2_with fail
      refine bodyPost_ret (v := .agg #[.int .i64 j, .int .i64 j, .slice (some ⟨g, 0, none⟩) n n]) (by simp [results, Try.results32, go_sem, y0, y1, y2, z0, z1, z2]) rfl ?_
      exact ⟨_, rfl, (by refine OwnI.to o2 (hk := fun g hg1 hg2 => by (try simp at hg1 hg2); repeat (first | rw [Below.heap_setCell _ _ _ _ (by simp; omega)] | rw [Below.heap_alloc _ _ _ (by simp [World.setCell]; omega)])) ?_ ?_ ?_ ?_ <;> (first | exact Nat.le_refl _ | omega | (simp [World.setCell]; done) | (simp [World.setCell]; omega))), (by repeat first | (with_reducible exact B2) | (with_reducible refine Below.setCell ?_ (by first | exact Nat.le_refl _ | (simp; done) | (simp; omega) | omega) _) | (with_reducible refine Below.alloc ?_ (by first | exact Nat.le_refl _ | (simp; done) | (simp; omega) | omega) _) | (with_reducible refine below_drewN ?_ _) | (with_reducible refine Below.drew ?_))⟩
theorem inB_side6 (x : Int) : inB x 1 6 = side6 x := rfl
set_option maxHeartbeats 1000000 in
theorem specUnitW_yes (c n : Nat) (w : World) (h1 : 1 ≤ c) (h2 : c ≤ 6) (hn : n = c * c) :
    Calls Try.prog 9 #[.int .i64 c] w (WholeBel true c c n (joinZ c unitY) w) := by
  have hs : side6 (c : Int) = true := side6_yes (by omega) (by omega)
  have hN := Lib.hid hn
  clear hn
  go_enter Try.func9, Try.ntmps9
  go_wp2_with fail
  go_at_call 31
  refine (l00In_any _ _ _ _).mono ?_
  rintro e w' ⟨rfl, rfl⟩
  simp only [inB_side6]
  rw [hs]
  go_wp2_with fail
  go_at_call 32
  refine (l06Unit_any c n _ h1 h2 hN.out).mono ?_
  rintro e w1 ⟨g, rfl, o1, b1⟩
  obtain ⟨hc, hf⟩ := bcell b1
  have hz : w.heap.size + 1 ≤ w1.heap.size := by have := b1.size; simp at this; omega
  have B1 : Below w.heap.size w w1 := Below.trans (by repeat first | (with_reducible exact Below.refl _ _) | (with_reducible refine Below.setCell ?_ (by first | exact Nat.le_refl _ | (simp; done) | (simp; omega) | omega) _) | (with_reducible refine Below.alloc ?_ (by first | exact Nat.le_refl _ | (simp; done) | (simp; omega) | omega) _) | (with_reducible refine below_drewN ?_ _) | (with_reducible refine Below.drew ?_)) (b1.mono (by simp))
  go_wp2_with fail
  refine bodyPost_ret (v := .tuple #[.agg #[.int .i64 c, .int .i64 c, .slice (some ⟨g, 0, none⟩) n n], .bool true]) (by simp [results, Try.results9, go_sem, hc]) rfl ?_
  have o2 := OwnI.mono (B' := w.heap.size + 1) o1 (by simp) (Nat.le_refl _) (Nat.le_refl _)
  exact ⟨_, _, _, rfl, OwnI.is (B := w.heap.size) (U := w1.heap.size) (by refine OwnI.to o2 (hk := fun g hg1 hg2 => by (try simp at hg1 hg2); repeat (first | rw [Below.heap_setCell _ _ _ _ (by simp; omega)] | rw [Below.heap_alloc _ _ _ (by simp [World.setCell]; omega)])) ?_ ?_ ?_ ?_ <;> (first | exact Nat.le_refl _ | omega | (simp [World.setCell]; done) | (simp [World.setCell]; omega))), fun i hi => unitI_join (by omega) (by rw [← hN.out]; exact hi), (by repeat first | (with_reducible exact B1) | (with_reducible refine Below.setCell ?_ (by first | exact Nat.le_refl _ | (simp; done) | (simp; omega) | omega) _) | (with_reducible refine Below.alloc ?_ (by first | exact Nat.le_refl _ | (simp; done) | (simp; omega) | omega) _) | (with_reducible refine below_drewN ?_ _) | (with_reducible refine Below.drew ?_))⟩
theorem specUnitW_no (x : Int) (w : World) (hs : side6 x = false) :
    Calls Try.prog 9 #[.int .i64 x] w (WholeBel false 0 0 0 (fun _ => 0) w) := by
  go_enter Try.func9, Try.ntmps9
  go_wp2_with fail
  go_at_call 31
  refine (l00In_any _ _ _ _).mono ?_
  rintro e w' ⟨rfl, rfl⟩
  simp only [inB_side6]
  rw [hs]
  go_wp2_with fail
  refine bodyPost_ret (v := .tuple #[.agg #[.int .i64 0, .int .i64 0, .slice none 0 0], .bool false]) (by simp [results, Try.results9, go_sem]) rfl ?_
  exact ⟨none, 0, fun _ => 0, rfl, ⟨Nat.le_refl _, Nat.zero_le _, fun i hi => by omega⟩, fun i hi => by omega, (by repeat first | (with_reducible exact Below.refl _ _) | (with_reducible refine Below.setCell ?_ (by first | exact Nat.le_refl _ | (simp; done) | (simp; omega) | omega) _) | (with_reducible refine Below.alloc ?_ (by first | exact Nat.le_refl _ | (simp; done) | (simp; omega) | omega) _) | (with_reducible refine below_drewN ?_ _) | (with_reducible refine Below.drew ?_))⟩
theorem keyUnitWhole (x : Int) (wx : (Lit.int .i64 x).wf = true) : ∃ (ok : Bool) (R C : Int) (n : Nat) (V : Nat → Int), n ≤ 144 ∧
    (∀ W, Calls Try.prog 9 #[.int .i64 x] W (WholeBel ok R C n V W)) ∧ (∀ W, Calls Try.prog 10 #[.int .i64 x] W (WholeOwn ok R C n V W)) := by
  cases hs : side6 x with
  | false => exact ⟨false, 0, 0, 0, fun _ => 0, by omega, fun W => specUnitW_no x W hs, fun W => implUnitW_no x W hs⟩
  | true =>
    obtain ⟨h1, h2⟩ := side6_le hs
    obtain ⟨c, rfl⟩ : ∃ c : Nat, x = c := ⟨x.toNat, by omega⟩
    have h36 : c * c ≤ 6 * 6 := Nat.mul_le_mul (by omega) (by omega)
    exact ⟨true, c, c, c * c, joinZ c unitY, by omega, fun W => specUnitW_yes c _ W (by omega) (by omega) rfl, fun W => implUnitW_yes c W (by omega) (by omega)⟩
end Go.Proofs.Ytinekdfpgkmbnab
