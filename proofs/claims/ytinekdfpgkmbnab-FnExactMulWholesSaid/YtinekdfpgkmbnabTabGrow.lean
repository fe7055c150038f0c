/- Helper: a number appended to a row of a table; the columns of a whole as rows, of the program. Conditions: none. -/
import Derived.Test.YtinekdfpgkmbnabUnitWholeKey
set_option linter.unusedVariables false
set_option linter.unusedSimpArgs false
namespace Go.Proofs.Ytinekdfpgkmbnab
open Go.RowKit

theorem cellsI_grow (Z : Nat → Int) (n : Nat) (x : Int) : cellsOfI Z n ++ [.int .i64 x] = cellsOfI (fun j => if j = n then x else Z j) (n + 1) := by
  apply List.ext_getElem?
  intro t
  by_cases h1 : t < n
  · rw [List.getElem?_append_left (by rw [cellsI_len]; exact h1), cellsI_at h1, cellsI_at (by omega), if_neg (by omega)]
  · rw [List.getElem?_append_right (by rw [cellsI_len]; omega), cellsI_len]
    by_cases h2 : t = n
    · subst h2
      rw [cellsI_at (by omega), if_pos rfl, Nat.sub_self]; rfl
    · rw [List.getElem?_eq_none (by simp; omega), List.getElem?_eq_none (by rw [cellsI_len]; omega)]
theorem Tab.grow {W0 wr wx w2 : World} {G n k gg cap : Nat} {len : Nat → Nat} {Y : Nat → Nat → Int} {V : Nat → Value} {x : Int} (h : Tab W0 G n len Y V wr) (hk : k < n) (hx : (Lit.int .i64 x).wf = true) (hb : Below wr.heap.size wr wx)
    (hown2 : w2.ownsRow W0.heap.size 2 1 (.slice (some ⟨gg, 0, none⟩) (len k + 1) cap) (len k + 1) (cellsOfI (Y k) (len k) ++ [.int .i64 x])) (hgrow2 : wx.grownBy w2 (V k).ownBlock) (hat2 : (V k).ownBlock = some gg ∨ wr.heap.size ≤ gg) :
    Tab W0 G n (upd len k (len k + 1)) (upd Y k (fun j => if j = len k then x else Y k j)) (upd V k (.slice (some ⟨gg, 0, none⟩) (len k + 1) cap)) (w2.setCell ⟨G, k, none⟩ (.slice (some ⟨gg, 0, none⟩) (len k + 1) cap)) ∧
    w2.cell? ⟨G, k, none⟩ = some (V k) ∧ w2.frozen? ⟨G, k, none⟩ = false := by
  rw [cellsI_grow] at hown2
  have hG : w2.heap[G]? = wx.heap[G]? := hgrow2.block G (h.below hb).top (fun e => h.apart k hk e.symm)
  refine ⟨h.step hb hgrow2 hk (fun q hq => hq) hown2 (fun j hj => ?_) (fun q hq => ?_), (World.cell?_of_block (a := ⟨G, k, none⟩) hG).trans ((h.below hb).cell k hk), (World.frozen?_of_block (a := ⟨G, k, none⟩) hG).trans ((h.below hb).froz k)⟩
  · show (Lit.int .i64 (if j = len k then x else Y k j)).wf = true
    split
    · exact hx
    · exact h.wfs k hk j (by omega)
  · simp [Value.ownBlock] at hq
    subst hq
    exact hat2

def cntL (c j k : Nat) : Nat := j / c + (if k < j % c then 1 else 0)
theorem cnt_at (c j : Nat) : cntL c j (j % c) = j / c := by unfold cntL; rw [if_neg (by omega)]; rfl
theorem div_next {c j : Nat} (hc : 0 < c) : (j % c + 1 < c → (j + 1) / c = j / c ∧ (j + 1) % c = j % c + 1) ∧ (j % c + 1 = c → (j + 1) / c = j / c + 1 ∧ (j + 1) % c = 0) := by
  have e := Nat.div_add_mod j c
  constructor
  · intro h
    have e2 : j + 1 = (j / c) * c + (j % c + 1) := by rw [Nat.mul_comm]; omega
    obtain ⟨d1, d2⟩ := placeI_div (c := c) (j := j / c) (k := j % c + 1) h
    rw [← e2] at d1 d2
    exact ⟨d1, d2⟩
  · intro h
    have e2 : j + 1 = (j / c + 1) * c + 0 := by rw [Nat.add_mul, Nat.one_mul, Nat.mul_comm]; omega
    obtain ⟨d1, d2⟩ := placeI_div (c := c) (j := j / c + 1) (k := 0) hc
    rw [← e2] at d1 d2
    exact ⟨d1, d2⟩
theorem cnt_step {c j : Nat} (hc : 0 < c) : ∀ k, k < c → upd (cntL c j) (j % c) (j / c + 1) k = cntL c (j + 1) k := by
  intro k hk
  obtain ⟨h1, h2⟩ := div_next (c := c) (j := j) hc
  have hm : j % c < c := Nat.mod_lt _ hc
  by_cases e : k = j % c
  · rw [e, upd_same]
    unfold cntL
    by_cases h : j % c + 1 < c
    · obtain ⟨d1, d2⟩ := h1 h
      rw [d1, d2, if_pos (by omega)]
    · obtain ⟨d1, d2⟩ := h2 (by omega)
      rw [d1, d2, if_neg (by omega)]
  · rw [upd_other _ _ e]
    unfold cntL
    by_cases h : j % c + 1 < c
    · obtain ⟨d1, d2⟩ := h1 h
      rw [d1, d2]
      by_cases h3 : k < j % c
      · rw [if_pos h3, if_pos (by omega)]
      · rw [if_neg h3, if_neg (by omega)]
    · obtain ⟨d1, d2⟩ := h2 (by omega)
      rw [d1, d2, if_pos (by omega), if_neg (by omega)]
theorem cnt_end {r c : Nat} (hc : 0 < c) (k : Nat) : cntL c (r * c) k = r := by
  unfold cntL
  rw [Nat.mul_div_cancel _ hc, Nat.mul_mod_left, if_neg (by omega)]; rfl
def colY (c : Nat) (Z : Nat → Int) (k i : Nat) : Int := Z (i * c + k)
set_option maxRecDepth 20000 in
set_option maxHeartbeats 4000000 in
theorem columnsOf_any (r c n b off cap : Nat) (Z : Nat → Int) (w : World) (hr1 : 1 ≤ r) (hr : r ≤ 6) (hc1 : 1 ≤ c) (hc : c ≤ 6) (hn : n = r * c) (h : IS .i64 w (some ⟨b, off, none⟩) n cap Z) :
    Calls Try.prog 44 #[.agg #[.int .i64 r, .int .i64 c, .slice (some ⟨b, off, none⟩) n cap]] w (RowsNew w c r (colY c Z)) := by
  obtain ⟨j0, gi, gz0, gz1, gz2⟩ := info_parts infoRow
  obtain ⟨i0, hi, hz0, hz1, hz2⟩ := info_parts info64
  have HN := Lib.hid hn
  have hn36 : n ≤ 36 := by have : r * c ≤ 6 * 6 := Nat.mul_le_mul hr hc; omega
  have hne : (c : Int) ≠ 0 := by omega
  have hmx : cap ≤ 9223372036854775807 := by have := h.2.1; unfold maxLen at this; omega
  have hcap := h.1
  clear hn
  go_enter Try.func44, Try.ntmps44
  go_wp2_with (at_make; refine wpList_make_full _ rfl _ _ 53 rfl (w.heap.size + 1) 22 j0 (.slice none 0 0) 1 Try.underlying53 gi gz0 gz1 _ _ _ _ c rfl rfl rfl rfl ?b2 ?b3 ?b4 ?_)
  case b2 => rw [gz2]; omega
  case b3 => unfold maxLen; omega
  case b4 => simp
  intro w0 hown0 hgrow0
  generalize hwa : w.alloc (.cells #[.int .i64 r, .int .i64 c, .slice (some ⟨b, off, none⟩) n cap] 24) = wa at hgrow0
  have Ba : Below w.heap.size w wa := by rw [← hwa]; exact (by repeat first | (with_reducible exact Below.refl _ _) | (with_reducible refine Below.setCell ?_ (by first | exact Nat.le_refl _ | (simp; done) | (simp; omega) | omega) _) | (with_reducible refine Below.alloc ?_ (by first | exact Nat.le_refl _ | (simp; done) | (simp; omega) | omega) _) | (with_reducible refine below_drewN ?_ _) | (with_reducible refine Below.drew ?_))
  have sa : wa.heap.size = w.heap.size + 1 := by rw [← hwa]; simp
  have Xa : Box wa w.heap.size r c (some ⟨b, off, none⟩) n cap := by rw [← hwa]; exact Box.new _ _ _ _ _ _ _
  have Fa := Lib.hid (h.below Ba (Nat.le_refl _))
  have la : w.heap.size < wa.heap.size := by omega
  have HBa := Lib.hid Ba
  have HX := Lib.hid Xa
  obtain ⟨x0, x1, x2⟩ := Xa
  clear hwa h Ba
  rw [← sa] at hown0
  have b0 := grew_below hgrow0
  have tab00 := Tab.start hown0 b0 (colY c Z)
  rw [sa] at tab00
  have tab0 := Lib.hid tab00
  clear tab00
  obtain ⟨y0, y1, y2⟩ := HX.out.below b0 la
  clear hown0 hgrow0 x0 x1 x2 b0
  go_wp2
  go_loopw [13] (fun i wr => ∃ (j : Nat) (V : Nat → Value), j ≤ n ∧ i = .int .i64 j ∧ Tab wa (w.heap.size + 1) c (cntL c j) (colY c Z) V wr) (fun i _ => n - (intOf i).toNat)
  case atStart => exact ⟨0, _, Nat.zero_le _, rfl, tab0.out.same (fun i hi => by unfold cntL; simp) (fun i hi j hj => rfl)⟩
  case round =>
    obtain ⟨j, V, hj, rfl, hk⟩ := hrel
    clear y0 y1 y2
    by_cases hlt : j < n
    · obtain ⟨b', off', e, hbl, hce, hwf⟩ := (Fa.out.below hk.bel (Nat.le_refl _)).at hlt
      simp only [Option.some.injEq, Addr.mk.injEq, and_true] at e
      obtain ⟨rfl, rfl⟩ := e
      obtain ⟨y0, y1, y2⟩ := HX.out.below hk.bel la
      have hm : j % c < c := Nat.mod_lt _ (by omega)
      have hmod : (j : Int) % (c : Int) = ((j % c : Nat) : Int) := (Int.natCast_emod j c).symm
      have hcell := hk.cell (j % c) hm
      have hS := Lib.hid (cnt_step (c := c) (j := j) (by omega))
      have hA := Lib.hid (cnt_at c j)
      have hYY : Hid (Z j = colY c Z (j % c) (j / c)) := Lib.hid (by
        unfold colY
        rw [Nat.mul_comm (j / c) c, Nat.div_add_mod])
      have hown := Lib.hid (hk.own (j % c) hm)
      have hbs := Lib.hid hk.bel.size
      have HK := Lib.hid hk
      have hlenB : cntL c j (j % c) ≤ 36 := by rw [hA.out]; have := Nat.div_le_self j c; omega
      clear hk hbl
      generalize hz : Z j = z at hce hwf hYY
      clear hz
      generalize hq : j % c = q at *
      have HQ := Lib.hid hq
      clear hq
      have hq1 : (q : Int) < (c : Int) := by omega
      generalize hvq : V q = vq at hcell hown
      have HVQ := Lib.hid hvq
      clear hvq
      generalize hlq : cntL c j q = lq at hown hlenB hA
      have HLQ := Lib.hid hlq
      clear hlq
      go_wp2_with (at_builtin; refine wpList_append_lies _ rfl _ _ _ rfl wa.heap.size 2 i0 _ 1 8 Try.underlying22 hi hz0 hz1 hz2 rfl (by omega) vq lq (cellsOfI (colY c Z q) lq) rfl (by exact ownsRow_belowT hown.out (by repeat first | (with_reducible exact Below.refl _ _) | (with_reducible refine Below.setCell ?_ (by first | exact Nat.le_refl _ | (simp; done) | (simp; omega) | omega) _) | (with_reducible refine Below.alloc ?_ (by first | exact Nat.le_refl _ | (simp; done) | (simp; omega) | omega) _) | (with_reducible refine below_drewN ?_ _) | (with_reducible refine Below.drew ?_))) ⟨wr.heap.size, 0, none⟩ 1 1 [.int .i64 z] rfl rfl (by exact World.news_of_block (cs := #[.int .i64 z]) (t := 2) (fr := (0, 0)) (heap_alloc_new _ _)) (by simp [Value.oneCell']) (by omega) (by unfold maxLen; omega) (by omega) (by have := hbs.out; simp; omega) (wr.heap.size + 1) (by simp) ?_)
      intro gg cp2 w2 hown2 hgrow2 hat2 hlt3
      have hgr := HK.out.grow (k := q) (x := z) (gg := gg) (cap := cp2) (w2 := w2) hm hwf (show Below wr.heap.size wr (wr.alloc (.cells #[.int .i64 z] 2)) from (by repeat first | (with_reducible exact Below.refl _ _) | (with_reducible refine Below.setCell ?_ (by first | exact Nat.le_refl _ | (simp; done) | (simp; omega) | omega) _) | (with_reducible refine Below.alloc ?_ (by first | exact Nat.le_refl _ | (simp; done) | (simp; omega) | omega) _) | (with_reducible refine below_drewN ?_ _) | (with_reducible refine Below.drew ?_))) (by rw [HLQ.out, sa]; exact hown2) (by rw [HVQ.out]; exact hgrow2) (by
        rw [HVQ.out]
        rcases hat2 with e | e
        · exact .inl e
        · exact .inr (by omega))
      obtain ⟨tab1, c1, f1⟩ := hgr
      rw [HLQ.out] at tab1
      rw [HVQ.out] at c1
      have tab2 := tab1.same (len2 := cntL c (j + 1)) (Y2 := colY c Z) (fun i hi => by
        have := hS.out i hi
        rw [← hA.out] at this
        exact this) (fun i hi t ht => by
        by_cases e : i = q
        · subst e
          rw [upd_same]
          show (if t = lq then z else colY c Z i t) = _
          by_cases e2 : t = lq
          · rw [if_pos e2, e2, hYY.out, ← hA.out]
          · rw [if_neg e2]
        · rw [upd_other _ _ e])
      have T2 := Lib.hid tab2
      clear tab1 tab2 hown2 hgrow2 hat2 hlt3
      go_wp2
      go_roundw
      case rel => exact ⟨j + 1, _, by omega, by go_num, T2.out⟩
      case measure => simp [intOf]; omega
    · obtain rfl : j = n := by omega
      have hR := Lib.hid (hk.rs (L := r) (by omega) (fun i hi => by rw [HN.out]; exact cnt_end (by omega) i))
      have hB := Lib.hid (HBa.out.trans (hk.bel.mono HBa.out.size))
      clear hk
      go_wp2
      go_ret
      exact ⟨_, _, rfl, hR.out, hB.out⟩
end Go.Proofs.Ytinekdfpgkmbnab
