/- Helper: all values of a chain, of the program and of its reference. Conditions: none. -/
import Derived.Test.YtffmjfgechdjjabValueKey
import Derived.Test.YtffmjfgechdjjabNums
set_option linter.unusedVariables false
set_option linter.unusedSimpArgs false
namespace Go.Proofs.Ytffmjfgechdjjab
open Go.RowKit

def allB (f : Nat → Bool) : Nat → Bool
  | 0 => true
  | j + 1 => allB f j && f j
theorem allB_no {f : Nat → Bool} {j : Nat} : ∀ {n : Nat}, j < n → f j = false → allB f n = false
  | 0, h, _ => by omega
  | n + 1, h, h2 => by
    simp only [allB]
    by_cases e : j = n
    · subst e; rw [h2]; simp
    · rw [allB_no (n := n) (by omega) h2]; rfl
theorem allB_succ {f : Nat → Bool} {j : Nat} (h : allB f j = true) (h2 : f j = true) : allB f (j + 1) = true := by simp [allB, h, h2]

set_option maxRecDepth 100000 in
set_option maxHeartbeats 4000000 in
theorem implValues_yes (b off n c n2 c2 : Nat) (a2 : Option Addr) (Z Z2 : Nat → Nat) (w : World) (OKV : Nat → Bool) (XV : Nat → Option Nat) (h1 : 1 ≤ n) (h12 : n ≤ 12) (hn2 : n2 + 1 = n) (hv : chainB n (vals Z) n2 (vals Z2) = true)
    (h : FS .f32 w (some ⟨b, off, none⟩) n c Z) (h2 : FS .f32 w a2 n2 c2 Z2)
    (hval : ∀ t W, t < n → FS .f32 W (some ⟨b, off, none⟩) n c Z → FS .f32 W a2 n2 c2 Z2 → Calls Try.prog 39 #[.agg #[.slice (some ⟨b, off, none⟩) n c, .slice a2 n2 c2], .int .i64 t] W (ValIf (OKV t) (XV t) W)) :
    Calls Try.prog 12 #[.agg #[.slice (some ⟨b, off, none⟩) n c, .slice a2 n2 c2]] w (NOwnIf (allB OKV n) n XV w) := by
  obtain ⟨i0, hi, hz0, hz1, hz2⟩ := info_parts info32
  go_enter Try.func12, Try.ntmps12
  go_wp2_with fail
  go_at_call 38
  refine (implChain_any _ n c Z a2 n2 c2 Z2 _ (by omega) (by omega) (h.below (by repeat first | (with_reducible exact Below.refl _ _) | (with_reducible refine Below.setCell ?_ (by first | exact Nat.le_refl _ | (simp; done) | (simp; omega) | omega) _) | (with_reducible refine Below.alloc ?_ (by first | exact Nat.le_refl _ | (simp; done) | (simp; omega) | omega) _) | (with_reducible refine below_drewN ?_ _) | (with_reducible refine Below.drew ?_)) (Nat.le_refl _)) (h2.below (by repeat first | (with_reducible exact Below.refl _ _) | (with_reducible refine Below.setCell ?_ (by first | exact Nat.le_refl _ | (simp; done) | (simp; omega) | omega) _) | (with_reducible refine Below.alloc ?_ (by first | exact Nat.le_refl _ | (simp; done) | (simp; omega) | omega) _) | (with_reducible refine below_drewN ?_ _) | (with_reducible refine Below.drew ?_)) (Nat.le_refl _))).mono ?_
  rintro e w2 ⟨rfl, b1⟩
  have B2 : Below w.heap.size w w2 := Below.trans (by repeat first | (with_reducible exact Below.refl _ _) | (with_reducible refine Below.setCell ?_ (by first | exact Nat.le_refl _ | (simp; done) | (simp; omega) | omega) _) | (with_reducible refine Below.alloc ?_ (by first | exact Nat.le_refl _ | (simp; done) | (simp; omega) | omega) _) | (with_reducible refine below_drewN ?_ _) | (with_reducible refine Below.drew ?_)) (b1.mono (by simp))
  have s2 : w.heap.size < w2.heap.size := by have := b1.size; simp at this; omega
  have X1 := (BoxC.new _ _ _ _ _ _ _ _).below b1 (by simp)
  have F1 := h.below B2 (Nat.le_refl _)
  have F2 := h2.below B2 (Nat.le_refl _)
  obtain ⟨x0, x1⟩ := X1
  clear b1
  rw [hv]
  clear hv
  go_wp2_with (at_make; refine wpList_make_full _ rfl _ _ 22 rfl w2.heap.size 46 i0 (.float .f32 0) 1 Try.underlying22 hi hz0 hz1 _ _ _ _ n rfl rfl rfl rfl ?b2 ?b3 (Nat.le_refl _) ?_)
  case b2 => rw [hz2]; omega
  case b3 => unfold maxLen; omega
  intro w0 hown0 hgrow0
  have hU := (hown0.lt w2.heap.size rfl).2
  have o0 := own_zero (w := w2) (U := w0.heap.size) hown0 (Nat.le_refl _) hU (Nat.le_refl _) (by unfold maxLen; omega)
  have b0 : Below w2.heap.size w2 w0 := (Below.refl _ _).grown hgrow0 (Nat.le_refl _) (fun k h => by cases h)
  have X0 := (show BoxC w2 w.heap.size (some ⟨b, off, none⟩) n c a2 n2 c2 from ⟨x0, x1⟩)
  clear hown0 hgrow0 x0 x1
  go_wp2
  go_loopw [17] (fun i wr => ∃ (j : Nat) (X : Nat → Nat), j ≤ n ∧ i = .int .i64 j ∧ allB OKV j = true ∧ (∀ t, t < j → FV .f32 (X t) (XV t)) ∧ Own 46 .f32 w2.heap.size w0.heap.size wr (some ⟨w2.heap.size, 0, none⟩) n n X ∧ Below w2.heap.size w2 wr) (fun i _ => n - (intOf i).toNat)
  case atStart => exact ⟨0, _, Nat.zero_le _, rfl, rfl, fun t ht => absurd ht (Nat.not_lt_zero _), o0, b0⟩
  case round =>
    obtain ⟨j, X, hj, rfl, hall, hV, hk, hb⟩ := hrel
    have hV' := Lib.hid hV
    have HA := Lib.hid hall
    clear o0 b0 hV hall
    by_cases hlt : j < n
    · obtain ⟨y0, y1⟩ := X0.below hb s2
      have hk' := Lib.hid hk
      have hb' := Lib.hid hb
      have hcall := hval j wr hlt (F1.below hb (Nat.le_refl _)) (F2.below hb (Nat.le_refl _))
      have hd2 : decide ((j : Int) < (n : Int)) = true := decide_eq_true (by omega)
      clear hk hb hval
      cases hok : OKV j with
      | false =>
        rw [hok] at hcall
        have HN := Lib.hid (allB_no hlt hok)
        clear hok
        go_wp2_with fail
        go_at_call 39
        refine hcall.mono ?_
        rintro e w3 ⟨rr, rfl, hrr, b3⟩
        have B3 := Lib.hid (B2.trans ((hb'.out.trans (b3.mono hb'.out.size)).mono B2.size))
        go_wp2_with fail
        go_ret2
        exact NOwnIf.no HN.out ⟨none, 0, fun _ => 0, rfl, .inl ⟨rfl, rfl, rfl⟩, fun i hi => by omega, B3.out⟩
      | true =>
        rw [hok] at hcall
        have HS := Lib.hid (allB_succ HA.out hok)
        clear hok
        go_wp2_with fail
        go_at_call 39
        refine hcall.mono ?_
        rintro e w3 ⟨rr, rfl, hrr, b3⟩
        have B3 := hb'.out.trans (b3.mono hb'.out.size)
        have hk3 := hk'.out.kept (below_grew b3) (fun q hq => by cases hq)
        obtain ⟨hce, hfr, _⟩ := hk3.cell hlt
        obtain ⟨hst, hgr⟩ := hk3.stored (t := j) (v := rr) hlt hrr.2
        have hst' : Hid (Own 46 .f32 w2.heap.size w0.heap.size (w3.setCell ⟨w2.heap.size, j, none⟩ (.float .f32 rr)) (some ⟨w2.heap.size, 0, none⟩) n n (fun t => if t = j then rr else X t)) := Lib.hid hst
        have hb4 : Hid (Below w2.heap.size w2 (w3.setCell ⟨w2.heap.size, j, none⟩ (.float .f32 rr))) := Lib.hid (B3.setCell (Nat.le_refl _) _)
        have hvn : Hid (∀ t, t < j + 1 → FV .f32 (if t = j then rr else X t) (XV t)) := by
          refine Lib.hid fun t ht => ?_
          by_cases e : t = j
          · subst e; rw [if_pos rfl]; exact hrr
          · rw [if_neg e]; exact hV'.out t (by omega)
        clear hst hgr hk3 B3 hk' hb' b3 y0 y1
        generalize X j = old at hce
        go_wp2
        go_roundw
        case rel => exact ⟨j + 1, _, by omega, by go_num, HS.out, hvn.out, hst'.out, hb4.out⟩
        case measure => simp [intOf]; omega
    · obtain rfl : j = n := by omega
      have hd2 : decide ((j : Int) < (j : Int)) = false := decide_eq_false (by omega)
      have hU2 : w0.heap.size ≤ wr.heap.size := (hk.cell (show 0 < j by omega)).2.2.2.2.1
      have hk' := Lib.hid hk
      have hb' := Lib.hid (B2.trans (hb.mono B2.size))
      have hs2 := B2.size
      clear hk hb
      go_wp2_with fail
      go_ret2
      exact NOwnIf.yes HA.out ⟨_, _, _, rfl, Own.mono (U := w0.heap.size) (B := w2.heap.size) hk'.out hs2 hU2 (Nat.le_refl _), fun i hi => (hV'.out i hi).1, hb'.out⟩
set_option maxRecDepth 100000 in
set_option maxHeartbeats 4000000 in
theorem specValues_yes (b off n c n2 c2 : Nat) (a2 : Option Addr) (Z Z2 : Nat → Nat) (w : World) (OKV : Nat → Bool) (XV : Nat → Option Nat) (h1 : 1 ≤ n) (h12 : n ≤ 12) (hn2 : n2 + 1 = n) (hv : chainB n (vals Z) n2 (vals Z2) = true)
    (h : FS .f32 w (some ⟨b, off, none⟩) n c Z) (h2 : FS .f32 w a2 n2 c2 Z2)
    (hval : ∀ pc t W, t < n → pc < W.heap.size → BoxC W pc (some ⟨b, off, none⟩) n c a2 n2 c2 → FS .f32 W (some ⟨b, off, none⟩) n c Z → FS .f32 W a2 n2 c2 Z2 → Calls Try.prog 37 #[.pointer (some ⟨pc, 0, none⟩), .int .i64 t] W (ValIf (OKV t) (XV t) W)) :
    Calls Try.prog 10 #[.agg #[.slice (some ⟨b, off, none⟩) n c, .slice a2 n2 c2]] w (NBelIf (allB OKV n) n XV w) := by
  obtain ⟨i0, hi, hz0, hz1, hz2⟩ := info_parts info32
  have hia := l04Is_any w.heap.size (some ⟨b, off, none⟩) n c Z a2 n2 c2 Z2
  rw [hv] at hia
  clear hv
  go_enter Try.func10, Try.ntmps10
  go_wp2_with fail
  go_at_call 36
  refine (hia _ (by omega) (by omega) (BoxC.new _ _ _ _ _ _ _ _) (h.below (by repeat first | (with_reducible exact Below.refl _ _) | (with_reducible refine Below.setCell ?_ (by first | exact Nat.le_refl _ | (simp; done) | (simp; omega) | omega) _) | (with_reducible refine Below.alloc ?_ (by first | exact Nat.le_refl _ | (simp; done) | (simp; omega) | omega) _) | (with_reducible refine below_drewN ?_ _) | (with_reducible refine Below.drew ?_)) (Nat.le_refl _)) (h2.below (by repeat first | (with_reducible exact Below.refl _ _) | (with_reducible refine Below.setCell ?_ (by first | exact Nat.le_refl _ | (simp; done) | (simp; omega) | omega) _) | (with_reducible refine Below.alloc ?_ (by first | exact Nat.le_refl _ | (simp; done) | (simp; omega) | omega) _) | (with_reducible refine below_drewN ?_ _) | (with_reducible refine Below.drew ?_)) (Nat.le_refl _))).mono ?_
  rintro e wq ⟨rfl, m1, hwq⟩
  have B1 : Below w.heap.size w wq := by rw [hwq]; exact (by repeat first | (with_reducible exact Below.refl _ _) | (with_reducible refine Below.setCell ?_ (by first | exact Nat.le_refl _ | (simp; done) | (simp; omega) | omega) _) | (with_reducible refine Below.alloc ?_ (by first | exact Nat.le_refl _ | (simp; done) | (simp; omega) | omega) _) | (with_reducible refine below_drewN ?_ _) | (with_reducible refine Below.drew ?_))
  have X0 : BoxC wq w.heap.size (some ⟨b, off, none⟩) n c a2 n2 c2 := by rw [hwq]; exact BoxC.drewN (BoxC.new _ _ _ _ _ _ _ _)
  have s1 : w.heap.size < wq.heap.size := by rw [hwq]; simp [World.drewN]
  have F1 := h.below B1 (Nat.le_refl _)
  have F2 := h2.below B1 (Nat.le_refl _)
  clear hwq hia
  have hL := World.ownsRow_lit (base := wq.heap.size) (e := 46) (size := 1) wq #[] 0 (by simp) (Nat.zero_le _) rfl
  go_wp2
  go_loopw [4, 5] (fun v i wr => ∃ (j : Nat) (xs : List Value), j ≤ n ∧ i = .int .i64 j ∧ allB OKV j = true ∧ Grow wq j XV wr v xs) (fun _ i _ => n - (intOf i).toNat)
  case atStart => exact ⟨0, [], Nat.zero_le _, rfl, rfl, by simpa using hL, fun t ht => absurd ht (Nat.not_lt_zero _), (by repeat first | (with_reducible exact Below.refl _ _) | (with_reducible refine Below.setCell ?_ (by first | exact Nat.le_refl _ | (simp; done) | (simp; omega) | omega) _) | (with_reducible refine Below.alloc ?_ (by first | exact Nat.le_refl _ | (simp; done) | (simp; omega) | omega) _) | (with_reducible refine below_drewN ?_ _) | (with_reducible refine Below.drew ?_)), _, _, rfl⟩
  case round =>
    obtain ⟨j, xs, hj, rfl, hall, hk⟩ := hrel
    have HA := Lib.hid hall
    clear hL hall
    have XR := X0.below hk.bel s1
    have XR' := XR
    obtain ⟨x0, x1⟩ := XR'
    obtain ⟨g, cp, rfl⟩ := hk.shape
    have hsr := hk.bel.size
    by_cases hlt : j < n
    · have hd2 : decide ((j : Int) < (n : Int)) = true := decide_eq_true (by omega)
      have hcall := hval w.heap.size j wr hlt (by omega) XR (F1.below hk.bel (Nat.le_refl _)) (F2.below hk.bel (Nat.le_refl _))
      have HK := Lib.hid hk
      clear hk hval XR X0
      cases hok : OKV j with
      | false =>
        rw [hok] at hcall
        have HN := Lib.hid (allB_no hlt hok)
        clear hok
        go_wp2_with fail
        go_at_call 37
        refine hcall.mono ?_
        rintro e w3 ⟨rr, rfl, hrr, b3⟩
        have B3 := Lib.hid (B1.trans ((HK.out.bel.trans (b3.mono HK.out.bel.size)).mono B1.size))
        go_wp2_with fail
        go_ret2
        exact NBelIf.no HN.out ⟨none, 0, fun _ => 0, rfl, ⟨Nat.le_refl _, Nat.zero_le _, fun i hi => absurd hi (Nat.not_lt_zero _)⟩, fun i hi => by omega, B3.out⟩
      | true =>
        rw [hok] at hcall
        have HS := Lib.hid (allB_succ HA.out hok)
        clear hok
        go_wp2_with fail
        go_at_call 37
        refine hcall.mono ?_
        rintro e w3 ⟨rr, rfl, hrr, b3⟩
        have hs3 := b3.size
        have HO : Hid (w3.ownsRow wq.heap.size 46 1 (.slice (some ⟨g, 0, none⟩) j cp) j xs) := Lib.hid (ownsRow_below HK.out.own b3)
        have HB3 := Lib.hid b3
        clear b3 x0 x1
        go_wp2_with (at_builtin; refine wpList_append_lies _ rfl _ _ _ rfl wq.heap.size 46 i0 _ 1 4 Try.underlying22 hi hz0 hz1 hz2 rfl (by omega) (.slice (some ⟨g, 0, none⟩) j cp) j xs rfl (by exact ownsRow_below HO.out (by repeat first | (with_reducible exact Below.refl _ _) | (with_reducible refine Below.setCell ?_ (by first | exact Nat.le_refl _ | (simp; done) | (simp; omega) | omega) _) | (with_reducible refine Below.alloc ?_ (by first | exact Nat.le_refl _ | (simp; done) | (simp; omega) | omega) _) | (with_reducible refine below_drewN ?_ _) | (with_reducible refine Below.drew ?_))) ⟨w3.heap.size, 0, none⟩ 1 1 [.float .f32 rr] rfl rfl (by exact World.news_of_block (cs := #[.float .f32 rr]) (t := 46) (fr := (0, 0)) (heap_alloc_new _ _)) (by simp [Value.oneCell']) (by omega) (by unfold maxLen; omega) (by omega) (by simp; omega) (w3.heap.size + 1) (by simp) ?_; intro gg cp2 w6 hown2 hgrow2 hat2 hlt3; have hst := Lib.hid (HK.out.step (by repeat first | (with_reducible exact HB3.out) | (with_reducible refine Below.setCell ?_ (by first | exact Nat.le_refl _ | (simp; done) | (simp; omega) | omega) _) | (with_reducible refine Below.alloc ?_ (by first | exact Nat.le_refl _ | (simp; done) | (simp; omega) | omega) _) | (with_reducible refine below_drewN ?_ _) | (with_reducible refine Below.drew ?_)) hown2 hgrow2 hrr); clear hown2 hgrow2 hat2 hlt3)
        go_roundw
        case rel => exact ⟨j + 1, _, by omega, by go_num, HS.out, hst.out⟩
        case measure => simp [intOf]; omega
    · obtain rfl : j = n := by omega
      have hd2 : decide ((j : Int) < (j : Int)) = false := decide_eq_false (by omega)
      obtain ⟨X, hX, hV⟩ := hk.fs
      have B := Lib.hid (B1.trans (hk.bel.mono B1.size))
      have hX' := Lib.hid hX
      have hV' := Lib.hid hV
      clear hk hX hV
      go_wp2
      go_ret2
      exact NBelIf.yes HA.out ⟨_, _, X, rfl, hX'.out, hV'.out, B.out⟩
set_option maxRecDepth 20000 in
set_option maxHeartbeats 2000000 in
theorem keyValuesOfChain (n : Nat) (Z : Nat → Nat) (n2 : Nat) (Z2 : Nat → Nat) (hn : n ≤ 1048576) (hn2 : n2 ≤ 1048576) : ∃ (ok : Bool) (n' : Nat) (V : Nat → Option Nat), n' ≤ 144 ∧
    (∀ a c a2 c2 W, FS .f32 W a n c Z → FS .f32 W a2 n2 c2 Z2 → Calls Try.prog 10 #[.agg #[.slice a n c, .slice a2 n2 c2]] W (NumsBel ok n' V W)) ∧
    (∀ a c a2 c2 W, FS .f32 W a n c Z → FS .f32 W a2 n2 c2 Z2 → Calls Try.prog 12 #[.agg #[.slice a n c, .slice a2 n2 c2]] W (NumsOwn ok n' V W)) := by
  cases hv : chainB n (vals Z) n2 (vals Z2) with
  | false =>
    refine ⟨false, 0, fun _ => none, by omega, fun a c a2 c2 w h h2 => ?_, fun a c a2 c2 w h h2 => ?_⟩
    · have hia := l04Is_any w.heap.size a n c Z a2 n2 c2 Z2
      rw [hv] at hia
      clear hv
      go_enter Try.func10, Try.ntmps10
      go_wp2_with fail
      go_at_call 36
      refine (hia _ hn hn2 (BoxC.new _ _ _ _ _ _ _ _) (h.below (by repeat first | (with_reducible exact Below.refl _ _) | (with_reducible refine Below.setCell ?_ (by first | exact Nat.le_refl _ | (simp; done) | (simp; omega) | omega) _) | (with_reducible refine Below.alloc ?_ (by first | exact Nat.le_refl _ | (simp; done) | (simp; omega) | omega) _) | (with_reducible refine below_drewN ?_ _) | (with_reducible refine Below.drew ?_)) (Nat.le_refl _)) (h2.below (by repeat first | (with_reducible exact Below.refl _ _) | (with_reducible refine Below.setCell ?_ (by first | exact Nat.le_refl _ | (simp; done) | (simp; omega) | omega) _) | (with_reducible refine Below.alloc ?_ (by first | exact Nat.le_refl _ | (simp; done) | (simp; omega) | omega) _) | (with_reducible refine below_drewN ?_ _) | (with_reducible refine Below.drew ?_)) (Nat.le_refl _))).mono ?_
      rintro e w1 ⟨rfl, m1, rfl⟩
      go_wp2_with fail
      go_ret2
      exact ⟨none, 0, fun _ => 0, rfl, ⟨Nat.le_refl _, Nat.zero_le _, fun i hi => absurd hi (Nat.not_lt_zero _)⟩, fun i hi => by omega, (by repeat first | (with_reducible exact Below.refl _ _) | (with_reducible refine Below.setCell ?_ (by first | exact Nat.le_refl _ | (simp; done) | (simp; omega) | omega) _) | (with_reducible refine Below.alloc ?_ (by first | exact Nat.le_refl _ | (simp; done) | (simp; omega) | omega) _) | (with_reducible refine below_drewN ?_ _) | (with_reducible refine Below.drew ?_))⟩
    · have hia := fun W q1 q2 => implChain_any a n c Z a2 n2 c2 Z2 W hn hn2 q1 q2
      rw [hv] at hia
      clear hv
      go_enter Try.func12, Try.ntmps12
      go_wp2_with fail
      go_at_call 38
      refine (hia _ (h.below (by repeat first | (with_reducible exact Below.refl _ _) | (with_reducible refine Below.setCell ?_ (by first | exact Nat.le_refl _ | (simp; done) | (simp; omega) | omega) _) | (with_reducible refine Below.alloc ?_ (by first | exact Nat.le_refl _ | (simp; done) | (simp; omega) | omega) _) | (with_reducible refine below_drewN ?_ _) | (with_reducible refine Below.drew ?_)) (Nat.le_refl _)) (h2.below (by repeat first | (with_reducible exact Below.refl _ _) | (with_reducible refine Below.setCell ?_ (by first | exact Nat.le_refl _ | (simp; done) | (simp; omega) | omega) _) | (with_reducible refine Below.alloc ?_ (by first | exact Nat.le_refl _ | (simp; done) | (simp; omega) | omega) _) | (with_reducible refine below_drewN ?_ _) | (with_reducible refine Below.drew ?_)) (Nat.le_refl _))).mono ?_
      rintro e w1 ⟨rfl, b1⟩
      have B1 : Below w.heap.size w w1 := Below.trans (by repeat first | (with_reducible exact Below.refl _ _) | (with_reducible refine Below.setCell ?_ (by first | exact Nat.le_refl _ | (simp; done) | (simp; omega) | omega) _) | (with_reducible refine Below.alloc ?_ (by first | exact Nat.le_refl _ | (simp; done) | (simp; omega) | omega) _) | (with_reducible refine below_drewN ?_ _) | (with_reducible refine Below.drew ?_)) (b1.mono (by simp))
      go_wp2_with fail
      go_ret2
      exact ⟨none, 0, fun _ => 0, rfl, .inl ⟨rfl, rfl, rfl⟩, fun i hi => by omega, B1⟩
  | true =>
    obtain ⟨h1, h12, e2, f1, f2⟩ := chain_nat hv
    obtain ⟨OKV, hOK⟩ : ∃ OKV : Nat → Bool, ∀ t, OKV t = (finite .f32 (lowV n2 Z Z2 n) && finite .f32 (highV n2 Z Z2 n) && halfB (okM n (vals Z) (vals Z2)) (ctM n (vals Z) (vals Z2)) t (lowV n2 Z Z2 n) (highV n2 Z Z2 n) 40) := ⟨_, fun _ => rfl⟩
    obtain ⟨XV, hXV⟩ : ∃ XV : Nat → Option Nat, ∀ t, XV t = (halfP (ctM n (vals Z) (vals Z2)) t (lowV n2 Z Z2 n) (highV n2 Z Z2 n) 40).1 := ⟨_, fun _ => rfl⟩
    have k1 : ∀ a c a2 c2 W, FS .f32 W a n c Z → FS .f32 W a2 n2 c2 Z2 → Calls Try.prog 10 #[.agg #[.slice a n c, .slice a2 n2 c2]] W (NBelIf (allB OKV n) n XV W) := by
      intro a c a2 c2 w h h2
      obtain ⟨b, off, rfl, _, _, _⟩ := h.at (show 0 < n by omega)
      exact specValues_yes b off n c n2 c2 a2 Z Z2 w OKV XV h1 h12 e2 hv h h2 (fun pc t W ht q1 q2 q3 q4 => by rw [hOK, hXV]; exact l04Value_any pc b off n c n2 c2 t a2 Z Z2 W h1 h12 e2 ht f2 q1 q2 q3 q4)
    have k2 : ∀ a c a2 c2 W, FS .f32 W a n c Z → FS .f32 W a2 n2 c2 Z2 → Calls Try.prog 12 #[.agg #[.slice a n c, .slice a2 n2 c2]] W (NOwnIf (allB OKV n) n XV W) := by
      intro a c a2 c2 w h h2
      obtain ⟨b, off, rfl, _, _, _⟩ := h.at (show 0 < n by omega)
      exact implValues_yes b off n c n2 c2 a2 Z Z2 w OKV XV h1 h12 e2 hv h h2 (fun t W ht q1 q2 => by rw [hOK, hXV]; exact implValue_yes b off n c n2 c2 t a2 Z Z2 W h1 h12 e2 ht hv f2 q1 q2)
    generalize allB OKV n = ok at k1 k2
    cases ok
    · exact ⟨false, 0, fun _ => none, by omega, k1, k2⟩
    · exact ⟨true, n, XV, by omega, k1, k2⟩
end Go.Proofs.Ytffmjfgechdjjab
