/- Helper: a sparse square times a vector, of the program and of its reference. Conditions: none. -/
import Derived.Test.YtmjlhmbnaifhaabTimesSpec
import Derived.Test.YtmjlhmbnaifhaabMid
import Derived.Test.YtmjlhmbnaifhaabWork
set_option linter.unusedVariables false
set_option linter.unusedSimpArgs false
namespace Go.Proofs.Ytmjlhmbnaifhaab
open Go.RowKit

theorem vec_lenS {n : Nat} {V : Nat → Option Nat} (h1 : 1 ≤ n) (h2 : n ≤ 256) : vecB n V = allFin V n := by
  unfold vecB
  rw [decide_eq_true h1, decide_eq_true h2]
  rfl
theorem NumsBel.noS {w w' : World} {V : Nat → Option Nat} (h : Below w.heap.size w w') : NumsBel false 0 V w (.returned (.tuple #[.slice none 0 0, .bool false])) w' :=
  ⟨none, 0, fun _ => 0, rfl, ⟨Nat.le_refl _, Nat.zero_le _, fun i hi => absurd hi (Nat.not_lt_zero _)⟩, fun i hi => absurd hi (Nat.not_lt_zero _), h⟩
theorem NumsOwn.noS {w w' : World} {V : Nat → Option Nat} (h : Below w.heap.size w w') : NumsOwn false 0 V w (.returned (.tuple #[.slice none 0 0, .bool false])) w' :=
  ⟨none, 0, fun _ => 0, rfl, .inl ⟨rfl, rfl, rfl⟩, fun i hi => absurd hi (Nat.not_lt_zero _), h⟩
theorem listS_yes (a : Option Addr) (n c : Nat) (X : Nat → Nat) (w : World) (hn : n ≤ 1048576) (f : FS .f32 w a n c X) (hf : allFin (vals X) n = true) : Calls Try.prog 47 #[.slice a n c] w fun e w' => e = .returned (.tuple #[.slice a n c, .bool true]) ∧ ∃ m, w' = w.drewN m := by
  go_enter Try.func47, Try.ntmps47
  go_wp2_with fail
  go_at_call 63
  refine (specFin_any a n c X _ hn f).mono ?_
  rintro e w4 ⟨rfl, m4, rfl⟩
  go_wp2_with fail
  go_ret2
  exact ⟨rfl, _, rfl⟩
theorem listS_no (a : Option Addr) (n c : Nat) (X : Nat → Nat) (w : World) (hn : n ≤ 1048576) (f : FS .f32 w a n c X) (hf : allFin (vals X) n = false) : Calls Try.prog 47 #[.slice a n c] w fun e w' => e = .returned (.tuple #[.slice none 0 0, .bool false]) ∧ ∃ m, w' = w.drewN m := by
  go_enter Try.func47, Try.ntmps47
  go_wp2_with fail
  go_at_call 63
  refine (specFin_any a n c X _ hn f).mono ?_
  rintro e w4 ⟨rfl, m4, rfl⟩
  go_wp2_with fail
  go_ret2
  exact ⟨rfl, _, rfl⟩
/-- A vector that fits a valid sparse square. -/
def fitsS (S : Int) (n1 n2 n3 : Nat) (O K : Nat → Int) (V : Nat → Option Nat) (nv : Nat) (Y : Nat → Option Nat) : Bool := spB S n1 n2 n3 O K V && (decide ((nv : Int) = S) && allFin Y nv)
theorem fitsS_vec {S : Int} {n1 n2 n3 : Nat} {O K : Nat → Int} {V : Nat → Option Nat} {nv : Nat} {Y : Nat → Option Nat} (h : spB S n1 n2 n3 O K V = true) : (vecB nv Y && decide ((nv : Int) = S)) = (decide ((nv : Int) = S) && allFin Y nv) := by
  obtain ⟨s, rfl, k1, k2, _⟩ := sp_nat h
  by_cases e : (nv : Int) = (s : Int)
  · rw [vec_lenS (by omega) (by omega), decide_eq_true e, Bool.and_true, Bool.true_and]
  · rw [decide_eq_false e, Bool.and_false, Bool.false_and]
set_option maxHeartbeats 1000000 in
theorem fitsSide_any (S : Int) (a1 a2 a3 av : Option Addr) (n1 c1 n2 c2 n3 c3 nv cv : Nat) (O K : Nat → Int) (Z Y : Nat → Nat) (w : World) (hn1 : n1 ≤ 1048576) (hn2 : n2 ≤ 1048576) (hn3 : n3 ≤ 1048576) (hnv : nv ≤ 1048576) (h1 : IS .i64 w a1 n1 c1 O) (h2 : IS .i64 w a2 n2 c2 K) (h3 : FS .f32 w a3 n3 c3 Z) (hv : FS .f32 w av nv cv Y) :
    Calls Try.prog 49 #[.agg #[.int .i64 S, .slice a1 n1 c1, .slice a2 n2 c2, .slice a3 n3 c3], .slice av nv cv] w (BoolBel (fitsS S n1 n2 n3 O K (vals Z) nv (vals Y)) w) := by
  have B0 : Below w.heap.size w (w.alloc (.cells #[.int .i64 S, .slice a1 n1 c1, .slice a2 n2 c2, .slice a3 n3 c3] 30)) := (by repeat first | (with_reducible exact Below.refl _ _) | (with_reducible refine Below.setCell ?_ (by first | exact Nat.le_refl _ | (simp; done) | (simp; omega) | omega) _) | (with_reducible refine Below.alloc ?_ (by first | exact Nat.le_refl _ | (simp; done) | (simp; omega) | omega) _) | (with_reducible refine below_drewN ?_ _) | (with_reducible refine Below.drew ?_))
  cases hs : spB S n1 n2 n3 O K (vals Z) with
  | false =>
    have HF : Hid (fitsS S n1 n2 n3 O K (vals Z) nv (vals Y) = false) := Lib.hid (by unfold fitsS; rw [hs]; rfl)
    go_enter Try.func49, Try.ntmps49
    go_wp2_with fail
    go_at_call 43
    refine (implSp_any S a1 a2 a3 n1 c1 n2 c2 n3 c3 O K Z _ hn1 hn2 hn3 (h1.below B0 (Nat.le_refl _)) (h2.below B0 (Nat.le_refl _)) (h3.below B0 (Nat.le_refl _))).mono ?_
    rw [hs]
    rintro e w1 ⟨rfl, b1⟩
    have B1 := B0.trans (b1.mono B0.size)
    clear hs b1
    go_wp2_with fail
    go_ret
    exact ⟨by rw [HF.out]; first | done | rfl, B1⟩
  | true =>
    have HF : Hid (fitsS S n1 n2 n3 O K (vals Z) nv (vals Y) = (vecB nv (vals Y) && decide ((nv : Int) = S))) := Lib.hid (by unfold fitsS; rw [fitsS_vec hs, hs]; rfl)
    have X0 : BoxL (w.alloc (.cells #[.int .i64 S, .slice a1 n1 c1, .slice a2 n2 c2, .slice a3 n3 c3] 30)) w.heap.size [.int .i64 S, .slice a1 n1 c1, .slice a2 n2 c2, .slice a3 n3 c3] := BoxL.four (by simp [go_sem]) (by simp [go_sem]) (by simp [go_sem]) (by simp [go_sem])
    have HS := Lib.hid hs
    cases hvec : vecB nv (vals Y) with
    | false =>
      rw [hvec] at HF
      clear hs
      go_enter Try.func49, Try.ntmps49
      go_wp2_with fail
      go_at_call 43
      refine (implSp_any S a1 a2 a3 n1 c1 n2 c2 n3 c3 O K Z _ hn1 hn2 hn3 (h1.below B0 (Nat.le_refl _)) (h2.below B0 (Nat.le_refl _)) (h3.below B0 (Nat.le_refl _))).mono ?_
      rw [HS.out]
      rintro e w1 ⟨rfl, b1⟩
      have B1 := B0.trans (b1.mono B0.size)
      clear b1
      go_wp2_with fail
      go_at_call 70
      refine (implVector_any av nv cv Y _ hnv (hv.below B1 (Nat.le_refl _))).mono ?_
      rintro e w2 ⟨rfl, m2, rfl⟩
      rw [hvec]
      clear hvec
      go_wp2_with fail
      go_ret
      exact ⟨by rw [HF.out]; first | done | rfl, below_drewN B1 _⟩
    | true =>
      rw [hvec, Bool.true_and] at HF
      clear hs
      by_cases he : (nv : Int) = S
      · have hd : ((nv : Int) == S) = true := beq_iff_eq.2 he
        rw [decide_eq_true he] at HF
        have HE := Lib.hid he
        clear he
        go_enter Try.func49, Try.ntmps49
        go_wp2_with fail
        go_at_call 43
        refine (implSp_any S a1 a2 a3 n1 c1 n2 c2 n3 c3 O K Z _ hn1 hn2 hn3 (h1.below B0 (Nat.le_refl _)) (h2.below B0 (Nat.le_refl _)) (h3.below B0 (Nat.le_refl _))).mono ?_
        rw [HS.out]
        rintro e w1 ⟨rfl, b1⟩
        have B1 := B0.trans (b1.mono B0.size)
        have y0 := X0.below b1 (by simp) 0 _ rfl
        clear b1
        go_wp2_with fail
        go_at_call 70
        refine (implVector_any av nv cv Y _ hnv (hv.below B1 (Nat.le_refl _))).mono ?_
        rintro e w2 ⟨rfl, m2, rfl⟩
        rw [hvec]
        clear hvec
        go_wp2_with fail
        go_ret
        exact ⟨by rw [HF.out]; first | done | rfl, below_drewN B1 _⟩
      · have hd : ((nv : Int) == S) = false := beq_eq_false_iff_ne.2 he
        rw [decide_eq_false he] at HF
        have HE := Lib.hid he
        clear he
        go_enter Try.func49, Try.ntmps49
        go_wp2_with fail
        go_at_call 43
        refine (implSp_any S a1 a2 a3 n1 c1 n2 c2 n3 c3 O K Z _ hn1 hn2 hn3 (h1.below B0 (Nat.le_refl _)) (h2.below B0 (Nat.le_refl _)) (h3.below B0 (Nat.le_refl _))).mono ?_
        rw [HS.out]
        rintro e w1 ⟨rfl, b1⟩
        have B1 := B0.trans (b1.mono B0.size)
        have y0 := X0.below b1 (by simp) 0 _ rfl
        clear b1
        go_wp2_with fail
        go_at_call 70
        refine (implVector_any av nv cv Y _ hnv (hv.below B1 (Nat.le_refl _))).mono ?_
        rintro e w2 ⟨rfl, m2, rfl⟩
        rw [hvec]
        clear hvec
        go_wp2_with fail
        go_ret
        exact ⟨by rw [HF.out]; first | done | rfl, below_drewN B1 _⟩
set_option maxHeartbeats 1000000 in
theorem l05Fits_any (p : Nat) (S : Int) (a1 a2 a3 av : Option Addr) (n1 c1 n2 c2 n3 c3 nv cv : Nat) (O K : Nat → Int) (Z Y : Nat → Nat) (w : World) (hn1 : n1 ≤ 1048576) (hn2 : n2 ≤ 1048576) (hn3 : n3 ≤ 1048576) (hnv : nv ≤ 1048576) (hp : p < w.heap.size) (hX : BoxL w p [.int .i64 S, .slice a1 n1 c1, .slice a2 n2 c2, .slice a3 n3 c3]) (h1 : IS .i64 w a1 n1 c1 O) (h2 : IS .i64 w a2 n2 c2 K) (h3 : FS .f32 w a3 n3 c3 Z) (hv : FS .f32 w av nv cv Y) :
    Calls Try.prog 46 #[.pointer (some ⟨p, 0, none⟩), .slice av nv cv] w (BoolBel (fitsS S n1 n2 n3 O K (vals Z) nv (vals Y)) w) := by
  cases hs : spB S n1 n2 n3 O K (vals Z) with
  | false =>
    have HF : Hid (fitsS S n1 n2 n3 O K (vals Z) nv (vals Y) = false) := Lib.hid (by unfold fitsS; rw [hs]; rfl)
    go_enter Try.func46, Try.ntmps46
    go_wp2_with fail
    go_at_call 39
    refine (specSp_any p S a1 a2 a3 n1 c1 n2 c2 n3 c3 O K Z _ hn1 hn2 hn3 hp hX h1 h2 h3).mono ?_
    rw [hs]
    rintro e w1 ⟨rfl, b1⟩
    clear hs
    go_wp2_with fail
    go_ret
    exact ⟨by rw [HF.out]; first | done | rfl, b1⟩
  | true =>
    have HF : Hid (fitsS S n1 n2 n3 O K (vals Z) nv (vals Y) = (decide ((nv : Int) = S) && allFin (vals Y) nv)) := Lib.hid (by unfold fitsS; rw [hs]; rfl)
    have HS := Lib.hid hs
    clear hs
    by_cases he : (nv : Int) = S
    · have hd : ((nv : Int) == S) = true := beq_iff_eq.2 he
      rw [decide_eq_true he, Bool.true_and] at HF
      have HE := Lib.hid he
      clear he
      go_enter Try.func46, Try.ntmps46
      go_wp2_with fail
      go_at_call 39
      refine (specSp_any p S a1 a2 a3 n1 c1 n2 c2 n3 c3 O K Z _ hn1 hn2 hn3 hp hX h1 h2 h3).mono ?_
      rw [HS.out]
      rintro e w1 ⟨rfl, b1⟩
      have y0 := hX.below b1 hp 0 _ rfl
      go_wp2_with fail
      go_at_call 63
      refine (specFin_any av nv cv Y _ hnv (hv.below b1 (Nat.le_refl _))).mono ?_
      rintro e w2 ⟨rfl, m2, rfl⟩
      cases hf : allFin (vals Y) nv
      all_goals
        rw [hf] at HF
        clear hf
        go_wp2_with fail
        go_ret
        exact ⟨by rw [HF.out]; first | done | rfl, below_drewN b1 _⟩
    · have hd : ((nv : Int) == S) = false := beq_eq_false_iff_ne.2 he
      rw [decide_eq_false he, Bool.false_and] at HF
      have HE := Lib.hid he
      clear he
      go_enter Try.func46, Try.ntmps46
      go_wp2_with fail
      go_at_call 39
      refine (specSp_any p S a1 a2 a3 n1 c1 n2 c2 n3 c3 O K Z _ hn1 hn2 hn3 hp hX h1 h2 h3).mono ?_
      rw [HS.out]
      rintro e w1 ⟨rfl, b1⟩
      have y0 := hX.below b1 hp 0 _ rfl
      go_wp2_with fail
      go_ret
      exact ⟨by rw [HF.out]; first | done | rfl, b1⟩
theorem implSpT_no (S : Int) (a1 a2 a3 av : Option Addr) (n1 c1 n2 c2 n3 c3 nv cv : Nat) (O K : Nat → Int) (Z Y : Nat → Nat) (w : World) (hn1 : n1 ≤ 1048576) (hn2 : n2 ≤ 1048576) (hn3 : n3 ≤ 1048576) (hnv : nv ≤ 1048576) (h1 : IS .i64 w a1 n1 c1 O) (h2 : IS .i64 w a2 n2 c2 K) (h3 : FS .f32 w a3 n3 c3 Z) (hv : FS .f32 w av nv cv Y) (hno : fitsS S n1 n2 n3 O K (vals Z) nv (vals Y) = false) :
    Calls Try.prog 17 #[.agg #[.int .i64 S, .slice a1 n1 c1, .slice a2 n2 c2, .slice a3 n3 c3], .slice av nv cv] w (NumsOwn false 0 (fun _ => none) w) := by
  have B0 : Below w.heap.size w (w.alloc (.cells #[.int .i64 S, .slice a1 n1 c1, .slice a2 n2 c2, .slice a3 n3 c3] 30)) := (by repeat first | (with_reducible exact Below.refl _ _) | (with_reducible refine Below.setCell ?_ (by first | exact Nat.le_refl _ | (simp; done) | (simp; omega) | omega) _) | (with_reducible refine Below.alloc ?_ (by first | exact Nat.le_refl _ | (simp; done) | (simp; omega) | omega) _) | (with_reducible refine below_drewN ?_ _) | (with_reducible refine Below.drew ?_))
  have HNO := Lib.hid hno
  clear hno
  go_enter Try.func17, Try.ntmps17
  go_wp2_with fail
  go_at_call 49
  refine (fitsSide_any S a1 a2 a3 av n1 c1 n2 c2 n3 c3 nv cv O K Z Y _ hn1 hn2 hn3 hnv (h1.below B0 (Nat.le_refl _)) (h2.below B0 (Nat.le_refl _)) (h3.below B0 (Nat.le_refl _)) (hv.below B0 (Nat.le_refl _))).mono ?_
  rw [HNO.out]
  rintro e w1 ⟨rfl, b1⟩
  have B1 := B0.trans (b1.mono B0.size)
  go_wp2_with fail
  go_ret2
  exact NumsOwn.noS B1
set_option maxRecDepth 20000 in
set_option maxHeartbeats 4000000 in
theorem implSpT_yes (s n1 n2 b1 o1 c1 c2 c3 nv cv : Nat) (a2 a3 av : Option Addr) (O K : Nat → Int) (Z Y : Nat → Nat) (w : World) (hs1 : 1 ≤ s) (hs : s ≤ 32) (hn1 : n1 = s + 1) (hn2 : n2 ≤ 512) (h00 : O 0 = 0) (hOs : O s = (n2 : Int)) (hso : sortB O s = true) (hro : rowsB O K s s = true) (hnv : nv = s) (hok : fitsS s n1 n2 n2 O K (vals Z) nv (vals Y) = true)
    (h1 : IS .i64 w (some ⟨b1, o1, none⟩) n1 c1 O) (h2 : IS .i64 w a2 n2 c2 K) (h3 : FS .f32 w a3 n2 c3 Z) (hv : FS .f32 w av nv cv Y) :
    Calls Try.prog 17 #[.agg #[.int .i64 (s : Int), .slice (some ⟨b1, o1, none⟩) n1 c1, .slice a2 n2 c2, .slice a3 n2 c3], .slice av nv cv] w (NOwnIf (allFin (spT O K Z Y) s) s (spT O K Z Y) w) := by
  obtain ⟨i0, hi, hz0, hz1, hz2⟩ := info_parts info32
  have HR := Lib.hid (fun (i : Nat) (hi : i < s) => sp_row h00 hOs hso hro hi)
  have HN1 := Lib.hid hn1
  have HNV := Lib.hid hnv
  have HOK := Lib.hid hok
  have hn1b : n1 ≤ 1048576 := by omega
  have hnvb : nv ≤ 1048576 := by omega
  clear h00 hOs hso hro hn1 hnv hok
  go_enter Try.func17, Try.ntmps17
  go_wp2_with fail
  generalize hwa : w.alloc (.cells #[.int .i64 (s : Int), .slice (some ⟨b1, o1, none⟩) n1 c1, .slice a2 n2 c2, .slice a3 n2 c3] 30) = wa
  have Ba : Below w.heap.size w wa := by rw [← hwa]; exact (by repeat first | (with_reducible exact Below.refl _ _) | (with_reducible refine Below.setCell ?_ (by first | exact Nat.le_refl _ | (simp; done) | (simp; omega) | omega) _) | (with_reducible refine Below.alloc ?_ (by first | exact Nat.le_refl _ | (simp; done) | (simp; omega) | omega) _) | (with_reducible refine below_drewN ?_ _) | (with_reducible refine Below.drew ?_))
  have sa : w.heap.size < wa.heap.size := by rw [← hwa]; simp
  have Xa : BoxL wa w.heap.size [.int .i64 (s : Int), .slice (some ⟨b1, o1, none⟩) n1 c1, .slice a2 n2 c2, .slice a3 n2 c3] := by rw [← hwa]; exact BoxL.four (by simp [go_sem]) (by simp [go_sem]) (by simp [go_sem]) (by simp [go_sem])
  clear hwa
  go_at_call 49
  refine (fitsSide_any s _ a2 a3 av n1 c1 n2 c2 n2 c3 nv cv O K Z Y _ hn1b (by omega) (by omega) hnvb (h1.below Ba (Nat.le_refl _)) (h2.below Ba (Nat.le_refl _)) (h3.below Ba (Nat.le_refl _)) (hv.below Ba (Nat.le_refl _))).mono ?_
  rw [HOK.out]
  rintro e w2 ⟨rfl, b2⟩
  have B2 := Ba.trans (b2.mono Ba.size)
  have X2 := Xa.below b2 sa
  have s2 : w.heap.size < w2.heap.size := by have := b2.size; omega
  have y0 := X2 0 _ rfl
  clear b2 Xa Ba
  go_wp2_with (at_make; refine wpList_make_full _ rfl _ _ 23 rfl w2.heap.size 27 i0 (.float .f32 0) 1 Try.underlying23 hi hz0 hz1 _ _ _ _ s rfl rfl rfl rfl ?b2 ?b3 (Nat.le_refl _) ?_)
  case b2 => rw [hz2]; omega
  case b3 => unfold maxLen; omega
  intro w0 hown0 hgrow0
  have hU := (hown0.lt w2.heap.size rfl).2
  have o0 := own_zero (w := w2) (U := w0.heap.size) hown0 (Nat.le_refl _) hU (Nat.le_refl _) (by unfold maxLen; omega)
  have b0 : Below w2.heap.size w2 w0 := (Below.refl _ _).grown hgrow0 (Nat.le_refl _) (fun k h => by cases h)
  clear hown0 hgrow0 y0
  go_wp2
  go_loopw [17] (fun i wr => ∃ (j : Nat) (X : Nat → Nat), j ≤ s ∧ i = .int .i64 j ∧ (∀ t, t < j → FV .f32 (X t) (spT O K Z Y t)) ∧ Own 27 .f32 w2.heap.size w0.heap.size wr (some ⟨w2.heap.size, 0, none⟩) s s X ∧ Below w2.heap.size w2 wr) (fun i _ => s - (intOf i).toNat)
  case atStart => exact ⟨0, _, Nat.zero_le _, rfl, fun t ht => absurd ht (Nat.not_lt_zero _), o0, b0⟩
  case round =>
    obtain ⟨j, X, hj, rfl, hV, hk, hb⟩ := hrel
    have hV' := Lib.hid hV
    clear o0 b0 hV
    have hk' := Lib.hid hk
    have hb' := Lib.hid hb
    by_cases hlt : j < s
    · obtain ⟨A, m, hA, hAm, hAn, hcol⟩ := HR.out j hlt
      have HT : Hid (spT O K Z Y j = spRow K Z Y A m) := Lib.hid (spT_of hA hAm)
      have BB := B2.trans (hb.mono B2.size)
      have XR := X2.below hb s2
      have y0 := XR 0 _ rfl
      have y1 := XR 1 _ rfl
      have y2 := XR 2 _ rfl
      have y3 := XR 3 _ rfl
      have hrow := timesRow_any s A m n1 n2 b1 o1 c1 c2 c3 j nv cv a2 a3 av O K Z Y wr hn1b (by have := HN1.out; omega) hA hAm hAn hn2 HNV.out hs (fun t ht => col_in (K := fun t => K (A + t)) hcol ht) (h1.below BB (Nat.le_refl _)) (h2.below BB (Nat.le_refl _)) (h3.below BB (Nat.le_refl _)) (hv.below BB (Nat.le_refl _))
      clear hA hAm hcol XR hk hb BB
      go_wp2_with fail
      go_at_call 50
      refine hrow.mono ?_
      rintro e w3 ⟨rr, rfl, hrr, b3⟩
      have B3 := hb'.out.trans (b3.mono hb'.out.size)
      have hk3 := hk'.out.kept (below_grew b3) (fun q hq => by cases hq)
      obtain ⟨hce, hfr, _⟩ := hk3.cell hlt
      obtain ⟨hst, hgr⟩ := hk3.stored (t := j) (v := rr) hlt hrr.2
      have hst' : Hid (Own 27 .f32 w2.heap.size w0.heap.size (w3.setCell ⟨w2.heap.size, j, none⟩ (.float .f32 rr)) (some ⟨w2.heap.size, 0, none⟩) s s (fun t => if t = j then rr else X t)) := Lib.hid hst
      have hb4 : Hid (Below w2.heap.size w2 (w3.setCell ⟨w2.heap.size, j, none⟩ (.float .f32 rr))) := Lib.hid (B3.setCell (Nat.le_refl _) _)
      have hvn : Hid (∀ t, t < j + 1 → FV .f32 (if t = j then rr else X t) (spT O K Z Y t)) := by
        refine Lib.hid fun t ht => ?_
        by_cases e : t = j
        · subst e; rw [if_pos rfl, HT.out]; exact hrr
        · rw [if_neg e]; exact hV'.out t (by omega)
      generalize X j = old at hce
      clear hst hgr hk3 B3 b3 hrow hk' hb' y0 y1 y2 y3
      go_wp2
      go_roundw
      case rel => exact ⟨j + 1, _, by omega, by go_num, hvn.out, hst'.out, hb4.out⟩
      case measure => simp [intOf]; omega
    · obtain rfl : j = s := by omega
      have hvec : vecB j (vals X) = allFin (spT O K Z Y) j := by
        rw [vec_lenS hs1 (by omega)]
        exact allFin_congr fun t ht => (hV'.out t ht).1
      have hU2 : w0.heap.size ≤ wr.heap.size := (hk.cell (show 0 < j by omega)).2.2.2.2.1
      have hb2 := Lib.hid (B2.trans (hb.mono B2.size))
      have hs2 := B2.size
      have hfs := hk.fs
      clear hk hb hb'
      cases hf : allFin (spT O K Z Y) j with
      | true =>
        rw [hf] at hvec
        go_wp2_with fail
        go_at_call 51
        refine (vectorResult_yes _ j j X _ (by omega) hfs hvec).mono ?_
        rintro e w3 ⟨rfl, q3, rfl⟩
        go_wp2_with fail
        go_ret2
        exact NOwnIf.yes hf ⟨_, _, _, rfl, Own.mono (U := w0.heap.size) (B := w2.heap.size) hk'.out hs2 hU2 (Nat.le_refl _), fun i hi => (hV'.out i hi).1, below_drewN hb2.out _⟩
      | false =>
        rw [hf] at hvec
        go_wp2_with fail
        go_at_call 51
        refine (vectorResult_no _ j j X _ (by omega) hfs hvec).mono ?_
        rintro e w3 ⟨rfl, q3, rfl⟩
        go_wp2_with fail
        go_ret2
        exact NOwnIf.no hf (NumsOwn.noS (below_drewN hb2.out _))
theorem specSpT_no (S : Int) (a1 a2 a3 av : Option Addr) (n1 c1 n2 c2 n3 c3 nv cv : Nat) (O K : Nat → Int) (Z Y : Nat → Nat) (w : World) (hn1 : n1 ≤ 1048576) (hn2 : n2 ≤ 1048576) (hn3 : n3 ≤ 1048576) (hnv : nv ≤ 1048576) (h1 : IS .i64 w a1 n1 c1 O) (h2 : IS .i64 w a2 n2 c2 K) (h3 : FS .f32 w a3 n3 c3 Z) (hv : FS .f32 w av nv cv Y) (hno : fitsS S n1 n2 n3 O K (vals Z) nv (vals Y) = false) :
    Calls Try.prog 15 #[.agg #[.int .i64 S, .slice a1 n1 c1, .slice a2 n2 c2, .slice a3 n3 c3], .slice av nv cv] w (NumsBel false 0 (fun _ => none) w) := by
  have B0 : Below w.heap.size w (w.alloc (.cells #[.int .i64 S, .slice a1 n1 c1, .slice a2 n2 c2, .slice a3 n3 c3] 30)) := (by repeat first | (with_reducible exact Below.refl _ _) | (with_reducible refine Below.setCell ?_ (by first | exact Nat.le_refl _ | (simp; done) | (simp; omega) | omega) _) | (with_reducible refine Below.alloc ?_ (by first | exact Nat.le_refl _ | (simp; done) | (simp; omega) | omega) _) | (with_reducible refine below_drewN ?_ _) | (with_reducible refine Below.drew ?_))
  have HNO := Lib.hid hno
  clear hno
  go_enter Try.func15, Try.ntmps15
  go_wp2_with fail
  go_at_call 46
  refine (l05Fits_any _ S a1 a2 a3 av n1 c1 n2 c2 n3 c3 nv cv O K Z Y _ hn1 hn2 hn3 hnv (by simp) (BoxL.four (by simp [go_sem]) (by simp [go_sem]) (by simp [go_sem]) (by simp [go_sem])) (h1.below B0 (Nat.le_refl _)) (h2.below B0 (Nat.le_refl _)) (h3.below B0 (Nat.le_refl _)) (hv.below B0 (Nat.le_refl _))).mono ?_
  rw [HNO.out]
  rintro e w1 ⟨rfl, b1⟩
  have B1 := B0.trans (b1.mono B0.size)
  go_wp2_with fail
  go_ret2
  exact NumsBel.noS B1
set_option maxHeartbeats 1000000 in
theorem specSpT_yes (s n1 n2 b1 o1 c1 c2 c3 nv cv : Nat) (a2 a3 av : Option Addr) (O K : Nat → Int) (Z Y : Nat → Nat) (w : World) (hs1 : 1 ≤ s) (hs : s ≤ 32) (hn1 : n1 = s + 1) (hn2 : n2 ≤ 512) (h00 : O 0 = 0) (hOs : O s = (n2 : Int)) (hso : sortB O s = true) (hro : rowsB O K s s = true) (hnv : nv = s) (hok : fitsS s n1 n2 n2 O K (vals Z) nv (vals Y) = true)
    (h1 : IS .i64 w (some ⟨b1, o1, none⟩) n1 c1 O) (h2 : IS .i64 w a2 n2 c2 K) (h3 : FS .f32 w a3 n2 c3 Z) (hv : FS .f32 w av nv cv Y) :
    Calls Try.prog 15 #[.agg #[.int .i64 (s : Int), .slice (some ⟨b1, o1, none⟩) n1 c1, .slice a2 n2 c2, .slice a3 n2 c3], .slice av nv cv] w (NBelIf (allFin (spT O K Z Y) s) s (spT O K Z Y) w) := by
  have B0 : Below w.heap.size w (w.alloc (.cells #[.int .i64 (s : Int), .slice (some ⟨b1, o1, none⟩) n1 c1, .slice a2 n2 c2, .slice a3 n2 c3] 30)) := (by repeat first | (with_reducible exact Below.refl _ _) | (with_reducible refine Below.setCell ?_ (by first | exact Nat.le_refl _ | (simp; done) | (simp; omega) | omega) _) | (with_reducible refine Below.alloc ?_ (by first | exact Nat.le_refl _ | (simp; done) | (simp; omega) | omega) _) | (with_reducible refine below_drewN ?_ _) | (with_reducible refine Below.drew ?_))
  have X0 : BoxL (w.alloc (.cells #[.int .i64 (s : Int), .slice (some ⟨b1, o1, none⟩) n1 c1, .slice a2 n2 c2, .slice a3 n2 c3] 30)) w.heap.size [.int .i64 (s : Int), .slice (some ⟨b1, o1, none⟩) n1 c1, .slice a2 n2 c2, .slice a3 n2 c3] := BoxL.four (by simp [go_sem]) (by simp [go_sem]) (by simp [go_sem]) (by simp [go_sem])
  have HN1 := Lib.hid hn1
  have HNV := Lib.hid hnv
  have HOK := Lib.hid hok
  have H00 := Lib.hid h00
  have HOS := Lib.hid hOs
  have HSO := Lib.hid hso
  have HRO := Lib.hid hro
  have hn1b : n1 ≤ 1048576 := by omega
  have hnvb : nv ≤ 1048576 := by omega
  clear h00 hOs hso hro hn1 hnv hok
  go_enter Try.func15, Try.ntmps15
  go_wp2_with fail
  go_at_call 46
  refine (l05Fits_any _ s _ a2 a3 av n1 c1 n2 c2 n2 c3 nv cv O K Z Y _ hn1b (by omega) (by omega) hnvb (by simp) X0 (h1.below B0 (Nat.le_refl _)) (h2.below B0 (Nat.le_refl _)) (h3.below B0 (Nat.le_refl _)) (hv.below B0 (Nat.le_refl _))).mono ?_
  rw [HOK.out]
  rintro e w1 ⟨rfl, b1⟩
  have B1 := B0.trans (b1.mono B0.size)
  have X1 := X0.below b1 (by simp)
  have s1 : w.heap.size < w1.heap.size := by have := b1.size; simp at this; omega
  clear X0 B0 b1
  go_wp2_with fail
  go_at_call 48
  refine (l05Times_any _ s n1 n2 b1 o1 c1 c2 c3 nv cv a2 a3 av O K Z Y _ hs1 hs HN1.out hn2 H00.out HOS.out HSO.out HRO.out HNV.out s1 X1 (h1.below B1 (Nat.le_refl _)) (h2.below B1 (Nat.le_refl _)) (h3.below B1 (Nat.le_refl _)) (hv.below B1 (Nat.le_refl _))).mono ?_
  rintro e w2 ⟨a, c, X, rfl, hX, hV, b2⟩
  have B2 := B1.trans (b2.mono B1.size)
  have HV := Lib.hid hV
  have hfin : allFin (vals X) s = allFin (spT O K Z Y) s := allFin_congr hV
  clear hV b2 B1 X1
  cases hf : allFin (spT O K Z Y) s with
  | true =>
    rw [hf] at hfin
    go_wp2_with fail
    go_at_call 47
    refine (listS_yes _ s c X _ (by omega) hX hfin).mono ?_
    rintro e w3 ⟨rfl, m3, rfl⟩
    go_wp2_with fail
    go_ret2
    exact NBelIf.yes hf ⟨_, _, X, rfl, FS.drewN hX, HV.out, below_drewN B2 _⟩
  | false =>
    rw [hf] at hfin
    go_wp2_with fail
    go_at_call 47
    refine (listS_no _ s c X _ (by omega) hX hfin).mono ?_
    rintro e w3 ⟨rfl, m3, rfl⟩
    go_wp2_with fail
    go_ret2
    exact NBelIf.no hf (NumsBel.noS (below_drewN B2 _))
theorem fitsS_nat {S : Int} {n1 n2 n3 nv : Nat} {O K : Nat → Int} {V Y : Nat → Option Nat} (h : fitsS S n1 n2 n3 O K V nv Y = true) : ∃ s : Nat, S = s ∧ 1 ≤ s ∧ s ≤ 32 ∧ n1 = s + 1 ∧ n2 ≤ 512 ∧ n3 = n2 ∧ O 0 = 0 ∧ O s = (n2 : Int) ∧ sortB O s = true ∧ rowsB O K s s = true ∧ nv = s := by
  have h' := h
  unfold fitsS at h
  simp only [Bool.and_eq_true, decide_eq_true_eq] at h
  obtain ⟨s, rfl, q1, q2, q3, q4, q5, _, q7, q8, q9, q10⟩ := sp_nat h.1
  exact ⟨s, rfl, q1, q2, q3, q4, q5, q7, q8, q9, q10, by have := h.2.1; omega⟩
theorem keySparseTimes (S : Int) (n1 : Nat) (O : Nat → Int) (n2 : Nat) (K : Nat → Int) (n3 : Nat) (Z : Nat → Nat) (nv : Nat) (Y : Nat → Nat) (wS : (Lit.int .i64 S).wf = true) (hn1 : n1 ≤ 1048576) (hn2 : n2 ≤ 1048576) (hn3 : n3 ≤ 1048576) (hnv : nv ≤ 1048576) : ∃ (ok : Bool) (n' : Nat) (V : Nat → Option Nat), n' ≤ 144 ∧
    (∀ a1 c1 a2 c2 a3 c3 av cv W, IS .i64 W a1 n1 c1 O → IS .i64 W a2 n2 c2 K → FS .f32 W a3 n3 c3 Z → FS .f32 W av nv cv Y → Calls Try.prog 15 #[.agg #[.int .i64 S, .slice a1 n1 c1, .slice a2 n2 c2, .slice a3 n3 c3], .slice av nv cv] W (NumsBel ok n' V W)) ∧
    (∀ a1 c1 a2 c2 a3 c3 av cv W, IS .i64 W a1 n1 c1 O → IS .i64 W a2 n2 c2 K → FS .f32 W a3 n3 c3 Z → FS .f32 W av nv cv Y → Calls Try.prog 17 #[.agg #[.int .i64 S, .slice a1 n1 c1, .slice a2 n2 c2, .slice a3 n3 c3], .slice av nv cv] W (NumsOwn ok n' V W)) := by
  cases hh : fitsS S n1 n2 n3 O K (vals Z) nv (vals Y) with
  | false => exact ⟨false, 0, fun _ => none, by omega, fun a1 c1 a2 c2 a3 c3 av cv W h1 h2 h3 hv => specSpT_no S a1 a2 a3 av n1 c1 n2 c2 n3 c3 nv cv O K Z Y W hn1 hn2 hn3 hnv h1 h2 h3 hv hh, fun a1 c1 a2 c2 a3 c3 av cv W h1 h2 h3 hv => implSpT_no S a1 a2 a3 av n1 c1 n2 c2 n3 c3 nv cv O K Z Y W hn1 hn2 hn3 hnv h1 h2 h3 hv hh⟩
  | true =>
    obtain ⟨s, rfl, q1, q2, q3, q4, rfl, q7, q8, q9, q10, q11⟩ := fitsS_nat hh
    have k1 : ∀ a1 c1 a2 c2 a3 c3 av cv W, IS .i64 W a1 n1 c1 O → IS .i64 W a2 n3 c2 K → FS .f32 W a3 n3 c3 Z → FS .f32 W av nv cv Y → Calls Try.prog 15 #[.agg #[.int .i64 (s : Int), .slice a1 n1 c1, .slice a2 n3 c2, .slice a3 n3 c3], .slice av nv cv] W (NBelIf (allFin (spT O K Z Y) s) s (spT O K Z Y) W) := fun a1 c1 a2 c2 a3 c3 av cv W h1 h2 h3 hv => by
      obtain ⟨b1, o1, rfl, _⟩ := h1.at (show 0 < n1 by omega)
      exact specSpT_yes s n1 n3 b1 o1 c1 c2 c3 nv cv a2 a3 av O K Z Y W q1 q2 q3 q4 q7 q8 q9 q10 q11 hh h1 h2 h3 hv
    have k2 : ∀ a1 c1 a2 c2 a3 c3 av cv W, IS .i64 W a1 n1 c1 O → IS .i64 W a2 n3 c2 K → FS .f32 W a3 n3 c3 Z → FS .f32 W av nv cv Y → Calls Try.prog 17 #[.agg #[.int .i64 (s : Int), .slice a1 n1 c1, .slice a2 n3 c2, .slice a3 n3 c3], .slice av nv cv] W (NOwnIf (allFin (spT O K Z Y) s) s (spT O K Z Y) W) := fun a1 c1 a2 c2 a3 c3 av cv W h1 h2 h3 hv => by
      obtain ⟨b1, o1, rfl, _⟩ := h1.at (show 0 < n1 by omega)
      exact implSpT_yes s n1 n3 b1 o1 c1 c2 c3 nv cv a2 a3 av O K Z Y W q1 q2 q3 q4 q7 q8 q9 q10 q11 hh h1 h2 h3 hv
    generalize allFin (spT O K Z Y) s = ok at k1 k2
    cases ok
    · exact ⟨false, 0, fun _ => none, by omega, k1, k2⟩
    · exact ⟨true, s, spT O K Z Y, by omega, k1, k2⟩
end Go.Proofs.Ytmjlhmbnaifhaab
