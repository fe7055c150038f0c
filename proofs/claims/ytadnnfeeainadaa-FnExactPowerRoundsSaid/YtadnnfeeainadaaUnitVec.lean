/- Helper: vectors of the length 1, of the program and of its reference. Conditions: none. -/
import Derived.Test.YtadnnfeeainadaaUnitFacts
import Derived.Test.YtadnnfeeainadaaRootWalks
import Derived.Test.YtadnnfeeainadaaMatWalks
import Derived.Test.YtadnnfeeainadaaMid
import Derived.Test.YtadnnfeeainadaaWork
import Derived.Test.YtadnnfeeainadaaNums
set_option linter.unusedVariables false
set_option linter.unusedSimpArgs false
namespace Go.Proofs.Ytadnnfeeainadaa
open Go.RowKit

section
open Ieee
/-- The length of a vector. -/
def lenN (n : Nat) (V : Nat → Option Nat) : Option Nat := narrow (fsqrt (widen (dotG V V n)))
def unitOk (n : Nat) (V : Nat → Option Nat) : Bool := vecB n V && (finite .f32 (lenN n V) && (ford .f32 (lenN n V) (some 0) == some .gt))
def unitV (n : Nat) (V : Nat → Option Nat) (t : Nat) : Option Nat := fop .quo .f32 (V t) (lenN n V)
theorem sq_pz {X : Option Nat} (h : finite .f32 X = true) : Pz (fop .mul .f32 X X) := by
  cases X with
  | none => cases h
  | some x =>
    rcases read_single x with ⟨s, hr⟩ | ⟨s, t, hr⟩ | ⟨s, m, e, hr, hm, h1, h2⟩
    · exfalso; unfold finite at h; simp only at h; have hr' : FloatKind.f32.decode x = .infinity s := hr; rw [hr'] at h; cases h
    · exfalso; unfold finite at h; simp only at h; have hr' : FloatKind.f32.decode x = .nan s t := hr; rw [hr'] at h; cases h
    · have es : fop .mul .f32 (some x) (some x) = ((single.read x).product (single.read x)).map single.write := rfl
      rw [es, hr]
      refine ⟨_, rfl, ?_⟩
      have e0 : (s != s) = false := by cases s <;> rfl
      show single.nearest (s != s) (m * m) (e + e) ≤ 2139095040
      rw [e0]
      exact nearest_pz _ _
theorem fin_lt {r : Nat} (h : finite .f32 (some r) = true) (h2 : r ≤ 2139095040) : r < 2139095040 := by
  rcases Nat.lt_or_ge r 2139095040 with q | q
  · exact q
  · have : r = 2139095040 := by omega
    subst this
    exfalso
    have h3 : finite .f32 (some 2139095040) = false := by decide +kernel
    rw [h3] at h; cases h
theorem unit_fin {n : Nat} {V : Nat → Option Nat} (hf : allFin V n = true) (hl : finite .f32 (lenN n V) = true) (hg : (ford .f32 (lenN n V) (some 0) == some .gt) = true) : ∀ t, t < n → finite .f32 (unitV n V t) = true := by
  intro t ht
  have hfs : ∀ k, k < n → finite .f32 (V k) = true := fun k hk => allFin_lt hf hk
  have hps : ∀ k, k < n → Pz (fop .mul .f32 (V k) (V k)) := fun k hk => sq_pz (hfs k hk)
  obtain ⟨q, hS, hq⟩ := dot_pz (V := V) (n := n) hfs hps
  have hq0 : q ≠ 0 := by
    intro e
    subst e
    unfold lenN at hg
    rw [hS] at hg
    have : (ford .f32 (narrow (fsqrt (widen (some 0)))) (some 0) == some .gt) = false := by decide +kernel
    rw [this] at hg; cases hg
  have hqi : q < 2139095040 := by
    rcases Nat.lt_or_ge q 2139095040 with z | z
    · exact z
    · have : q = 2139095040 := by omega
      subst this
      exfalso
      unfold lenN at hl
      rw [hS] at hl
      have : finite .f32 (narrow (fsqrt (widen (some 2139095040)))) = false := by decide +kernel
      rw [this] at hl; cases hl
  obtain ⟨m, e, hr, hm, he1, he2⟩ : ∃ m e, single.read q = .number false m e ∧ m < 16777216 ∧ -149 ≤ e ∧ e ≤ 104 := by
    rcases read_single q with ⟨s, hr⟩ | ⟨s, t, hr⟩ | ⟨s, m, e, hr, hm, h1, h2⟩
    · exfalso
      rcases read_pz hq with h | ⟨m, e, h⟩
      · obtain ⟨e1, e2, e3, e4⟩ := single_consts
        have hmq : q % 2147483648 = q := Nat.mod_eq_of_lt (by omega)
        unfold Format.read at hr
        simp only [e1, e2, e3, e4, hmq] at hr
        split at hr
        · cases hr
        · first | (rw [if_pos hqi] at hr; cases hr) | cases hr
      · rw [h] at hr; cases hr
    · exfalso
      rcases read_pz hq with h | ⟨m, e, h⟩ <;> rw [h] at hr <;> cases hr
    · rcases read_pz hq with h | ⟨m', e', h⟩
      · rw [h] at hr; cases hr
      · rw [h] at hr
        simp only [Datum.number.injEq] at hr
        obtain ⟨rfl, rfl, rfl⟩ := hr
        exact ⟨_, _, h, hm, h1, h2⟩
  have hm0 : m ≠ 0 := by
    intro e0
    subst e0
    obtain ⟨w1, _⟩ := write_read_single hr
    have hz : single.nearest false 0 e = 0 := by unfold Format.nearest Format.word; simp
    rw [hz] at w1
    have hmq : q % 2147483648 = q := Nat.mod_eq_of_lt (by omega)
    omega
  have hVt := hfs t ht
  cases hV : V t with
  | none => rw [hV] at hVt; cases hVt
  | some x =>
    rw [hV] at hVt
    rcases read_single x with ⟨s, hx⟩ | ⟨s, u, hx⟩ | ⟨s, mx, ex, hx, hmx, h1, h2⟩
    · exfalso; unfold finite at hVt; simp only at hVt; have hr' : FloatKind.f32.decode x = .infinity s := hx; rw [hr'] at hVt; cases hVt
    · exfalso; unfold finite at hVt; simp only at hVt; have hr' : FloatKind.f32.decode x = .nan s u := hx; rw [hr'] at hVt; cases hVt
    · have hL : lenN n V = narrow (fsqrt (widen (some q))) := by unfold lenN; rw [hS]
      unfold unitV
      rw [hV, hL]
      rw [hL] at hl
      have go : ∀ (i j : Int), (mx = 0 ∨ (mx.log2 : Int) + ex < i) → 2 * j ≤ (m.log2 : Int) + e → -126 ≤ j → j ≤ 64 → i - j ≤ 127 → finite .f32 (fop .quo .f32 (some x) (narrow (fsqrt (widen (some q))))) = true := by
        intro i j hi hj hj1 hj2 hij
        obtain ⟨r, hr1, hr2, hr3⟩ := root_ge hr hm0 hm he1 he2 hj hj1 hj2
        rw [hr1] at hl ⊢
        have hlt := fin_lt hl hr3
        obtain ⟨nn, f, hrr, hn0, hnj⟩ := read_ge32 hlt hr2 hj1
        have hn2 : nn < 16777216 := by
          rcases read_single r with ⟨s, z⟩ | ⟨s, u, z⟩ | ⟨s, m3, e3, z, z1, _⟩
          · rw [hrr] at z; cases z
          · rw [hrr] at z; cases z
          · rw [hrr] at z
            simp only [Datum.number.injEq] at z
            obtain ⟨_, rfl, _⟩ := z
            exact z1
        exact quo_fin hx hrr hn0 hmx hn2 hi hnj hij
      by_cases hbig : mx ≠ 0 ∧ 50 ≤ (mx.log2 : Int) + ex
      · obtain ⟨q', hq1, hq2, hq3⟩ := dot_ge (V := V) (i := t) (by rw [hV]; exact sq_ge hx hbig.1 hbig.2) ht hfs hps
        rw [hS] at hq1
        simp only [Option.some.injEq] at hq1
        subst hq1
        obtain ⟨m', e', z1, z2, z3⟩ := read_ge32 hqi hq3 (by omega)
        rw [hr] at z1
        simp only [Datum.number.injEq, true_and] at z1
        obtain ⟨rfl, rfl⟩ := z1
        have hlm : mx.log2 < 24 := (Nat.log2_lt hbig.1).2 hmx
        exact go 128 50 (.inr (by omega)) (by omega) (by omega) (by omega) (by omega)
      · refine go 50 (-75) ?_ (by omega) (by omega) (by omega) (by omega)
        by_cases h0 : mx = 0
        · exact .inl h0
        · exact .inr (by
            rcases Int.lt_or_le ((mx.log2 : Int) + ex) 50 with z | z
            · exact z
            · exact absurd ⟨h0, z⟩ hbig)
end
theorem allFin_allU {V : Nat → Option Nat} : ∀ {n : Nat}, (∀ i, i < n → finite .f32 (V i) = true) → allFin V n = true
  | 0, _ => rfl
  | n + 1, h => by
    have h1 := allFin_allU (V := V) (n := n) fun i hi => h i (by omega)
    simp only [allFin, h1, h n (by omega), Bool.and_self]
theorem vec_parts {n : Nat} {V : Nat → Option Nat} (h : vecB n V = true) : 1 ≤ n ∧ n ≤ 256 ∧ allFin V n = true := by
  unfold vecB at h
  simp only [Bool.and_eq_true, decide_eq_true_eq] at h
  exact ⟨h.1, h.2.1, h.2.2⟩
theorem NumsOwn.noU {w w' : World} {V : Nat → Option Nat} (h : Below w.heap.size w w') : NumsOwn false 0 V w (.returned (.tuple #[.slice none 0 0, .bool false])) w' :=
  ⟨none, 0, fun _ => 0, rfl, .inl ⟨rfl, rfl, rfl⟩, fun i hi => absurd hi (Nat.not_lt_zero _), h⟩
theorem NumsBel.noU {w w' : World} {V : Nat → Option Nat} (h : Below w.heap.size w w') : NumsBel false 0 V w (.returned (.tuple #[.slice none 0 0, .bool false])) w' :=
  ⟨none, 0, fun _ => 0, rfl, ⟨Nat.le_refl _, Nat.zero_le _, fun i hi => absurd hi (Nat.not_lt_zero _)⟩, fun i hi => absurd hi (Nat.not_lt_zero _), h⟩
theorem vals_putU {X : Nat → Nat} {r q : Nat} (t : Nat) : vals (fun t => if t = q then r else X t) t = if t = q then cn .f32 r else vals X t := by
  show cn .f32 (if t = q then r else X t) = _
  by_cases e : t = q
  · rw [if_pos e, if_pos e]
  · rw [if_neg e, if_neg e]; rfl
set_option maxRecDepth 20000 in
set_option maxHeartbeats 1000000 in
theorem divide_any (n g d B U f : Nat) {F : Option Nat} (ff : FV .f32 f F) (X : Nat → Nat) (w : World) (hn : n ≤ 1048576) (o : Own 26 .f32 B U w (some ⟨g, 0, none⟩) n d X) :
    Calls Try.prog 70 #[.slice (some ⟨g, 0, none⟩) n d, .float .f32 f] w fun e w' => e = .returned (.tuple #[]) ∧ ∃ X2, Own 26 .f32 B U w' (some ⟨g, 0, none⟩) n d X2 ∧ (∀ t, t < n → vals X2 t = fop .quo .f32 (vals X t) F) ∧ w.grownBy w' (some g) := by
  have hd1 := (Own.fs o).1
  have hd2 := (Own.fs o).2.1
  have hd3 : d ≤ 9223372036854775807 := by unfold maxLen at hd2; omega
  go_enter Try.func70, Try.ntmps70
  go_wp2
  clear hd2
  go_loopw [7] (fun i wr => ∃ (q : Nat) (X2 : Nat → Nat), q ≤ n ∧ i = .int .i64 q ∧ Own 26 .f32 B U wr (some ⟨g, 0, none⟩) n d X2 ∧ (∀ t, t < n → vals X2 t = if t < q then fop .quo .f32 (vals X t) F else vals X t) ∧ w.grownBy wr (some g)) (fun i _ => n - (intOf i).toNat)
  case atStart => exact ⟨0, X, Nat.zero_le _, rfl, o, fun t ht => by rw [if_neg (by omega)], World.grownBy.refl _ _⟩
  case round =>
    obtain ⟨q, X2, hq, rfl, ho, hv, hg⟩ := hrel
    have hv' := Lib.hid hv
    clear o hv
    by_cases hq' : q < n
    · obtain ⟨hce, hfr, _⟩ := ho.cell hq'
      have hfx : FV .f32 (X2 q) (cn .f32 (X2 q)) := (ho.fs.at hq').elim fun _ q => q.elim fun _ q => q.2.2.2
      have HXY : Hid (cn .f32 (X2 q) = vals X q) := Lib.hid (by
        have e1 := hv'.out q hq'
        rw [if_neg (by omega)] at e1
        exact e1)
      generalize cn .f32 (X2 q) = XQ at hfx HXY
      have HO := Lib.hid ho
      have HG := Lib.hid hg
      clear ho hg
      go_wp2_with (refine wpList_farith rfl _ _ _ _ _ rfl rfl _ _ _ rfl rfl hfx ff ?_; intro r6 m6 hr6)
      obtain ⟨O4, G4⟩ := (show Own 26 .f32 B U (wr.drewN m6) (some ⟨g, 0, none⟩) n d X2 from HO.out).stored hq' hr6.2
      have G5 : Hid (w.grownBy ((wr.drewN m6).setCell ⟨g, q, none⟩ (.float .f32 r6)) (some g)) := Lib.hid (grownBy_trans HG.out ⟨G4.os, G4.tape, G4.output, G4.size, G4.block⟩)
      have O5 := Lib.hid O4
      clear O4 G4
      go_roundw
      case rel =>
        refine ⟨q + 1, _, by omega, by go_num, O5.out, fun t ht => ?_, G5.out⟩
        rw [vals_putU]
        by_cases e : t = q
        · rw [if_pos e, if_pos (by omega), e, hr6.1, HXY.out]
        · rw [if_neg e, hv'.out t ht]
          by_cases e2 : t < q
          · rw [if_pos e2, if_pos (by omega)]
          · rw [if_neg e2, if_neg (by omega)]
      case measure => simp [intOf]; omega
    · obtain rfl : q = n := by omega
      have hv2 : Hid (∀ t, t < q → vals X2 t = fop .quo .f32 (vals X t) F) := Lib.hid fun t ht => (hv'.out t ht).trans (if_pos ht)
      have HO := Lib.hid ho
      have HG := Lib.hid hg
      clear ho hg
      go_wp2
      go_end0
      exact ⟨rfl, X2, HO.out, hv2.out, HG.out⟩
set_option maxRecDepth 20000 in
set_option maxHeartbeats 2000000 in
theorem implUnit_any (a : Option Addr) (n c : Nat) (Z : Nat → Nat) (w : World) (hn : n ≤ 1048576) (h : FS .f32 w a n c Z) :
    Calls Try.prog 33 #[.slice a n c] w (NOwnIf (unitOk n (vals Z)) n (unitV n (vals Z)) w) := by
  have c0 : cn .f32 0 = some 0 := by kernel_rfl
  cases hv : vecB n (vals Z) with
  | false =>
    have HK : Hid (unitOk n (vals Z) = false) := Lib.hid (by unfold unitOk; rw [hv]; rfl)
    go_enter Try.func33, Try.ntmps33
    go_wp2_with fail
    go_at_call 67
    refine (implVector_any a n c Z _ hn h).mono ?_
    rw [hv]
    rintro e w1 ⟨rfl, m1, rfl⟩
    clear hv
    go_wp2_with fail
    go_ret2
    exact NOwnIf.no HK.out (NumsOwn.noU (by repeat first | (with_reducible exact Below.refl _ _) | (with_reducible refine Below.setCell ?_ (by first | exact Nat.le_refl _ | (simp; done) | (simp; omega) | omega) _) | (with_reducible refine Below.alloc ?_ (by first | exact Nat.le_refl _ | (simp; done) | (simp; omega) | omega) _) | (with_reducible refine below_drewN ?_ _) | (with_reducible refine Below.drew ?_)))
  | true =>
    obtain ⟨h1, h256, hfn⟩ := vec_parts hv
    obtain ⟨b0, off, rfl, _, _, _⟩ := h.at (show 0 < n by omega)
    have HK : Hid (∀ x, unitOk n (vals Z) = x ↔ (finite .f32 (lenN n (vals Z)) && (ford .f32 (lenN n (vals Z)) (some 0) == some .gt)) = x) := Lib.hid (fun x => by unfold unitOk; rw [hv]; exact Iff.rfl)
    go_enter Try.func33, Try.ntmps33
    go_wp2_with fail
    go_at_call 67
    refine (implVector_any _ n c Z _ hn h).mono ?_
    rw [hv]
    rintro e w1 ⟨rfl, m1, rfl⟩
    clear hv
    go_wp2_with fail
    go_at_call 68
    refine (implDot_any _ _ n _ n _ Z Z _ hn (Nat.le_refl _) hn (FS.drewN h) (FS.drewN h)).mono ?_
    rintro e w2 ⟨r, rfl, hr, m2, rfl⟩
    go_wp2_with fail
    go_at_call 50
    refine (implRoot_any _ hr _).mono ?_
    rintro e w3 ⟨r3, rfl, hr3, m3, rfl⟩
    have hr4 : FV .f32 r3 (lenN n (vals Z)) := hr3
    clear hr3 hr
    obtain ⟨LL, hLL⟩ : ∃ LL, LL = lenN n (vals Z) := ⟨_, rfl⟩
    rw [← hLL] at hr4
    have HL := Lib.hid hLL
    clear hLL
    have hLc := hr4.1
    go_wp2_with fail
    go_at_call 69
    refine (implIsFinite_any _ hr4 _).mono ?_
    rintro e w4 ⟨rfl, m4, rfl⟩
    cases hfl : finite .f32 LL with
    | false =>
      have HN : Hid (unitOk n (vals Z) = false) := Lib.hid ((HK.out _).2 (by rw [← HL.out, hfl]; rfl))
      clear hfl
      go_wp2_with fail
      go_ret2
      exact NOwnIf.no HN.out (NumsOwn.noU (by repeat first | (with_reducible exact Below.refl _ _) | (with_reducible refine Below.setCell ?_ (by first | exact Nat.le_refl _ | (simp; done) | (simp; omega) | omega) _) | (with_reducible refine Below.alloc ?_ (by first | exact Nat.le_refl _ | (simp; done) | (simp; omega) | omega) _) | (with_reducible refine below_drewN ?_ _) | (with_reducible refine Below.drew ?_)))
    | true =>
      obtain ⟨o, ho⟩ := ford_some hfl
      have HF := Lib.hid hfl
      clear hfl
      cases o with
      | lt =>
        have HN : Hid (unitOk n (vals Z) = false) := Lib.hid ((HK.out _).2 (by rw [← HL.out, HF.out, ho]; rfl))
        go_wp2_with fail
        go_ret2
        exact NOwnIf.no HN.out (NumsOwn.noU (by repeat first | (with_reducible exact Below.refl _ _) | (with_reducible refine Below.setCell ?_ (by first | exact Nat.le_refl _ | (simp; done) | (simp; omega) | omega) _) | (with_reducible refine Below.alloc ?_ (by first | exact Nat.le_refl _ | (simp; done) | (simp; omega) | omega) _) | (with_reducible refine below_drewN ?_ _) | (with_reducible refine Below.drew ?_)))
      | eq =>
        have HN : Hid (unitOk n (vals Z) = false) := Lib.hid ((HK.out _).2 (by rw [← HL.out, HF.out, ho]; rfl))
        go_wp2_with fail
        go_ret2
        exact NOwnIf.no HN.out (NumsOwn.noU (by repeat first | (with_reducible exact Below.refl _ _) | (with_reducible refine Below.setCell ?_ (by first | exact Nat.le_refl _ | (simp; done) | (simp; omega) | omega) _) | (with_reducible refine Below.alloc ?_ (by first | exact Nat.le_refl _ | (simp; done) | (simp; omega) | omega) _) | (with_reducible refine below_drewN ?_ _) | (with_reducible refine Below.drew ?_)))
      | gt =>
        have HN : Hid (unitOk n (vals Z) = true) := Lib.hid ((HK.out _).2 (by rw [← HL.out, HF.out, ho]; rfl))
        go_wp2_with fail
        go_at_call 57
        refine (clone_any b0 off n c Z _ (by omega) hn (FS.drewN h)).mono ?_
        rintro e w5 ⟨g, d, rfl, o5, b5⟩
        have B5 := Lib.hid (show Below w.heap.size w w5 from Below.trans (by repeat first | (with_reducible exact Below.refl _ _) | (with_reducible refine Below.setCell ?_ (by first | exact Nat.le_refl _ | (simp; done) | (simp; omega) | omega) _) | (with_reducible refine Below.alloc ?_ (by first | exact Nat.le_refl _ | (simp; done) | (simp; omega) | omega) _) | (with_reducible refine below_drewN ?_ _) | (with_reducible refine Below.drew ?_)) (b5.mono (by simp [World.drewN])))
        have hgl : w.heap.size ≤ g := by
          obtain ⟨_, _, q, _⟩ := o5.cell (t := 0) (by omega)
          simpa [World.drewN] using q
        clear b5 ho
        go_wp2_with fail
        go_at_call 70
        refine (divide_any n g d _ _ r3 hr4 Z _ hn o5).mono ?_
        rintro e w6 ⟨rfl, X6, o6, hX6, g6⟩
        have B6 := Lib.hid (B5.out.grown g6 B5.out.size (fun q hq => by cases hq; exact hgl))
        have HX6 := Lib.hid hX6
        have HO6 := Lib.hid o6
        have s6 : Hid (w5.heap.size ≤ w6.heap.size) := Lib.hid g6.size
        clear hX6 o6 g6 o5
        go_wp2_with fail
        go_ret2
        exact NOwnIf.yes HN.out ⟨_, _, X6, rfl, Own.mono HO6.out (by simp [World.drewN]) s6.out (Nat.le_refl _), fun i hi => (HX6.out i hi).trans (by unfold unitV; rw [HL.out]), B6.out⟩
theorem listU_yes (a : Option Addr) (n c : Nat) (X : Nat → Nat) (w : World) (hn : n ≤ 1048576) (f : FS .f32 w a n c X) (hf : allFin (vals X) n = true) : Calls Try.prog 63 #[.slice a n c] w fun e w' => e = .returned (.tuple #[.slice a n c, .bool true]) ∧ ∃ m, w' = w.drewN m := by
  go_enter Try.func63, Try.ntmps63
  go_wp2_with fail
  go_at_call 60
  refine (specFin_any a n c X _ hn f).mono ?_
  rintro e w4 ⟨rfl, m4, rfl⟩
  go_wp2_with fail
  go_ret2
  exact ⟨rfl, _, rfl⟩
set_option maxRecDepth 20000 in
set_option maxHeartbeats 2000000 in
theorem l04Unit_any (b off n c : Nat) (Z : Nat → Nat) (w : World) (h1 : 1 ≤ n) (hn : n ≤ 256) (h : FS .f32 w (some ⟨b, off, none⟩) n c Z) :
    Calls Try.prog 62 #[.slice (some ⟨b, off, none⟩) n c] w fun e w' => ∃ g nn d X, e = .returned (.tuple #[.slice g nn d, .bool (finite .f32 (lenN n (vals Z)) && (ford .f32 (lenN n (vals Z)) (some 0) == some .gt))]) ∧ FS .f32 w' g nn d X ∧ ((finite .f32 (lenN n (vals Z)) && (ford .f32 (lenN n (vals Z)) (some 0) == some .gt)) = true → n = nn ∧ ∀ t, t < nn → vals X t = unitV nn (vals Z) t) ∧ Below w.heap.size w w' := by
  have c0 : cn .f32 0 = some 0 := by kernel_rfl
  obtain ⟨i0, hi, hz0, hz1, hz2⟩ := info_parts info32
  go_enter Try.func62, Try.ntmps62
  go_wp2_with fail
  go_at_call 65
  refine (specDot_any _ _ n _ n _ Z Z _ (by omega) (Nat.le_refl _) (by omega) h h).mono ?_
  rintro e w2 ⟨r, rfl, hr, m2, rfl⟩
  go_wp2_with fail
  go_at_call 53
  refine (specRoot_any _ hr _).mono ?_
  rintro e w3 ⟨r3, rfl, hr3, m3, rfl⟩
  have hr4 : FV .f32 r3 (lenN n (vals Z)) := hr3
  clear hr3 hr
  obtain ⟨LL, hLL⟩ : ∃ LL, LL = lenN n (vals Z) := ⟨_, rfl⟩
  rw [← hLL] at hr4
  have HL := Lib.hid hLL
  clear hLL
  have hLc := hr4.1
  cases hg : (ford .f32 LL (some 0) == some .gt) with
  | false =>
    go_wp2_with fail
    go_ret2
    exact ⟨none, 0, 0, fun _ => 0, by rw [← HL.out, hg]; simp, ⟨Nat.le_refl _, Nat.zero_le _, fun i hi => absurd hi (Nat.not_lt_zero _)⟩, fun e => by rw [← HL.out, hg] at e; simp at e, (by repeat first | (with_reducible exact Below.refl _ _) | (with_reducible refine Below.setCell ?_ (by first | exact Nat.le_refl _ | (simp; done) | (simp; omega) | omega) _) | (with_reducible refine Below.alloc ?_ (by first | exact Nat.le_refl _ | (simp; done) | (simp; omega) | omega) _) | (with_reducible refine below_drewN ?_ _) | (with_reducible refine Below.drew ?_))⟩
  | true =>
    obtain ⟨VV, hVV⟩ : ∃ F, F = unitV n (vals Z) := ⟨_, rfl⟩
    have HVV := Lib.hid hVV
    have hL := World.ownsRow_lit (base := w.heap.size) (e := 26) (size := 1) (w.drewN (m2 + m3)) #[] 0 (Nat.le_refl _) (Nat.zero_le _) rfl
    have HLR := Lib.hid hr4
    go_wp2
    go_loopw [5, 6] (fun v i wr => ∃ (j : Nat) (xs : List Value), j ≤ n ∧ i = .int .i64 j ∧ Grow w j VV wr v xs) (fun _ i _ => n - (intOf i).toNat)
    case atStart => exact ⟨0, [], Nat.zero_le _, rfl, by simpa [World.drewN] using hL, fun t ht => absurd ht (Nat.not_lt_zero _), (by repeat first | (with_reducible exact Below.refl _ _) | (with_reducible refine Below.setCell ?_ (by first | exact Nat.le_refl _ | (simp; done) | (simp; omega) | omega) _) | (with_reducible refine Below.alloc ?_ (by first | exact Nat.le_refl _ | (simp; done) | (simp; omega) | omega) _) | (with_reducible refine below_drewN ?_ _) | (with_reducible refine Below.drew ?_)), _, _, rfl⟩
    case round =>
      obtain ⟨j, xs, hj, rfl, hk⟩ := hrel
      clear hL
      obtain ⟨g, cp, rfl⟩ := hk.shape
      by_cases hlt : j < n
      · obtain ⟨b', off', e, lp1, hce, hfx⟩ := (h.below hk.bel (Nat.le_refl _)).at hlt
        simp only [Option.some.injEq, Addr.mk.injEq, and_true] at e
        obtain ⟨rfl, rfl⟩ := e
        have hr4 := HLR.out
        have hsr := hk.bel.size
        have HV : Hid (∀ r, FV .f32 r (fop .quo .f32 (cn .f32 (Z j)) LL) → FV .f32 r (VV j)) := Lib.hid (fun r hr => FV.of_eq hr (by rw [HVV.out]; show _ = fop .quo .f32 (vals Z j) _; rw [HL.out]; rfl))
        have hk' := Lib.hid hk
        clear hk
        go_wp2_with (first
          | (refine wpList_farith rfl _ _ _ _ _ rfl rfl _ _ _ rfl rfl hfx hr4 ?_; intro rr mm hrr)
          | (at_builtin
             refine wpList_append_lies _ rfl _ _ _ rfl w.heap.size 26 i0 _ 1 4 Try.underlying22 hi hz0 hz1 hz2 rfl (by omega) (.slice (some ⟨g, 0, none⟩) j cp) j xs rfl (by exact ownsRow_below hk'.out.own (by repeat first | (with_reducible exact Below.refl _ _) | (with_reducible refine Below.setCell ?_ (by first | exact Nat.le_refl _ | (simp; done) | (simp; omega) | omega) _) | (with_reducible refine Below.alloc ?_ (by first | exact Nat.le_refl _ | (simp; done) | (simp; omega) | omega) _) | (with_reducible refine below_drewN ?_ _) | (with_reducible refine Below.drew ?_))) ⟨wr.heap.size, 0, none⟩ 1 1 [.float .f32 rr] rfl rfl
                  (by exact World.news_of_block (cs := #[.float .f32 rr]) (t := 26) (fr := (0, 0)) (heap_alloc_new _ _)) (by simp [Value.oneCell']) (by omega) (by unfold maxLen; omega) (by omega) (by simp [World.drewN]; omega) (wr.heap.size + 1) (by simp [World.drewN]) ?_
             intro gg cp2 w6 hown2 hgrow2 hat2 hlt3
             have hst := Lib.hid (hk'.out.step (by repeat first | (with_reducible exact Below.refl _ _) | (with_reducible refine Below.setCell ?_ (by first | exact Nat.le_refl _ | (simp; done) | (simp; omega) | omega) _) | (with_reducible refine Below.alloc ?_ (by first | exact Nat.le_refl _ | (simp; done) | (simp; omega) | omega) _) | (with_reducible refine below_drewN ?_ _) | (with_reducible refine Below.drew ?_)) hown2 hgrow2 (HV.out _ hrr))
             clear hown2 hgrow2 hat2 hlt3))
        go_roundw
        case rel => exact ⟨j + 1, _, by omega, by go_num, hst.out⟩
        case measure => simp [intOf]; omega
      · obtain rfl : j = n := by omega
        obtain ⟨X4, F4, hX4⟩ := hk.fs
        have HX4 := Lib.hid hX4
        have BB := Lib.hid hk.bel
        clear hk hX4
        go_wp2_with fail
        go_at_call 75
        refine (specFinite_any _ HLR.out _).mono ?_
        rintro e w8 ⟨rfl, m8, rfl⟩
        go_wp2_with fail
        go_ret2
        exact ⟨_, _, _, X4, by rw [← HL.out, hg]; simp, FS.drewN F4, fun _ => ⟨rfl, fun t ht => (HX4.out t ht).trans (by rw [HVV.out])⟩, below_drewN BB.out _⟩
set_option maxRecDepth 20000 in
set_option maxHeartbeats 2000000 in
theorem specUnit_any (a : Option Addr) (n c : Nat) (Z : Nat → Nat) (w : World) (hn : n ≤ 1048576) (h : FS .f32 w a n c Z) :
    Calls Try.prog 29 #[.slice a n c] w (NBelIf (unitOk n (vals Z)) n (unitV n (vals Z)) w) := by
  have c0 : cn .f32 0 = some 0 := by kernel_rfl
  cases hv : vecB n (vals Z) with
  | false =>
    have HK : Hid (unitOk n (vals Z) = false) := Lib.hid (by unfold unitOk; rw [hv]; rfl)
    go_enter Try.func29, Try.ntmps29
    go_wp2_with fail
    go_at_call 27
    refine (specVector_any a n c Z _ hn h).mono ?_
    rw [hv]
    rintro e w1 ⟨rfl, m1, rfl⟩
    clear hv
    go_wp2_with fail
    go_ret2
    exact NBelIf.no HK.out (NumsBel.noU (by repeat first | (with_reducible exact Below.refl _ _) | (with_reducible refine Below.setCell ?_ (by first | exact Nat.le_refl _ | (simp; done) | (simp; omega) | omega) _) | (with_reducible refine Below.alloc ?_ (by first | exact Nat.le_refl _ | (simp; done) | (simp; omega) | omega) _) | (with_reducible refine below_drewN ?_ _) | (with_reducible refine Below.drew ?_)))
  | true =>
    obtain ⟨h1, h256, hfn⟩ := vec_parts hv
    obtain ⟨b0, off, rfl, hb0, _, _⟩ := h.at (show 0 < n by omega)
    have HFN := Lib.hid hfn
    have HK : Hid (∀ x, unitOk n (vals Z) = x ↔ (finite .f32 (lenN n (vals Z)) && (ford .f32 (lenN n (vals Z)) (some 0) == some .gt)) = x) := Lib.hid (fun x => by unfold unitOk; rw [hv]; exact Iff.rfl)
    go_enter Try.func29, Try.ntmps29
    go_wp2_with fail
    go_at_call 27
    refine (specVector_any _ n c Z _ hn h).mono ?_
    rw [hv]
    rintro e w1 ⟨rfl, m1, rfl⟩
    clear hv hfn
    go_wp2_with fail
    go_at_call 62
    cases hok : (finite .f32 (lenN n (vals Z)) && (ford .f32 (lenN n (vals Z)) (some 0) == some .gt)) with
    | false =>
      have HN : Hid (unitOk n (vals Z) = false) := Lib.hid ((HK.out _).2 hok)
      refine (l04Unit_any b0 off n c Z _ h1 h256 (FS.drewN h)).mono ?_
      rw [hok]
      rintro e w2 ⟨g, nn, d, X, rfl, fg, hX, b2⟩
      have B2 : Below w.heap.size w w2 := Below.trans (by repeat first | (with_reducible exact Below.refl _ _) | (with_reducible refine Below.setCell ?_ (by first | exact Nat.le_refl _ | (simp; done) | (simp; omega) | omega) _) | (with_reducible refine Below.alloc ?_ (by first | exact Nat.le_refl _ | (simp; done) | (simp; omega) | omega) _) | (with_reducible refine below_drewN ?_ _) | (with_reducible refine Below.drew ?_)) (b2.mono (by simp [World.drewN]))
      clear b2 hok
      go_wp2_with fail
      go_ret2
      exact NBelIf.no HN.out (NumsBel.noU B2)
    | true =>
      have HN : Hid (unitOk n (vals Z) = true) := Lib.hid ((HK.out _).2 hok)
      have hok2 := hok
      simp only [Bool.and_eq_true] at hok2
      refine (l04Unit_any b0 off n c Z _ h1 h256 (FS.drewN h)).mono ?_
      rw [hok]
      rintro e w2 ⟨g, nn, d, X, rfl, fg, hX, b2⟩
      have B2 : Below w.heap.size w w2 := Below.trans (by repeat first | (with_reducible exact Below.refl _ _) | (with_reducible refine Below.setCell ?_ (by first | exact Nat.le_refl _ | (simp; done) | (simp; omega) | omega) _) | (with_reducible refine Below.alloc ?_ (by first | exact Nat.le_refl _ | (simp; done) | (simp; omega) | omega) _) | (with_reducible refine below_drewN ?_ _) | (with_reducible refine Below.drew ?_)) (b2.mono (by simp [World.drewN]))
      obtain ⟨rfl, hXv⟩ := hX rfl
      have hfin : allFin (vals X) n = true := (allFin_congr hXv).trans (allFin_allU (unit_fin HFN.out hok2.1 hok2.2))
      have HXV := Lib.hid hXv
      clear b2 hok hok2 hX hXv
      go_wp2_with fail
      go_at_call 63
      refine (listU_yes g n d X _ hn fg hfin).mono ?_
      rintro e w3 ⟨rfl, m3, rfl⟩
      go_wp2_with fail
      go_ret2
      exact NBelIf.yes HN.out ⟨_, _, X, rfl, FS.drewN fg, HXV.out, below_drewN B2 _⟩
theorem keyUnitVector (n : Nat) (Z : Nat → Nat) (hn : n ≤ 1048576) : ∃ (ok : Bool) (nr : Nat) (V : Nat → Option Nat), nr ≤ 256 ∧
    (∀ a c W, FS .f32 W a n c Z → Calls Try.prog 29 #[.slice a n c] W (NumsBel ok nr V W)) ∧
    (∀ a c W, FS .f32 W a n c Z → Calls Try.prog 33 #[.slice a n c] W (NumsOwn ok nr V W)) := by
  have hs := fun a c W h => specUnit_any a n c Z W hn h
  have hi := fun a c W h => implUnit_any a n c Z W hn h
  cases ho : unitOk n (vals Z) with
  | false =>
    rw [ho] at hs hi
    exact ⟨false, 0, fun _ => none, by omega, hs, hi⟩
  | true =>
    rw [ho] at hs hi
    have hv : vecB n (vals Z) = true := by unfold unitOk at ho; simp only [Bool.and_eq_true] at ho; exact ho.1
    exact ⟨true, n, unitV n (vals Z), by have := (vec_parts hv).2.1; omega, hs, hi⟩
end Go.Proofs.Ytadnnfeeainadaa
