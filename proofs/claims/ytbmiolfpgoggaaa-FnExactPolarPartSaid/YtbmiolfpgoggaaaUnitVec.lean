/- Helper: vectors of the length 1, of the program and of its reference. Conditions: none. -/
import Derived.Test.YtbmiolfpgoggaaaUnitFacts
import Derived.Test.YtbmiolfpgoggaaaRootWalks
import Derived.Test.YtbmiolfpgoggaaaMatWalks
import Derived.Test.YtbmiolfpgoggaaaMid
import Derived.Test.YtbmiolfpgoggaaaWork
import Derived.Test.YtbmiolfpgoggaaaNums
set_option linter.unusedVariables false
set_option linter.unusedSimpArgs false
namespace Go.Proofs.Ytbmiolfpgoggaaa
open Go.RowKit

section
open Ieee
/-- The length of a vector. -/
def lenN (n : Nat) (V : Nat → Option Nat) : Option Nat := narrow (fsqrt (widen (dotG V V n)))
def unitOk (n : Nat) (V : Nat → Option Nat) : Bool := vecB n V && (finite .f32 (lenN n V) && (ford .f32 (lenN n V) (some 0) == some .gt))
def unitV (n : Nat) (V : Nat → Option Nat) (t : Nat) : Option Nat := fop .quo .f32 (V t) (lenN n V)
theorem sq_pz {X : Option Nat} (h : finite .f32 X = true) : Pz (fop .mul .f32 X X) := by
  cases X with
  | none => cases h
  | some x =>
    rcases read_single x with ⟨s, hr⟩ | ⟨s, t, hr⟩ | ⟨s, m, e, hr, hm, h1, h2⟩
    · exfalso; unfold finite at h; simp only at h; have hr' : FloatKind.f32.decode x = .infinity s := hr; rw [hr'] at h; cases h
    · exfalso; unfold finite at h; simp only at h; have hr' : FloatKind.f32.decode x = .nan s t := hr; rw [hr'] at h; cases h
    · have es : fop .mul .f32 (some x) (some x) = ((single.read x).product (single.read x)).map single.write := rfl
      rw [es, hr]
      refine ⟨_, rfl, ?_⟩
      have e0 : (s != s) = false := by cases s <;> rfl
      show single.nearest (s != s) (m * m) (e + e) ≤ 2139095040
      rw [e0]
      exact nearest_pz _ _
theorem fin_lt {r : Nat} (h : finite .f32 (some r) = true) (h2 : r ≤ 2139095040) : r < 2139095040 := by
  rcases Nat.lt_or_ge r 2139095040 with q | q
  · exact q
  · have : r = 2139095040 := by omega
    subst this
    exfalso
    have h3 : finite .f32 (some 2139095040) = false := by decide +kernel
    rw [h3] at h; cases h
theorem unit_fin {n : Nat} {V : Nat → Option Nat} (hf : allFin V n = true) (hl : finite .f32 (lenN n V) = true) (hg : (ford .f32 (lenN n V) (some 0) == some .gt) = true) : ∀ t, t < n → finite .f32 (unitV n V t) = true := by
  intro t ht
  have hfs : ∀ k, k < n → finite .f32 (V k) = true := fun k hk => allFin_lt hf hk
  have hps : ∀ k, k < n → Pz (fop .mul .f32 (V k) (V k)) := fun k hk => sq_pz (hfs k hk)
  obtain ⟨q, hS, hq⟩ := dot_pz (V := V) (n := n) hfs hps
  have hq0 : q ≠ 0 := by
    intro e
    subst e
    unfold lenN at hg
    rw [hS] at hg
    have : (ford .f32 (narrow (fsqrt (widen (some 0)))) (some 0) == some .gt) = false := by decide +kernel
    rw [this] at hg; cases hg
  have hqi : q < 2139095040 := by
    rcases Nat.lt_or_ge q 2139095040 with z | z
    · exact z
    · have : q = 2139095040 := by omega
      subst this
      exfalso
      unfold lenN at hl
      rw [hS] at hl
      have : finite .f32 (narrow (fsqrt (widen (some 2139095040)))) = false := by decide +kernel
      rw [this] at hl; cases hl
  obtain ⟨m, e, hr, hm, he1, he2⟩ : ∃ m e, single.read q = .number false m e ∧ m < 16777216 ∧ -149 ≤ e ∧ e ≤ 104 := by
    rcases read_single q with ⟨s, hr⟩ | ⟨s, t, hr⟩ | ⟨s, m, e, hr, hm, h1, h2⟩
    · exfalso
      rcases read_pz hq with h | ⟨m, e, h⟩
      · obtain ⟨e1, e2, e3, e4⟩ := single_consts
        have hmq : q % 2147483648 = q := Nat.mod_eq_of_lt (by omega)
        unfold Format.read at hr
        simp only [e1, e2, e3, e4, hmq] at hr
        split at hr
        · cases hr
        · first | (rw [if_pos hqi] at hr; cases hr) | cases hr
      · rw [h] at hr; cases hr
    · exfalso
      rcases read_pz hq with h | ⟨m, e, h⟩ <;> rw [h] at hr <;> cases hr
    · rcases read_pz hq with h | ⟨m', e', h⟩
      · rw [h] at hr; cases hr
      · rw [h] at hr
        simp only [Datum.number.injEq] at hr
        obtain ⟨rfl, rfl, rfl⟩ := hr
        exact ⟨_, _, h, hm, h1, h2⟩
  have hm0 : m ≠ 0 := by
    intro e0
    subst e0
    obtain ⟨w1, _⟩ := write_read_single hr
    have hz : single.nearest false 0 e = 0 := by unfold Format.nearest Format.word; simp
    rw [hz] at w1
    have hmq : q % 2147483648 = q := Nat.mod_eq_of_lt (by omega)
    omega
  have hVt := hfs t ht
  cases hV : V t with
  | none => rw [hV] at hVt; cases hVt
  | some x =>
    rw [hV] at hVt
    rcases read_single x with ⟨s, hx⟩ | ⟨s, u, hx⟩ | ⟨s, mx, ex, hx, hmx, h1, h2⟩
    · exfalso; unfold finite at hVt; simp only at hVt; have hr' : FloatKind.f32.decode x = .infinity s := hx; rw [hr'] at hVt; cases hVt
    · exfalso; unfold finite at hVt; simp only at hVt; have hr' : FloatKind.f32.decode x = .nan s u := hx; rw [hr'] at hVt; cases hVt
    · have hL : lenN n V = narrow (fsqrt (widen (some q))) := by unfold lenN; rw [hS]
      unfold unitV
      rw [hV, hL]
      rw [hL] at hl
      have go : ∀ (i j : Int), (mx = 0 ∨ (mx.log2 : Int) + ex < i) → 2 * j ≤ (m.log2 : Int) + e → -126 ≤ j → j ≤ 64 → i - j ≤ 127 → finite .f32 (fop .quo .f32 (some x) (narrow (fsqrt (widen (some q))))) = true := by
        intro i j hi hj hj1 hj2 hij
        obtain ⟨r, hr1, hr2, hr3⟩ := root_ge hr hm0 hm he1 he2 hj hj1 hj2
        rw [hr1] at hl ⊢
        have hlt := fin_lt hl hr3
        obtain ⟨nn, f, hrr, hn0, hnj⟩ := read_ge32 hlt hr2 hj1
        have hn2 : nn < 16777216 := by
          rcases read_single r with ⟨s, z⟩ | ⟨s, u, z⟩ | ⟨s, m3, e3, z, z1, _⟩
          · rw [hrr] at z; cases z
          · rw [hrr] at z; cases z
          · rw [hrr] at z
            simp only [Datum.number.injEq] at z
            obtain ⟨_, rfl, _⟩ := z
            exact z1
        exact quo_fin hx hrr hn0 hmx hn2 hi hnj hij
      by_cases hbig : mx ≠ 0 ∧ 50 ≤ (mx.log2 : Int) + ex
      · obtain ⟨q', hq1, hq2, hq3⟩ := dot_ge (V := V) (i := t) (by rw [hV]; exact sq_ge hx hbig.1 hbig.2) ht hfs hps
        rw [hS] at hq1
        simp only [Option.some.injEq] at hq1
        subst hq1
        obtain ⟨m', e', z1, z2, z3⟩ := read_ge32 hqi hq3 (by omega)
        rw [hr] at z1
        simp only [Datum.number.injEq, true_and] at z1
        obtain ⟨rfl, rfl⟩ := z1
        have hlm : mx.log2 < 24 := (Nat.log2_lt hbig.1).2 hmx
        exact go 128 50 (.inr (by omega)) (by omega) (by omega) (by omega) (by omega)
      · refine go 50 (-75) ?_ (by omega) (by omega) (by omega) (by omega)
        by_cases h0 : mx = 0
        · exact .inl h0
        · exact .inr (by
            rcases Int.lt_or_le ((mx.log2 : Int) + ex) 50 with z | z
            · exact z
            · exact absurd ⟨h0, z⟩ hbig)
end
theorem allFin_allU {V : Nat → Option Nat} : ∀ {n : Nat}, (∀ i, i < n → finite .f32 (V i) = true) → allFin V n = true
  | 0, _ => rfl
  | n + 1, h => by
    have h1 := allFin_allU (V := V) (n := n) fun i hi => h i (by omega)
    simp only [allFin, h1, h n (by omega), Bool.and_self]
theorem vec_parts {n : Nat} {V : Nat → Option Nat} (h : vecB n V = true) : 1 ≤ n ∧ n ≤ 256 ∧ allFin V n = true := by
  unfold vecB at h
  simp only [Bool.and_eq_true, decide_eq_true_eq] at h
  exact ⟨h.1, h.2.1, h.2.2⟩
theorem NumsOwn.noU {w w' : World} {V : Nat → Option Nat} (h : Below w.heap.size w w') : NumsOwn false 0 V w (.returned (.tuple #[.slice none 0 0, .bool false])) w' :=
  ⟨none, 0, fun _ => 0, rfl, .inl ⟨rfl, rfl, rfl⟩, fun i hi => absurd hi (Nat.not_lt_zero _), h⟩
theorem NumsBel.noU {w w' : World} {V : Nat → Option Nat} (h : Below w.heap.size w w') : NumsBel false 0 V w (.returned (.tuple #[.slice none 0 0, .bool false])) w' :=
  ⟨none, 0, fun _ => 0, rfl, ⟨Nat.le_refl _, Nat.zero_le _, fun i hi => absurd hi (Nat.not_lt_zero _)⟩, fun i hi => absurd hi (Nat.not_lt_zero _), h⟩
theorem vals_putU {X : Nat → Nat} {r q : Nat} (t : Nat) : vals (fun t => if t = q then r else X t) t = if t = q then cn .f32 r else vals X t := by
  show cn .f32 (if t = q then r else X t) = _
  by_cases e : t = q
  · rw [if_pos e, if_pos e]
  · rw [if_neg e, if_neg e]; rfl
set_option maxRecDepth 20000 in
set_option maxHeartbeats 1000000 in
theorem divide_any (n g d B U f : Nat) {F : Option Nat} (ff : FV .f32 f F) (X : Nat → Nat) (w : World) (hn : n ≤ 1048576) (o : Own 34 .f32 B U w (some ⟨g, 0, none⟩) n d X) :
    Calls Try.prog 25 #[.slice (some ⟨g, 0, none⟩) n d, .float .f32 f] w fun e w' => e = .returned (.tuple #[]) ∧ ∃ X2, Own 34 .f32 B U w' (some ⟨g, 0, none⟩) n d X2 ∧ (∀ t, t < n → vals X2 t = fop .quo .f32 (vals X t) F) ∧ w.grownBy w' (some g) := by
  have hd1 := (Own.fs o).1
  have hd2 := (Own.fs o).2.1
  have hd3 : d ≤ 9223372036854775807 := by unfold maxLen at hd2; omega
  go_enter Try.func25, Try.ntmps25
  go_wp2
  clear hd2
  go_loopw [7] (fun i wr => ∃ (q : Nat) (X2 : Nat → Nat), q ≤ n ∧ i = .int .i64 q ∧ Own 34 .f32 B U wr (some ⟨g, 0, none⟩) n d X2 ∧ (∀ t, t < n → vals X2 t = if t < q then fop .quo .f32 (vals X t) F else vals X t) ∧ w.grownBy wr (some g)) (fun i _ => n - (intOf i).toNat)
  case atStart => exact ⟨0, X, Nat.zero_le _, rfl, o, fun t ht => by rw [if_neg (by omega)], World.grownBy.refl _ _⟩
  case round =>
    obtain ⟨q, X2, hq, rfl, ho, hv, hg⟩ := hrel
    have hv' := Lib.hid hv
    clear o hv
    by_cases hq' : q < n
    · obtain ⟨hce, hfr, _⟩ := ho.cell hq'
      have hfx : FV .f32 (X2 q) (cn .f32 (X2 q)) := (ho.fs.at hq').elim fun _ q => q.elim fun _ q => q.2.2.2
      have HXY : Hid (cn .f32 (X2 q) = vals X q) := Lib.hid (by
        have e1 := hv'.out q hq'
        rw [if_neg (by omega)] at e1
        exact e1)
      generalize cn .f32 (X2 q) = XQ at hfx HXY
      have HO := Lib.hid ho
      have HG := Lib.hid hg
      clear ho hg
      go_wp2_with (refine wpList_farith rfl _ _ _ _ _ rfl rfl _ _ _ rfl rfl hfx ff ?_; intro r6 m6 hr6)
      obtain ⟨O4, G4⟩ := (show Own 34 .f32 B U (wr.drewN m6) (some ⟨g, 0, none⟩) n d X2 from HO.out).stored hq' hr6.2
      have G5 : Hid (w.grownBy ((wr.drewN m6).setCell ⟨g, q, none⟩ (.float .f32 r6)) (some g)) := Lib.hid (grownBy_trans HG.out ⟨G4.os, G4.tape, G4.output, G4.size, G4.block⟩)
      have O5 := Lib.hid O4
      clear O4 G4
      go_roundw
      case rel =>
        refine ⟨q + 1, _, by omega, by go_num, O5.out, fun t ht => ?_, G5.out⟩
        rw [vals_putU]
        by_cases e : t = q
        · rw [if_pos e, if_pos (by omega), e, hr6.1, HXY.out]
        · rw [if_neg e, hv'.out t ht]
          by_cases e2 : t < q
          · rw [if_pos e2, if_pos (by omega)]
          · rw [if_neg e2, if_neg (by omega)]
      case measure => simp [intOf]; omega
    · obtain rfl : q = n := by omega
      have hv2 : Hid (∀ t, t < q → vals X2 t = fop .quo .f32 (vals X t) F) := Lib.hid fun t ht => (hv'.out t ht).trans (if_pos ht)
      have HO := Lib.hid ho
      have HG := Lib.hid hg
      clear ho hg
      go_wp2
      go_end0
      exact ⟨rfl, X2, HO.out, hv2.out, HG.out⟩
end Go.Proofs.Ytbmiolfpgoggaaa
