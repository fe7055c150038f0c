/- Helper: walks of tenths of decibels, of the program, its reference and the law. Conditions: none. -/
import Derived.Test.YtnjkabckbnbboaaLogSpec
import Derived.Test.YtnjkabckbnbboaaSineFacts
import Derived.WalkSmall
set_option linter.unusedVariables false
namespace Go.Proofs.Ytnjkabckbnbboaa
open Go.RowKit
open Ieee (Datum)

theorem cut_le_div (way : Ieee.Toward) (s : Bool) (n d : Nat) : way.cut s n d ≤ n / 2 ^ d + 1 := by
  have e : n / (1 <<< min d (n.log2 + 2)) = n / 2 ^ d := by
    rw [Nat.shiftLeft_eq, Nat.one_mul]
    by_cases h : d ≤ n.log2 + 2
    · rw [Nat.min_eq_left h]
    · rw [Nat.min_eq_right (by omega)]
      have h1 : n < 2 ^ (n.log2 + 2) := Nat.lt_of_lt_of_le (lt_log2' n) (Nat.pow_le_pow_right (by decide) (by omega))
      have h2 : n < 2 ^ d := Nat.lt_of_lt_of_le h1 (Nat.pow_le_pow_right (by decide) (by omega))
      rw [Nat.div_eq_of_lt h1, Nat.div_eq_of_lt h2]
  unfold Ieee.Toward.cut
  dsimp only
  rw [e]
  exact Nat.add_le_add_left (Bool.toNat_le _) _

/-- The greatest whole number that is not greater. -/
def floorR (X : Option Nat) : Nat := match X with
  | some x => FloatKind.f64.encode ((Ieee.double.read x).integral .down)
  | none => 0

theorem floor_bound {X : Option Nat} (h : Lt2 51 X) : FV .f64 (floorR X) (some (floorR X)) ∧ ∃ s m e, Ieee.double.read (floorR X) = .number s m e ∧ lt2 53 m e := by
  obtain ⟨x, s, m, e, rfl, hx, hl, -⟩ := h
  have hr : floorR (some x) = Ieee.double.write (.number s (Ieee.Toward.down.cut s (m <<< e.toNat) (-e).toNat) 0) := by
    unfold floorR
    simp only [hx]
    rfl
  have hw := wholeN_lt (i := 51) (by omega) hl
  have hc := cut_le_div .down s (m <<< e.toNat) (-e).toNat
  have hw' : (m <<< e.toNat) / 2 ^ (-e).toNat < 2 ^ (51 : Int).toNat := hw
  have hp : (2 : Nat) ^ (51 : Int).toNat = 2251799813685248 := by decide
  rw [hp] at hw'
  rw [hr]
  generalize Ieee.Toward.down.cut s (m <<< e.toNat) (-e).toNat = q at *
  have hq : lt2 52 q 0 := by
    by_cases h0 : q = 0
    · exact .inl h0
    · have := log2_lt' (k := 52) h0 (by have : (2 : Nat) ^ 52 = 4503599627370496 := by decide
                                        omega)
      exact .inr (by omega)
  obtain ⟨m', e', h1, h2, -⟩ := write_lt2 s q 0 52 (by omega) (by omega) hq
  exact ⟨FV.of_eq (FV.mk' (encode_wf .f64 (.number s q 0))) (cn_number .f64 s q 0), s, m', e', h1, h2⟩

theorem floor_any (x : Nat) {X : Option Nat} (fx : FV .f64 x X) (h : Lt2 51 X) (w : World) :
    Calls Try.prog 38 #[.float .f64 x] w fun e w' => e = .returned (.float .f64 (floorR X)) ∧ w = w' := by
  obtain ⟨y, s, m, e, rfl, hx, hl, -⟩ := h
  obtain rfl := fx.eq
  have hr : ∀ W, (callFunc 50 #[.float .f64 x]).run Try.prog W = .ok (.value (.float .f64 (floorR (some x)))) W := by
    intro W
    rw [run_callFunc_extern (e := Extern.MathFloor.toIntegral "math.archFloor" .down) Try.func50 (by kernel_rfl) (by kernel_rfl) (by kernel_rfl) (by kernel_rfl) _ _]
    have hd : FloatKind.f64.decode x = .number s m e := hx
    have hu : ∃ g : Bool → Nat → Sem Value, Extern.MathFloor.toIntegral "math.archFloor" .down #[.float .f64 x] = (match FloatKind.f64.decode x with | .nan s t => g s t | d => pure (.float .f64 (FloatKind.f64.encode (d.integral .down)))) := ⟨_, rfl⟩
    obtain ⟨g, hu⟩ := hu
    rw [hu, hd]
    unfold floorR
    simp only [hx]
    rfl
  go_enter Try.func38, Try.ntmps38
  go_wp2
  go_ret
  exact ⟨rfl, rfl⟩

theorem inv_bound1 : ∀ j : Nat, j < 13 → lt2b 1 (fop .quo .f64 (some 4607182418800017408) (some (k2 j))) = true := by decide +kernel

theorem polyQ_le {u : Option Nat} (h : Le2 2 u) : ∀ j : Nat, j ≤ 13 → Le2 (3 * j + 1) (polyQ u j) := by
  intro j
  induction j with
  | zero => intro _; exact (Le2.of_lt (Lt2.of_b (by decide +kernel)) : Le2 1 (some 0)).mono (by omega)
  | succ j ih =>
    intro hj
    have a := ih (by omega)
    have b := h.mul a (by omega) (by omega)
    have c := Le2.of_lt (Lt2.of_b (inv_bound1 j (by omega)))
    exact ((c.mono (j := 3 * j + 3) (by omega)).add (b.mono (by omega)) (by omega) (by omega)).mono (by push_cast; omega)

theorem logB_le {m : Nat} (h1 : 4503599627370496 ≤ m) (h2 : m < 9007199254740992) (c : Int) (h3 : -299 ≤ c) (h4 : c ≤ 299) : Le2 43 (logB m c) := by
  have a : Le2 1 (sP m) := Le2.of_lt (sP_bound h1 h2)
  have u := a.mul a (by omega) (by omega)
  have q := polyQ_le u 13 (by omega)
  have d := (a.mul q (by omega) (by omega)).mono (j := 41) (by omega)
  have two : Le2 1 (some 4611686018427387904) := ⟨_, false, 4503599627370496, -51, rfl, two_read, .inr ⟨by rw [one_log]; omega, by rw [one_log]⟩, by omega, by omega, by omega⟩
  have ln : Le2 0 (some 4604418534313441775) := Le2.of_lt (Lt2.of_b (by decide +kernel))
  have e := two.mul d (by omega) (by omega)
  have f := ((Le2.of_lt (count_bound' c h3 h4)).mul ln (by omega) (by omega)).mono (j := 42) (by omega)
  exact ((e.mono (by omega)).add f (by omega) (by omega)).mono (by omega)

/-- The tenths before they are made whole. -/
def tenQ (L : Option Nat) : Option Nat := fop .add .f64 (fop .mul .f64 L (some 4631308968768463603)) (some 4602678819172646912)
theorem tenQ_bound {L : Option Nat} (h : Le2 43 L) : Lt2 51 (tenQ L) := by
  have c : Le2 6 (some 4631308968768463603) := Le2.of_lt (Lt2.of_b (by decide +kernel))
  have d : Le2 49 (some 4602678819172646912) := Le2.of_lt (Lt2.of_b (by decide +kernel))
  exact ((h.mul c (by omega) (by omega)).add d (by omega) (by omega)).lt.mono (by omega)

theorem conv_floor {X : Option Nat} (h : Lt2 51 X) (W : World) : (convert 27 2 (.float .f64 (floorR X))).run Try.prog W = .ok (.int .i64 (wholeI (some (floorR X)))) W := by
  obtain ⟨-, s, m, e, hx, hl⟩ := floor_bound h
  exact run_convert_float_int W _ _ .f64 .i64 _ _ (by kernel_rfl) Try.underlying2 (toInt_whole hx (by omega) (by omega) hl).1

set_option maxHeartbeats 1000000 in
theorem law_FnExactTenthsOf (a : Nat) (ha : (Lit.float .f32 a).wf = true) (w : World) :
    Calls Try.prog 6 #[.float .f32 a] w fun e w' => e = .returned (.bool true) ∧ Below w.heap.size w w' := by
  have fa := FV.mk' ha
  generalize cn .f32 a = X at fa
  have c0 : cn .f32 0 = some 0 := cn_of (by decide +kernel)
  have key : ∃ (n : Int) (ok : Bool), (∀ w, Calls Try.prog 22 #[.float .f32 a] w fun e w' => e = .returned (.tuple #[.int .i64 n, .bool ok]) ∧ ∃ n, w' = w.drewN n) ∧
      (∀ w, Calls Try.prog 16 #[.float .f32 a] w fun e w' => e = .returned (.tuple #[.int .i64 n, .bool ok]) ∧ ∃ n, w' = w.drewN n) := by
    have ha1 := fa.1
    cases hfin : finite .f32 X with
    | false =>
      refine ⟨0, false, fun w => ?_, fun w => ?_⟩
      · go_enter Try.func22, Try.ntmps22
        go_wp2_with (go_at_call 42; refine (specFinite_any _ fa _).mono ?_; rintro e w' ⟨rfl, n, rfl⟩)
        go_ret2
        exact ⟨rfl, _, rfl⟩
      · go_enter Try.func16, Try.ntmps16
        go_wp2_with (go_at_call 36; refine (implIsFinite_any _ fa _).mono ?_; rintro e w' ⟨rfl, n, rfl⟩)
        go_ret2
        exact ⟨rfl, _, rfl⟩
    | true =>
      cases hle : (ford .f32 X (some 0) == some .lt || ford .f32 X (some 0) == some .eq) with
      | true =>
        refine ⟨0, false, fun w => ?_, fun w => ?_⟩
        · go_enter Try.func22, Try.ntmps22
          go_wp2_with (go_at_call 42; refine (specFinite_any _ fa _).mono ?_; rintro e w' ⟨rfl, n, rfl⟩)
          go_ret2
          exact ⟨rfl, _, rfl⟩
        · go_enter Try.func16, Try.ntmps16
          go_wp2_with (go_at_call 36; refine (implIsFinite_any _ fa _).mono ?_; rintro e w' ⟨rfl, n, rfl⟩)
          go_ret2
          exact ⟨rfl, _, rfl⟩
      | false =>
        obtain ⟨hl1, hl2⟩ := Bool.or_eq_false_iff.1 hle
        obtain ⟨mm, f, hwm, m1, m2, m3, m4⟩ := widen_normal hfin (by simpa using hl2) (by simpa using hl1)
        have hL := logB_le m1 m2 (f - red mm) (by have := red_cases mm; omega) (by have := red_cases mm; omega)
        have hT := tenQ_bound hL
        have hcv := conv_floor hT
        have HW := Lib.hid hwm
        clear hwm
        refine ⟨wholeI (some (floorR (tenQ (logB mm (f - red mm))))), true, fun w => ?_, fun w => ?_⟩
        · have hs : ∀ w, Calls Try.prog 43 #[.float .f32 a] w fun e w' => e = .returned (.int .i64 (wholeI (some (floorR (tenQ (logB mm (f - red mm))))))) ∧ ∃ n, w' = w.drewN n := by
            intro w
            go_enter Try.func43, Try.ntmps43
            go_wp2_with (first | (refine wpList_widen rfl _ _ _ rfl _ rfl (by kernel_rfl) Try.underlying27 fa ?_; intro r m hr; rw [HW.out] at hr; obtain rfl := hr.eq; clear hr) | (go_at_call 57; refine (specLog_any m1 m2 m3 m4 _).mono ?_; rintro e w' ⟨r, rfl, hr, n, rfl⟩) | (go_at_call 38; refine (floor_any (X := tenQ (logB mm (f - red mm))) _ (by assumption) hT _).mono ?_; rintro e w' ⟨rfl, rfl⟩) | (refine wpList_farith rfl _ _ _ _ _ rfl rfl _ _ _ rfl rfl (by first | assumption | (with_reducible exact FV.ofInt _ _) | exact FV.lit (by kernel_rfl) (by kernel_rfl)) (by first | assumption | (with_reducible exact FV.ofInt _ _) | exact FV.lit (by kernel_rfl) (by kernel_rfl)) ?_; intro r m hr))
            go_ret
            exact ⟨rfl, _, rfl⟩
          go_enter Try.func22, Try.ntmps22
          go_wp2_with (first | (go_at_call 42; refine (specFinite_any _ fa _).mono ?_; rintro e w' ⟨rfl, n, rfl⟩) | (go_at_call 43; refine (hs _).mono ?_; rintro e w' ⟨rfl, n, rfl⟩))
          go_ret2
          exact ⟨rfl, _, rfl⟩
        · go_enter Try.func16, Try.ntmps16
          go_wp2_with (first | (go_at_call 36; refine (implIsFinite_any _ fa _).mono ?_; rintro e w' ⟨rfl, n, rfl⟩) | (refine wpList_widen rfl _ _ _ rfl _ rfl (by kernel_rfl) Try.underlying27 fa ?_; intro r m hr; rw [HW.out] at hr; obtain rfl := hr.eq; clear hr) | (go_at_call 37; refine (implLog_any m1 m2 m3 m4 _).mono ?_; rintro e w' ⟨r, rfl, hr, n, rfl⟩) | (go_at_call 38; refine (floor_any (X := tenQ (logB mm (f - red mm))) _ (by assumption) hT _).mono ?_; rintro e w' ⟨rfl, rfl⟩) | (refine wpList_farith rfl _ _ _ _ _ rfl rfl _ _ _ rfl rfl (by first | assumption | (with_reducible exact FV.ofInt _ _) | exact FV.lit (by kernel_rfl) (by kernel_rfl)) (by first | assumption | (with_reducible exact FV.ofInt _ _) | exact FV.lit (by kernel_rfl) (by kernel_rfl)) ?_; intro r m hr))
          go_ret2
          exact ⟨rfl, _, rfl⟩
  obtain ⟨n, ok, hs, hi⟩ := key
  clear fa
  go_enter Try.func6, Try.ntmps6
  go_wp2_with (first | (go_at_call 22; refine (hs _).mono ?_; rintro e w' ⟨rfl, n1, rfl⟩) | (go_at_call 16; refine (hi _).mono ?_; rintro e w' ⟨rfl, n1, rfl⟩))
  go_ret
  exact ⟨rfl, below_drewN (Below.refl _ _) _⟩
end Go.Proofs.Ytnjkabckbnbboaa
