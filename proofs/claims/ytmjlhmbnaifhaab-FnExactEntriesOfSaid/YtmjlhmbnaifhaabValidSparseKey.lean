/- Helper: what sparse squares are valid, of the program and of its reference. Conditions: none. -/
import Derived.Test.YtmjlhmbnaifhaabSpSpec
set_option linter.unusedVariables false
set_option linter.unusedSimpArgs false
namespace Go.Proofs.Ytmjlhmbnaifhaab
open Go.RowKit

theorem implSp_any (S : Int) (a1 a2 a3 : Option Addr) (n1 c1 n2 c2 n3 c3 : Nat) (O K : Nat → Int) (Z : Nat → Nat) (w : World) (hn1 : n1 ≤ 1048576) (hn2 : n2 ≤ 1048576) (hn3 : n3 ≤ 1048576) (h1 : IS .i64 w a1 n1 c1 O) (h2 : IS .i64 w a2 n2 c2 K) (h3 : FS .f32 w a3 n3 c3 Z) :
    Calls Try.prog 43 #[.agg #[.int .i64 S, .slice a1 n1 c1, .slice a2 n2 c2, .slice a3 n3 c3]] w (BoolBel (spB S n1 n2 n3 O K (vals Z)) w) := by
  cases hh : hdS S n1 n2 n3 with
  | false =>
    rw [sp_hd hh]
    exact implSp_hd S a1 a2 a3 n1 c1 n2 c2 n3 c3 w hn1 hn2 hn3 hh
  | true =>
    obtain ⟨s, rfl, k1, k32, q1, q2, rfl⟩ := hd_nat hh
    obtain ⟨b1, o1, rfl, _⟩ := h1.at (show 0 < n1 by omega)
    exact implSp_yes s n1 n3 b1 o1 c1 c2 c3 a2 a3 O K Z w k1 k32 q1 q2 h1 h2 h3
theorem specSp_any (p : Nat) (S : Int) (a1 a2 a3 : Option Addr) (n1 c1 n2 c2 n3 c3 : Nat) (O K : Nat → Int) (Z : Nat → Nat) (w : World) (hn1 : n1 ≤ 1048576) (hn2 : n2 ≤ 1048576) (hn3 : n3 ≤ 1048576) (hp : p < w.heap.size) (hX : BoxL w p [.int .i64 S, .slice a1 n1 c1, .slice a2 n2 c2, .slice a3 n3 c3]) (h1 : IS .i64 w a1 n1 c1 O) (h2 : IS .i64 w a2 n2 c2 K) (h3 : FS .f32 w a3 n3 c3 Z) :
    Calls Try.prog 39 #[.pointer (some ⟨p, 0, none⟩)] w (BoolBel (spB S n1 n2 n3 O K (vals Z)) w) := by
  cases hh : (hdS S n1 n2 n3 && allFin (vals Z) n3) with
  | false =>
    have e : spB S n1 n2 n3 O K (vals Z) = false := by
      unfold spB
      cases q : hdS S n1 n2 n3 with
      | false => rfl
      | true => rw [q] at hh; simp only [Bool.true_and] at hh; rw [hh]; rfl
    rw [e]
    exact specSp_hd p S a1 a2 a3 n1 c1 n2 c2 n3 c3 Z w hn1 hn2 hn3 hX h3 hh
  | true =>
    simp only [Bool.and_eq_true] at hh
    obtain ⟨s, rfl, k1, k32, q1, q2, rfl⟩ := hd_nat hh.1
    obtain ⟨b1, o1, rfl, _⟩ := h1.at (show 0 < n1 by omega)
    exact specSp_yes p s n1 n3 b1 o1 c1 c2 c3 a2 a3 O K Z w k1 k32 q1 q2 hp hX h1 h2 h3 hh.2
end Go.Proofs.Ytmjlhmbnaifhaab
