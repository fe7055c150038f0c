/- Helper: walks of the small functions of chapter 2 on matrices: rows, numbers in their places. Conditions: none. -/
import Derived.Test.YtcibjkadlndejaaKeys
import Derived.Deep.QuietTactic
import Derived.BigQuiet
import Derived.IntWalk
set_option linter.unusedVariables false
set_option linter.unusedSimpArgs false
namespace Go.Proofs.Ytcibjkadlndejaa
open Go.RowKit

theorem place_lt {r c i k : Nat} (hi : i < r) (hk : k < c) : i * c + k < r * c := by
  have h1 : (i + 1) * c ≤ r * c := Nat.mul_le_mul_right c hi
  rw [Nat.add_mul, Nat.one_mul] at h1
  omega
theorem sides_le {r c : Nat} (hr : r ≤ 12) (hc : c ≤ 12) : r * c ≤ 144 := Nat.mul_le_mul hr hc

theorem ret_slice {a : Option Addr} {n m n' m' : Nat} (h : n = n') (k : m = m') : Ending.returned (.slice a n m) = .returned (.slice a n' m') := by rw [h, k]

theorem rowOf_any (b off r c n cap i : Nat) (w : World) (hr : r ≤ 12) (hc1 : 1 ≤ c) (hc : c ≤ 12) (hn : n = r * c) (hcap : n ≤ cap) (hm : cap ≤ 9223372036854775807) (hi : i < r) :
    Calls Try.prog 42 #[.agg #[.int .i64 r, .int .i64 c, .slice (some ⟨b, off, none⟩) n cap], .int .i64 i] w fun e w' => e = .returned (.slice (some ⟨b, off + i * c, none⟩) c c) ∧ Below w.heap.size w w' := by
  have h1 : (i + 1) * c ≤ r * c := Nat.mul_le_mul_right c hi
  have h2 := sides_le hr hc
  have h3 : i * c + c ≤ n := by rw [Nat.add_mul, Nat.one_mul] at h1; omega
  have h4 : n ≤ 144 := by omega
  have hN := Lib.hid hn
  have he : ((i : Int) + 1) * (c : Int) = ((i * c + c : Nat) : Int) := by rw [Int.natCast_add, Int.natCast_mul, Int.add_mul, Int.one_mul]
  have hb : (((i * c + c : Nat) : Int)).toNat = i * c + c := Int.toNat_natCast _
  have hb2 : (((i * c : Nat) : Int)).toNat = i * c := Int.toNat_natCast _
  have hne : ¬ (i * c + c = i * c) := by omega
  have hb3 : i * c + c - i * c = c := by omega
  clear hn h1 h2
  go_enter Try.func42, Try.ntmps42
  go_wp2
  go_quiet (fail)
  go_wp2
  go_ret
  exact ⟨ret_slice hb3 hb3, (by repeat first | (with_reducible exact Below.refl _ _) | (with_reducible refine Below.setCell ?_ (by first | exact Nat.le_refl _ | (simp; done) | (simp; omega) | omega) _) | (with_reducible refine Below.alloc ?_ (by first | exact Nat.le_refl _ | (simp; done) | (simp; omega) | omega) _) | (with_reducible refine below_drewN ?_ _) | (with_reducible refine Below.drew ?_))⟩

theorem specAt_any (p b off r c n cap i k : Nat) (Z : Nat → Nat) (w : World) (hr : r ≤ 12) (hc : c ≤ 12) (hn : n = r * c) (hb : Box w p r c (some ⟨b, off, none⟩) n cap) (h : FS .f32 w (some ⟨b, off, none⟩) n cap Z) (hi : i < r) (hk : k < c) :
    Calls Try.prog 71 #[.pointer (some ⟨p, 0, none⟩), .int .i64 i, .int .i64 k] w fun e w' => e = .returned (.float .f32 (Z (i * c + k))) ∧ ∃ m, w' = w.drewN m := by
  obtain ⟨hb0, hb1, hb2⟩ := hb
  have h1 := place_lt hi hk
  have h2 := sides_le hr hc
  have h3 : i * c + k < n := by omega
  have h4 : n ≤ 144 := by omega
  obtain ⟨b', off', e, hbl, hce, hfv⟩ := h.at h3
  simp only [Option.some.injEq, Addr.mk.injEq, and_true] at e
  obtain ⟨rfl, rfl⟩ := e
  have hN := Lib.hid hn
  have he : ((i : Int) * (c : Int) + (k : Int)) = ((i * c + k : Nat) : Int) := by rw [Int.natCast_add, Int.natCast_mul]
  have ht : ((i : Int) * (c : Int) + (k : Int)).toNat = i * c + k := by rw [he]; exact Int.toNat_natCast _
  have hlt : (i : Int) * (c : Int) + (k : Int) < (n : Int) := by rw [he]; omega
  have h0 : (0 : Int) ≤ (i : Int) * (c : Int) := by rw [← Int.natCast_mul]; omega
  have h00 : (i : Int) * (c : Int) ≤ 144 := by omega
  have hw1 : IntKind.i64.wrap ((i : Int) * (c : Int)) = (i : Int) * (c : Int) := IntWalk.i64_in _ (by omega)
  have hw2 : IntKind.i64.wrap ((i : Int) * (c : Int) + (k : Int)) = (i : Int) * (c : Int) + (k : Int) := IntWalk.i64_in _ (by omega)
  clear hn h1 h2 he hfv hbl h
  go_enter Try.func71, Try.ntmps71
  go_wp2
  go_quiet (fail)
  go_wp2
  go_ret
  exact ⟨rfl, _, rfl⟩
end Go.Proofs.Ytcibjkadlndejaa
