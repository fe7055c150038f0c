/- Helper: a number of a sparse square, of the program. Conditions: none. -/
import Derived.Test.YtmjlhmbnaifhaabTimesRow
set_option linter.unusedVariables false
set_option linter.unusedSimpArgs false
namespace Go.Proofs.Ytmjlhmbnaifhaab
open Go.RowKit Go.Shelf

attribute [local go_sem] Oper.semAt_some

def inS (s : Nat) (x : Int) : Bool := decide (0 ≤ x) && decide (x < (s : Int))
/-- The last number among those from A on that is told in a column. -/
def lastP (K : Nat → Int) (Z : Nat → Nat) (A : Nat) (c : Int) : Nat → Nat
  | 0 => 0
  | t + 1 => if K (A + t) = c then Z (A + t) else lastP K Z A c t
theorem lastP_none {K : Nat → Int} {Z : Nat → Nat} {A : Nat} {c : Int} : ∀ {m : Nat}, (∀ t, t < m → K (A + t) ≠ c) → lastP K Z A c m = 0
  | 0, _ => rfl
  | m + 1, h => by
    show (if K (A + m) = c then Z (A + m) else lastP K Z A c m) = 0
    rw [if_neg (h m (Nat.lt_succ_self m))]
    exact lastP_none fun t ht => h t (by omega)
theorem lastP_found {K : Nat → Int} {Z : Nat → Nat} {A x : Nat} {c : Int} (hx : K (A + x) = c) : ∀ {m : Nat}, x < m → (∀ t, x < t → t < m → K (A + t) ≠ c) → lastP K Z A c m = Z (A + x)
  | 0, h, _ => by omega
  | m + 1, h, hn => by
    show (if K (A + m) = c then Z (A + m) else lastP K Z A c m) = _
    by_cases e : x = m
    · subst e; rw [if_pos hx]
    · rw [if_neg (hn m (by omega) (Nat.lt_succ_self m))]
      exact lastP_found hx (by omega) fun t h1 h2 => hn t h1 (by omega)
theorem col_up {K : Nat → Int} {S : Int} {m x : Nat} (h : colB K S m = true) : ∀ {t : Nat}, x < t → t < m → K x < K t
  | 0, h1, _ => by omega
  | t + 1, h1, h2 => by
    have h3 := colB_lt h h2
    have e : lastK K (t + 1) = K t := rfl
    rw [e] at h3
    by_cases q : x = t
    · subst q; exact h3.1
    · have := col_up h (x := x) (t := t) (by omega) (by omega)
      omega
/-- What a number of a sparse square may be asked of. -/
def atB (S : Int) (n1 n2 n3 : Nat) (O K : Nat → Int) (V : Nat → Option Nat) (i k : Int) : Bool := spB S n1 n2 n3 O K V && (inS S.toNat i && inS S.toNat k)
theorem lies1_any (s : Nat) (x : Int) (w : World) (h1 : 1 ≤ s) (hs : s ≤ 32) : Calls Try.prog 44 #[.int .i64 (s : Int), .int .i64 1, .int .i64 x] w fun e w' => e = .returned (.bool (inS s x)) ∧ w = w' := by
  obtain ⟨s1, hs1⟩ : ∃ s1, s1 + 1 = s := ⟨s - 1, by omega⟩
  have hsub : IntKind.i64.wrap ((s : Int) - 1) = (s1 : Int) := by
    have e : (s : Int) - 1 = (s1 : Int) := by omega
    rw [e]; exact IntWalk.i64_in _ (by omega)
  have d1 : decide ((1 : Int) ≤ (s : Int)) = true := decide_eq_true (by omega)
  have d2 : decide (1 ≤ s) = true := decide_eq_true h1
  unfold inS
  by_cases h0 : 0 ≤ x
  · have d3 : decide (0 ≤ x) = true := decide_eq_true h0
    by_cases hx : x < (s : Int)
    · have d4 : decide (x ≤ (s1 : Int)) = true := decide_eq_true (by omega)
      have d5 : decide (x < (s : Int)) = true := decide_eq_true hx
      clear hs1 h0 hx
      go_enter Try.func44, Try.ntmps44
      go_wp2
      go_ret
      exact ⟨by rw [d3, d5]; first | done | rfl, rfl⟩
    · have d4 : decide (x ≤ (s1 : Int)) = false := decide_eq_false (by omega)
      have d5 : decide (x < (s : Int)) = false := decide_eq_false hx
      clear hs1 h0 hx
      go_enter Try.func44, Try.ntmps44
      go_wp2
      go_ret
      exact ⟨by rw [d3, d5]; first | done | rfl, rfl⟩
  · have d3 : decide (0 ≤ x) = false := decide_eq_false h0
    clear hs1 h0
    go_enter Try.func44, Try.ntmps44
    go_wp2
    go_ret
    exact ⟨by rw [d3]; first | done | rfl, rfl⟩
set_option maxHeartbeats 1000000 in
theorem implAt_no (S i k : Int) (a1 a2 a3 : Option Addr) (n1 c1 n2 c2 n3 c3 : Nat) (O K : Nat → Int) (Z : Nat → Nat) (w : World) (hn1 : n1 ≤ 1048576) (hn2 : n2 ≤ 1048576) (hn3 : n3 ≤ 1048576) (h1 : IS .i64 w a1 n1 c1 O) (h2 : IS .i64 w a2 n2 c2 K) (h3 : FS .f32 w a3 n3 c3 Z) (hno : atB S n1 n2 n3 O K (vals Z) i k = false) :
    Calls Try.prog 12 #[.agg #[.int .i64 S, .slice a1 n1 c1, .slice a2 n2 c2, .slice a3 n3 c3], .int .i64 i, .int .i64 k] w (NumBel false (some 0) w) := by
  have B0 : Below w.heap.size w ((((w.alloc (.cells #[.int .i64 S, .slice a1 n1 c1, .slice a2 n2 c2, .slice a3 n3 c3] 30)).alloc (.cells #[.int .i64 k] 2)).alloc (.cells #[.float .f32 0] 27)).alloc (.cells #[.bool false] 4)) := (by repeat first | (with_reducible exact Below.refl _ _) | (with_reducible refine Below.setCell ?_ (by first | exact Nat.le_refl _ | (simp; done) | (simp; omega) | omega) _) | (with_reducible refine Below.alloc ?_ (by first | exact Nat.le_refl _ | (simp; done) | (simp; omega) | omega) _) | (with_reducible refine below_drewN ?_ _) | (with_reducible refine Below.drew ?_))
  have X0 : BoxL ((((w.alloc (.cells #[.int .i64 S, .slice a1 n1 c1, .slice a2 n2 c2, .slice a3 n3 c3] 30)).alloc (.cells #[.int .i64 k] 2)).alloc (.cells #[.float .f32 0] 27)).alloc (.cells #[.bool false] 4)) w.heap.size [.int .i64 S, .slice a1 n1 c1, .slice a2 n2 c2, .slice a3 n3 c3] := BoxL.four (by simp [go_sem]) (by simp [go_sem]) (by simp [go_sem]) (by simp [go_sem])
  have C0 : ((((w.alloc (.cells #[.int .i64 S, .slice a1 n1 c1, .slice a2 n2 c2, .slice a3 n3 c3] 30)).alloc (.cells #[.int .i64 k] 2)).alloc (.cells #[.float .f32 0] 27)).alloc (.cells #[.bool false] 4)).cell? ⟨w.heap.size + 1, 0, none⟩ = some (.int .i64 k) ∧
      ((((w.alloc (.cells #[.int .i64 S, .slice a1 n1 c1, .slice a2 n2 c2, .slice a3 n3 c3] 30)).alloc (.cells #[.int .i64 k] 2)).alloc (.cells #[.float .f32 0] 27)).alloc (.cells #[.bool false] 4)).cell? ⟨w.heap.size + 1 + 1, 0, none⟩ = some (.float .f32 0) ∧
      ((((w.alloc (.cells #[.int .i64 S, .slice a1 n1 c1, .slice a2 n2 c2, .slice a3 n3 c3] 30)).alloc (.cells #[.int .i64 k] 2)).alloc (.cells #[.float .f32 0] 27)).alloc (.cells #[.bool false] 4)).cell? ⟨w.heap.size + 1 + 1 + 1, 0, none⟩ = some (.bool false) ∧
      ∀ q, ((((w.alloc (.cells #[.int .i64 S, .slice a1 n1 c1, .slice a2 n2 c2, .slice a3 n3 c3] 30)).alloc (.cells #[.int .i64 k] 2)).alloc (.cells #[.float .f32 0] 27)).alloc (.cells #[.bool false] 4)).frozen? ⟨w.heap.size + 1 + 1, q, none⟩ = false ∧ ((((w.alloc (.cells #[.int .i64 S, .slice a1 n1 c1, .slice a2 n2 c2, .slice a3 n3 c3] 30)).alloc (.cells #[.int .i64 k] 2)).alloc (.cells #[.float .f32 0] 27)).alloc (.cells #[.bool false] 4)).frozen? ⟨w.heap.size + 1 + 1 + 1, q, none⟩ = false :=
    ⟨by simp [go_sem], by simp [go_sem], by simp [go_sem], fun q => ⟨by simp [go_sem], by simp [go_sem]⟩⟩
  have S0 : ((((w.alloc (.cells #[.int .i64 S, .slice a1 n1 c1, .slice a2 n2 c2, .slice a3 n3 c3] 30)).alloc (.cells #[.int .i64 k] 2)).alloc (.cells #[.float .f32 0] 27)).alloc (.cells #[.bool false] 4)).heap.size = w.heap.size + 1 + 1 + 1 + 1 := by simp
  have HNO := Lib.hid hno
  go_enter Try.func12, Try.ntmps12
  go_wp2_with fail
  generalize ((((w.alloc (.cells #[.int .i64 S, .slice a1 n1 c1, .slice a2 n2 c2, .slice a3 n3 c3] 30)).alloc (.cells #[.int .i64 k] 2)).alloc (.cells #[.float .f32 0] 27)).alloc (.cells #[.bool false] 4)) = w0 at B0 X0 C0 S0 ⊢
  obtain ⟨ck, cr, cb, ci⟩ := C0
  go_at_call 43
  refine (implSp_any S a1 a2 a3 n1 c1 n2 c2 n3 c3 O K Z _ hn1 hn2 hn3 (h1.below B0 (Nat.le_refl _)) (h2.below B0 (Nat.le_refl _)) (h3.below B0 (Nat.le_refl _))).mono ?_
  rintro e w1 ⟨rfl, b1⟩
  have B1 := B0.trans (b1.mono B0.size)
  have s1 := b1.size
  have y0 := X0.below b1 (by omega) 0 _ rfl
  have yk := (b1.cell (p := ⟨w.heap.size + 1, 0, none⟩) (by show w.heap.size + 1 < w0.heap.size; omega)).trans ck
  have yr := (b1.cell (p := ⟨w.heap.size + 1 + 1, 0, none⟩) (by show w.heap.size + 1 + 1 < w0.heap.size; omega)).trans cr
  have yb := (b1.cell (p := ⟨w.heap.size + 1 + 1 + 1, 0, none⟩) (by show w.heap.size + 1 + 1 + 1 < w0.heap.size; omega)).trans cb
  have zr : ∀ q, w1.frozen? ⟨w.heap.size + 1 + 1, q, none⟩ = false := fun q => (b1.frozen (p := ⟨w.heap.size + 1 + 1, q, none⟩) (by show w.heap.size + 1 + 1 < w0.heap.size; omega)).trans (ci q).1
  have zb : ∀ q, w1.frozen? ⟨w.heap.size + 1 + 1 + 1, q, none⟩ = false := fun q => (b1.frozen (p := ⟨w.heap.size + 1 + 1 + 1, q, none⟩) (by show w.heap.size + 1 + 1 + 1 < w0.heap.size; omega)).trans (ci q).2
  clear b1 ck cr cb ci X0 B0
  have fin : Below w.heap.size w ((w1.setCell ⟨w.heap.size + 1 + 1, 0, none⟩ (.float .f32 0)).setCell ⟨w.heap.size + 1 + 1 + 1, 0, none⟩ (.bool false)) := (B1.setCell (p := ⟨w.heap.size + 1 + 1, 0, none⟩) (by show w.heap.size ≤ w.heap.size + 1 + 1; omega) _).setCell (p := ⟨w.heap.size + 1 + 1 + 1, 0, none⟩) (by show w.heap.size ≤ w.heap.size + 1 + 1 + 1; omega) _
  cases hs : spB S n1 n2 n3 O K (vals Z) with
  | false =>
    clear hs hno
    go_wp2_with fail
    refine bodyPost_ret (v := .tuple #[.float .f32 0, .bool false]) (by simp [results, Try.results12, go_sem, yr, yb]) rfl ?_
    exact ⟨0, rfl, FV.lit (by kernel_rfl) (by kernel_rfl), fin⟩
  | true =>
    obtain ⟨s, rfl, q1, q2, _⟩ := sp_nat hs
    cases hi : inS s i with
    | false =>
      clear hs hno
      go_wp2_with fail
      go_at_call 44
      refine (lies1_any s i _ q1 q2).mono ?_
      rw [hi]
      rintro e w' ⟨rfl, rfl⟩
      clear hi
      go_wp2_with fail
      refine bodyPost_ret (v := .tuple #[.float .f32 0, .bool false]) (by simp [results, Try.results12, go_sem, yr, yb]) rfl ?_
      exact ⟨0, rfl, FV.lit (by kernel_rfl) (by kernel_rfl), fin⟩
    | true =>
      have hk : inS s k = false := by
        unfold atB at hno
        rw [hs, Int.toNat_natCast, hi] at hno
        simpa using hno
      clear hs hno
      go_wp2_with fail
      go_at_call 44
      refine (lies1_any s i _ q1 q2).mono ?_
      rw [hi]
      rintro e w' ⟨rfl, rfl⟩
      clear hi
      go_wp2_with fail
      go_at_call 44
      refine (lies1_any s k _ q1 q2).mono ?_
      rw [hk]
      rintro e w' ⟨rfl, rfl⟩
      clear hk
      go_wp2_with fail
      refine bodyPost_ret (v := .tuple #[.float .f32 0, .bool false]) (by simp [results, Try.results12, go_sem, yr, yb]) rfl ?_
      exact ⟨0, rfl, FV.lit (by kernel_rfl) (by kernel_rfl), fin⟩
set_option maxRecDepth 100000 in
set_option maxHeartbeats 4000000 in
theorem implAt_yes (s A m n1 n2 b1 o1 c1 c2 c3 i : Nat) (kc : Int) (a2 a3 : Option Addr) (O K : Nat → Int) (Z : Nat → Nat) (w : World) (hs1 : 1 ≤ s) (hs : s ≤ 32) (hn1 : n1 ≤ 1048576) (hi : i < s) (hi1 : i + 1 < n1) (hO : O i = (A : Int)) (hO1 : O (i + 1) = ((A + m : Nat) : Int)) (hE : A + m ≤ n2) (hn2 : n2 ≤ 512) (hcol : colB (fun t => K (A + t)) s m = true) (hk : inS s kc = true) (hok : spB s n1 n2 n2 O K (vals Z) = true)
    (h1 : IS .i64 w (some ⟨b1, o1, none⟩) n1 c1 O) (h2 : IS .i64 w a2 n2 c2 K) (h3 : FS .f32 w a3 n2 c3 Z) :
    Calls Try.prog 12 #[.agg #[.int .i64 (s : Int), .slice (some ⟨b1, o1, none⟩) n1 c1, .slice a2 n2 c2, .slice a3 n2 c3], .int .i64 (i : Int), .int .i64 kc] w (NumBel true (cn .f32 (lastP K Z A kc m)) w) := by
  have HO := Lib.hid hO
  have HO1 := Lib.hid hO1
  have HCOL := Lib.hid (fun x t (h1 : x < t) (h2 : t < m) => col_up (K := fun t => K (A + t)) hcol h1 h2)
  have HOK := Lib.hid hok
  have HK := Lib.hid hk
  have HI : Hid (inS s (i : Int) = true) := Lib.hid (by unfold inS; rw [decide_eq_true (by omega), decide_eq_true (by omega)]; rfl)
  have B0 : Below w.heap.size w ((((w.alloc (.cells #[.int .i64 (s : Int), .slice (some ⟨b1, o1, none⟩) n1 c1, .slice a2 n2 c2, .slice a3 n2 c3] 30)).alloc (.cells #[.int .i64 kc] 2)).alloc (.cells #[.float .f32 0] 27)).alloc (.cells #[.bool false] 4)) := (by repeat first | (with_reducible exact Below.refl _ _) | (with_reducible refine Below.setCell ?_ (by first | exact Nat.le_refl _ | (simp; done) | (simp; omega) | omega) _) | (with_reducible refine Below.alloc ?_ (by first | exact Nat.le_refl _ | (simp; done) | (simp; omega) | omega) _) | (with_reducible refine below_drewN ?_ _) | (with_reducible refine Below.drew ?_))
  have X0 : BoxL ((((w.alloc (.cells #[.int .i64 (s : Int), .slice (some ⟨b1, o1, none⟩) n1 c1, .slice a2 n2 c2, .slice a3 n2 c3] 30)).alloc (.cells #[.int .i64 kc] 2)).alloc (.cells #[.float .f32 0] 27)).alloc (.cells #[.bool false] 4)) w.heap.size [.int .i64 (s : Int), .slice (some ⟨b1, o1, none⟩) n1 c1, .slice a2 n2 c2, .slice a3 n2 c3] := BoxL.four (by simp [go_sem]) (by simp [go_sem]) (by simp [go_sem]) (by simp [go_sem])
  have C0 : ((((w.alloc (.cells #[.int .i64 (s : Int), .slice (some ⟨b1, o1, none⟩) n1 c1, .slice a2 n2 c2, .slice a3 n2 c3] 30)).alloc (.cells #[.int .i64 kc] 2)).alloc (.cells #[.float .f32 0] 27)).alloc (.cells #[.bool false] 4)).cell? ⟨w.heap.size + 1, 0, none⟩ = some (.int .i64 kc) := by simp [go_sem]
  have T0 : Boxed ((((w.alloc (.cells #[.int .i64 (s : Int), .slice (some ⟨b1, o1, none⟩) n1 c1, .slice a2 n2 c2, .slice a3 n2 c3] 30)).alloc (.cells #[.int .i64 kc] 2)).alloc (.cells #[.float .f32 0] 27)).alloc (.cells #[.bool false] 4)) (w.heap.size + 1 + 1) 27 (.float .f32 0) := by
    have h := Boxed.new ((w.alloc (.cells #[.int .i64 (s : Int), .slice (some ⟨b1, o1, none⟩) n1 c1, .slice a2 n2 c2, .slice a3 n2 c3] 30)).alloc (.cells #[.int .i64 kc] 2)) 27 (.float .f32 0)
    have h2 := h.kept (World.grownBy_alloc _ (.cells #[.bool false] 4) none) (fun h => by cases h)
    simpa using h2
  have U0 : Boxed ((((w.alloc (.cells #[.int .i64 (s : Int), .slice (some ⟨b1, o1, none⟩) n1 c1, .slice a2 n2 c2, .slice a3 n2 c3] 30)).alloc (.cells #[.int .i64 kc] 2)).alloc (.cells #[.float .f32 0] 27)).alloc (.cells #[.bool false] 4)) (w.heap.size + 1 + 1 + 1) 4 (.bool false) := by
    have h := Boxed.new (((w.alloc (.cells #[.int .i64 (s : Int), .slice (some ⟨b1, o1, none⟩) n1 c1, .slice a2 n2 c2, .slice a3 n2 c3] 30)).alloc (.cells #[.int .i64 kc] 2)).alloc (.cells #[.float .f32 0] 27)) 4 (.bool false)
    simpa using h
  have S0 : ((((w.alloc (.cells #[.int .i64 (s : Int), .slice (some ⟨b1, o1, none⟩) n1 c1, .slice a2 n2 c2, .slice a3 n2 c3] 30)).alloc (.cells #[.int .i64 kc] 2)).alloc (.cells #[.float .f32 0] 27)).alloc (.cells #[.bool false] 4)).heap.size = w.heap.size + 1 + 1 + 1 + 1 := by simp
  clear hO hO1 hcol hok hk
  refine (callsIn_wide (n := 9)).1 ?_
  refine callsIn_of_wp_marks Try.func12 rfl trivial ?_ rfl
  simp only [Try.ntmps12, List.size_toArray, List.length_cons, List.length_nil, Nat.reduceAdd, Nat.reduceSub, Array.replicate_succ, Array.replicate_zero, List.push_toArray, List.append_toArray, List.nil_append, List.cons_append]
  gi_wp2_with fail
  refine ⟨trivial, ?_⟩
  generalize ((((w.alloc (.cells #[.int .i64 (s : Int), .slice (some ⟨b1, o1, none⟩) n1 c1, .slice a2 n2 c2, .slice a3 n2 c3] 30)).alloc (.cells #[.int .i64 kc] 2)).alloc (.cells #[.float .f32 0] 27)).alloc (.cells #[.bool false] 4)) = w0 at B0 X0 C0 T0 U0 S0 ⊢
  gi_at_call 43
  refine (callsIn_wide.2 (implSp_any s _ a2 a3 n1 c1 n2 c2 n2 c3 O K Z _ hn1 (by omega) (by omega) (h1.below B0 (Nat.le_refl _)) (h2.below B0 (Nat.le_refl _)) (h3.below B0 (Nat.le_refl _)))).mono ?_
  rw [HOK.out]
  rintro e w1 ⟨rfl, b1'⟩
  have X1 := X0.below b1' (by omega)
  have C1 := (b1'.cell (p := ⟨w.heap.size + 1, 0, none⟩) (by show w.heap.size + 1 < w0.heap.size; omega)).trans C0
  have T1 : Boxed w1 (w.heap.size + 1 + 1) 27 (.float .f32 0) := T0.kept (below_grew b1') (fun h => by cases h)
  have U1 : Boxed w1 (w.heap.size + 1 + 1 + 1) 4 (.bool false) := U0.kept (below_grew b1') (fun h => by cases h)
  have B1 : Below w.heap.size w w1 := B0.trans (b1'.mono (by omega))
  have s1 : w.heap.size + 4 ≤ w1.heap.size := by have := b1'.size; omega
  have x0 := X1 0 _ rfl
  have x1 := X1 1 _ rfl
  have x2 := X1 2 _ rfl
  have x3 := X1 3 _ rfl
  clear X0 C0 T0 U0 B0 b1' S0
  gi_wp2_with fail
  refine ⟨trivial, ?_⟩
  gi_at_call 44
  refine (callsIn_wide.2 (lies1_any s (i : Int) _ hs1 hs)).mono ?_
  rw [HI.out]
  rintro e w' ⟨rfl, rfl⟩
  gi_wp2_with fail
  refine ⟨trivial, ?_⟩
  gi_at_call 44
  refine (callsIn_wide.2 (lies1_any s kc _ hs1 hs)).mono ?_
  rw [HK.out]
  rintro e w' ⟨rfl, rfl⟩
  gi_wp2_with fail
  refine ⟨trivial, ?_⟩
  gi_at_call 45
  refine (callsIn_wide.2 (inRow_any _ _ _ _ _ _ rfl rfl rfl rfl)).mono ?_
  rintro e w2 ⟨rfl, X2, R2, S2, b2⟩
  gi_wp2_with fail
  have B2 : Below w.heap.size w w2 := B1.trans (b2.mono (by omega))
  have T2 : Boxed w2 (w.heap.size + 1 + 1) 27 (.float .f32 0) := T1.kept (below_grew b2) (fun h => by cases h)
  have U2 : Boxed w2 (w.heap.size + 1 + 1 + 1) 4 (.bool false) := U1.kept (below_grew b2) (fun h => by cases h)
  have C2 := (b2.cell (p := ⟨w.heap.size + 1, 0, none⟩) (by show w.heap.size + 1 < w1.heap.size; omega)).trans C1
  clear b2 T1 U1 C1 X1 x0 x1 x2 x3 B1
  refine wpIn_rangeF (n := 9) rfl (enters_of Try.func69 (by kernel_rfl) rfl)
    (inRow_seqF 8 w1.heap.size (w1.heap.size + 1) w.heap.size s A m n1 n2 b1 o1 c1 c2 c3 i a2 a3 O K Z (by omega) hn1 hi1 HO.out HO1.out hE hn2 w2 (by omega) (by omega) (by omega) X2 R2 (fun W' hb => h1.below (B2.trans hb) (Nat.le_refl _)) (fun W' hb => h2.below (B2.trans hb) (Nat.le_refl _)) (fun W' hb => h3.below (B2.trans hb) (Nat.le_refl _)))
    (Below.refl _ _) (fun k hk => by rcases hk with h | h | h <;> omega) (fun _ => rfl)
    (fun pre X W => (∀ t, t < pre.length → K (A + t) ≠ kc) ∧ (∀ k, ¬ X k) ∧ Frm (fun k => k < w2.heap.size) w2 W)
    (fun c pre X W => c = .ret ∧ (∃ x, x < m ∧ K (A + x) = kc ∧ Boxed W (w.heap.size + 1 + 1) 27 (.float .f32 (Z (A + x)))) ∧ Boxed W (w.heap.size + 1 + 1 + 1) 4 (.bool true) ∧ Frm (fun k => k < w.heap.size) w2 W)
    (fun pre X A B h hf => by
      obtain ⟨hq, hx, hw⟩ := h
      exact ⟨hq, hx, hw.trans (hf.mono fun k _ hk => .inl hk)⟩)
    (fun c pre X A B h hf => by
      obtain ⟨hc, ⟨x, h1, h2, h3⟩, h4, h5⟩ := h
      exact ⟨hc, ⟨x, h1, h2, (hf.same _ h3.lt (.inl (by omega))).trans h3⟩, (hf.same _ h4.lt (.inl (by omega))).trans h4, h5.trans (hf.mono fun k _ hk => .inl (by omega))⟩)
    (fun pre X A k h hk => absurd hk (h.2.1 k)) (fun _ => False) ⟨fun t ht => absurd ht (Nat.not_lt_zero _), fun _ h => h, Frm.refl _ _⟩ ?round ?done ?stop
  case round =>
    rintro l pre x X W hl ⟨hq, hX, hf⟩ ⟨hpre, hxm⟩ hlW hnl K' hK
    simp only [rowEnc]
    have HQ := Lib.hid hq
    have HF := Lib.hid hf
    have HX := Lib.hid hX
    clear hq hf hX
    gi_wp2
    refine hK _ _ (Frm.refl _ _) (fun w₂ f₂ => ?_)
    clear hK
    have f12 : Frm (fun k => k < w2.heap.size) w2 w₂ := HF.out.trans (f₂.mono fun k _ hk => by omega)
    have hT : Boxed w₂ (w.heap.size + 1 + 1) 27 (.float .f32 0) := (f12.same _ T2.lt (by omega)).trans T2
    have hU : Boxed w₂ (w.heap.size + 1 + 1 + 1) 4 (.bool false) := (f12.same _ U2.lt (by omega)).trans U2
    have cT := hT.cell
    have zT := hT.frozen
    have cU := hU.cell
    have zU := hU.frozen
    have cC := f12.cell (p := ⟨w.heap.size + 1, 0, none⟩) (by show w.heap.size + 1 < w2.heap.size; omega) (by show w.heap.size + 1 < w2.heap.size; omega) C2
    by_cases he : K (A + x) = kc
    · have HE := Lib.hid he
      rw [he]
      have HZ : Hid (Z (A + x) = Z (A + x)) := Lib.hid rfl
      have hd : decide (kc = kc) = true := decide_eq_true rfl
      clear he
      gi_wp2
      refine ⟨X, ⟨rfl, ⟨x, hxm, HE.out, ?_⟩, ?_, ?_⟩, ⟨?_, fun k _ h => h⟩⟩
      · exact (hT.set _).other (B' := w.heap.size + 1 + 1 + 1) (by omega) _
      · exact (hU.other (B' := w.heap.size + 1 + 1) (by omega) _).set _
      · exact (f12.mono fun k _ hk => by omega).trans ((Frm.set _ _ (by omega)).trans (Frm.set _ _ (by omega)))
      · exact (Frm.set _ _ (fun h => by rcases h with (h | h | h) | ⟨h, _⟩ <;> omega)).trans (Frm.set _ _ (fun h => by rcases h with (h | h | h) | ⟨h, _⟩ <;> omega))
    · have HE := Lib.hid he
      have hd : (K (A + x) == kc) = false := beq_eq_false_iff_ne.2 he
      clear he
      gi_wp2
      refine ⟨X, ⟨fun t ht => ?_, HX.out, f12⟩, ⟨Frm.refl _ _, fun k _ h => h⟩⟩
      by_cases e : t = x
      · rw [e]; exact HE.out
      · refine HQ.out t ?_
        rw [hpre, List.length_append, List.length_range] at ht
        rw [hpre, List.length_range]
        simp at ht
        omega
  case done =>
    rintro xs X W rfl ⟨hq, hX, hf⟩ hnX hD
    rw [List.length_range] at hq
    have hT : Boxed W (w.heap.size + 1 + 1) 27 (.float .f32 0) := (hf.same _ T2.lt (by omega)).trans T2
    have hU : Boxed W (w.heap.size + 1 + 1 + 1) 4 (.bool false) := (hf.same _ U2.lt (by omega)).trans U2
    have cT := hT.cell
    have zT := hT.frozen
    have cU := hU.cell
    have zU := hU.frozen
    have HL : Hid (lastP K Z A kc m = 0) := Lib.hid (lastP_none hq)
    have HB : Hid (Below w.heap.size w W) := Lib.hid (B2.trans (hf.below (by omega) (fun k hk => by omega)))
    have HD := Lib.hid hD
    clear hq hf
    gi_wp2
    have HB2 : Below w.heap.size w ((W.setCell ⟨w.heap.size + 1 + 1, 0, none⟩ (.float .f32 0)).setCell ⟨w.heap.size + 1 + 1 + 1, 0, none⟩ (.bool true)) := (HB.out.setCell (p := ⟨w.heap.size + 1 + 1, 0, none⟩) (by show w.heap.size ≤ w.heap.size + 1 + 1; omega) _).setCell (p := ⟨w.heap.size + 1 + 1 + 1, 0, none⟩) (by show w.heap.size ≤ w.heap.size + 1 + 1 + 1; omega) _
    have hT3 : Boxed ((W.setCell ⟨w.heap.size + 1 + 1, 0, none⟩ (.float .f32 0)).setCell ⟨w.heap.size + 1 + 1 + 1, 0, none⟩ (.bool true)) (w.heap.size + 1 + 1) 27 (.float .f32 0) := (hT.set _).other (B' := w.heap.size + 1 + 1 + 1) (by omega) _
    have hU3 : Boxed ((W.setCell ⟨w.heap.size + 1 + 1, 0, none⟩ (.float .f32 0)).setCell ⟨w.heap.size + 1 + 1 + 1, 0, none⟩ (.bool true)) (w.heap.size + 1 + 1 + 1) 4 (.bool true) := (hU.other (B' := w.heap.size + 1 + 1) (by omega) _).set _
    have hD3 : ((W.setCell ⟨w.heap.size + 1 + 1, 0, none⟩ (.float .f32 0)).setCell ⟨w.heap.size + 1 + 1 + 1, 0, none⟩ (.bool true)).heap[w2.heap.size]? = some (.deferred (some [])) := (((Frm.set (M := fun k => k = w2.heap.size) _ _ (by omega)).trans (Frm.set _ _ (by omega))).same _ (Array.getElem?_eq_some_iff.1 HD.out).1 rfl).trans HD.out
    clear cT cU zT zU hT hU
    generalize ((W.setCell ⟨w.heap.size + 1 + 1, 0, none⟩ (.float .f32 0)).setCell ⟨w.heap.size + 1 + 1 + 1, 0, none⟩ (.bool true)) = W3 at HB2 hT3 hU3 hD3 ⊢
    have fp : ∀ k, k ≠ w2.heap.size → Frm (fun j => j = k) W3 (W3.putObj w2.heap.size (.deferred none)) := fun k hk => Frm.put W3 _ (by omega)
    have cT4 : (W3.putObj w2.heap.size (.deferred none)).cell? ⟨w.heap.size + 1 + 1, 0, none⟩ = some (.float .f32 0) := (fp (w.heap.size + 1 + 1) (by omega)).cell (p := ⟨w.heap.size + 1 + 1, 0, none⟩) hT3.lt rfl hT3.cell
    have cU4 : (W3.putObj w2.heap.size (.deferred none)).cell? ⟨w.heap.size + 1 + 1 + 1, 0, none⟩ = some (.bool true) := (fp (w.heap.size + 1 + 1 + 1) (by omega)).cell (p := ⟨w.heap.size + 1 + 1 + 1, 0, none⟩) hU3.lt rfl hU3.cell
    refine ⟨by simp, .inl ⟨_, _, rfl, run_takeDeferred hD3, ?_⟩⟩
    refine ⟨.tuple #[.float .f32 0, .bool true], by simp [results, Try.results12, go_sem, cT4, cU4], ?_⟩
    exact ⟨0, rfl, by rw [HL.out]; exact FV.of_eq (FV.lit (by kernel_rfl) (by kernel_rfl)) (show (some 0 : Option Nat) = cn .f32 0 by kernel_rfl), HB2.trans ((Frm.put (M := fun k => k < w.heap.size) W3 _ (by omega)).below HB2.size (fun k hk => hk))⟩
  case stop =>
    rintro c pre X W _ ⟨rfl, ⟨x, hxm, hx, hT⟩, hU, hf⟩ hnX hD
    have cT := hT.cell
    have cU := hU.cell
    have HB : Below w.heap.size w W := B2.trans (hf.below (by omega) (fun k hk => hk))
    gi_wp2
    have fp : ∀ k, k ≠ w2.heap.size → Frm (fun j => j = k) W (W.putObj w2.heap.size (.deferred none)) := fun k hk => Frm.put W _ (by omega)
    have cT4 : (W.putObj w2.heap.size (.deferred none)).cell? ⟨w.heap.size + 1 + 1, 0, none⟩ = some (.float .f32 (Z (A + x))) := (fp (w.heap.size + 1 + 1) (by omega)).cell (p := ⟨w.heap.size + 1 + 1, 0, none⟩) hT.lt rfl cT
    have cU4 : (W.putObj w2.heap.size (.deferred none)).cell? ⟨w.heap.size + 1 + 1 + 1, 0, none⟩ = some (.bool true) := (fp (w.heap.size + 1 + 1 + 1) (by omega)).cell (p := ⟨w.heap.size + 1 + 1 + 1, 0, none⟩) hU.lt rfl cU
    refine ⟨by simp, .inl ⟨_, _, rfl, run_takeDeferred hD, ?_⟩⟩
    refine ⟨.tuple #[.float .f32 (Z (A + x)), .bool true], by simp [results, Try.results12, go_sem, cT4, cU4], ?_⟩
    refine ⟨Z (A + x), rfl, ?_, HB.trans ((Frm.put (M := fun k => k < w.heap.size) W _ (by omega)).below HB.size (fun k hk => hk))⟩
    rw [lastP_found hx hxm (fun t h1 h2 e => by have := HCOL.out x t h1 h2; omega)]
    exact (h3.at (show A + x < n2 by omega)).elim fun _ q => q.elim fun _ q => q.2.2.2
end Go.Proofs.Ytmjlhmbnaifhaab
