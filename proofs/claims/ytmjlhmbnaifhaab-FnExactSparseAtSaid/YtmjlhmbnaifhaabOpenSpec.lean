/- Helper: a sparse square opened to all of its numbers, of the reference. Conditions: none. -/
import Derived.Test.YtmjlhmbnaifhaabAtImpl
import Derived.Test.YtmjlhmbnaifhaabPivot
import Derived.Test.YtmjlhmbnaifhaabToldIter
import Derived.Deep.OwnRows
import Derived.RegionTactic
import Derived.BigRegion
set_option linter.unusedVariables false
set_option linter.unusedSimpArgs false
namespace Go.Proofs.Ytmjlhmbnaifhaab
open Go.RowKit

theorem infoB : (Try.prog.info? 4).map (fun i => (i.zero, i.size, i.bytes)) = some (some (.bool false), 1, 1) := by kernel_rfl
theorem infoF4 : (Try.prog.info? 27).map (fun i => (i.zero, i.size, i.bytes)) = some (some (.float .f32 0), 1, 4) := by kernel_rfl
set_option maxRecDepth 20000 in
set_option maxHeartbeats 2000000 in
theorem l05Blank_any (s N : Nat) (w : World) (hs : s ≤ 32) (hN : N = s * s) :
    Calls Try.prog 64 #[.int .i64 (s : Int)] w fun e w' => ∃ gt gn, e = .returned (.agg #[.int .i64 (s : Int), .slice (some ⟨gt, 0, none⟩) N N, .slice (some ⟨gn, 0, none⟩) N N]) ∧ w.heap.size ≤ gt ∧ w.heap.size ≤ gn ∧ gt ≠ gn ∧
      w'.rowIs gt 4 N (fun _ => .bool false) ∧ w'.rowIs gn 27 N (fun _ => .float .f32 0) ∧ Below w.heap.size w w' := by
  have h4 : N ≤ 1024 := by rw [hN]; exact Nat.mul_le_mul hs hs
  have he : (s : Int) * (s : Int) = ((N : Nat) : Int) := by rw [hN, Int.natCast_mul]
  have hw : IntKind.i64.wrap ((s : Int) * (s : Int)) = (N : Int) := by rw [he]; exact IntWalk.i64_in _ (by omega)
  have m1 := fun W => run_make_row' (P := Try.prog) 60 4 (.bool false) 1 Try.underlying60 infoB rfl .i64 .i64 N (by omega) (by omega) W
  have m2 := fun W => run_make_row' (P := Try.prog) 23 27 (.float .f32 0) 4 Try.underlying23 infoF4 rfl .i64 .i64 N (by omega) (by omega) W
  clear he hN
  go_enter Try.func64, Try.ntmps64
  go_wp2
  go_region
  all_goals go_wp2
  · refine bodyPost_ret (v := .agg #[.int .i64 (s : Int), .slice (some ⟨w.heap.size + 1, 0, none⟩) N N, .slice (some ⟨w.heap.size + 1 + 1, 0, none⟩) N N]) (by simp [results, Try.results64, go_sem]) rfl ?_
    refine ⟨w.heap.size + 1, w.heap.size + 1 + 1, rfl, by omega, by omega, by omega, ?_, ?_, (by repeat first | (with_reducible exact Below.refl _ _) | (with_reducible refine Below.setCell ?_ (by first | exact Nat.le_refl _ | (simp; done) | (simp; omega) | omega) _) | (with_reducible refine Below.alloc ?_ (by first | exact Nat.le_refl _ | (simp; done) | (simp; omega) | omega) _) | (with_reducible refine below_drewN ?_ _) | (with_reducible refine Below.drew ?_))⟩
    · exact World.rowIs.alloc (by have := World.rowIs_made (w.alloc (.cells #[.int .i64 (s : Int), .slice (some ⟨w.heap.size + 1, 0, none⟩) N N, .slice (some ⟨w.heap.size + 1 + 1, 0, none⟩) N N] 62)) (.bool false) N 4; simpa using this) _
    · have := World.rowIs_made ((w.alloc (.cells #[.int .i64 (s : Int), .slice (some ⟨w.heap.size + 1, 0, none⟩) N N, .slice (some ⟨w.heap.size + 1 + 1, 0, none⟩) N N] 62)).alloc (.cells (madeCells #[.bool false] N) 4)) (.float .f32 0) N 27
      exact World.rowIs.drew (by simpa using this)
  · refine bodyPost_ret (v := .agg #[.int .i64 (s : Int), .slice (some ⟨w.heap.size + 1 + 1, 0, none⟩) N N, .slice (some ⟨w.heap.size + 1, 0, none⟩) N N]) (by simp [results, Try.results64, go_sem]) rfl ?_
    refine ⟨w.heap.size + 1 + 1, w.heap.size + 1, rfl, by omega, by omega, by omega, ?_, ?_, (by repeat first | (with_reducible exact Below.refl _ _) | (with_reducible refine Below.setCell ?_ (by first | exact Nat.le_refl _ | (simp; done) | (simp; omega) | omega) _) | (with_reducible refine Below.alloc ?_ (by first | exact Nat.le_refl _ | (simp; done) | (simp; omega) | omega) _) | (with_reducible refine below_drewN ?_ _) | (with_reducible refine Below.drew ?_))⟩
    · have := World.rowIs_made ((w.alloc (.cells #[.int .i64 (s : Int), .slice (some ⟨w.heap.size + 1 + 1, 0, none⟩) N N, .slice (some ⟨w.heap.size + 1, 0, none⟩) N N] 62)).alloc (.cells (madeCells #[.float .f32 0] N) 27)) (.bool false) N 4
      exact World.rowIs.drew (by simpa using this)
    · exact World.rowIs.alloc (by have := World.rowIs_made (w.alloc (.cells #[.int .i64 (s : Int), .slice (some ⟨w.heap.size + 1 + 1, 0, none⟩) N N, .slice (some ⟨w.heap.size + 1, 0, none⟩) N N] 62)) (.float .f32 0) N 27; simpa using this) _
/-- The tables of all numbers when so many are told: number t is told at place D t. -/
def putN (D Z : Nat → Nat) : Nat → Nat → Nat
  | 0, _ => 0
  | q + 1, p => if p = D q then Z q else putN D Z q p
def putT (D : Nat → Nat) : Nat → Nat → Bool
  | 0, _ => false
  | q + 1, p => if p = D q then true else putT D q p
/-- What holds when so many numbers are told. -/
structure OpenInv (w : World) (G gt gn s N : Nat) (D Z : Nat → Nat) (q q2 : Nat) (W : World) : Prop where
  told : W.rowIs gt 4 N (fun p => .bool (putT D q p))
  nums : W.rowIs gn 27 N (fun p => .float .f32 (putN D Z q2 p))
  box : BoxL W G [.int .i64 (s : Int), .slice (some ⟨gt, 0, none⟩) N N, .slice (some ⟨gn, 0, none⟩) N N]
  res : W.heap[w.heap.size]? = some (.cells #[.int .i64 0, .slice none 0 0, .slice none 0 0] 62)
  size : G < W.heap.size
  below : Below w.heap.size w W
theorem OpenInv.tell {w W : World} {G gt gn s N q : Nat} {D Z : Nat → Nat} (h : OpenInv w G gt gn s N D Z q q W) (hne : gt ≠ gn) (hG : gt ≠ G) (hw : w.heap.size < gt) : OpenInv w G gt gn s N D Z (q + 1) q (W.setCell ⟨gt, D q, none⟩ (.bool true)).drew :=
  ⟨((h.told.set (D q) (.bool true)).congr fun i _ => by
      show (if i = D q then Value.bool true else .bool (putT D q i)) = .bool (if i = D q then true else putT D q i)
      split <;> rfl),
    h.nums.setOther (a := ⟨gt, D q, none⟩) (by show gn ≠ gt; omega) _, fun i v hv => by
      have := h.box i v hv
      rw [← this]
      exact World.cell?_of_block (Below.heap_setCell _ _ _ _ (by show G ≠ gt; omega)), (Below.heap_setCell _ _ _ _ (by show w.heap.size ≠ gt; omega)).trans h.res, by
      show G < (W.setCell ⟨gt, D q, none⟩ (.bool true)).heap.size
      simp [World.setCell]; exact h.size, (h.below.setCell (p := ⟨gt, D q, none⟩) (by show w.heap.size ≤ gt; omega) _).drew⟩
theorem OpenInv.put {w W : World} {G gt gn s N q : Nat} {D Z : Nat → Nat} (h : OpenInv w G gt gn s N D Z (q + 1) q W) (hne : gt ≠ gn) (hG : gn ≠ G) (hw : w.heap.size < gn) : OpenInv w G gt gn s N D Z (q + 1) (q + 1) (W.setCell ⟨gn, D q, none⟩ (.float .f32 (Z q))) :=
  ⟨h.told.setOther (a := ⟨gn, D q, none⟩) (by show gt ≠ gn; omega) _,
    ((h.nums.set (D q) (.float .f32 (Z q))).congr fun i _ => by
      show (if i = D q then Value.float .f32 (Z q) else .float .f32 (putN D Z q i)) = .float .f32 (if i = D q then Z q else putN D Z q i)
      split <;> rfl), fun i v hv => by
      have := h.box i v hv
      rw [← this]
      exact World.cell?_of_block (Below.heap_setCell _ _ _ _ (by show G ≠ gn; omega)), (Below.heap_setCell _ _ _ _ (by show w.heap.size ≠ gn; omega)).trans h.res, by
      show G < (W.setCell ⟨gn, D q, none⟩ (.float .f32 (Z q))).heap.size
      simp [World.setCell]; exact h.size, (h.below.setCell (p := ⟨gn, D q, none⟩) (by show w.heap.size ≤ gn; omega) _)⟩
set_option maxRecDepth 100000 in
set_option maxHeartbeats 4000000 in
theorem l05Open_any (p0 s N n1 n2 b1 o1 c1 c2 c3 : Nat) (a2 a3 : Option Addr) (O K : Nat → Int) (Z D : Nat → Nat) (w : World) (hD : ∀ t, D t = rowAt O t s * s + (K t).toNat) (hs1 : 1 ≤ s) (hs : s ≤ 32) (hN : N = s * s) (hn1 : n1 = s + 1) (hn2 : n2 ≤ 512) (h00 : O 0 = 0) (hOs : O s = (n2 : Int)) (hso : sortB O s = true) (hro : rowsB O K s s = true)
    (hp0 : p0 < w.heap.size) (X0 : BoxL w p0 [.int .i64 (s : Int), .slice (some ⟨b1, o1, none⟩) n1 c1, .slice a2 n2 c2, .slice a3 n2 c3])
    (h1 : IS .i64 w (some ⟨b1, o1, none⟩) n1 c1 O) (h2 : IS .i64 w a2 n2 c2 K) (h3 : FS .f32 w a3 n2 c3 Z) :
    Calls Try.prog 41 #[.pointer (some ⟨p0, 0, none⟩)] w fun e w' => ∃ gt gn, e = .returned (.agg #[.int .i64 (s : Int), .slice (some ⟨gt, 0, none⟩) N N, .slice (some ⟨gn, 0, none⟩) N N]) ∧ w.heap.size ≤ gt ∧ w.heap.size ≤ gn ∧ gt ≠ gn ∧
      w'.rowIs gt 4 N (fun p => .bool (putT D n2 p)) ∧ w'.rowIs gn 27 N (fun p => .float .f32 (putN D Z n2 p)) ∧ Below w.heap.size w w' := by
  have HR := Lib.hid (fun (i : Nat) (hi : i < s) => sp_row h00 hOs hso hro hi)
  have HSO := Lib.hid hso
  have HN1 := Lib.hid hn1
  have H00 := Lib.hid h00
  have HOS := Lib.hid hOs
  have HN := Lib.hid hN
  have HD := Lib.hid hD
  have hNb : N ≤ 1024 := by rw [hN]; exact Nat.mul_le_mul hs hs
  have x0 := X0 0 _ rfl
  have HX0 := Lib.hid X0
  clear h00 hOs hso hro hn1 hN X0 hD
  go_enter Try.func41, Try.ntmps41
  go_wp2_with fail
  go_at_call 64
  refine (l05Blank_any s N _ hs HN.out).mono ?_
  rintro e w1 ⟨gt, gn, rfl, ht1, hn1', hne, ht, hn, b1'⟩
  go_wp2_with fail
  have sA : (w.alloc (.cells #[.int .i64 0, .slice none 0 0, .slice none 0 0] 62)).heap.size = w.heap.size + 1 := by simp
  have bA : Below w.heap.size w (w.alloc (.cells #[.int .i64 0, .slice none 0 0, .slice none 0 0] 62)) := (by repeat first | (with_reducible exact Below.refl _ _) | (with_reducible refine Below.setCell ?_ (by first | exact Nat.le_refl _ | (simp; done) | (simp; omega) | omega) _) | (with_reducible refine Below.alloc ?_ (by first | exact Nat.le_refl _ | (simp; done) | (simp; omega) | omega) _) | (with_reducible refine below_drewN ?_ _) | (with_reducible refine Below.drew ?_))
  have RA : (w.alloc (.cells #[.int .i64 0, .slice none 0 0, .slice none 0 0] 62)).heap[w.heap.size]? = some (.cells #[.int .i64 0, .slice none 0 0, .slice none 0 0] 62) := World.alloc_heap_new w _
  generalize (w.alloc (.cells #[.int .i64 0, .slice none 0 0, .slice none 0 0] 62)) = wA at sA bA RA ht1 hn1' b1'
  rw [sA] at ht1 hn1' b1'
  have R1 := (b1'.block w.heap.size (by omega)).trans RA
  have B1 : Below w.heap.size w w1 := bA.trans (b1'.mono (by omega))
  have s1 : w.heap.size + 1 ≤ w1.heap.size := by have := b1'.size; omega
  have lt1 := ht.lt
  have ln1 := hn.lt
  have s2 : (w1.alloc (.cells #[.int .i64 (s : Int), .slice (some ⟨gt, 0, none⟩) N N, .slice (some ⟨gn, 0, none⟩) N N] 62)).heap.size = w1.heap.size + 1 := by simp
  have B2 : Below w.heap.size w (w1.alloc (.cells #[.int .i64 (s : Int), .slice (some ⟨gt, 0, none⟩) N N, .slice (some ⟨gn, 0, none⟩) N N] 62)) := B1.alloc (by omega) _
  have X2 : BoxL (w1.alloc (.cells #[.int .i64 (s : Int), .slice (some ⟨gt, 0, none⟩) N N, .slice (some ⟨gn, 0, none⟩) N N] 62)) w1.heap.size [.int .i64 (s : Int), .slice (some ⟨gt, 0, none⟩) N N, .slice (some ⟨gn, 0, none⟩) N N] := BoxL.three (by simp [go_sem]) (by simp [go_sem]) (by simp [go_sem])
  have R2 : (w1.alloc (.cells #[.int .i64 (s : Int), .slice (some ⟨gt, 0, none⟩) N N, .slice (some ⟨gn, 0, none⟩) N N] 62)).heap[w.heap.size]? = some (.cells #[.int .i64 0, .slice none 0 0, .slice none 0 0] 62) := (Below.heap_alloc _ _ _ (by omega)).trans R1
  have T2 := ht.alloc (.cells #[.int .i64 (s : Int), .slice (some ⟨gt, 0, none⟩) N N, .slice (some ⟨gn, 0, none⟩) N N] 62)
  have U2 := hn.alloc (.cells #[.int .i64 (s : Int), .slice (some ⟨gt, 0, none⟩) N N, .slice (some ⟨gn, 0, none⟩) N N] 62)
  generalize (w1.alloc (.cells #[.int .i64 (s : Int), .slice (some ⟨gt, 0, none⟩) N N, .slice (some ⟨gn, 0, none⟩) N N] 62)) = w2 at s2 B2 X2 R2 T2 U2 ⊢
  obtain ⟨G, hG⟩ : ∃ G, G = w1.heap.size := ⟨_, rfl⟩
  have lt1 := ht.lt
  have ln1 := hn.lt
  rw [← hG] at lt1 ln1 s2 X2 s1 ⊢
  clear ht hn b1' B1 bA RA R1 sA hG
  have HI : Hid (OpenInv w G gt gn s N D Z 0 0 w2) := Lib.hid ⟨T2, U2, X2, R2, by omega, B2⟩
  clear T2 U2 X2 R2 B2
  go_loopw [4] (fun i wr => ∃ (j : Nat), j ≤ s ∧ i = .int .i64 (j : Int) ∧ OpenInv w G gt gn s N D Z (O j).toNat (O j).toNat wr) (fun i _ => s - (intOf i).toNat)
  case atStart => exact ⟨0, Nat.zero_le _, rfl, by rw [H00.out]; exact HI.out⟩
  case round =>
    obtain ⟨j, hj, rfl, hI⟩ := hrel
    clear HI s2
    have hb := hI.below
    have XR := HX0.out.below hb hp0
    have y0 := XR 0 _ rfl
    have HII := Lib.hid hI
    by_cases hlt : j < s
    · obtain ⟨A, m, hA, hAm, hAn, hcol⟩ := HR.out j hlt
      have HRA := Lib.hid (fun (x : Nat) (hx : x < m) => told_at HSO.out hlt hA hAm hx)
      have HC := Lib.hid (fun (t : Nat) (ht : t < m) => col_in (K := fun t => K (A + t)) hcol ht)
      obtain ⟨E, hE⟩ : ∃ E, E = A + m := ⟨_, rfl⟩
      rw [← hE] at hAm
      obtain ⟨j1, hj1⟩ : ∃ j1, j1 = j + 1 := ⟨_, rfl⟩
      have hA1 : O j1 = (E : Int) := by rw [hj1]; exact hAm
      have hjn : j < n1 := by have := HN1.out; omega
      have hj1n : j1 < n1 := by have := HN1.out; omega
      have hsj : IntKind.i64.wrap ((j : Int) + 1) = (j1 : Int) := by
        have e : (j : Int) + 1 = (j1 : Int) := by omega
        rw [e]; exact IntWalk.i64_in _ (by omega)
      have F1 := h1.below hb (Nat.le_refl _)
      obtain ⟨b', off', e, _, hcA, _⟩ := F1.at hjn
      simp only [Option.some.injEq, Addr.mk.injEq, and_true] at e
      obtain ⟨rfl, rfl⟩ := e
      rw [hA] at hcA
      have y1 := XR 1 _ rfl
      have HE := Lib.hid hE
      have HJ := Lib.hid hj1
      have HA := Lib.hid hA
      have HA1 := Lib.hid hA1
      have HAM := Lib.hid hAm
      rw [hA, Int.toNat_natCast] at hI HII
      clear hA hAm hA1 hE hj1 hcol F1 XR hb hI
      go_wp2
      go_loopw [5] (fun i wr2 => ∃ (t : Nat), t ≤ m ∧ i = .int .i64 ((A + t : Nat) : Int) ∧ OpenInv w G gt gn s N D Z (A + t) (A + t) wr2) (fun i _ => E - (intOf i).toNat)
      case atStart => exact ⟨0, Nat.zero_le _, rfl, HII.out⟩
      case round =>
        obtain ⟨t, ht, rfl, hI2⟩ := hrel
        clear y0 y1 hcA HII
        have hb2 := hI2.below
        have XR2 := HX0.out.below hb2 hp0
        have z0 := XR2 0 _ rfl
        have z1 := XR2 1 _ rfl
        have z2 := XR2 2 _ rfl
        have z3 := XR2 3 _ rfl
        have F1 := h1.below hb2 (Nat.le_refl _)
        obtain ⟨b', off', e, hlb, hcE, _⟩ := F1.at hj1n
        simp only [Option.some.injEq, Addr.mk.injEq, and_true] at e
        obtain ⟨rfl, rfl⟩ := e
        rw [HA1.out] at hcE
        have H2 := Lib.hid hI2
        have HB2 := Lib.hid hb2
        clear XR2 F1 hI2 hb2
        by_cases hlt2 : t < m
        · obtain ⟨kk, hkk⟩ : ∃ kk, kk = A + t := ⟨_, rfl⟩
          rw [← hkk] at H2 ⊢
          have hkn : kk < n2 := by have := HE.out; omega
          have hkE : kk < E := by have := HE.out; omega
          obtain ⟨p2, f2, e2, hl2, hck, _⟩ := (h2.below HB2.out (Nat.le_refl _)).at hkn
          obtain ⟨p3, f3, e3, hl3, hcz, _⟩ := (h3.below HB2.out (Nat.le_refl _)).at hkn
          subst e2
          subst e3
          obtain ⟨k1, k2⟩ := HC.out t hlt2
          simp only [← hkk] at k1 k2
          obtain ⟨cl, hcl⟩ : ∃ cl : Nat, K kk = (cl : Int) := ⟨(K kk).toNat, by omega⟩
          have hrow : rowAt O kk s = j := by rw [hkk]; exact HRA.out t hlt2
          have hpl : D kk = j * s + cl := by rw [HD.out, hrow, hcl, Int.toNat_natCast]
          have hcls : cl < s := by omega
          have hpN : D kk < N := by
            rw [hpl, HN.out]
            exact Nat.lt_of_lt_of_le (Nat.add_lt_add_left hcls _) (by rw [← Nat.succ_mul]; exact Nat.mul_le_mul_right _ hlt)
          obtain ⟨P, hP⟩ : ∃ P, P = D kk := ⟨_, rfl⟩
          rw [← hP] at hpl hpN
          have hjs : j * s ≤ 1024 := by omega
          obtain ⟨js, hjse⟩ : ∃ js, js = j * s := ⟨_, rfl⟩
          rw [← hjse] at hjs hpl
          have hw1 : IntKind.i64.wrap ((j : Int) * (s : Int)) = (js : Int) := by
            rw [← Int.natCast_mul, ← hjse]; exact IntWalk.i64_in _ (by omega)
          have hw2 : IntKind.i64.wrap ((js : Int) + (cl : Int)) = (P : Int) := by
            rw [← Int.natCast_add, ← hpl]; exact IntWalk.i64_in _ (by omega)
          have hd1 : decide ((kk : Int) < (E : Int)) = true := decide_eq_true (by omega)
          have hd2 : decide (kk < E) = true := decide_eq_true hkE
          have HKK := Lib.hid hkk
          have HP := Lib.hid hP
          have HCL := Lib.hid hcl
          rw [hcl] at hck
          obtain ⟨T2, U2, X2, R2, _, _⟩ := H2.out
          have v0 := X2 0 _ rfl
          have v1 := X2 1 _ rfl
          have v2 := X2 2 _ rfl
          have cT := T2.cell hpN
          have zT := T2.frozen P
          have cU := U2.cell hpN
          have zU := U2.frozen P
          clear hkk hP hcl hrow hpl hjse T2 U2 X2 R2 k1 k2
          go_wp2
          go_region
          have I3 : OpenInv w G gt gn s N D Z (kk + 1) kk (wr.setCell ⟨gt, P, none⟩ (.bool true)).drew := by rw [HP.out]; exact H2.out.tell hne (by omega) (by omega)
          generalize (wr.setCell ⟨gt, P, none⟩ (.bool true)).drew = w3 at I3 ⊢
          have HI3 := Lib.hid I3
          have b3 := I3.below
          have XR3 := HX0.out.below b3 hp0
          have y0 := XR3 0 _ rfl
          have y1 := XR3 1 _ rfl
          have y2 := XR3 2 _ rfl
          have y3 := XR3 3 _ rfl
          obtain ⟨_, _, e2, _, hck3, _⟩ := (h2.below b3 (Nat.le_refl _)).at hkn
          obtain ⟨_, _, e3, _, hcz3, _⟩ := (h3.below b3 (Nat.le_refl _)).at hkn
          simp only [Option.some.injEq, Addr.mk.injEq, and_true] at e2 e3
          obtain ⟨rfl, rfl⟩ := e2
          obtain ⟨rfl, rfl⟩ := e3
          rw [HCL.out] at hck3
          obtain ⟨T3, U3, X3, R3, q1, q2⟩ := I3
          have v0 := X3 0 _ rfl
          have v1 := X3 1 _ rfl
          have v2 := X3 2 _ rfl
          have cU := U3.cell hpN
          have zU := U3.frozen P
          generalize hzk : Z kk = zk at hcz3
          have HZK := Lib.hid hzk
          clear z0 z1 z2 z3 hck hcz cT zT T3 U3 X3 R3 XR3 hcE hzk
          go_wp2
          refine wp_region_kinds (fun w' => ∃ m, w' = w3.drewN m) (fun _ => 0) 24 ⟨1, rfl⟩ (by kernel_rfl) (by kernel_rfl) (by kernel_rfl) ?_
          simp only [List.take_succ_cons, List.take_zero, List.drop_succ_cons, List.drop_zero]
          ((with_reducible refine wpKinds_plain ?hwant ?hkind ?hplain (fun K hK => ?_)); (case hwant => first | (simp [Region.wanted, yielded]; done) | rfl); (case hkind => rfl); (case hplain => rfl); go_big_quiet_op; (first | refine hK _ ?_ | refine ⟨_, fun _ _ => rfl, hK _ ?_⟩); clear hK K)
          (refine wpKinds_run (.slice (some ⟨gn, 0, none⟩) N N) rfl rfl (by rintro W ⟨m, rfl⟩; simp [go_sem, v2]) ?_; simp only [Act.put, List.setIfInBounds_toArray, List.set_cons_succ, List.set_cons_zero])
          ((with_reducible refine wpKinds_plain ?hwant ?hkind ?hplain (fun K hK => ?_)); (case hwant => first | (simp [Region.wanted, yielded]; done) | rfl); (case hkind => rfl); (case hplain => rfl); go_big_quiet_op; (first | refine hK _ ?_ | refine ⟨_, fun _ _ => rfl, hK _ ?_⟩); clear hK K)
          ((with_reducible refine wpKinds_plain ?hwant ?hkind ?hplain (fun K hK => ?_)); (case hwant => first | (simp [Region.wanted, yielded]; done) | rfl); (case hkind => rfl); (case hplain => rfl); go_big_quiet_op; (first | refine hK _ ?_ | refine ⟨_, fun _ _ => rfl, hK _ ?_⟩); clear hK K)
          ((with_reducible refine wpKinds_run (.pointer (some ⟨p0, 0, none⟩)) ?hwant ?hkind ?hrun ?_); (case hwant => first | (simp [Region.wanted, yielded]; done) | rfl); (case hkind => rfl); (case hrun => intro W hW; simp [go_sem, BigFrame.eval_const, BigFrame.eval_global, BigFrame.eval_func]); simp only [Act.put, List.setIfInBounds_toArray, List.set_cons_succ, List.set_cons_zero])
          ((with_reducible refine wpKinds_plain ?hwant ?hkind ?hplain (fun K hK => ?_)); (case hwant => first | (simp [Region.wanted, yielded]; done) | rfl); (case hkind => rfl); (case hplain => rfl); go_big_quiet_op; (first | refine hK _ ?_ | refine ⟨_, fun _ _ => rfl, hK _ ?_⟩); clear hK K)
          (refine wpKinds_run (.int .i64 s) rfl rfl (by rintro W ⟨m, rfl⟩; simp [go_sem, y0]) ?_; simp only [Act.put, List.setIfInBounds_toArray, List.set_cons_succ, List.set_cons_zero])
          (refine wpKinds_run (.int .i64 js) rfl rfl (by rintro W ⟨m, rfl⟩; simp [go_sem, hw1]) ?_; simp only [Act.put, List.setIfInBounds_toArray, List.set_cons_succ, List.set_cons_zero])
          ((with_reducible refine wpKinds_plain ?hwant ?hkind ?hplain (fun K hK => ?_)); (case hwant => first | (simp [Region.wanted, yielded]; done) | rfl); (case hkind => rfl); (case hplain => rfl); go_big_quiet_op; (first | refine hK _ ?_ | refine ⟨_, fun _ _ => rfl, hK _ ?_⟩); clear hK K)
          ((with_reducible refine wpKinds_run (.pointer (some ⟨p0, 0, none⟩)) ?hwant ?hkind ?hrun ?_); (case hwant => first | (simp [Region.wanted, yielded]; done) | rfl); (case hkind => rfl); (case hrun => intro W hW; simp [go_sem, BigFrame.eval_const, BigFrame.eval_global, BigFrame.eval_func]); simp only [Act.put, List.setIfInBounds_toArray, List.set_cons_succ, List.set_cons_zero])
          ((with_reducible refine wpKinds_plain ?hwant ?hkind ?hplain (fun K hK => ?_)); (case hwant => first | (simp [Region.wanted, yielded]; done) | rfl); (case hkind => rfl); (case hplain => rfl); go_big_quiet_op; (first | refine hK _ ?_ | refine ⟨_, fun _ _ => rfl, hK _ ?_⟩); clear hK K)
          (refine wpKinds_run (.slice (some ⟨p2, f2, none⟩) n2 c2) rfl rfl (by rintro W ⟨m, rfl⟩; simp [go_sem, y2]) ?_; simp only [Act.put, List.setIfInBounds_toArray, List.set_cons_succ, List.set_cons_zero])
          ((with_reducible refine wpKinds_plain ?hwant ?hkind ?hplain (fun K hK => ?_)); (case hwant => first | (simp [Region.wanted, yielded]; done) | rfl); (case hkind => rfl); (case hplain => rfl); go_big_quiet_op; (first | refine hK _ ?_ | refine ⟨_, fun _ _ => rfl, hK _ ?_⟩); clear hK K)
          (refine wpKinds_run (.pointer (some ⟨p2, f2 + kk, none⟩)) rfl rfl (by rintro W ⟨m, rfl⟩; simp [go_sem, hkn]) ?_; simp only [Act.put, List.setIfInBounds_toArray, List.set_cons_succ, List.set_cons_zero])
          (refine wpKinds_run (.int .i64 cl) rfl rfl (by rintro W ⟨m, rfl⟩; simp [go_sem, hck3]) ?_; simp only [Act.put, List.setIfInBounds_toArray, List.set_cons_succ, List.set_cons_zero])
          (refine wpKinds_run (.int .i64 P) rfl rfl (by rintro W ⟨m, rfl⟩; simp [go_sem, hw2]) ?_; simp only [Act.put, List.setIfInBounds_toArray, List.set_cons_succ, List.set_cons_zero])
          ((with_reducible refine wpKinds_plain ?hwant ?hkind ?hplain (fun K hK => ?_)); (case hwant => first | (simp [Region.wanted, yielded]; done) | rfl); (case hkind => rfl); (case hplain => rfl); go_big_quiet_op; (first | refine hK _ ?_ | refine ⟨_, fun _ _ => rfl, hK _ ?_⟩); clear hK K)
          ((with_reducible refine wpKinds_run (.pointer (some ⟨p0, 0, none⟩)) ?hwant ?hkind ?hrun ?_); (case hwant => first | (simp [Region.wanted, yielded]; done) | rfl); (case hkind => rfl); (case hrun => intro W hW; simp [go_sem, BigFrame.eval_const, BigFrame.eval_global, BigFrame.eval_func]); simp only [Act.put, List.setIfInBounds_toArray, List.set_cons_succ, List.set_cons_zero])
          ((with_reducible refine wpKinds_plain ?hwant ?hkind ?hplain (fun K hK => ?_)); (case hwant => first | (simp [Region.wanted, yielded]; done) | rfl); (case hkind => rfl); (case hplain => rfl); go_big_quiet_op; (first | refine hK _ ?_ | refine ⟨_, fun _ _ => rfl, hK _ ?_⟩); clear hK K)
          (refine wpKinds_run (.slice (some ⟨p3, f3, none⟩) n2 c3) rfl rfl (by rintro W ⟨m, rfl⟩; simp [go_sem, y3]) ?_; simp only [Act.put, List.setIfInBounds_toArray, List.set_cons_succ, List.set_cons_zero])
          ((with_reducible refine wpKinds_plain ?hwant ?hkind ?hplain (fun K hK => ?_)); (case hwant => first | (simp [Region.wanted, yielded]; done) | rfl); (case hkind => rfl); (case hplain => rfl); go_big_quiet_op; (first | refine hK _ ?_ | refine ⟨_, fun _ _ => rfl, hK _ ?_⟩); clear hK K)
          (refine wpKinds_run (.pointer (some ⟨p3, f3 + kk, none⟩)) rfl rfl (by rintro W ⟨m, rfl⟩; simp [go_sem, hkn]) ?_; simp only [Act.put, List.setIfInBounds_toArray, List.set_cons_succ, List.set_cons_zero])
          (refine wpKinds_run (.float .f32 zk) rfl rfl (by rintro W ⟨m, rfl⟩; simp [go_sem, hcz3]) ?_; simp only [Act.put, List.setIfInBounds_toArray, List.set_cons_succ, List.set_cons_zero])
          (refine wpKinds_run (.pointer (some ⟨gn, P, none⟩)) rfl rfl (by rintro W ⟨m, rfl⟩; simp [go_sem, hpN]) ?_; simp only [Act.put, List.setIfInBounds_toArray, List.set_cons_succ, List.set_cons_zero])
          refine wpKinds_nil ?_
          rintro w5 ⟨m5, rfl⟩
          have I4 : OpenInv w G gt gn s N D Z (kk + 1) (kk + 1) ((w3.drewN m5).setCell ⟨gn, P, none⟩ (.float .f32 zk)) := by
            have I3' : OpenInv w G gt gn s N D Z (kk + 1) kk (w3.drewN m5) := ⟨HI3.out.told, HI3.out.nums, HI3.out.box, HI3.out.res, HI3.out.size, below_drewN HI3.out.below m5⟩
            rw [HP.out, ← HZK.out]; exact I3'.put hne (by omega) (by omega)
          have HI4 := Lib.hid I4
          clear I4 y0 y1 y2 y3 hck3 hcz3 v0 v1 v2 q1 q2 hw1 hw2 hd1 hd2 b3
          go_wp2
          go_roundw
          case rel => exact ⟨t + 1, by omega, by rw [← Nat.add_assoc, ← HKK.out]; go_num, by rw [← Nat.add_assoc, ← HKK.out]; exact HI4.out⟩
          case measure => simp [intOf]; omega
        · obtain rfl : t = m := by omega
          have hkE : A + t = E := HE.out.symm
          rw [hkE] at H2 ⊢
          have hd1 : decide ((E : Int) < (E : Int)) = false := decide_eq_false (by omega)
          have HEE : Hid ((O (j + 1)).toNat = E) := Lib.hid (by rw [HAM.out, Int.toNat_natCast])
          clear hkE
          go_wp2
          clear hsj
          go_wp2
          go_roundw
          case rel => exact ⟨j + 1, by omega, by rw [HJ.out], by rw [HEE.out]; exact H2.out⟩
          case measure => have := HJ.out; simp [intOf]; omega
    · obtain rfl : j = s := by omega
      rw [HOS.out, Int.toNat_natCast] at hI HII
      have v0 := hI.box 0 _ rfl
      have v1 := hI.box 1 _ rfl
      have v2 := hI.box 2 _ rfl
      obtain ⟨_, _, _, R3, q1, _⟩ := hI
      have c0 : wr.cell? ⟨w.heap.size, 0, none⟩ = some (.int .i64 0) := by simp [World.cell?, R3]
      have c1 : wr.cell? ⟨w.heap.size, 1, none⟩ = some (.slice none 0 0) := by simp [World.cell?, R3]
      have c2 : wr.cell? ⟨w.heap.size, 2, none⟩ = some (.slice none 0 0) := by simp [World.cell?, R3]
      have zq : ∀ q, wr.frozen? ⟨w.heap.size, q, none⟩ = false := fun q => by simp [World.frozen?, R3]
      clear hb XR
      go_wp2
      refine bodyPost_ret (v := .agg #[.int .i64 (j : Int), .slice (some ⟨gt, 0, none⟩) N N, .slice (some ⟨gn, 0, none⟩) N N]) (by simp [results, Try.results41, go_sem, c0, c1, c2]) rfl ?_
      have I5 := HII.out
      refine ⟨gt, gn, rfl, by omega, by omega, hne, ?_, ?_, ?_⟩
      · exact ((I5.told.setOther (by show gt ≠ w.heap.size; omega) _).setOther (by show gt ≠ w.heap.size; omega) _).setOther (by show gt ≠ w.heap.size; omega) _
      · exact ((I5.nums.setOther (by show gn ≠ w.heap.size; omega) _).setOther (by show gn ≠ w.heap.size; omega) _).setOther (by show gn ≠ w.heap.size; omega) _
      · exact ((I5.below.setCell (p := ⟨w.heap.size, 0, none⟩) (Nat.le_refl _) _).setCell (p := ⟨w.heap.size, 1, none⟩) (Nat.le_refl _) _).setCell (p := ⟨w.heap.size, 2, none⟩) (Nat.le_refl _) _
end Go.Proofs.Ytmjlhmbnaifhaab
