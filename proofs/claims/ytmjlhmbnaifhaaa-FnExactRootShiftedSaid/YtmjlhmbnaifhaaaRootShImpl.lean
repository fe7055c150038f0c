/- Helper: the root of a square with shifts of its middle, of the program. Conditions: none. -/
import Derived.Test.YtmjlhmbnaifhaaaRootKey
import Derived.Test.YtmjlhmbnaifhaaaShiftedImpl
import Derived.Test.YtmjlhmbnaifhaaaDoubleFacts
set_option linter.unusedVariables false
set_option linter.unusedSimpArgs false
namespace Go.Proofs.Ytmjlhmbnaifhaaa
open Go.RowKit

/-- The shifts, by rounds. -/
def shS (s : Nat) : Nat → Nat
  | 0 => 0
  | 1 => s
  | k + 2 => (fop .mul .f32 (some 1073741824) (some (shS s (k + 1)))).getD 0
/-- The first round that has a root; F says whether the shift of a round is finite. -/
def rsR (G F : Nat → Bool) : Nat → Nat → Option Nat
  | 0, _ => none
  | f + 1, k => if G k then some k else if F (k + 1) then rsR G F f (k + 1) else none
def shF (s k : Nat) : Bool := decide (shS s k < 2139095040)
theorem sh_next {s k : Nat} (h0 : 0 < s) (hs : s < 2139095040) (hk : s ≤ shS s (k + 1)) (h : shS s (k + 1) < 2139095040) : fop .mul .f32 (some 1073741824) (some (shS s (k + 1))) = some (shS s (k + 2)) ∧ shS s (k + 1) < shS s (k + 2) ∧ shS s (k + 2) ≤ 2139095040 := by
  obtain ⟨r, h1, h2, h3⟩ := dbl (q := shS s (k + 1)) (by omega) h
  have e : shS s (k + 2) = r := by show (fop .mul .f32 (some 1073741824) (some (shS s (k + 1)))).getD 0 = r; rw [h1]; rfl
  rw [e]
  exact ⟨h1, h2, h3⟩
theorem sh_ge {s : Nat} (h0 : 0 < s) (hs : s < 2139095040) : ∀ {k : Nat}, (∀ j, 1 ≤ j → j ≤ k → shS s j < 2139095040) → s ≤ shS s (k + 1) ∧ shS s (k + 1) ≤ 2139095040
  | 0, _ => ⟨Nat.le_refl _, by show s ≤ 2139095040; omega⟩
  | k + 1, h => by
    obtain ⟨a, b⟩ := sh_ge h0 hs (k := k) (fun j h1 h2 => h j h1 (by omega))
    obtain ⟨_, c, d⟩ := sh_next h0 hs a (h (k + 1) (by omega) (Nat.le_refl _))
    exact ⟨Nat.le_of_lt (Nat.lt_of_le_of_lt a c), d⟩
theorem allFin_allW {V : Nat → Option Nat} : ∀ {n : Nat}, (∀ i, i < n → finite .f32 (V i) = true) → allFin V n = true
  | 0, _ => rfl
  | n + 1, h => by
    have h1 := allFin_allW (V := V) (n := n) fun i hi => h i (by omega)
    simp only [allFin, h1, h n (by omega), Bool.and_self]
/-- What both do with start. -/
def shB (R C : Int) (n : Nat) (V : Nat → Option Nat) (X : Option Nat) : Bool := squareB R C n V && (finite .f32 X && (ford .f32 X (some 0) == some .gt))
def shRound (r N : Nat) (V : Nat → Option Nat) (s : Nat) : Option Nat := rsR (fun k => rtGood r N (diagV r V (some (shS s k)))) (shF s) 24 0
def ShOwn (ok : Bool) (R C : Int) (n : Nat) (V : Nat → Option Nat) (X : Option Nat) (w : World) (e : Ending) (w' : World) : Prop :=
  ∃ g d Y r, e = .returned (.tuple #[.agg #[.int .i64 R, .int .i64 C, .slice g n d], .float .f32 r, .bool ok]) ∧ Own 33 .f32 w.heap.size w'.heap.size w' g n d Y ∧ (∀ i, i < n → vals Y i = V i) ∧ FV .f32 r X ∧ Below w.heap.size w w'
def ShBel (ok : Bool) (R C : Int) (n : Nat) (V : Nat → Option Nat) (X : Option Nat) (w : World) (e : Ending) (w' : World) : Prop :=
  ∃ g d Y r, e = .returned (.tuple #[.agg #[.int .i64 R, .int .i64 C, .slice g n d], .float .f32 r, .bool ok]) ∧ FS .f32 w' g n d Y ∧ (∀ i, i < n → vals Y i = V i) ∧ FV .f32 r X ∧ Below w.heap.size w w'
def ShOwnIf (K : Option Nat) (r N : Nat) (V : Nat → Option Nat) (s : Nat) (w : World) (e : Ending) (w' : World) : Prop :=
  match K with | some k => ShOwn true r r N (rtS r (diagV r V (some (shS s k))) N) (some (shS s k)) w e w' | none => ShOwn false 0 0 0 (fun _ => none) (some 0) w e w'
def ShBelIf (K : Option Nat) (r N : Nat) (V : Nat → Option Nat) (s : Nat) (w : World) (e : Ending) (w' : World) : Prop :=
  match K with | some k => ShBel true r r N (rtS r (diagV r V (some (shS s k))) N) (some (shS s k)) w e w' | none => ShBel false 0 0 0 (fun _ => none) (some 0) w e w'
theorem ShOwn.no {V : Nat → Option Nat} {w w' : World} (h : Below w.heap.size w w') : ShOwn false 0 0 0 V (some 0) w (.returned (.tuple #[.agg #[.int .i64 0, .int .i64 0, .slice none 0 0], .float .f32 0, .bool false])) w' :=
  ⟨none, 0, fun _ => 0, 0, rfl, .inl ⟨rfl, rfl, rfl⟩, fun i hi => absurd hi (Nat.not_lt_zero _), FV.lit (by kernel_rfl) (by kernel_rfl), h⟩
theorem ShBel.no {V : Nat → Option Nat} {w w' : World} (h : Below w.heap.size w w') : ShBel false 0 0 0 V (some 0) w (.returned (.tuple #[.agg #[.int .i64 0, .int .i64 0, .slice none 0 0], .float .f32 0, .bool false])) w' :=
  ⟨none, 0, fun _ => 0, 0, rfl, ⟨Nat.le_refl _, Nat.zero_le _, fun i hi => absurd hi (Nat.not_lt_zero _)⟩, fun i hi => absurd hi (Nat.not_lt_zero _), FV.lit (by kernel_rfl) (by kernel_rfl), h⟩
theorem run_maxS {P : Program} (ts : Array TypeId) (t : TypeId) (a b : Nat) (o : Ordering) (ho : ford .f32 (some a) (some b) = some o) (hn : (FloatKind.f32.decode a).neg = false) (w : World) :
    (Builtin.max_ ts t #[.float .f32 a, .float .f32 b]).run P w = .ok (.float .f32 (match o with | .lt => b | .gt => a | .eq => a)) w := by
  have ho' : FloatKind.f32.format.order a b = some o := ho
  cases o <;> simp [Builtin.max_, Builtin.max2, ho', hn]
/-- The root of what is told as a square with a shifted middle. -/
theorem rootDiag_any (r N g o d x : Nat) (Y Z : Nat → Nat) (w0 w : World) (a : Option Addr) (c : Nat) (h1 : 1 ≤ r) (h12 : r ≤ 12) (hn : N = r * r) (hY : ∀ t, t < N → vals Y t = diagV r (vals Z) (some x) t) (hZ : allFin (vals Z) N = true) (hx : finite .f32 (some x) = true)
    (h : FS .f32 w (some ⟨g, o, none⟩) N d Y) : Calls Try.prog 12 #[.agg #[.int .i64 r, .int .i64 r, .slice (some ⟨g, o, none⟩) N d]] w (OwnIf (rtGood r N (diagV r (vals Z) (some x))) r r N (rtS r (diagV r (vals Z) (some x)) N) w) := by
  obtain ⟨e1, e2⟩ := rt_good (Z := vals Y) (Z' := diagV r (vals Z) (some x)) hn (fun i hi => .inl (hY _ (by rw [hn]; exact place_lt hi hi))) (fun i k hi hk => hY _ (by rw [hn]; exact place_lt hi (by omega)))
  have h144 : N ≤ 144 := by have := sides_le h12 h12; omega
  cases hsq : squareB r r N (vals Y) with
  | true =>
    have hh := implRootSq_yes r N g o d Y w h1 h12 hn hsq h
    rw [e1] at hh
    cases hg : rtGood r N (diagV r (vals Z) (some x)) with
    | false => rw [hg] at hh; exact hh
    | true => rw [hg, e2 hg] at hh; exact hh
  | false =>
    have hv : allFin (vals Y) N = false := by
      unfold squareB at hsq
      rw [validB_nat h1 h12 h1 h12 hn] at hsq
      simpa using hsq
    have hb : rtGood r N (diagV r (vals Z) (some x)) = false := by
      by_cases hd : ∀ i, i < r → finite .f32 (vals Y (i * r + i)) = true
      · exfalso
        rw [allFin_allW (fun t ht => ?_)] at hv
        · cases hv
        · by_cases e : t % r = t / r
          · have hp := place_eq (c := r) (t := t)
            rw [e] at hp
            have hdv : t / r < r := Nat.div_lt_of_lt_mul (by rw [← hn]; exact ht)
            have := hd _ hdv
            rw [hp] at this
            exact this
          · rw [hY t ht]
            unfold diagV
            rw [if_neg e]
            exact allFin_lt hZ ht
      · have : ∃ i, i < r ∧ finite .f32 (vals Y (i * r + i)) = false := by
          refine Classical.byContradiction fun hc => hd fun i hi => ?_
          cases hf : finite .f32 (vals Y (i * r + i)) with
          | true => rfl
          | false => exact absurd ⟨i, hi, hf⟩ hc
        obtain ⟨i, hi, hf⟩ := this
        have hp : i * r + i < N := by rw [hn]; exact place_lt hi hi
        refine rt_inf hn hi ?_
        rw [hY _ hp, diagV_on hi] at hf
        rw [diagV_on hi]
        have hz := allFin_lt hZ hp
        obtain ⟨ez, _⟩ := cn_fin (x := Z (i * r + i)) hz
        have ev : vals Z (i * r + i) = some (Z (i * r + i)) := ez
        rw [ev] at hf hz ⊢
        exact isNF.sum hz hx hf
    exact (implRootSq_no r r _ N d Y w (by omega) h hsq).mono fun e w' hh => OwnIf.no hb hh
theorem implRootSh_sq (R C : Int) (a : Option Addr) (n c x : Nat) (Z : Nat → Nat) (w : World) (hn : n ≤ 1048576) (h : FS .f32 w a n c Z) (hsq : squareB R C n (vals Z) = false) :
    Calls Try.prog 17 #[.agg #[.int .i64 R, .int .i64 C, .slice a n c], .float .f32 x] w (ShOwn false 0 0 0 (fun _ => none) (some 0) w) := by
  have HSQ := Lib.hid hsq
  clear hsq
  go_enter Try.func17, Try.ntmps17
  go_wp2_with fail
  go_at_call 34
  refine (implSquare_any R C a n c Z _ hn (h.below (by repeat first | (with_reducible exact Below.refl _ _) | (with_reducible refine Below.setCell ?_ (by first | exact Nat.le_refl _ | (simp; done) | (simp; omega) | omega) _) | (with_reducible refine Below.alloc ?_ (by first | exact Nat.le_refl _ | (simp; done) | (simp; omega) | omega) _) | (with_reducible refine below_drewN ?_ _) | (with_reducible refine Below.drew ?_)) (Nat.le_refl _))).mono ?_
  rintro e w1 ⟨rfl, b1⟩
  rw [HSQ.out]
  have B1 : Below w.heap.size w w1 := Below.trans (by repeat first | (with_reducible exact Below.refl _ _) | (with_reducible refine Below.setCell ?_ (by first | exact Nat.le_refl _ | (simp; done) | (simp; omega) | omega) _) | (with_reducible refine Below.alloc ?_ (by first | exact Nat.le_refl _ | (simp; done) | (simp; omega) | omega) _) | (with_reducible refine below_drewN ?_ _) | (with_reducible refine Below.drew ?_)) (b1.mono (by simp; omega))
  have s1 : w.heap.size + 1 + 1 ≤ w1.heap.size := by have := b1.size; simp at this; omega
  obtain ⟨hc, hf⟩ := bcell b1
  go_wp2_with fail
  refine bodyPost_ret (v := .tuple #[.agg #[.int .i64 0, .int .i64 0, .slice none 0 0], .float .f32 0, .bool false]) (by simp [results, Try.results17, go_sem, hc]) rfl ?_
  exact ShOwn.no (by repeat first | (with_reducible exact B1) | (with_reducible refine Below.setCell ?_ (by first | exact Nat.le_refl _ | (simp; done) | (simp; omega) | omega) _) | (with_reducible refine Below.alloc ?_ (by first | exact Nat.le_refl _ | (simp; done) | (simp; omega) | omega) _) | (with_reducible refine below_drewN ?_ _) | (with_reducible refine Below.drew ?_))
set_option maxRecDepth 20000 in
set_option maxHeartbeats 1000000 in
theorem implRootSh_no (R C : Int) (a : Option Addr) (n c x : Nat) (Z : Nat → Nat) (w : World) (hn : n ≤ 1048576) (wx : (Lit.float .f32 x).wf = true) (h : FS .f32 w a n c Z) (hsq : squareB R C n (vals Z) = true) (hno : (finite .f32 (cn .f32 x) && (ford .f32 (cn .f32 x) (some 0) == some .gt)) = false) :
    Calls Try.prog 17 #[.agg #[.int .i64 R, .int .i64 C, .slice a n c], .float .f32 x] w (ShOwn false 0 0 0 (fun _ => none) (some 0) w) := by
  have HSQ := Lib.hid hsq
  have fx : FV .f32 x (cn .f32 x) := FV.mk' wx
  obtain ⟨X, hX⟩ : ∃ X, X = cn .f32 x := ⟨_, rfl⟩
  rw [← hX] at fx hno
  clear hsq
  go_enter Try.func17, Try.ntmps17
  go_wp2_with fail
  go_at_call 34
  refine (implSquare_any R C a n c Z _ hn (h.below (by repeat first | (with_reducible exact Below.refl _ _) | (with_reducible refine Below.setCell ?_ (by first | exact Nat.le_refl _ | (simp; done) | (simp; omega) | omega) _) | (with_reducible refine Below.alloc ?_ (by first | exact Nat.le_refl _ | (simp; done) | (simp; omega) | omega) _) | (with_reducible refine below_drewN ?_ _) | (with_reducible refine Below.drew ?_)) (Nat.le_refl _))).mono ?_
  rintro e w1 ⟨rfl, b1⟩
  rw [HSQ.out]
  have B1 : Below w.heap.size w w1 := Below.trans (by repeat first | (with_reducible exact Below.refl _ _) | (with_reducible refine Below.setCell ?_ (by first | exact Nat.le_refl _ | (simp; done) | (simp; omega) | omega) _) | (with_reducible refine Below.alloc ?_ (by first | exact Nat.le_refl _ | (simp; done) | (simp; omega) | omega) _) | (with_reducible refine below_drewN ?_ _) | (with_reducible refine Below.drew ?_)) (b1.mono (by simp; omega))
  have s1 : w.heap.size + 1 + 1 ≤ w1.heap.size := by have := b1.size; simp at this; omega
  obtain ⟨hc, hf⟩ := bcell b1
  have hxc := hX.symm
  have hZ0 : cn .f32 0 = some 0 := by kernel_rfl
  cases hfin : finite .f32 X with
  | false =>
    rw [hfin] at hno
    clear hno hxc hX
    go_wp2_with fail
    go_at_call 42
    refine (implIsFinite_any _ fx _).mono ?_
    rintro e w2 ⟨rfl, m2, rfl⟩
    rw [hfin]
    clear hfin
    go_wp2_with fail
    refine bodyPost_ret (v := .tuple #[.agg #[.int .i64 0, .int .i64 0, .slice none 0 0], .float .f32 0, .bool false]) (by simp [results, Try.results17, go_sem, hc]) rfl ?_
    exact ShOwn.no (by repeat first | (with_reducible exact B1) | (with_reducible refine Below.setCell ?_ (by first | exact Nat.le_refl _ | (simp; done) | (simp; omega) | omega) _) | (with_reducible refine Below.alloc ?_ (by first | exact Nat.le_refl _ | (simp; done) | (simp; omega) | omega) _) | (with_reducible refine below_drewN ?_ _) | (with_reducible refine Below.drew ?_))
  | true =>
    obtain ⟨o, ho⟩ := ford_some hfin
    rw [hfin, ho] at hno
    have HF := Lib.hid hfin
    clear hfin hX
    cases o with
    | gt => cases hno
    | lt =>
      clear hno
      go_wp2_with fail
      go_at_call 42
      refine (implIsFinite_any _ fx _).mono ?_
      rintro e w2 ⟨rfl, m2, rfl⟩
      rw [HF.out]
      go_wp2_with fail
      refine bodyPost_ret (v := .tuple #[.agg #[.int .i64 0, .int .i64 0, .slice none 0 0], .float .f32 0, .bool false]) (by simp [results, Try.results17, go_sem, hc]) rfl ?_
      exact ShOwn.no (by repeat first | (with_reducible exact B1) | (with_reducible refine Below.setCell ?_ (by first | exact Nat.le_refl _ | (simp; done) | (simp; omega) | omega) _) | (with_reducible refine Below.alloc ?_ (by first | exact Nat.le_refl _ | (simp; done) | (simp; omega) | omega) _) | (with_reducible refine below_drewN ?_ _) | (with_reducible refine Below.drew ?_))
    | eq =>
      clear hno
      go_wp2_with fail
      go_at_call 42
      refine (implIsFinite_any _ fx _).mono ?_
      rintro e w2 ⟨rfl, m2, rfl⟩
      rw [HF.out]
      go_wp2_with fail
      refine bodyPost_ret (v := .tuple #[.agg #[.int .i64 0, .int .i64 0, .slice none 0 0], .float .f32 0, .bool false]) (by simp [results, Try.results17, go_sem, hc]) rfl ?_
      exact ShOwn.no (by repeat first | (with_reducible exact B1) | (with_reducible refine Below.setCell ?_ (by first | exact Nat.le_refl _ | (simp; done) | (simp; omega) | omega) _) | (with_reducible refine Below.alloc ?_ (by first | exact Nat.le_refl _ | (simp; done) | (simp; omega) | omega) _) | (with_reducible refine below_drewN ?_ _) | (with_reducible refine Below.drew ?_))
set_option maxRecDepth 20000 in
set_option maxHeartbeats 4000000 in
theorem implRootSh_yes (r N p1 o1 d1 s : Nat) (Z : Nat → Nat) (w : World) (h1 : 1 ≤ r) (h12 : r ≤ 12) (hn : N = r * r) (ws : (Lit.float .f32 s).wf = true) (hs0 : 0 < s) (hs : s < 2139095040) (hg0 : ford .f32 (some s) (some 0) = some .gt) (hsq : squareB r r N (vals Z) = true) (hfz : allFin (vals Z) N = true) (h : FS .f32 w (some ⟨p1, o1, none⟩) N d1 Z) :
    Calls Try.prog 17 #[.agg #[.int .i64 r, .int .i64 r, .slice (some ⟨p1, o1, none⟩) N d1], .float .f32 s] w (ShOwnIf (shRound r N (vals Z) s) r N (vals Z) s w) := by
  have HN := Lib.hid hn
  have h144 : N ≤ 144 := by have := sides_le h12 h12; omega
  have hpos : 0 < N := by rw [hn]; exact Nat.mul_pos h1 h1
  have HSQ := Lib.hid hsq
  have HFZ := Lib.hid hfz
  have hcs : cn .f32 s = some s := cn_pz (by omega)
  have fS : FV .f32 s (some s) := ⟨hcs, ws⟩
  have hfs : finite .f32 (some s) = true := by rw [word_finite (by omega)]; exact decide_eq_true hs
  have HFS := Lib.hid hfs
  obtain ⟨K, hK⟩ : ∃ K, K = shRound r N (vals Z) s := ⟨_, rfl⟩
  rw [← hK]
  have HK := Lib.hid hK
  have hZ0 : cn .f32 0 = some 0 := by kernel_rfl
  clear hn hsq hfz hK hfs
  go_enter Try.func17, Try.ntmps17
  go_wp2_with fail
  go_at_call 34
  refine (implSquare_any r r _ N d1 Z _ (by omega) (h.below (by repeat first | (with_reducible exact Below.refl _ _) | (with_reducible refine Below.setCell ?_ (by first | exact Nat.le_refl _ | (simp; done) | (simp; omega) | omega) _) | (with_reducible refine Below.alloc ?_ (by first | exact Nat.le_refl _ | (simp; done) | (simp; omega) | omega) _) | (with_reducible refine below_drewN ?_ _) | (with_reducible refine Below.drew ?_)) (Nat.le_refl _))).mono ?_
  rintro e w1 ⟨rfl, b1⟩
  rw [HSQ.out]
  have B1 : Below w.heap.size w w1 := Below.trans (by repeat first | (with_reducible exact Below.refl _ _) | (with_reducible refine Below.setCell ?_ (by first | exact Nat.le_refl _ | (simp; done) | (simp; omega) | omega) _) | (with_reducible refine Below.alloc ?_ (by first | exact Nat.le_refl _ | (simp; done) | (simp; omega) | omega) _) | (with_reducible refine below_drewN ?_ _) | (with_reducible refine Below.drew ?_)) (b1.mono (by simp; omega))
  have s1 : w.heap.size + 1 + 1 ≤ w1.heap.size := by have := b1.size; simp at this; omega
  have XA : Box w1 w.heap.size r r (some ⟨p1, o1, none⟩) N d1 := Box.below (by refine ⟨?_, ?_, ?_⟩ <;> simp [go_sem]) b1 (by simp <;> omega)
  have XR : Box w1 (w.heap.size + 1) 0 0 none 0 0 := Box.below (by refine ⟨?_, ?_, ?_⟩ <;> simp [go_sem]) b1 (by simp)
  have IR : ∀ i, w1.frozen? ⟨w.heap.size + 1, i, none⟩ = false := fun i => (b1.frozen (p := ⟨w.heap.size + 1, i, none⟩) (by simp)).trans (by simp [go_sem])
  clear b1
  go_wp2_with fail
  go_at_call 42
  refine (implIsFinite_any _ fS _).mono ?_
  rintro e w2 ⟨rfl, m2, rfl⟩
  rw [HFS.out]
  go_wp2
  generalize hw3 : w1.drewN m2 = w3
  have B3 : Below w.heap.size w w3 := by rw [← hw3]; exact below_drewN B1 m2
  have XA3 : Box w3 w.heap.size r r (some ⟨p1, o1, none⟩) N d1 := by rw [← hw3]; exact XA.drewN
  have XR3 : Box w3 (w.heap.size + 1) 0 0 none 0 0 := by rw [← hw3]; exact XR.drewN
  have IR3 : ∀ i, w3.frozen? ⟨w.heap.size + 1, i, none⟩ = false := by rw [← hw3]; exact IR
  have s3 : w.heap.size + 1 + 1 ≤ w3.heap.size := by rw [← hw3]; exact s1
  clear hw3 XA XR IR s1 B1
  have la : w.heap.size < w3.heap.size := by omega
  have lr : w.heap.size + 1 < w3.heap.size := by omega
  go_loopw [7, 23] (fun x i wr => ∃ k : Nat, k ≤ 24 ∧ i = .int .i64 k ∧ x = .float .f32 (shS s k) ∧ FV .f32 (shS s k) (some (shS s k)) ∧ (∀ j, 1 ≤ j → j ≤ k → shS s j < 2139095040) ∧ rsR (fun k => rtGood r N (diagV r (vals Z) (some (shS s k)))) (shF s) (24 - k) k = K ∧ Below w3.heap.size w3 wr) (fun _ i _ => 24 - (intOf i).toNat)
  case atStart => exact ⟨0, Nat.zero_le _, rfl, rfl, FV.lit (by kernel_rfl) (by kernel_rfl), fun j h1 h2 => by omega, HK.out.symm, Below.refl _ _⟩
  case round =>
    obtain ⟨k, hk, rfl, rfl, fsh, hall, hrun, hb⟩ := hrel
    have sr := hb.size
    have XAr := XA3.below hb la
    have XRr := XR3.below hb lr
    have IRr : ∀ i, wr.frozen? ⟨w.heap.size + 1, i, none⟩ = false := fun i => (hb.frozen (p := ⟨w.heap.size + 1, i, none⟩) lr).trans (IR3 i)
    have Br := B3.trans (hb.mono B3.size)
    by_cases hlt : k < 24
    · obtain ⟨f, hf⟩ : ∃ f, 24 - k = f + 1 := ⟨23 - k, by omega⟩
      rw [hf] at hrun
      have hfx : finite .f32 (some (shS s k)) = true := by
        have hlt2 : shS s k < 2139095040 := by
          cases k with
          | zero => show 0 < 2139095040; omega
          | succ j => exact hall _ (by omega) (Nat.le_refl _)
        rw [word_finite (by omega)]; exact decide_eq_true hlt2
      have hFr := h.below Br (Nat.le_refl _)
      obtain ⟨m2, hmul, hmx, fnx⟩ : ∃ m2, (∀ r5, FV .f32 r5 (fop .mul .f32 (some 1073741824) (some (shS s k))) → r5 = m2) ∧ (∀ W, (Builtin.max_ #[33, 33] 33 #[.float .f32 s, .float .f32 m2]).run Try.prog W = .ok (.float .f32 (shS s (k + 1))) W) ∧ (∀ r5, FV .f32 r5 (fop .mul .f32 (some 1073741824) (some (shS s k))) → FV .f32 (shS s (k + 1)) (some (shS s (k + 1)))) := by
        cases k with
        | zero =>
          refine ⟨0, fun r5 h5 => ?_, fun W => ?_, fun _ _ => fS⟩
          · have e0 : fop .mul .f32 (some 1073741824) (some (shS s 0)) = some 0 := by show fop .mul .f32 (some 1073741824) (some 0) = some 0; decide +kernel
            rw [e0] at h5
            exact h5.eq
          · exact run_maxS _ _ _ _ _ hg0 (neg_pz (by omega)) W
        | succ j =>
          obtain ⟨ge1, _⟩ := sh_ge hs0 hs (k := j) (fun i h1 h2 => hall i h1 (by omega))
          obtain ⟨e1, e2, e3⟩ := sh_next hs0 hs ge1 (hall (j + 1) (by omega) (Nat.le_refl _))
          refine ⟨shS s (j + 2), fun r5 h5 => ?_, fun W => ?_, fun r5 h5 => ?_⟩
          · rw [e1] at h5
            exact h5.eq
          · exact run_maxS _ _ _ _ _ (word_lt (by omega) e3) (neg_pz (by omega)) W
          · rw [e1] at h5
            have := h5.eq
            subst this
            exact h5
      have HMX := Lib.hid hmx
      have HMU := Lib.hid hmul
      have HNX := Lib.hid fnx
      have HALL := Lib.hid hall
      have HRUN := Lib.hid hrun
      obtain ⟨v0, v1, v2⟩ := XAr
      have HFF := Lib.hid hf
      clear hmx hmul fnx hall hrun hf
      go_wp2_with fail
      go_at_call 43
      refine (shifted_any r N p1 o1 d1 (shS s k) (some (shS s k)) Z _ h1 h12 HN.out fsh (hFr.below (by repeat first | (with_reducible exact Below.refl _ _) | (with_reducible refine Below.setCell ?_ (by first | exact Nat.le_refl _ | (simp; done) | (simp; omega) | omega) _) | (with_reducible refine Below.alloc ?_ (by first | exact Nat.le_refl _ | (simp; done) | (simp; omega) | omega) _) | (with_reducible refine below_drewN ?_ _) | (with_reducible refine Below.drew ?_)) (Nat.le_refl _))).mono ?_
      rintro e w5 ⟨g, d, Y, rfl, o5, hY, b5⟩
      have c5 : Below wr.heap.size wr w5 := Below.trans (by repeat first | (with_reducible exact Below.refl _ _) | (with_reducible refine Below.setCell ?_ (by first | exact Nat.le_refl _ | (simp; done) | (simp; omega) | omega) _) | (with_reducible refine Below.alloc ?_ (by first | exact Nat.le_refl _ | (simp; done) | (simp; omega) | omega) _) | (with_reducible refine below_drewN ?_ _) | (with_reducible refine Below.drew ?_)) (b5.mono (by simp [World.drewN]))
      have F5 := o5.fs
      clear o5 b5 v0 v1 v2
      go_wp2_with fail
      go_at_call 12
      refine (rootDiag_any r N g 0 d (shS s k) Y Z w _ none 0 h1 h12 HN.out hY HFZ.out hfx (F5.below (by repeat first | (with_reducible exact Below.refl _ _) | (with_reducible refine Below.setCell ?_ (by first | exact Nat.le_refl _ | (simp; done) | (simp; omega) | omega) _) | (with_reducible refine Below.alloc ?_ (by first | exact Nat.le_refl _ | (simp; done) | (simp; omega) | omega) _) | (with_reducible refine below_drewN ?_ _) | (with_reducible refine Below.drew ?_)) (Nat.le_refl _))).mono ?_
      cases hG : rtGood r N (diagV r (vals Z) (some (shS s k))) with
      | true =>
        have hKk : K = some k := by rw [← HRUN.out]; show (if rtGood r N (diagV r (vals Z) (some (shS s k))) = true then some k else _) = _; rw [if_pos hG]
        subst hKk
        rintro e w6 ⟨g', d2, Y2, rfl, o6, hY2, b6⟩
        obtain ⟨g2, rfl⟩ := o6.addrR hpos
        obtain ⟨_, _, gB', _, _, _⟩ := o6.cell hpos
        have c6 : Below w5.heap.size w5 w6 := Below.trans (by repeat first | (with_reducible exact Below.refl _ _) | (with_reducible refine Below.setCell ?_ (by first | exact Nat.le_refl _ | (simp; done) | (simp; omega) | omega) _) | (with_reducible refine Below.alloc ?_ (by first | exact Nat.le_refl _ | (simp; done) | (simp; omega) | omega) _) | (with_reducible refine below_drewN ?_ _) | (with_reducible refine Below.drew ?_)) (b6.mono (by simp [World.drewN]))
        have gB : w5.heap.size ≤ g2 := by simpa [World.drewN] using gB'
        have s5 := c5.size
        have s6 := c6.size
        have C6 : Below wr.heap.size wr w6 := c5.trans (c6.mono c5.size)
        have XR6 := XRr.below C6 (by omega)
        have I6 : ∀ i, w6.frozen? ⟨w.heap.size + 1, i, none⟩ = false := fun i => (C6.frozen (p := ⟨w.heap.size + 1, i, none⟩) (by show w.heap.size + 1 < wr.heap.size; omega)).trans (IRr i)
        have B6 := Br.trans (C6.mono Br.size)
        have o6' := Own.mono (B' := w.heap.size + 1 + 1) o6 (by simp [World.drewN] at *; omega) (Nat.le_refl _) (Nat.le_refl _)
        have hal0 : ∀ o, (w6.alloc o).cell? ⟨w.heap.size + 1, 0, none⟩ = some (.int .i64 0) := fun o => (World.cell?_alloc_lt w6 o ⟨w.heap.size + 1, 0, none⟩ (by show w.heap.size + 1 < w6.heap.size; omega)).trans XR6.1
        have hal1 : ∀ o, (w6.alloc o).cell? ⟨w.heap.size + 1, 1, none⟩ = some (.int .i64 0) := fun o => (World.cell?_alloc_lt w6 o ⟨w.heap.size + 1, 1, none⟩ (by show w.heap.size + 1 < w6.heap.size; omega)).trans XR6.2.1
        have hal2 : ∀ o, (w6.alloc o).cell? ⟨w.heap.size + 1, 2, none⟩ = some (.slice none 0 0) := fun o => (World.cell?_alloc_lt w6 o ⟨w.heap.size + 1, 2, none⟩ (by show w.heap.size + 1 < w6.heap.size; omega)).trans XR6.2.2
        have hfz2 : ∀ o i, (w6.alloc o).frozen? ⟨w.heap.size + 1, i, none⟩ = false := fun o i => ((show Below w6.heap.size w6 (w6.alloc o) from (by repeat first | (with_reducible exact Below.refl _ _) | (with_reducible refine Below.setCell ?_ (by first | exact Nat.le_refl _ | (simp; done) | (simp; omega) | omega) _) | (with_reducible refine Below.alloc ?_ (by first | exact Nat.le_refl _ | (simp; done) | (simp; omega) | omega) _) | (with_reducible refine below_drewN ?_ _) | (with_reducible refine Below.drew ?_))).frozen (p := ⟨w.heap.size + 1, i, none⟩) (by show w.heap.size + 1 < w6.heap.size; omega)).trans (I6 i)
        have o7 := o6'.kept (World.grownBy_alloc w6 (.cells #[.int .i64 r, .int .i64 r, .slice (some ⟨g2, 0, none⟩) N d2] 26) none) (fun q hq => by cases hq)
        have HY2 := Lib.hid hY2
        clear b6 o6 gB' c6 c5 C6 XR6 I6 hY hY2 F5 XRr IRr Br hb
        go_wp2_with fail
        refine bodyPost_ret (v := .tuple #[.agg #[.int .i64 r, .int .i64 r, .slice (some ⟨g2, 0, none⟩) N d2], .float .f32 (shS s k), .bool true]) (by simp [results, Try.results17, go_sem, hal0, hal1, hal2]) rfl ?_
        exact ⟨_, _, Y2, _, rfl, (by refine Own.to o7 (hk := fun g hg1 hg2 => by (try simp at hg1 hg2); repeat (first | rw [Below.heap_setCell _ _ _ _ (by simp; omega)] | rw [Below.heap_alloc _ _ _ (by simp [World.setCell]; omega)])) ?_ ?_ ?_ ?_ <;> (first | exact Nat.le_refl _ | omega | (simp [World.setCell]; done) | (simp [World.setCell]; omega))), HY2.out, fsh, (by repeat first | (with_reducible exact B6) | (with_reducible refine Below.setCell ?_ (by first | exact Nat.le_refl _ | (simp; done) | (simp; omega) | omega) _) | (with_reducible refine Below.alloc ?_ (by first | exact Nat.le_refl _ | (simp; done) | (simp; omega) | omega) _) | (with_reducible refine below_drewN ?_ _) | (with_reducible refine Below.drew ?_))⟩
      | false =>
        have hKk : (if shF s (k + 1) = true then rsR (fun k => rtGood r N (diagV r (vals Z) (some (shS s k)))) (shF s) f (k + 1) else none) = K := by
          have hh := HRUN.out
          simp only [rsR, hG, Bool.false_eq_true, if_false] at hh
          exact hh
        rintro e w6 ⟨g2, d2, Y2, rfl, o6, hY2, b6⟩
        have c6 : Below w5.heap.size w5 w6 := Below.trans (by repeat first | (with_reducible exact Below.refl _ _) | (with_reducible refine Below.setCell ?_ (by first | exact Nat.le_refl _ | (simp; done) | (simp; omega) | omega) _) | (with_reducible refine Below.alloc ?_ (by first | exact Nat.le_refl _ | (simp; done) | (simp; omega) | omega) _) | (with_reducible refine below_drewN ?_ _) | (with_reducible refine Below.drew ?_)) (b6.mono (by simp [World.drewN]))
        have s5 := c5.size
        have s6 := c6.size
        have C6 : Below wr.heap.size wr w6 := c5.trans (c6.mono c5.size)
        have HKk := Lib.hid hKk
        have XR6 := XRr.below C6 (by omega)
        have I6 : ∀ i, w6.frozen? ⟨w.heap.size + 1, i, none⟩ = false := fun i => (C6.frozen (p := ⟨w.heap.size + 1, i, none⟩) (by show w.heap.size + 1 < wr.heap.size; omega)).trans (IRr i)
        have B6 := Br.trans (C6.mono Br.size)
        have D6 := hb.trans (C6.mono hb.size)
        have hal0 : ∀ o, (w6.alloc o).cell? ⟨w.heap.size + 1, 0, none⟩ = some (.int .i64 0) := fun o => (World.cell?_alloc_lt w6 o ⟨w.heap.size + 1, 0, none⟩ (by show w.heap.size + 1 < w6.heap.size; omega)).trans XR6.1
        have hal1 : ∀ o, (w6.alloc o).cell? ⟨w.heap.size + 1, 1, none⟩ = some (.int .i64 0) := fun o => (World.cell?_alloc_lt w6 o ⟨w.heap.size + 1, 1, none⟩ (by show w.heap.size + 1 < w6.heap.size; omega)).trans XR6.2.1
        have hal2 : ∀ o, (w6.alloc o).cell? ⟨w.heap.size + 1, 2, none⟩ = some (.slice none 0 0) := fun o => (World.cell?_alloc_lt w6 o ⟨w.heap.size + 1, 2, none⟩ (by show w.heap.size + 1 < w6.heap.size; omega)).trans XR6.2.2
        have hfz2 : ∀ o i, (w6.alloc o).frozen? ⟨w.heap.size + 1, i, none⟩ = false := fun o i => ((show Below w6.heap.size w6 (w6.alloc o) from (by repeat first | (with_reducible exact Below.refl _ _) | (with_reducible refine Below.setCell ?_ (by first | exact Nat.le_refl _ | (simp; done) | (simp; omega) | omega) _) | (with_reducible refine Below.alloc ?_ (by first | exact Nat.le_refl _ | (simp; done) | (simp; omega) | omega) _) | (with_reducible refine below_drewN ?_ _) | (with_reducible refine Below.drew ?_))).frozen (p := ⟨w.heap.size + 1, i, none⟩) (by show w.heap.size + 1 < w6.heap.size; omega)).trans (I6 i)
        have hfin : finite .f32 (some (shS s (k + 1))) = shF s (k + 1) := word_finite (sh_ge hs0 hs (k := k) (fun j h1 h2 => HALL.out j h1 h2)).2
        have hnext : Hid (shF s (k + 1) = true → ∀ j, 1 ≤ j → j ≤ k + 1 → shS s j < 2139095040) := Lib.hid fun hh j h1 h2 => by
          by_cases e : j = k + 1
          · subst e; exact of_decide_eq_true hh
          · exact HALL.out j h1 (by omega)
        have HFI := Lib.hid hfin
        clear XR6 I6 C6 Br hb hfin XRr IRr
        clear b6 o6 hY hY2 c6 c5 F5 hKk
        have hmx := HMX.out
        go_wp2_with (refine wpList_farith rfl _ _ _ _ _ rfl rfl _ _ _ rfl rfl (FV.lit (by kernel_rfl) (by kernel_rfl)) fsh ?_; intro r5 m5 hr5; have hnx := HNX.out _ hr5; obtain rfl := HMU.out _ hr5)
        go_at_call 42
        refine (implIsFinite_any _ hnx _).mono ?_
        rintro e w7 ⟨rfl, m7, rfl⟩
        rw [HFI.out]
        cases hF : shF s (k + 1) with
        | false =>
          have hKn : K = none := by have hh := HKk.out; rw [hF] at hh; exact hh.symm
          subst hKn
          clear hmx hF
          go_wp2_with fail
          refine bodyPost_ret (v := .tuple #[.agg #[.int .i64 0, .int .i64 0, .slice none 0 0], .float .f32 0, .bool false]) (by simp [results, Try.results17, go_sem, hal0, hal1, hal2]) rfl ?_
          exact ShOwn.no (by repeat first | (with_reducible exact B6) | (with_reducible refine Below.setCell ?_ (by first | exact Nat.le_refl _ | (simp; done) | (simp; omega) | omega) _) | (with_reducible refine Below.alloc ?_ (by first | exact Nat.le_refl _ | (simp; done) | (simp; omega) | omega) _) | (with_reducible refine below_drewN ?_ _) | (with_reducible refine Below.drew ?_))
        | true =>
          have hrun2 : Hid (rsR (fun k => rtGood r N (diagV r (vals Z) (some (shS s k)))) (shF s) (24 - (k + 1)) (k + 1) = K) := Lib.hid (by have hh := HKk.out; rw [hF] at hh; have := HFF.out; rw [show 24 - (k + 1) = f by omega]; exact hh)
          have hn2 := Lib.hid (hnext.out hF)
          clear hmx hF
          go_wp2_with fail
          go_roundw
          case rel => exact ⟨k + 1, by omega, by go_num, rfl, hnx, hn2.out, hrun2.out, (by repeat first | (with_reducible exact D6) | (with_reducible refine Below.setCell ?_ (by first | exact Nat.le_refl _ | (simp; done) | (simp; omega) | omega) _) | (with_reducible refine Below.alloc ?_ (by first | exact Nat.le_refl _ | (simp; done) | (simp; omega) | omega) _) | (with_reducible refine below_drewN ?_ _) | (with_reducible refine Below.drew ?_))⟩
          case measure => simp [intOf] <;> omega
    · obtain rfl : k = 24 := by omega
      have hKn : K = none := hrun.symm
      subst hKn
      obtain ⟨z0, z1, z2⟩ := XRr
      clear hrun hall hb
      go_wp2_with fail
      refine bodyPost_ret (v := .tuple #[.agg #[.int .i64 0, .int .i64 0, .slice none 0 0], .float .f32 0, .bool false]) (by simp [results, Try.results17, go_sem, z0, z1, z2]) rfl ?_
      exact ShOwn.no (by repeat first | (with_reducible exact Br) | (with_reducible refine Below.setCell ?_ (by first | exact Nat.le_refl _ | (simp; done) | (simp; omega) | omega) _) | (with_reducible refine Below.alloc ?_ (by first | exact Nat.le_refl _ | (simp; done) | (simp; omega) | omega) _) | (with_reducible refine below_drewN ?_ _) | (with_reducible refine Below.drew ?_))
end Go.Proofs.Ytmjlhmbnaifhaaa
