/- Helper: a square taken apart into a lower square and its middle. Conditions: none. -/
import Derived.Test.YtcibjkadlndejaaMirFacts
import Derived.Test.YtcibjkadlndejaaMid
import Derived.Test.YtcibjkadlndejaaPivot
set_option linter.unusedVariables false
set_option linter.unusedSimpArgs false
namespace Go.Proofs.Ytcibjkadlndejaa
open Go.RowKit

def one32 : Option Nat := some 1065353216
def trG (S : Option Nat) (D A B : Nat → Option Nat) : Nat → Option Nat
  | 0 => S
  | j + 1 => fop .sub .f32 (trG S D A B j) (fop .mul .f32 (fop .mul .f32 (D j) (A j)) (B j))
theorem trG_congr {S S' : Option Nat} {D A B D' A' B' : Nat → Option Nat} (hs : S = S') : ∀ {n : Nat}, (∀ j, j < n → D j = D' j ∧ A j = A' j ∧ B j = B' j) → trG S D A B n = trG S' D' A' B' n
  | 0, _ => hs
  | n + 1, h => by
    show fop .sub .f32 (trG S D A B n) _ = fop .sub .f32 (trG S' D' A' B' n) _
    rw [trG_congr hs (fun j hj => h j (by omega)), (h n (by omega)).1, (h n (by omega)).2.1, (h n (by omega)).2.2]
/-- The number of the middle, and a column below it of which the rows before i are told. -/
def mdS (n : Nat) (V : Nat → Option Nat) (k : Nat) (P : GS) : Option Nat := trG (V (k * n + k)) P.2 (fun j => P.1 (k * n + j)) (fun j => P.1 (k * n + j)) k
def mdR (n : Nat) (V : Nat → Option Nat) (k : Nat) (P : GS) (i : Nat) : Option Nat := trG (V (i * n + k)) P.2 (fun j => P.1 (i * n + j)) (fun j => P.1 (k * n + j)) k
def mdI (n : Nat) (V : Nat → Option Nat) (k : Nat) (P : GS) (S : Option Nat) (i t : Nat) : Option Nat :=
  if t % n = k ∧ k < t / n ∧ t / n < i then fop .quo .f32 (mdR n V k P (t / n)) S else if t = k * n + k then one32 else P.1 t
def mdN (n : Nat) (V : Nat → Option Nat) (k : Nat) (P : GS) : GS := (mdI n V k P (mdS n V k P) n, fun t => if t = k then mdS n V k P else P.2 t)
def mdT (n : Nat) (V : Nat → Option Nat) : Nat → GS
  | 0 => (fun _ => some 0, fun _ => some 0)
  | k + 1 => mdN n V k (mdT n V k)
def mdOk (n N : Nat) (V : Nat → Option Nat) : Bool := !anyZ (mdT n V n).2 n && (allFin (mdT n V n).1 N && allFin (mdT n V n).2 n)
theorem mdI_row {n k i j : Nat} {V : Nat → Option Nat} {P : GS} {S : Option Nat} {q : Nat} (hj : j < k) (hk : k < n) : mdI n V k P S i (q * n + j) = P.1 (q * n + j) := by
  have hd := place_div (c := n) (j := q) (show j < n by omega)
  have hk2 := place_div (c := n) (j := k) hk
  unfold mdI
  rw [if_neg (by rw [hd.2]; omega), if_neg (fun e => by rw [e, hk2.2] at hd; omega)]
theorem mdI_start {n k t : Nat} {V : Nat → Option Nat} {P : GS} {S : Option Nat} : mdI n V k P S (k + 1) t = if t = k * n + k then one32 else P.1 t := by
  unfold mdI
  rw [if_neg (by omega)]
theorem md_put {n N k i : Nat} {V : Nat → Option Nat} {P : GS} {S : Option Nat} {X : Nat → Nat} {u : Nat} (hki : k < i) (hkn : k < n) (h : ∀ t, t < N → vals X t = mdI n V k P S i t) (hu : FV .f32 u (fop .quo .f32 (mdR n V k P i) S)) :
    ∀ t, t < N → vals (fun t => if t = i * n + k then u else X t) t = mdI n V k P S (i + 1) t := by
  intro t ht
  have hd := place_div (c := n) (j := i) hkn
  show cn .f32 (if t = i * n + k then u else X t) = _
  by_cases e : t = i * n + k
  · rw [if_pos e]
    unfold mdI
    rw [e, hd.1, hd.2, if_pos ⟨rfl, hki, by omega⟩]
    exact hu.1
  · rw [if_neg e]
    have hh := h t ht
    show vals X t = _
    rw [hh]
    unfold mdI
    by_cases e2 : t % n = k ∧ k < t / n ∧ t / n < i
    · rw [if_pos e2, if_pos ⟨e2.1, e2.2.1, by omega⟩]
    · have h6 : ¬ (t % n = k ∧ k < t / n ∧ t / n < i + 1) := fun e3 => e2 ⟨e3.1, e3.2.1, by
        have h5 : t / n ≠ i := fun e4 => e (by rw [← e4, ← e3.1]; exact place_eq.symm)
        omega⟩
      rw [if_neg e2, if_neg h6]
theorem mdI_next {n k i t : Nat} {V : Nat → Option Nat} {P : GS} {S : Option Nat} (e : ¬ t = i * n + k) : mdI n V k P S i t = mdI n V k P S (i + 1) t := by
  unfold mdI
  by_cases e2 : t % n = k ∧ k < t / n ∧ t / n < i
  · rw [if_pos e2, if_pos ⟨e2.1, e2.2.1, by omega⟩]
  · have h6 : ¬ (t % n = k ∧ k < t / n ∧ t / n < i + 1) := fun e3 => e2 ⟨e3.1, e3.2.1, by
      have h5 : t / n ≠ i := fun e4 => e (by rw [← e4, ← e3.1]; exact place_eq.symm)
      omega⟩
    rw [if_neg e2, if_neg h6]
/-- With 1 in the middle. -/
def uN (n t : Nat) (x : Option Nat) : Option Nat := if t / n = t % n then one32 else x
theorem uN_off {n q j : Nat} {x : Option Nat} (hj : j < n) (h : q ≠ j) : uN n (q * n + j) x = x := by
  have hd := place_div (c := n) (j := q) hj
  unfold uN
  rw [hd.1, hd.2, if_neg h]
theorem mdu_put {n N k i : Nat} {V : Nat → Option Nat} {P : GS} {S : Option Nat} {X : Nat → Nat} {u : Nat} (hki : k < i) (hkn : k < n) (h : ∀ t, t < N → vals X t = uN n t (mdI n V k P S i t)) (hu : FV .f32 u (fop .quo .f32 (mdR n V k P i) S)) :
    ∀ t, t < N → vals (fun t => if t = i * n + k then u else X t) t = uN n t (mdI n V k P S (i + 1) t) := by
  intro t ht
  have hd := place_div (c := n) (j := i) hkn
  show cn .f32 (if t = i * n + k then u else X t) = _
  by_cases e : t = i * n + k
  · rw [if_pos e, e, uN_off hkn (by omega)]
    unfold mdI
    rw [hd.1, hd.2, if_pos ⟨rfl, hki, by omega⟩]
    exact hu.1
  · rw [if_neg e]
    have hh := h t ht
    show vals X t = _
    rw [hh, mdI_next e]
theorem mdu_start {n k t : Nat} {V : Nat → Option Nat} {P : GS} {S : Option Nat} (hkn : k < n) : uN n t (P.1 t) = uN n t (mdI n V k P S (k + 1) t) := by
  rw [mdI_start]
  by_cases e : t = k * n + k
  · rw [if_pos e, e]
    have hd := place_div (c := n) (j := k) hkn
    unfold uN
    rw [hd.1, hd.2, if_pos rfl, if_pos rfl]
  · rw [if_neg e]
theorem md_end {n N k : Nat} {V : Nat → Option Nat} {P : GS} {X : Nat → Nat} (h : ∀ t, t < N → vals X t = mdI n V k P (mdS n V k P) n t) : ∀ t, t < N → vals X t = (mdN n V k P).1 t := h
theorem md_D {n k : Nat} {V : Nat → Option Nat} : ∀ {m : Nat}, k < m → (mdT n V m).2 k = mdS n V k (mdT n V k)
  | 0, h => absurd h (Nat.not_lt_zero _)
  | m + 1, h => by
    show (if k = m then mdS n V m (mdT n V m) else (mdT n V m).2 k) = _
    by_cases e : k = m
    · rw [if_pos e, e]
    · rw [if_neg e]; exact md_D (by omega)
theorem md_diag {n i : Nat} {V : Nat → Option Nat} (hin : i < n) : ∀ {m : Nat}, i < m → m ≤ n → (mdT n V m).1 (i * n + i) = one32
  | 0, h, _ => absurd h (Nat.not_lt_zero _)
  | m + 1, h, hm => by
    show mdI n V m (mdT n V m) _ n (i * n + i) = _
    have hd := place_div (c := n) (j := i) hin
    have hd2 := place_div (c := n) (j := m) (show m < n by omega)
    unfold mdI
    by_cases e : i = m
    · subst e
      rw [if_neg (by rw [hd.1]; omega), if_pos rfl]
    · rw [if_neg (by rw [hd.2]; omega), if_neg (fun q => by rw [q, hd2.2] at hd; omega)]
      exact md_diag hin (by omega) (by omega)
theorem mdOk_zero {n N k : Nat} {V : Nat → Option Nat} (hk : k < n) (h : isZero (mdS n V k (mdT n V k)) = true) : mdOk n N V = false := by
  unfold mdOk
  rw [anyZ_yes hk (by rw [md_D hk]; exact h)]
  rfl
theorem mdOk_inf {n N k : Nat} {V : Nat → Option Nat} (hk : k < n) (h : finite .f32 (mdS n V k (mdT n V k)) = false) : mdOk n N V = false := by
  unfold mdOk
  rw [allFin_no hk (by rw [md_D hk]; exact h)]
  simp
theorem mdu_end {n t : Nat} {V : Nat → Option Nat} (ht : t / n < n) : uN n t ((mdT n V n).1 t) = (mdT n V n).1 t := by
  unfold uN
  by_cases e : t / n = t % n
  · rw [if_pos e]
    have h5 : t = t / n * n + t / n := by
      have h6 := place_eq (c := n) (t := t)
      rw [← e] at h6
      exact h6.symm
    rw [h5]
    exact (md_diag ht ht (Nat.le_refl _)).symm
  · rw [if_neg e]
/-- A matrix and a list in memory of their own, and whether they are told. -/
def MdOwn (ok : Bool) (Ra Ca : Int) (na : Nat) (Va : Nat → Option Nat) (nb : Nat) (Vb : Nat → Option Nat) (w : World) (e : Ending) (w' : World) : Prop :=
  ∃ m g1 d1 Y1 g2 d2 Y2, w.heap.size ≤ m ∧ m ≤ w'.heap.size ∧ e = .returned (.tuple #[.agg #[.int .i64 Ra, .int .i64 Ca, .slice g1 na d1], .slice g2 nb d2, .bool ok]) ∧
    Own 41 .f32 w.heap.size m w' g1 na d1 Y1 ∧ (∀ i, i < na → vals Y1 i = Va i) ∧ Own 41 .f32 m w'.heap.size w' g2 nb d2 Y2 ∧ (∀ i, i < nb → vals Y2 i = Vb i) ∧ Below w.heap.size w w'
def MdBel (ok : Bool) (Ra Ca : Int) (na : Nat) (Va : Nat → Option Nat) (nb : Nat) (Vb : Nat → Option Nat) (w : World) (e : Ending) (w' : World) : Prop :=
  ∃ g1 d1 Y1 g2 d2 Y2, e = .returned (.tuple #[.agg #[.int .i64 Ra, .int .i64 Ca, .slice g1 na d1], .slice g2 nb d2, .bool ok]) ∧
    FS .f32 w' g1 na d1 Y1 ∧ (∀ i, i < na → vals Y1 i = Va i) ∧ FS .f32 w' g2 nb d2 Y2 ∧ (∀ i, i < nb → vals Y2 i = Vb i) ∧ Below w.heap.size w w'
def MdOwnIf (ok : Bool) (Ra Ca : Int) (na : Nat) (Va : Nat → Option Nat) (nb : Nat) (Vb : Nat → Option Nat) (w : World) (e : Ending) (w' : World) : Prop :=
  match ok with
  | true => MdOwn true Ra Ca na Va nb Vb w e w'
  | false => MdOwn false 0 0 0 (fun _ => none) 0 (fun _ => none) w e w'
def MdBelIf (ok : Bool) (Ra Ca : Int) (na : Nat) (Va : Nat → Option Nat) (nb : Nat) (Vb : Nat → Option Nat) (w : World) (e : Ending) (w' : World) : Prop :=
  match ok with
  | true => MdBel true Ra Ca na Va nb Vb w e w'
  | false => MdBel false 0 0 0 (fun _ => none) 0 (fun _ => none) w e w'
theorem MdOwn.no {w w' : World} (h : Below w.heap.size w w') : MdOwn false 0 0 0 (fun _ => none) 0 (fun _ => none) w (.returned (.tuple #[.agg #[.int .i64 0, .int .i64 0, .slice none 0 0], .slice none 0 0, .bool false])) w' :=
  ⟨w.heap.size, none, 0, fun _ => 0, none, 0, fun _ => 0, Nat.le_refl _, h.size, rfl, .inl ⟨rfl, rfl, rfl⟩, fun i hi => absurd hi (Nat.not_lt_zero _), .inl ⟨rfl, rfl, rfl⟩, fun i hi => absurd hi (Nat.not_lt_zero _), h⟩
theorem MdBel.no {w w' : World} (h : Below w.heap.size w w') : MdBel false 0 0 0 (fun _ => none) 0 (fun _ => none) w (.returned (.tuple #[.agg #[.int .i64 0, .int .i64 0, .slice none 0 0], .slice none 0 0, .bool false])) w' :=
  ⟨none, 0, fun _ => 0, none, 0, fun _ => 0, rfl, ⟨Nat.le_refl _, Nat.zero_le _, fun i hi => absurd hi (Nat.not_lt_zero _)⟩, fun i hi => absurd hi (Nat.not_lt_zero _), ⟨Nat.le_refl _, Nat.zero_le _, fun i hi => absurd hi (Nat.not_lt_zero _)⟩, fun i hi => absurd hi (Nat.not_lt_zero _), h⟩
section
variable {ok : Bool} {Ra Ca : Int} {na : Nat} {Va : Nat → Option Nat} {nb : Nat} {Vb : Nat → Option Nat} {w w' : World} {e : Ending}
theorem MdOwnIf.no (h : ok = false) (p : MdOwn false 0 0 0 (fun _ => none) 0 (fun _ => none) w e w') : MdOwnIf ok Ra Ca na Va nb Vb w e w' := by subst h; exact p
theorem MdOwnIf.yes (h : ok = true) (p : MdOwn true Ra Ca na Va nb Vb w e w') : MdOwnIf ok Ra Ca na Va nb Vb w e w' := by subst h; exact p
theorem MdBelIf.no (h : ok = false) (p : MdBel false 0 0 0 (fun _ => none) 0 (fun _ => none) w e w') : MdBelIf ok Ra Ca na Va nb Vb w e w' := by subst h; exact p
theorem MdBelIf.yes (h : ok = true) (p : MdBel true Ra Ca na Va nb Vb w e w') : MdBelIf ok Ra Ca na Va nb Vb w e w' := by subst h; exact p
end
theorem implTrip_any (s : Nat) {S : Option Nat} (fs : FV .f32 s S) (a1 a2 a3 : Option Addr) (n1 c1 n2 c2 n3 c3 : Nat) (D A B : Nat → Nat) (w : World) (hn1 : n1 ≤ 1048576) (hn2 : n2 ≤ 1048576) (h31 : n3 ≤ n1) (h32 : n3 ≤ n2) (f1 : FS .f32 w a1 n1 c1 D) (f2 : FS .f32 w a2 n2 c2 A) (f3 : FS .f32 w a3 n3 c3 B) :
    Calls Try.prog 73 #[.float .f32 s, .slice a1 n1 c1, .slice a2 n2 c2, .slice a3 n3 c3] w fun e w' => ∃ r, e = .returned (.float .f32 r) ∧ FV .f32 r (trG S (vals D) (vals A) (vals B) n3) ∧ ∃ m, w' = w.drewN m := by
  go_enter Try.func73, Try.ntmps73
  go_wp2
  go_loopw [0, 13] (fun s i wr => ∃ j m r : Nat, j ≤ n3 ∧ i = .int .i64 j ∧ s = .float .f32 r ∧ FV .f32 r (trG S (vals D) (vals A) (vals B) j) ∧ wr = w.drewN m) (fun _ i _ => n3 - (intOf i).toNat)
  case atStart => exact ⟨0, 0, _, Nat.zero_le _, rfl, rfl, fs, rfl⟩
  case round =>
    obtain ⟨j, m0, r0, hj, rfl, rfl, hr0, rfl⟩ := hrel
    clear fs
    by_cases hlt : j < n3
    · obtain ⟨b1, off1, rfl, hbl1, hc1, hfv1⟩ := f1.at (show j < n1 by omega)
      obtain ⟨b2, off2, rfl, hbl2, hc2, hfv2⟩ := f2.at (show j < n2 by omega)
      obtain ⟨b3, off3, rfl, hbl3, hc3, hfv3⟩ := f3.at hlt
      have hj1 : j < n1 := by omega
      have hj2 : j < n2 := by omega
      have hTR : Hid (∀ x, FV .f32 x (fop .sub .f32 (trG S (vals D) (vals A) (vals B) j) (fop .mul .f32 (fop .mul .f32 (cn .f32 (D j)) (cn .f32 (A j))) (cn .f32 (B j)))) → FV .f32 x (trG S (vals D) (vals A) (vals B) (j + 1))) := Lib.hid fun x hx => hx
      generalize D j = xd at hc1 hfv1 hTR
      generalize A j = xa at hc2 hfv2 hTR
      generalize B j = xb at hc3 hfv3 hTR
      generalize trG S (vals D) (vals A) (vals B) j = T0 at hr0 hTR
      clear hbl1 hbl2 hbl3 f1 f2 f3
      go_wp2
      refine wp_region_kinds (fun w' => ∃ m, w' = w.drewN m) (fun i => if i = 9 then 1 else if i = 11 then 1 else if i = 12 then 1 else 0) 13 ⟨m0 + 1, by rw [World.drewN_drewN]⟩ (by kernel_rfl) (by kernel_rfl) (by kernel_rfl) ?_
      simp only [List.take_succ_cons, List.take_zero, List.drop_succ_cons, List.drop_zero]
      ((with_reducible refine wpKinds_plain ?hwant ?hkind ?hplain (fun K hK => ?_)); (case hwant => first | (simp [Region.wanted, yielded]; done) | rfl); (case hkind => rfl); (case hplain => rfl); go_big_quiet_op; (first | refine hK _ ?_ | refine ⟨_, fun _ _ => rfl, hK _ ?_⟩); clear hK K)
      ((with_reducible refine wpKinds_plain ?hwant ?hkind ?hplain (fun K hK => ?_)); (case hwant => first | (simp [Region.wanted, yielded]; done) | rfl); (case hkind => rfl); (case hplain => rfl); go_big_quiet_op; (first | refine hK _ ?_ | refine ⟨_, fun _ _ => rfl, hK _ ?_⟩); clear hK K)
      ((with_reducible refine wpKinds_plain ?hwant ?hkind ?hplain (fun K hK => ?_)); (case hwant => first | (simp [Region.wanted, yielded]; done) | rfl); (case hkind => rfl); (case hplain => rfl); go_big_quiet_op; (first | refine hK _ ?_ | refine ⟨_, fun _ _ => rfl, hK _ ?_⟩); clear hK K)
      (refine wpKinds_run (.pointer (some ⟨b1, off1 + j, none⟩)) rfl rfl (by rintro W ⟨m, rfl⟩; simp [go_sem, hj1]) ?_; simp only [Act.put, List.setIfInBounds_toArray, List.set_cons_succ, List.set_cons_zero])
      (refine wpKinds_run (.float .f32 xd) rfl rfl (by rintro W ⟨m, rfl⟩; simp [go_sem, show w.cell? ⟨b1, off1 + j, none⟩ = some (.float .f32 xd) from hc1]) ?_; simp only [Act.put, List.setIfInBounds_toArray, List.set_cons_succ, List.set_cons_zero])
      ((with_reducible refine wpKinds_plain ?hwant ?hkind ?hplain (fun K hK => ?_)); (case hwant => first | (simp [Region.wanted, yielded]; done) | rfl); (case hkind => rfl); (case hplain => rfl); go_big_quiet_op; (first | refine hK _ ?_ | refine ⟨_, fun _ _ => rfl, hK _ ?_⟩); clear hK K)
      ((with_reducible refine wpKinds_plain ?hwant ?hkind ?hplain (fun K hK => ?_)); (case hwant => first | (simp [Region.wanted, yielded]; done) | rfl); (case hkind => rfl); (case hplain => rfl); go_big_quiet_op; (first | refine hK _ ?_ | refine ⟨_, fun _ _ => rfl, hK _ ?_⟩); clear hK K)
      (refine wpKinds_run (.pointer (some ⟨b2, off2 + j, none⟩)) rfl rfl (by rintro W ⟨m, rfl⟩; simp [go_sem, hj2]) ?_; simp only [Act.put, List.setIfInBounds_toArray, List.set_cons_succ, List.set_cons_zero])
      (refine wpKinds_run (.float .f32 xa) rfl rfl (by rintro W ⟨m, rfl⟩; simp [go_sem, show w.cell? ⟨b2, off2 + j, none⟩ = some (.float .f32 xa) from hc2]) ?_; simp only [Act.put, List.setIfInBounds_toArray, List.set_cons_succ, List.set_cons_zero])
      refine wpKinds_farith (fun W m hW => by obtain ⟨x, rfl⟩ := hW; exact ⟨x + m, drewN_two⟩) rfl rfl _ _ _ _ _ rfl rfl _ _ _ rfl rfl hfv1 hfv2 (fun r1 hr1 => ?_)
      simp only [Act.put, List.setIfInBounds_toArray, List.set_cons_succ, List.set_cons_zero]
      ((with_reducible refine wpKinds_plain ?hwant ?hkind ?hplain (fun K hK => ?_)); (case hwant => first | (simp [Region.wanted, yielded]; done) | rfl); (case hkind => rfl); (case hplain => rfl); go_big_quiet_op; (first | refine hK _ ?_ | refine ⟨_, fun _ _ => rfl, hK _ ?_⟩); clear hK K)
      refine wpKinds_farith (fun W m hW => by obtain ⟨x, rfl⟩ := hW; exact ⟨x + m, drewN_two⟩) rfl rfl _ _ _ _ _ rfl rfl _ _ _ rfl rfl hr1 hfv3 (fun r2 hr2 => ?_)
      simp only [Act.put, List.setIfInBounds_toArray, List.set_cons_succ, List.set_cons_zero]
      refine wpKinds_farith (fun W m hW => by obtain ⟨x, rfl⟩ := hW; exact ⟨x + m, drewN_two⟩) rfl rfl _ _ _ _ _ rfl rfl _ _ _ rfl rfl hr0 hr2 (fun r3 hr3 => ?_)
      simp only [Act.put, List.setIfInBounds_toArray, List.set_cons_succ, List.set_cons_zero]
      refine wpKinds_nil ?_
      rintro w9 ⟨m9, rfl⟩
      have HR := Lib.hid (hTR.out _ hr3)
      clear hTR hr1 hr2 hr3
      go_wp2
      go_roundw
      case rel => exact ⟨j + 1, m9, _, by omega, by go_num, rfl, HR.out, rfl⟩
      case measure => simp [intOf]; omega
    · obtain rfl : j = n3 := by omega
      go_wp2
      go_ret
      exact ⟨_, rfl, hr0, _, rfl⟩
end Go.Proofs.Ytcibjkadlndejaa
