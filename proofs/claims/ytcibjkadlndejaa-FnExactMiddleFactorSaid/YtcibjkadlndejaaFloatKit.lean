/- Helper: floats up to the bits of a not-a-number: what each operation gives, as a function of the operands, and the walk's laws for it. Conditions: none. -/
import Derived.WalkKit
import Derived.WalkLawsBesides
import Derived.Laws.FloatArith
import Derived.Laws.Cover3
import Derived.Deep.Draws
namespace Go.Proofs.Ytcibjkadlndejaa

/-- A float, all not-a-numbers being one. -/
def cn (k : FloatKind) (b : Nat) : Option Nat := if (k.decode b).isNaN then none else some b

def fop (op : BinOp) (k : FloatKind) (u v : Option Nat) : Option Nat := u.bind fun x => v.bind fun y => floatBits op k x y

/-- The float r is v, up to the bits of a not-a-number. -/
def FV (k : FloatKind) (r : Nat) (v : Option Nat) : Prop := cn k r = v ∧ (Lit.float k r).wf = true

theorem FV.mk' {k : FloatKind} {r : Nat} (h : (Lit.float k r).wf = true) : FV k r (cn k r) := ⟨rfl, h⟩

theorem read_word (f : Ieee.Format) (neg : Bool) (rung : Nat) (h : rung ≤ f.infRung) : (f.read (f.word neg rung)).isNaN = false := by
  have hl := f.infRung_lt
  have hm : f.word neg rung % f.signWeight = rung := by
    unfold Ieee.Format.word
    split
    · rw [Nat.add_mod_left]; exact Nat.mod_eq_of_lt (by omega)
    · exact Nat.mod_eq_of_lt (by omega)
  unfold Ieee.Format.read
  simp only [hm]
  split
  · rfl
  · split
    · rfl
    · split
      · rfl
      · omega

theorem read_write (f : Ieee.Format) (d : Ieee.Datum) (hd : d.isNaN = false) : (f.read (f.write d)).isNaN = false := by
  cases d with
  | number s m e =>
    simp only [Ieee.Format.write, Ieee.Format.nearest]
    split
    · exact read_word f s 0 (Nat.zero_le _)
    · exact read_word f s _ (Nat.min_le_right _ _)
  | infinity s => exact read_word f s _ (Nat.le_refl _)
  | nan s t => cases hd

theorem opposite_nan (d : Ieee.Datum) : d.opposite.isNaN = d.isNaN := by cases d <;> rfl

theorem sum_ok {a b d : Ieee.Datum} (h : Ieee.Datum.sum a b = some d) : d.isNaN = false ∧ a.isNaN = false ∧ b.isNaN = false := by
  cases a <;> cases b <;> simp [Ieee.Datum.sum] at h <;> (try (obtain ⟨_, rfl⟩ := h)) <;> (try subst h) <;> exact ⟨rfl, rfl, rfl⟩

theorem product_ok {a b d : Ieee.Datum} (h : Ieee.Datum.product a b = some d) : d.isNaN = false ∧ a.isNaN = false ∧ b.isNaN = false := by
  cases a <;> cases b <;> simp [Ieee.Datum.product] at h <;> (try (obtain ⟨_, rfl⟩ := h)) <;> (try subst h) <;> exact ⟨rfl, rfl, rfl⟩

theorem quotient_ok {n : Nat} {a b d : Ieee.Datum} (h : Ieee.Datum.quotient n a b = some d) : d.isNaN = false ∧ a.isNaN = false ∧ b.isNaN = false := by
  cases a <;> cases b <;> simp [Ieee.Datum.quotient] at h <;> (try subst h) <;> (try exact ⟨rfl, rfl, rfl⟩)
  split at h
  · split at h
    · cases h
    · cases h; exact ⟨rfl, rfl, rfl⟩
  · cases h; exact ⟨rfl, rfl, rfl⟩

theorem floatBits_ok {op : BinOp} {k : FloatKind} {x y r : Nat} (h : floatBits op k x y = some r) :
    (k.decode r).isNaN = false ∧ (k.decode x).isNaN = false ∧ (k.decode y).isNaN = false := by
  unfold floatBits at h
  split at h
  · simp only [Ieee.Format.add, Option.map_eq_some_iff] at h
    obtain ⟨d, hd, rfl⟩ := h
    have := sum_ok hd
    exact ⟨read_write _ _ this.1, this.2⟩
  · simp only [Ieee.Format.sub, Option.map_eq_some_iff] at h
    obtain ⟨d, hd, rfl⟩ := h
    have := sum_ok hd
    rw [opposite_nan] at this
    exact ⟨read_write _ _ this.1, this.2⟩
  · simp only [Ieee.Format.mul, Option.map_eq_some_iff] at h
    obtain ⟨d, hd, rfl⟩ := h
    have := product_ok hd
    exact ⟨read_write _ _ this.1, this.2⟩
  · simp only [Ieee.Format.div, Option.map_eq_some_iff] at h
    obtain ⟨d, hd, rfl⟩ := h
    have := quotient_ok hd
    exact ⟨read_write _ _ this.1, this.2⟩
  · cases h

theorem cn_of {k : FloatKind} {r : Nat} (h : (k.decode r).isNaN = false) : cn k r = some r := by simp [cn, h]
theorem cn_nan {k : FloatKind} {r : Nat} (h : (k.decode r).isNaN = true) : cn k r = none := by simp [cn, h]

theorem fop_some {op : BinOp} {k : FloatKind} {x y r : Nat} (h : floatBits op k x y = some r) : cn k r = fop op k (cn k x) (cn k y) := by
  obtain ⟨h1, h2, h3⟩ := floatBits_ok h
  simp [cn_of h1, cn_of h2, cn_of h3, fop, h]

theorem fop_none {op : BinOp} {k : FloatKind} {x y : Nat} (h : floatBits op k x y = none) : fop op k (cn k x) (cn k y) = none := by
  unfold cn fop
  split
  · rfl
  · split
    · rfl
    · simpa using h

/-- What the tape answers where a not-a-number comes: one. -/
def nanLike (k : FloatKind) (r : Nat) : Prop := (k.decode r).isNaN = true ∧ (Lit.float k r).wf = true

theorem nan32 (t : Nat) : nanLike .f32 ((t % 2) * 2 ^ 31 + 0x7f800000 + 1 + (t / 2) % (2 ^ 23 - 1)) := by
  have h1 : t % 2 < 2 := Nat.mod_lt _ (by decide)
  have h2 : (t / 2) % (2 ^ 23 - 1) < 2 ^ 23 - 1 := Nat.mod_lt _ (by decide)
  generalize t % 2 = a at *
  generalize (t / 2) % (2 ^ 23 - 1) = c at *
  have hw : a * 2 ^ 31 + 0x7f800000 + 1 + c < 4294967296 := by omega
  refine ⟨?_, by simp only [Lit.wf]; exact decide_eq_true (by omega)⟩
  have hr : (a * 2 ^ 31 + 0x7f800000 + 1 + c) % 2147483648 = 0x7f800000 + 1 + c := by omega
  show (Ieee.single.read _).isNaN = true
  unfold Ieee.Format.read
  have e1 : Ieee.single.signWeight = 2147483648 := by decide
  have e2 : Ieee.single.binade = 8388608 := by decide
  have e3 : Ieee.single.infRung = 2139095040 := by decide
  simp only [e1, e2, e3, hr]
  rw [if_neg (by omega), if_neg (by omega), if_neg (by omega)]
  rfl

theorem nan64 (t : Nat) : nanLike .f64 ((t % 2) * 2 ^ 63 + 0x7ff0000000000000 + 1 + (t / 2) % (2 ^ 52 - 1)) := by
  have h1 : t % 2 < 2 := Nat.mod_lt _ (by decide)
  have h2 : (t / 2) % (2 ^ 52 - 1) < 2 ^ 52 - 1 := Nat.mod_lt _ (by decide)
  generalize t % 2 = a at *
  generalize (t / 2) % (2 ^ 52 - 1) = c at *
  have hw : a * 2 ^ 63 + 0x7ff0000000000000 + 1 + c < 18446744073709551616 := by omega
  refine ⟨?_, by simp only [Lit.wf]; exact decide_eq_true (by omega)⟩
  have hr : (a * 2 ^ 63 + 0x7ff0000000000000 + 1 + c) % 9223372036854775808 = 0x7ff0000000000000 + 1 + c := by omega
  show (Ieee.double.read _).isNaN = true
  unfold Ieee.Format.read
  have e1 : Ieee.double.signWeight = 9223372036854775808 := by decide
  have e2 : Ieee.double.binade = 4503599627370496 := by decide
  have e3 : Ieee.double.infRung = 9218868437227405312 := by decide
  simp only [e1, e2, e3, hr]
  rw [if_neg (by omega), if_neg (by omega), if_neg (by omega)]
  rfl

theorem nan_bits (k : FloatKind) (x y t : Nat) : nanLike k ((Question.nanBits k x y).cut t) := by
  cases k
  · exact nan32 t
  · exact nan64 t

theorem nan_conv (k : FloatKind) (x t : Nat) : nanLike k ((Question.nanConv k x).cut t) := by
  cases k
  · exact nan32 t
  · exact nan64 t

def arith : BinOp → Bool
  | .add | .sub | .mul | .quo => true
  | _ => false

theorem run_farith {P : Program} (w : World) (op : BinOp) (t : TypeId) (k : FloatKind) (x y : Nat) (ha : arith op = true) :
    ∃ r m, (binOp op t (.float k x) (.float k y)).run P w = .ok (.float k r) (w.drewN m) ∧ FV k r (fop op k (cn k x) (cn k y)) := by
  cases h : floatBits op k x y with
  | some r => exact ⟨r, 0, run_float_arith w op t k x y r h, fop_some h, floatBits_wf h⟩
  | none =>
    have hn := nan_bits k x y (w.tape w.drawn (.nanBits k x y))
    refine ⟨_, 1, ?_, (cn_nan hn.1).trans (fop_none h).symm, hn.2⟩
    have hf : (Question.nanBits k x y).forced = false := rfl
    unfold floatBits at h
    cases op <;> first | (cases ha; done) | skip
    all_goals
      simp only at h
      simp [binOp, Op.floatArith, h, choose, Sem.run, hf]
      rfl

theorem wpList_farith {P : Program} {ops : Array Oper} {rest : List Oper} {o : Oper} {a : Act} {w : World} {Q : Exit → Act → World → Prop} (hgd : Region.wanted o (yielded ops a.tmps) = true)
    (op : BinOp) (t u : TypeId) (x y : Operand) (ho : o.op = .binOp op t x y u) (ha : arith op = true) (k : FloatKind) (vx vy : Nat) (hx : a.eval x = .float k vx) (hy : a.eval y = .float k vy)
    {X Y : Option Nat} (fx : FV k vx X) (fy : FV k vy Y)
    (h : ∀ r m, FV k r (fop op k X Y) → wpList P ops Q rest (a.put o.dst (.float k r)) (w.drewN m)) : wpList P ops Q (o :: rest) a w := by
  refine BigFrame.wpList_want hgd fun K hK => ?_
  obtain ⟨r, m, hr, hv⟩ := run_farith (P := P) w op t k vx vy ha
  rw [fx.1, fy.1] at hv
  unfold Oper.wp execOp
  have hg : ∀ W, (eqGuard op t x y (.float k vx) (.float k vy)).run P W = .ok () W := by
    intro W
    cases op <;> first | (cases ha; done) | rfl
  simp only [ho, hx, hy, Sem.run_bind, hg, Result.andThen_ok, hr, Sem.run_pure, Oper.upon]
  exact hK _ _ (h r m hv)

/-- How two floats stand to each other, up to the bits of a not-a-number. -/
def ford (k : FloatKind) (u v : Option Nat) : Option Ordering := u.bind fun x => v.bind fun y => k.format.order x y

theorem order_nan1 {k : FloatKind} {x y : Nat} (h : (k.decode x).isNaN = true) : k.format.order x y = none := by
  have h' : (k.format.read x).isNaN = true := h
  unfold Ieee.Format.order
  generalize k.format.read x = d at *
  cases d <;> first | rfl | cases h'

theorem order_nan2 {k : FloatKind} {x y : Nat} (h : (k.decode y).isNaN = true) : k.format.order x y = none := by
  have h' : (k.format.read y).isNaN = true := h
  unfold Ieee.Format.order
  generalize k.format.read y = d at *
  generalize k.format.read x = d' at *
  cases d <;> first | (cases d' <;> rfl) | cases h'

@[go_sem] theorem order_cn (k : FloatKind) (x y : Nat) : k.format.order x y = ford k (cn k x) (cn k y) := by
  unfold ford cn
  split
  · rename_i h; exact order_nan1 h
  · split
    · rename_i h; exact order_nan2 h
    · rfl

theorem cn_lit {k : FloatKind} {r : Nat} (h : (k.decode r).isNaN = false) : cn k r = some r := cn_of h
theorem FV.lit {k : FloatKind} {r : Nat} (h : (k.decode r).isNaN = false) (hw : (Lit.float k r).wf = true) : FV k r (some r) := ⟨cn_of h, hw⟩
theorem FV.eq {k : FloatKind} {r c : Nat} (h : FV k r (some c)) : r = c := by
  have := h.1
  unfold cn at this
  split at this <;> simp_all
theorem FV.of_eq {k : FloatKind} {r : Nat} {u v : Option Nat} (h : FV k r u) (e : u = v) : FV k r v := e ▸ h

theorem encode_not_nan (k : FloatKind) (d : Ieee.Datum) (hd : d.isNaN = false) : (k.decode (k.encode d)).isNaN = false := read_write _ _ hd

theorem cn_number (k : FloatKind) (s : Bool) (m : Nat) (e : Int) : cn k (k.encode (.number s m e)) = some (k.encode (.number s m e)) := cn_of (encode_not_nan k (.number s m e) rfl)
theorem cn_infinity (k : FloatKind) (s : Bool) : cn k (k.encode (.infinity s)) = some (k.encode (.infinity s)) := cn_of (encode_not_nan k (.infinity s) rfl)
theorem cn_decode {k : FloatKind} {x : Nat} {d : Ieee.Datum} (h : k.decode x = d) (hd : d.isNaN = false) : cn k x = some x := cn_of (by rw [h]; exact hd)
theorem cn_decode_nan {k : FloatKind} {x : Nat} {s : Bool} {t : Nat} (h : k.decode x = .nan s t) : cn k x = none := cn_nan (by rw [h]; rfl)

theorem FV.ofInt (k : FloatKind) (n : Int) : FV k (floatOfInt k n) (some (floatOfInt k n)) := ⟨cn_number k _ _ _, floatOfInt_wf k n⟩

/-- A 32-bit number as a 64-bit one. -/
def widen (u : Option Nat) : Option Nat := u.map fun x => FloatKind.f64.encode (FloatKind.f32.decode x)

theorem cut_even_le (neg : Bool) (n drop : Nat) : Ieee.Toward.even.cut neg n drop ≤ n / (1 <<< min drop (n.log2 + 2)) + 1 := by
  unfold Ieee.Toward.cut
  dsimp only
  have := Bool.toNat_le (decide (1 <<< min drop (n.log2 + 2) < 2 * (n % (1 <<< min drop (n.log2 + 2)))) || ((1 <<< min drop (n.log2 + 2)) == 2 * (n % (1 <<< min drop (n.log2 + 2))) && n / (1 <<< min drop (n.log2 + 2)) % 2 == 1))
  omega

/-- The rung of what is written of a number: below 2 to the place of its greatest digit. -/
theorem kept_le (neg : Bool) (mag : Nat) (place last : Int) (fb : Nat) (hl : place + mag.log2 - fb ≤ last) :
    Ieee.Toward.even.cut neg (mag <<< (place - last).toNat) (last - place).toNat ≤ 2 ^ (fb + 1) + mag := by
  by_cases h : place ≤ last
  · have e : (place - last).toNat = 0 := by omega
    rw [e, Nat.shiftLeft_zero]
    refine Nat.le_trans (cut_even_le _ _ _) ?_
    have : mag / (1 <<< min (last - place).toNat (mag.log2 + 2)) ≤ mag := Nat.div_le_self _ _
    have : 0 < 2 ^ (fb + 1) := Nat.two_pow_pos _
    omega
  · have e : (last - place).toNat = 0 := by omega
    rw [e]
    refine Nat.le_trans (cut_even_le _ _ _) ?_
    have e2 : (1 <<< min 0 ((mag <<< (place - last).toNat).log2 + 2)) = 1 := by simp
    rw [e2, Nat.div_one, Nat.shiftLeft_eq]
    have h1 : mag < 2 ^ (mag.log2 + 1) := Nat.lt_log2_self
    have h2 : mag * 2 ^ (place - last).toNat < 2 ^ (mag.log2 + 1) * 2 ^ (place - last).toNat := Nat.mul_lt_mul_of_pos_right h1 (Nat.two_pow_pos _)
    rw [← Nat.pow_add] at h2
    have h3 : 2 ^ (mag.log2 + 1 + (place - last).toNat) ≤ 2 ^ (fb + 1) := Nat.pow_le_pow_right (by decide) (by omega)
    omega

theorem read_single (x : Nat) : (∃ s, Ieee.single.read x = .infinity s) ∨ (∃ s t, Ieee.single.read x = .nan s t) ∨ ∃ s m e, Ieee.single.read x = .number s m e ∧ m < 16777216 ∧ -149 ≤ e ∧ e ≤ 104 := by
  unfold Ieee.Format.read
  have e1 : Ieee.single.signWeight = 2147483648 := by decide
  have e2 : Ieee.single.binade = 8388608 := by decide
  have e3 : Ieee.single.infRung = 2139095040 := by decide
  have e4 : Ieee.single.leastPlace = -149 := by decide
  simp only [e1, e2, e3, e4]
  generalize x % 2147483648 = q
  split
  · exact .inr (.inr ⟨_, _, _, rfl, by omega, by omega, by omega⟩)
  · split
    · exact .inr (.inr ⟨_, _, _, rfl, by omega, by omega, by omega⟩)
    · split
      · exact .inl ⟨_, rfl⟩
      · exact .inr (.inl ⟨_, _, rfl⟩)

theorem double_consts : Ieee.double.signWeight = 9223372036854775808 ∧ Ieee.double.binade = 4503599627370496 ∧ Ieee.double.infRung = 9218868437227405312 ∧ Ieee.double.leastPlace = -1074 := by decide

/-- What a word of a sign and a rung below infinity reads as: a number. -/
theorem read_word_number (s : Bool) (rung : Nat) (h : rung < 9218868437227405312) : ∃ m e, Ieee.double.read (Ieee.double.word s rung) = .number s m e := by
  obtain ⟨e1, e2, e3, e4⟩ := double_consts
  have hm : Ieee.double.word s rung % Ieee.double.signWeight = rung := by
    unfold Ieee.Format.word
    rw [e1]
    split <;> omega
  have hd : (Ieee.double.word s rung / Ieee.double.signWeight % 2 == 1) = s := by
    unfold Ieee.Format.word
    rw [e1]
    cases s <;> simp <;> omega
  unfold Ieee.Format.read
  simp only [hm, hd, e2, e3]
  split
  · exact ⟨_, _, rfl⟩
  · exact ⟨_, _, rfl⟩

/-- A number of a single, written as a double, is a number with its sign. -/
theorem widen_number (s : Bool) (m : Nat) (e : Int) (hm : m < 16777216) (h1 : -149 ≤ e) (h2 : e ≤ 104) :
    ∃ m' e', Ieee.double.read (Ieee.double.write (.number s m e)) = .number s m' e' := by
  obtain ⟨e1, e2, e3, e4⟩ := double_consts
  simp only [Ieee.Format.write, Ieee.Format.nearest]
  split
  · exact read_word_number s 0 (by decide)
  · rename_i h0
    refine read_word_number s _ ?_
    have hk := kept_le s m e (max (e + (m.log2 : Int) - (52 : Nat)) (-1074)) 52 (by omega)
    have hlog : m.log2 < 24 := (Nat.log2_lt h0).2 hm
    have ef : Ieee.double.fractionBits = 52 := rfl
    simp only [e2, e3, e4, ef]
    refine Nat.lt_of_le_of_lt (Nat.min_le_left _ _) ?_
    generalize Ieee.Toward.even.cut s _ _ = c at *
    have : (max (e + (m.log2 : Int) - (52 : Nat)) (-1074) - -1074).toNat ≤ 1149 := by omega
    have hp : (2 : Nat) ^ (52 + 1) = 9007199254740992 := by decide
    rw [hp] at hk
    have := Nat.mul_le_mul_right 4503599627370496 this
    omega

theorem run_widen {P : Program} (w : World) (src dst : TypeId) (x : Nat) (hs : (P.underlying src).isSome = true) (hd : P.underlying dst = some (.float .f64)) :
    ∃ r m, (convert src dst (.float .f32 x)).run P w = .ok (.float .f64 r) (w.drewN m) ∧ FV .f64 r (widen (cn .f32 x)) := by
  obtain ⟨u, hs'⟩ := Option.isSome_iff_exists.1 hs
  have hrun : (convert src dst (.float .f32 x)).run P w = (Conv.floatToFloat .f32 x .f64).run P w := by
    cases u <;> simp [convert, run_underlying hs', run_underlying hd]
  rw [hrun]
  unfold Conv.floatToFloat
  rw [if_neg (by decide)]
  rcases read_single x with ⟨s, h⟩ | ⟨s, t, h⟩ | ⟨s, m, e, h, hm, h1, h2⟩
  · have h' : FloatKind.f32.decode x = .infinity s := h
    refine ⟨_, 0, by rw [h']; rfl, ?_, encode_wf _ _⟩
    rw [cn_decode h' rfl]
    simp [widen, h', cn_infinity]
  · have h' : FloatKind.f32.decode x = .nan s t := h
    have hn := nan_conv .f64 x (w.tape w.drawn (.nanConv .f64 x))
    refine ⟨_, 1, by rw [h']; rfl, ?_, hn.2⟩
    rw [cn_nan hn.1, cn_decode_nan h']
    rfl
  · have h' : FloatKind.f32.decode x = .number s m e := h
    obtain ⟨m', e', hr⟩ := widen_number s m e hm h1 h2
    have hr' : FloatKind.f64.decode (FloatKind.f64.encode (.number s m e)) = .number s m' e' := hr
    refine ⟨FloatKind.f64.encode (.number s m e), 0, by rw [h']; simp [hr', Ieee.Datum.isInfinity]; rfl, ?_, encode_wf _ _⟩
    rw [cn_decode h' rfl]
    simp [widen, h', cn_number]

theorem wpList_widen {P : Program} {ops : Array Oper} {rest : List Oper} {o : Oper} {a : Act} {w : World} {Q : Exit → Act → World → Prop} (hgd : Region.wanted o (yielded ops a.tmps) = true)
    (src dst : TypeId) (x : Operand) (ho : o.op = .convert src dst x) (vx : Nat) (hx : a.eval x = .float .f32 vx) (hs : (P.underlying src).isSome = true) (hd : P.underlying dst = some (.float .f64))
    {X : Option Nat} (fx : FV .f32 vx X)
    (h : ∀ r m, FV .f64 r (widen X) → wpList P ops Q rest (a.put o.dst (.float .f64 r)) (w.drewN m)) : wpList P ops Q (o :: rest) a w := by
  refine BigFrame.wpList_want hgd fun K hK => ?_
  obtain ⟨r, m, hr, hv⟩ := run_widen (P := P) w src dst vx hs hd
  rw [fx.1] at hv
  unfold Oper.wp execOp
  simp only [ho, hx, Sem.run_bind, hr, Result.andThen_ok, Sem.run_pure, Oper.upon]
  exact hK _ _ (h r m hv)

/-- A 64-bit number as a 32-bit one, where it is not too great. -/
def narrow (u : Option Nat) : Option Nat := u.map fun x => FloatKind.f32.encode (FloatKind.f64.decode x)
/-- It is not a finite number that is too great for 32 bits. -/
def fits (u : Option Nat) : Prop := ∀ x, u = some x → (FloatKind.f64.decode x).isInfinity = true ∨ (FloatKind.f32.decode (FloatKind.f32.encode (FloatKind.f64.decode x))).isInfinity = false

theorem run_narrow {P : Program} (w : World) (src dst : TypeId) (x : Nat) (hs : (P.underlying src).isSome = true) (hd : P.underlying dst = some (.float .f32)) (hf : fits (cn .f64 x)) :
    ∃ r m, (convert src dst (.float .f64 x)).run P w = .ok (.float .f32 r) (w.drewN m) ∧ FV .f32 r (narrow (cn .f64 x)) := by
  obtain ⟨u, hs'⟩ := Option.isSome_iff_exists.1 hs
  have hrun : (convert src dst (.float .f64 x)).run P w = (Conv.floatToFloat .f64 x .f32).run P w := by
    cases u <;> simp [convert, run_underlying hs', run_underlying hd]
  rw [hrun]
  unfold Conv.floatToFloat
  rw [if_neg (by decide)]
  cases h' : FloatKind.f64.decode x with
  | infinity s =>
    refine ⟨_, 0, rfl, ?_, encode_wf _ _⟩
    rw [cn_decode h' rfl]
    simp [narrow, h', cn_infinity]
  | nan s t =>
    have hn := nan_conv .f32 x (w.tape w.drawn (.nanConv .f32 x))
    refine ⟨_, 1, rfl, ?_, hn.2⟩
    rw [cn_nan hn.1, cn_decode_nan h']
    rfl
  | number s m e =>
    have hx : cn .f64 x = some x := cn_decode h' rfl
    have hi : (FloatKind.f32.decode (FloatKind.f32.encode (.number s m e))).isInfinity = false := by
      rcases hf x hx with h | h
      · rw [h'] at h; cases h
      · rw [h'] at h; exact h
    refine ⟨FloatKind.f32.encode (.number s m e), 0, by simp [hi]; rfl, ?_, encode_wf _ _⟩
    rw [hx]
    simp [narrow, h', cn_number]

theorem wpList_narrow {P : Program} {ops : Array Oper} {rest : List Oper} {o : Oper} {a : Act} {w : World} {Q : Exit → Act → World → Prop} (hgd : Region.wanted o (yielded ops a.tmps) = true)
    (src dst : TypeId) (x : Operand) (ho : o.op = .convert src dst x) (vx : Nat) (hx : a.eval x = .float .f64 vx) (hs : (P.underlying src).isSome = true) (hd : P.underlying dst = some (.float .f32))
    {X : Option Nat} (fx : FV .f64 vx X) (hf : fits X)
    (h : ∀ r m, FV .f32 r (narrow X) → wpList P ops Q rest (a.put o.dst (.float .f32 r)) (w.drewN m)) : wpList P ops Q (o :: rest) a w := by
  refine BigFrame.wpList_want hgd fun K hK => ?_
  obtain ⟨r, m, hr, hv⟩ := run_narrow (P := P) w src dst vx hs hd (by rw [fx.1]; exact hf)
  rw [fx.1] at hv
  unfold Oper.wp execOp
  simp only [ho, hx, Sem.run_bind, hr, Result.andThen_ok, Sem.run_pure, Oper.upon]
  exact hK _ _ (h r m hv)

theorem run_samekind {P : Program} (w : World) (src dst : TypeId) (k : FloatKind) (x : Nat) (hs : (P.underlying src).isSome = true) (hd : P.underlying dst = some (.float k)) :
    (convert src dst (.float k x)).run P w = .ok (.float k x) w :=
  run_convert_float_float w src dst k k x x hs hd (by simp [floatToFloatBits])

/-- The opposite. -/
def fneg (k : FloatKind) (u : Option Nat) : Option Nat := u.map (Op.negFloat k)

theorem read_nan (f : Ieee.Format) (x : Nat) : (f.read x).isNaN = decide (¬ x % f.signWeight < f.binade ∧ ¬ x % f.signWeight < f.infRung ∧ x % f.signWeight ≠ f.infRung) := by
  unfold Ieee.Format.read
  dsimp only
  split
  · rename_i h; simp [Ieee.Datum.isNaN, h]
  · split
    · rename_i h1 h; simp [Ieee.Datum.isNaN, h1, h]
    · split
      · rename_i h1 h2 h; simp [Ieee.Datum.isNaN, h]
      · rename_i h1 h2 h3; simp [Ieee.Datum.isNaN, h1, h2, h3]

theorem fneg_not_nan (k : FloatKind) (x : Nat) (hw : (Lit.float k x).wf = true) : (k.decode (Op.negFloat k x)).isNaN = (k.decode x).isNaN ∧ (Lit.float k (Op.negFloat k x)).wf = true := by
  have hm : Op.negFloat k x % k.format.signWeight = x % k.format.signWeight := by
    unfold Op.negFloat Ieee.Format.signWeight
    rw [Nat.xor_mod_two_pow, Nat.mod_self, Nat.xor_zero]
  constructor
  · unfold FloatKind.decode
    rw [read_nan, read_nan, hm]
  · cases k
    · have h : x < 2 ^ 32 := by simpa [Lit.wf] using hw
      have : Op.negFloat .f32 x < 2 ^ 32 := Nat.xor_lt_two_pow h (by decide)
      simpa [Lit.wf] using this
    · have h : x < 2 ^ 64 := by simpa [Lit.wf] using hw
      have : Op.negFloat .f64 x < 2 ^ 64 := Nat.xor_lt_two_pow h (by decide)
      simpa [Lit.wf] using this

theorem FV.neg {k : FloatKind} {r : Nat} {u : Option Nat} (h : FV k r u) : FV k (Op.negFloat k r) (fneg k u) := by
  have hn := fneg_not_nan k r h.2
  refine ⟨?_, hn.2⟩
  rw [← h.1]
  unfold cn fneg
  rw [hn.1]
  split <;> rfl

@[go_sem] theorem run_store_float {P : Program} {w : World} {a : Addr} {m : Mode} (k : FloatKind) (b : Nat) : (store a (.float k b) m).run P w = stored P w a (.float k b) m := run_store P w a _ m rfl

@[go_sem] theorem unary_neg_float (k : FloatKind) (b : Nat) : Op.unary .neg (.float k b) = pure (.float k (Op.negFloat k b)) := rfl
end Go.Proofs.Ytcibjkadlndejaa
