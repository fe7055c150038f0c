/- Helper: the products of thirds and a list, of the program and of its reference. Conditions: none. -/
import Derived.Test.YtpmilaemmdcfaabThirdsKey
import Derived.Test.YtpmilaemmdcfaabApart
import Derived.Test.YtpmilaemmdcfaabNums
import Derived.Test.YtpmilaemmdcfaabPivot
set_option linter.unusedVariables false
set_option linter.unusedSimpArgs false
namespace Go.Proofs.Ytpmilaemmdcfaab
open Go.RowKit

def thA (A V : Nat → Option Nat) (i : Nat) : Option Nat := if 0 < i then fop .add .f32 (some 0) (fop .mul .f32 (A i) (V (i - 1))) else some 0
def thB (A B V : Nat → Option Nat) (i : Nat) : Option Nat := fop .add .f32 (thA A V i) (fop .mul .f32 (B i) (V i))
/-- One number of the product. -/
def thV (n : Nat) (A B C V : Nat → Option Nat) (i : Nat) : Option Nat := if i + 1 < n then fop .add .f32 (thB A B V i) (fop .mul .f32 (C i) (V (i + 1))) else thB A B V i
theorem thA_pos {A V : Nat → Option Nat} {p i : Nat} (h : p + 1 = i) : thA A V i = fop .add .f32 (some 0) (fop .mul .f32 (A i) (V p)) := by
  unfold thA; rw [if_pos (by omega), show i - 1 = p by omega]
theorem thA_zero {A V : Nat → Option Nat} {i : Nat} (h : ¬ 0 < i) : thA A V i = some 0 := by unfold thA; rw [if_neg h]
def fitB (m n : Nat) (V : Nat → Option Nat) : Bool := decide (m = n) && allFin V m
def upTo (j : Nat) (F : Nat → Option Nat) (t : Nat) : Option Nat := if t < j then F t else some 0
theorem upTo_step {F : Nat → Option Nat} {j n r : Nat} {D : Nat → Nat} (h : ∀ t, t < n → vals D t = upTo j F t) (hr : cn .f32 r = F j) : ∀ t, t < n → vals (fun t => if t = j then r else D t) t = upTo (j + 1) F t := by
  intro t ht
  show cn .f32 (if t = j then r else D t) = (if t < j + 1 then F t else some 0)
  by_cases e : t = j
  · subst e; rw [if_pos rfl, if_pos (Nat.lt_succ_self _)]; exact hr
  · rw [if_neg e]
    have hh := h t ht
    unfold vals upTo at hh
    rw [hh]
    by_cases e2 : t < j
    · rw [if_pos e2, if_pos (by omega)]
    · rw [if_neg e2, if_neg (by omega)]
theorem upTo_at {F : Nat → Option Nat} {j : Nat} : upTo j F j = some 0 := by unfold upTo; rw [if_neg (by omega)]
theorem upTo_all {F : Nat → Option Nat} {j t : Nat} (h : t < j) : upTo j F t = F t := by unfold upTo; rw [if_pos h]

theorem implFits_any (aa : Option Addr) (na ca : Nat) (Za : Nat → Nat) (ab : Option Addr) (nb cb : Nat) (Zb : Nat → Nat) (ac : Option Addr) (nc cc : Nat) (Zc : Nat → Nat) (av : Option Addr) (m d : Nat) (Y : Nat → Nat) (w : World) (hm : m ≤ 1048576) (h2 : FS .f32 w av m d Y) :
    Calls Try.prog 38 #[.agg #[.slice aa na ca, .slice ab nb cb, .slice ac nc cc], .slice av m d] w fun e w' => e = .returned (.bool (fitB m nb (vals Y))) ∧ Below w.heap.size w w' := by
  by_cases he : m = nb
  · have HB : Hid (fitB m nb (vals Y) = allFin (vals Y) m) := Lib.hid (by unfold fitB; rw [decide_eq_true he]; rfl)
    have hd : ((m : Int) == nb) = true := beq_iff_eq.2 (by omega)
    have he' := Lib.hid he
    clear he
    go_enter Try.func38, Try.ntmps38
    go_wp2_with (go_at_call 35; refine (implFin_any _ _ _ Y _ hm (h2.below (by repeat first | (with_reducible exact Below.refl _ _) | (with_reducible refine Below.setCell ?_ (by first | exact Nat.le_refl _ | (simp; done) | (simp; omega) | omega) _) | (with_reducible refine Below.alloc ?_ (by first | exact Nat.le_refl _ | (simp; done) | (simp; omega) | omega) _) | (with_reducible refine below_drewN ?_ _) | (with_reducible refine Below.drew ?_)) (Nat.le_refl _))).mono ?_; rintro e w' ⟨rfl, q, rfl⟩)
    go_ret
    exact ⟨by rw [HB.out]; rfl, (by repeat first | (with_reducible exact Below.refl _ _) | (with_reducible refine Below.setCell ?_ (by first | exact Nat.le_refl _ | (simp; done) | (simp; omega) | omega) _) | (with_reducible refine Below.alloc ?_ (by first | exact Nat.le_refl _ | (simp; done) | (simp; omega) | omega) _) | (with_reducible refine below_drewN ?_ _) | (with_reducible refine Below.drew ?_))⟩
  · have HB : Hid (fitB m nb (vals Y) = false) := Lib.hid (by unfold fitB; rw [decide_eq_false he]; rfl)
    have hd : ((m : Int) == nb) = false := beq_eq_false_iff_ne.2 (by omega)
    have he' := Lib.hid he
    clear he
    go_enter Try.func38, Try.ntmps38
    go_wp2
    go_ret
    exact ⟨by rw [HB.out]; rfl, (by repeat first | (with_reducible exact Below.refl _ _) | (with_reducible refine Below.setCell ?_ (by first | exact Nat.le_refl _ | (simp; done) | (simp; omega) | omega) _) | (with_reducible refine Below.alloc ?_ (by first | exact Nat.le_refl _ | (simp; done) | (simp; omega) | omega) _) | (with_reducible refine below_drewN ?_ _) | (with_reducible refine Below.drew ?_))⟩
set_option maxHeartbeats 1000000 in
theorem specFits_any (p : Nat) (aa : Option Addr) (na ca : Nat) (Za : Nat → Nat) (ab : Option Addr) (nb cb : Nat) (Zb : Nat → Nat) (ac : Option Addr) (nc cc : Nat) (Zc : Nat → Nat) (av : Option Addr) (m d : Nat) (Y : Nat → Nat) (w : World) (hna : na ≤ 1048576) (hnb : nb ≤ 1048576) (hnc : nc ≤ 1048576) (hm : m ≤ 1048576) (hp : BoxL w p [.slice aa na ca, .slice ab nb cb, .slice ac nc cc]) (ha : FS .f32 w aa na ca Za) (hb : FS .f32 w ab nb cb Zb) (hc : FS .f32 w ac nc cc Zc) (h2 : FS .f32 w av m d Y) :
    Calls Try.prog 36 #[.pointer (some ⟨p, 0, none⟩), .slice av m d] w fun e w' => e = .returned (.bool (thirdsB na (vals Za) nb (vals Zb) nc (vals Zc) && fitB m nb (vals Y))) ∧ ∃ q, w' = w.drewN q := by
  have p1 := hp 1 _ rfl
  have hth := specThirds_any p aa na ca Za ab nb cb Zb ac nc cc Zc w hna hnb hnc hp ha hb hc
  cases hv : thirdsB na (vals Za) nb (vals Zb) nc (vals Zc) with
  | false =>
    rw [hv] at hth
    go_enter Try.func36, Try.ntmps36
    go_wp2_with (go_at_call 33; refine hth.mono ?_; rintro e w' ⟨rfl, q, rfl⟩)
    go_ret
    exact ⟨rfl, _, rfl⟩
  | true =>
    rw [hv] at hth
    by_cases he : m = nb
    · have HB : Hid (fitB m nb (vals Y) = allFin (vals Y) m) := Lib.hid (by unfold fitB; rw [decide_eq_true he]; rfl)
      have hd : ((m : Int) == nb) = true := beq_iff_eq.2 (by omega)
      have he' := Lib.hid he
      clear he
      go_enter Try.func36, Try.ntmps36
      go_wp2_with (first | (go_at_call 33; refine hth.mono ?_; rintro e w' ⟨rfl, q, rfl⟩) | (go_at_call 59; refine (specFin_any _ _ _ Y _ hm (h2.below (by repeat first | (with_reducible exact Below.refl _ _) | (with_reducible refine Below.setCell ?_ (by first | exact Nat.le_refl _ | (simp; done) | (simp; omega) | omega) _) | (with_reducible refine Below.alloc ?_ (by first | exact Nat.le_refl _ | (simp; done) | (simp; omega) | omega) _) | (with_reducible refine below_drewN ?_ _) | (with_reducible refine Below.drew ?_)) (Nat.le_refl _))).mono ?_; rintro e w' ⟨rfl, q2, rfl⟩))
      go_ret
      exact ⟨by rw [HB.out]; rfl, by first | exact ⟨_, rfl⟩ | exact ⟨_, World.drewN_drewN _ _ _⟩⟩
    · have HB : Hid (fitB m nb (vals Y) = false) := Lib.hid (by unfold fitB; rw [decide_eq_false he]; rfl)
      have hd : ((m : Int) == nb) = false := beq_eq_false_iff_ne.2 (by omega)
      have he' := Lib.hid he
      clear he
      go_enter Try.func36, Try.ntmps36
      go_wp2_with (go_at_call 33; refine hth.mono ?_; rintro e w' ⟨rfl, q, rfl⟩)
      go_ret
      exact ⟨by rw [HB.out]; rfl, _, rfl⟩
theorem implThTimes_no (aa : Option Addr) (na ca : Nat) (Za : Nat → Nat) (ab : Option Addr) (nb cb : Nat) (Zb : Nat → Nat) (ac : Option Addr) (nc cc : Nat) (Zc : Nat → Nat) (av : Option Addr) (m d : Nat) (Y : Nat → Nat) (w : World) (hna : na ≤ 1048576) (hnb : nb ≤ 1048576) (hnc : nc ≤ 1048576) (hm : m ≤ 1048576) (ha : FS .f32 w aa na ca Za) (hb : FS .f32 w ab nb cb Zb) (hc : FS .f32 w ac nc cc Zc) (h2 : FS .f32 w av m d Y) (ho : (thirdsB na (vals Za) nb (vals Zb) nc (vals Zc) && fitB m nb (vals Y)) = false) :
    Calls Try.prog 16 #[.agg #[.slice aa na ca, .slice ab nb cb, .slice ac nc cc], .slice av m d] w (NumsOwn false 0 (fun _ => none) w) := by
  cases hv : thirdsB na (vals Za) nb (vals Zb) nc (vals Zc) with
  | false =>
    clear ho
    go_enter Try.func16, Try.ntmps16
    go_wp2_with fail
    go_at_call 12
    refine (implThirds_any aa na ca Za ab nb cb Zb ac nc cc Zc _ hna hnb hnc (ha.below (by repeat first | (with_reducible exact Below.refl _ _) | (with_reducible refine Below.setCell ?_ (by first | exact Nat.le_refl _ | (simp; done) | (simp; omega) | omega) _) | (with_reducible refine Below.alloc ?_ (by first | exact Nat.le_refl _ | (simp; done) | (simp; omega) | omega) _) | (with_reducible refine below_drewN ?_ _) | (with_reducible refine Below.drew ?_)) (Nat.le_refl _)) (hb.below (by repeat first | (with_reducible exact Below.refl _ _) | (with_reducible refine Below.setCell ?_ (by first | exact Nat.le_refl _ | (simp; done) | (simp; omega) | omega) _) | (with_reducible refine Below.alloc ?_ (by first | exact Nat.le_refl _ | (simp; done) | (simp; omega) | omega) _) | (with_reducible refine below_drewN ?_ _) | (with_reducible refine Below.drew ?_)) (Nat.le_refl _)) (hc.below (by repeat first | (with_reducible exact Below.refl _ _) | (with_reducible refine Below.setCell ?_ (by first | exact Nat.le_refl _ | (simp; done) | (simp; omega) | omega) _) | (with_reducible refine Below.alloc ?_ (by first | exact Nat.le_refl _ | (simp; done) | (simp; omega) | omega) _) | (with_reducible refine below_drewN ?_ _) | (with_reducible refine Below.drew ?_)) (Nat.le_refl _))).mono ?_
    rintro e w1 ⟨rfl, b1⟩
    rw [hv]
    have B1 : Below w.heap.size w w1 := Below.trans (by repeat first | (with_reducible exact Below.refl _ _) | (with_reducible refine Below.setCell ?_ (by first | exact Nat.le_refl _ | (simp; done) | (simp; omega) | omega) _) | (with_reducible refine Below.alloc ?_ (by first | exact Nat.le_refl _ | (simp; done) | (simp; omega) | omega) _) | (with_reducible refine below_drewN ?_ _) | (with_reducible refine Below.drew ?_)) (b1.mono (by simp))
    go_wp2_with fail
    go_ret2
    exact NumsOwn.no B1
  | true =>
    have hf : fitB m nb (vals Y) = false := by rw [hv] at ho; exact ho
    clear ho
    go_enter Try.func16, Try.ntmps16
    go_wp2_with fail
    go_at_call 12
    refine (implThirds_any aa na ca Za ab nb cb Zb ac nc cc Zc _ hna hnb hnc (ha.below (by repeat first | (with_reducible exact Below.refl _ _) | (with_reducible refine Below.setCell ?_ (by first | exact Nat.le_refl _ | (simp; done) | (simp; omega) | omega) _) | (with_reducible refine Below.alloc ?_ (by first | exact Nat.le_refl _ | (simp; done) | (simp; omega) | omega) _) | (with_reducible refine below_drewN ?_ _) | (with_reducible refine Below.drew ?_)) (Nat.le_refl _)) (hb.below (by repeat first | (with_reducible exact Below.refl _ _) | (with_reducible refine Below.setCell ?_ (by first | exact Nat.le_refl _ | (simp; done) | (simp; omega) | omega) _) | (with_reducible refine Below.alloc ?_ (by first | exact Nat.le_refl _ | (simp; done) | (simp; omega) | omega) _) | (with_reducible refine below_drewN ?_ _) | (with_reducible refine Below.drew ?_)) (Nat.le_refl _)) (hc.below (by repeat first | (with_reducible exact Below.refl _ _) | (with_reducible refine Below.setCell ?_ (by first | exact Nat.le_refl _ | (simp; done) | (simp; omega) | omega) _) | (with_reducible refine Below.alloc ?_ (by first | exact Nat.le_refl _ | (simp; done) | (simp; omega) | omega) _) | (with_reducible refine below_drewN ?_ _) | (with_reducible refine Below.drew ?_)) (Nat.le_refl _))).mono ?_
    rintro e w1 ⟨rfl, b1⟩
    rw [hv]
    have B1 : Below w.heap.size w w1 := Below.trans (by repeat first | (with_reducible exact Below.refl _ _) | (with_reducible refine Below.setCell ?_ (by first | exact Nat.le_refl _ | (simp; done) | (simp; omega) | omega) _) | (with_reducible refine Below.alloc ?_ (by first | exact Nat.le_refl _ | (simp; done) | (simp; omega) | omega) _) | (with_reducible refine below_drewN ?_ _) | (with_reducible refine Below.drew ?_)) (b1.mono (by simp))
    have X1 : BoxL w1 w.heap.size [.slice aa na ca, .slice ab nb cb, .slice ac nc cc] := BoxL.below (BoxL.three (by simp [go_sem]) (by simp [go_sem]) (by simp [go_sem])) b1 (by simp)
    have x0 := X1 0 _ rfl
    have x1 := X1 1 _ rfl
    have x2 := X1 2 _ rfl
    clear b1 X1
    go_wp2_with fail
    go_at_call 38
    refine (implFits_any aa na ca Za ab nb cb Zb ac nc cc Zc av m d Y _ hm (h2.below B1 (Nat.le_refl _))).mono ?_
    rintro e w2 ⟨rfl, b2⟩
    rw [hf]
    have B2 := B1.trans (b2.mono B1.size)
    go_wp2_with fail
    go_ret2
    exact NumsOwn.no B2
theorem specThTimes_no (aa : Option Addr) (na ca : Nat) (Za : Nat → Nat) (ab : Option Addr) (nb cb : Nat) (Zb : Nat → Nat) (ac : Option Addr) (nc cc : Nat) (Zc : Nat → Nat) (av : Option Addr) (m d : Nat) (Y : Nat → Nat) (w : World) (hna : na ≤ 1048576) (hnb : nb ≤ 1048576) (hnc : nc ≤ 1048576) (hm : m ≤ 1048576) (ha : FS .f32 w aa na ca Za) (hb : FS .f32 w ab nb cb Zb) (hc : FS .f32 w ac nc cc Zc) (h2 : FS .f32 w av m d Y) (ho : (thirdsB na (vals Za) nb (vals Zb) nc (vals Zc) && fitB m nb (vals Y)) = false) :
    Calls Try.prog 14 #[.agg #[.slice aa na ca, .slice ab nb cb, .slice ac nc cc], .slice av m d] w (NumsBel false 0 (fun _ => none) w) := by
  have ho' := Lib.hid ho
  clear ho
  go_enter Try.func14, Try.ntmps14
  go_wp2_with fail
  go_at_call 36
  refine (specFits_any _ aa na ca Za ab nb cb Zb ac nc cc Zc av m d Y _ hna hnb hnc hm (BoxL.three (by simp [go_sem]) (by simp [go_sem]) (by simp [go_sem])) (ha.below (by repeat first | (with_reducible exact Below.refl _ _) | (with_reducible refine Below.setCell ?_ (by first | exact Nat.le_refl _ | (simp; done) | (simp; omega) | omega) _) | (with_reducible refine Below.alloc ?_ (by first | exact Nat.le_refl _ | (simp; done) | (simp; omega) | omega) _) | (with_reducible refine below_drewN ?_ _) | (with_reducible refine Below.drew ?_)) (Nat.le_refl _)) (hb.below (by repeat first | (with_reducible exact Below.refl _ _) | (with_reducible refine Below.setCell ?_ (by first | exact Nat.le_refl _ | (simp; done) | (simp; omega) | omega) _) | (with_reducible refine Below.alloc ?_ (by first | exact Nat.le_refl _ | (simp; done) | (simp; omega) | omega) _) | (with_reducible refine below_drewN ?_ _) | (with_reducible refine Below.drew ?_)) (Nat.le_refl _)) (hc.below (by repeat first | (with_reducible exact Below.refl _ _) | (with_reducible refine Below.setCell ?_ (by first | exact Nat.le_refl _ | (simp; done) | (simp; omega) | omega) _) | (with_reducible refine Below.alloc ?_ (by first | exact Nat.le_refl _ | (simp; done) | (simp; omega) | omega) _) | (with_reducible refine below_drewN ?_ _) | (with_reducible refine Below.drew ?_)) (Nat.le_refl _)) (h2.below (by repeat first | (with_reducible exact Below.refl _ _) | (with_reducible refine Below.setCell ?_ (by first | exact Nat.le_refl _ | (simp; done) | (simp; omega) | omega) _) | (with_reducible refine Below.alloc ?_ (by first | exact Nat.le_refl _ | (simp; done) | (simp; omega) | omega) _) | (with_reducible refine below_drewN ?_ _) | (with_reducible refine Below.drew ?_)) (Nat.le_refl _))).mono ?_
  rintro e w1 ⟨rfl, q, rfl⟩
  rw [ho'.out]
  go_wp2_with fail
  go_ret2
  exact NumsBel.no (by repeat first | (with_reducible exact Below.refl _ _) | (with_reducible refine Below.setCell ?_ (by first | exact Nat.le_refl _ | (simp; done) | (simp; omega) | omega) _) | (with_reducible refine Below.alloc ?_ (by first | exact Nat.le_refl _ | (simp; done) | (simp; omega) | omega) _) | (with_reducible refine below_drewN ?_ _) | (with_reducible refine Below.drew ?_))
set_option maxRecDepth 20000 in
set_option maxHeartbeats 4000000 in
theorem implThTimes_yes (b1 o1 b2 o2 b3 o3 b4 o4 n ca cb cc d : Nat) (Za Zb Zc Y : Nat → Nat) (w : World) (OK : Bool) (VX : Nat → Option Nat) (h1 : 1 ≤ n) (h32 : n ≤ 32) (hv : thirdsB n (vals Za) n (vals Zb) n (vals Zc) = true) (hf : fitB n n (vals Y) = true)
    (hVX : VX = thV n (vals Za) (vals Zb) (vals Zc) (vals Y)) (hOK : OK = allFin VX n) (ha : FS .f32 w (some ⟨b1, o1, none⟩) n ca Za) (hb : FS .f32 w (some ⟨b2, o2, none⟩) n cb Zb) (hc : FS .f32 w (some ⟨b3, o3, none⟩) n cc Zc) (h2 : FS .f32 w (some ⟨b4, o4, none⟩) n d Y) :
    Calls Try.prog 16 #[.agg #[.slice (some ⟨b1, o1, none⟩) n ca, .slice (some ⟨b2, o2, none⟩) n cb, .slice (some ⟨b3, o3, none⟩) n cc], .slice (some ⟨b4, o4, none⟩) n d] w (NOwnIf OK n VX w) := by
  obtain ⟨i0, hi, hz0, hz1, hz2⟩ := info_parts info32
  have HVX := Lib.hid hVX
  have HOK := Lib.hid hOK
  have hn : n ≤ 1048576 := by omega
  clear hVX hOK
  go_enter Try.func16, Try.ntmps16
  go_wp2_with fail
  go_at_call 12
  refine (implThirds_any _ n ca Za _ n cb Zb _ n cc Zc _ hn hn hn (ha.below (by repeat first | (with_reducible exact Below.refl _ _) | (with_reducible refine Below.setCell ?_ (by first | exact Nat.le_refl _ | (simp; done) | (simp; omega) | omega) _) | (with_reducible refine Below.alloc ?_ (by first | exact Nat.le_refl _ | (simp; done) | (simp; omega) | omega) _) | (with_reducible refine below_drewN ?_ _) | (with_reducible refine Below.drew ?_)) (Nat.le_refl _)) (hb.below (by repeat first | (with_reducible exact Below.refl _ _) | (with_reducible refine Below.setCell ?_ (by first | exact Nat.le_refl _ | (simp; done) | (simp; omega) | omega) _) | (with_reducible refine Below.alloc ?_ (by first | exact Nat.le_refl _ | (simp; done) | (simp; omega) | omega) _) | (with_reducible refine below_drewN ?_ _) | (with_reducible refine Below.drew ?_)) (Nat.le_refl _)) (hc.below (by repeat first | (with_reducible exact Below.refl _ _) | (with_reducible refine Below.setCell ?_ (by first | exact Nat.le_refl _ | (simp; done) | (simp; omega) | omega) _) | (with_reducible refine Below.alloc ?_ (by first | exact Nat.le_refl _ | (simp; done) | (simp; omega) | omega) _) | (with_reducible refine below_drewN ?_ _) | (with_reducible refine Below.drew ?_)) (Nat.le_refl _))).mono ?_
  rintro e w1 ⟨rfl, b1'⟩
  rw [hv]
  have B1 : Below w.heap.size w w1 := Below.trans (by repeat first | (with_reducible exact Below.refl _ _) | (with_reducible refine Below.setCell ?_ (by first | exact Nat.le_refl _ | (simp; done) | (simp; omega) | omega) _) | (with_reducible refine Below.alloc ?_ (by first | exact Nat.le_refl _ | (simp; done) | (simp; omega) | omega) _) | (with_reducible refine below_drewN ?_ _) | (with_reducible refine Below.drew ?_)) (b1'.mono (by simp))
  have s1 : w.heap.size < w1.heap.size := by have := b1'.size; simp at this; omega
  have X1 : BoxL w1 w.heap.size [.slice (some ⟨b1, o1, none⟩) n ca, .slice (some ⟨b2, o2, none⟩) n cb, .slice (some ⟨b3, o3, none⟩) n cc] := BoxL.below (BoxL.three (by simp [go_sem]) (by simp [go_sem]) (by simp [go_sem])) b1' (by simp)
  have x0 := X1 0 _ rfl
  have x1 := X1 1 _ rfl
  have x2 := X1 2 _ rfl
  clear b1' hv
  go_wp2_with fail
  go_at_call 38
  refine (implFits_any _ n ca Za _ n cb Zb _ n cc Zc _ n d Y _ hn (h2.below B1 (Nat.le_refl _))).mono ?_
  rintro e w2 ⟨rfl, b2'⟩
  rw [hf]
  have B2 := B1.trans (b2'.mono B1.size)
  have X2 := X1.below b2' s1
  have s2 : w.heap.size < w2.heap.size := Nat.lt_of_lt_of_le s1 b2'.size
  clear b2' x0 x1 x2 X1 B1 s1 hf
  go_wp2_with (at_make; refine wpList_make_full _ rfl _ _ 22 rfl w2.heap.size 38 i0 (.float .f32 0) 1 Try.underlying22 hi hz0 hz1 _ _ _ _ n rfl rfl rfl rfl ?b2 ?b3 (Nat.le_refl _) ?_)
  case b2 => rw [hz2]; omega
  case b3 => unfold maxLen; omega
  intro w0 hown0 hgrow0
  have hU := (hown0.lt w2.heap.size rfl).2
  have o0 := own_zero (w := w2) (U := w0.heap.size) hown0 (Nat.le_refl _) hU (Nat.le_refl _) (by unfold maxLen; omega)
  have b0 : Below w2.heap.size w2 w0 := (Below.refl _ _).grown hgrow0 (Nat.le_refl _) (fun k h => by cases h)
  clear hown0 hgrow0 hi hz0 hz1 hz2
  obtain ⟨g, hg⟩ : ∃ g, g = w2.heap.size := ⟨_, rfl⟩
  rw [← hg] at o0 hU ⊢
  have HG := Lib.hid hg
  have hgw : w.heap.size < g := by omega
  have hgE : w2.heap.size ≤ g := by omega
  clear hg
  obtain ⟨AA, hAA⟩ : ∃ F, F = vals Za := ⟨_, rfl⟩
  obtain ⟨BB, hBB⟩ : ∃ F, F = vals Zb := ⟨_, rfl⟩
  obtain ⟨CC, hCC⟩ : ∃ F, F = vals Zc := ⟨_, rfl⟩
  obtain ⟨VV, hVV⟩ : ∃ F, F = vals Y := ⟨_, rfl⟩
  have HAA := Lib.hid hAA
  have HBB := Lib.hid hBB
  have HCC := Lib.hid hCC
  have HVV := Lib.hid hVV
  clear hAA hBB hCC hVV
  go_wp2
  go_loopw [23] (fun i wr => ∃ (j : Nat) (X : Nat → Nat), j ≤ n ∧ i = .int .i64 j ∧ (∀ t, t < n → vals X t = upTo j (thV n AA BB CC VV) t) ∧ Own 38 .f32 g w0.heap.size wr (some ⟨g, 0, none⟩) n n X ∧ Below w2.heap.size w2 wr) (fun i _ => n - (intOf i).toNat)
  case atStart => exact ⟨0, _, Nat.zero_le _, rfl, fun t ht => by unfold upTo; rw [if_neg (Nat.not_lt_zero _)]; exact (show cn .f32 0 = some 0 by kernel_rfl), o0, b0⟩
  case round =>
    obtain ⟨j, X, hj, rfl, hX, hk, hbw⟩ := hrel
    have HX := Lib.hid hX
    clear o0 b0 hX
    by_cases hlt : j < n
    · have hBw : Below w.heap.size w wr := B2.trans (hbw.mono B2.size)
      obtain ⟨b', off', e, hbl, hcv, hfv⟩ := (h2.below hBw (Nat.le_refl _)).at hlt
      simp only [Option.some.injEq, Addr.mk.injEq, and_true] at e
      obtain ⟨rfl, rfl⟩ := e
      clear hbl
      obtain ⟨cX, rX, _, _, hgU, wX⟩ := hk.cell hlt
      have f0 : FV .f32 (X j) (some 0) := ⟨(HX.out j hlt).trans upTo_at, wX⟩
      have fV : FV .f32 (Y j) (VV j) := by rw [HVV.out]; exact hfv
      clear hfv wX
      by_cases hgt0 : 0 < j
      · have hgt : decide ((0 : Int) < (j : Int)) = true := decide_eq_true (by omega)
        by_cases hlast : j + 1 < n
        case pos =>
          obtain ⟨p, hp⟩ : ∃ p, p + 1 = j := ⟨j - 1, by omega⟩
          have hji : (j : Int) - 1 = (p : Int) := by omega
          have hpn : p < n := by omega
          have HP := Lib.hid hp
          clear hp
          have y0 := (X2.below hbw s2) 0 _ rfl
          obtain ⟨b', off', e, hbl, hca, hfa⟩ := (ha.below hBw (Nat.le_refl _)).at hlt
          simp only [Option.some.injEq, Addr.mk.injEq, and_true] at e
          obtain ⟨rfl, rfl⟩ := e
          clear hbl
          obtain ⟨b', off', e, hbl, hcp, hfp⟩ := (h2.below hBw (Nat.le_refl _)).at hpn
          simp only [Option.some.injEq, Addr.mk.injEq, and_true] at e
          obtain ⟨rfl, rfl⟩ := e
          clear hbl
          have fA : FV .f32 (Za j) (AA j) := by rw [HAA.out]; exact hfa
          have fP : FV .f32 (Y p) (VV p) := by rw [HVV.out]; exact hfp
          have hk' := Lib.hid hk
          have hb' := Lib.hid hbw
          clear hfa hfp hk hbw
          go_wp2
          (refine wp_region_loose_tail 17 (by kernel_rfl) (by kernel_rfl) ?_; simp only [List.take_succ_cons, List.take_zero, List.drop_succ_cons, List.drop_zero]; (repeat (refine wpLoose_want rfl (fun K hK => ?_); first | (refine loose_farith _ _ _ _ _ rfl rfl _ _ _ rfl rfl (by first | assumption | (with_reducible exact FV.ofInt _ _) | (with_reducible exact FV.neg (by assumption)) | exact FV.lit (by kernel_rfl) (by kernel_rfl)) (by first | assumption | (with_reducible exact FV.ofInt _ _) | (with_reducible exact FV.neg (by assumption)) | exact FV.lit (by kernel_rfl) (by kernel_rfl)) ?_; intro r hr; refine hK _ ?_; clear hK K; simp only [Act.put, List.setIfInBounds_toArray, List.set_cons_succ, List.set_cons_zero]) | (refine loose_of_quiet rfl ?_; go_big_quiet_op; refine hK _ ?_; clear hK K))); refine wpLoose_nil ?_)
          rintro _ ⟨k1, rfl⟩
          obtain ⟨hk, gg⟩ := (show Own 38 .f32 g w0.heap.size (wr.drewN k1) (some ⟨g, 0, none⟩) n n X from hk'.out).stored (t := j) hlt hr.2
          have hbw : Below w2.heap.size w2 ((wr.drewN k1).setCell ⟨g, j, none⟩ (.float .f32 r)) := (below_drewN hb'.out _).setCell hgE _
          have f1 : FV .f32 r (thA AA VV j) := FV.of_eq hr (thA_pos HP.out).symm
          have hk1 := Lib.hid hk
          have hb1 := Lib.hid hbw
          clear hk hbw gg hk' hb' f0 hr fA fP y0
          go_wp2
          have hk := hk1.out
          have hbw := hb1.out
          have hBw : Below w.heap.size w _ := B2.trans (hbw.mono B2.size)
          generalize (wr.drewN k1).setCell ⟨g, j, none⟩ (.float .f32 r) = wa at hk hbw hBw ⊢
          clear hk1 hb1 cX rX hca hcp hcv hji
          generalize r = x1 at f1 hk ⊢
          obtain ⟨cX, rX, _, _, hgU, wX⟩ := hk.cell hlt
          simp only [if_true] at cX
          have HK := Lib.hid (hk.same (Y := fun t => if t = j then x1 else X t) (fun t _ => rfl))
          have y1 := (X2.below hbw s2) 1 _ rfl
          obtain ⟨b', off', e, hbl, hcb, hfb⟩ := (hb.below hBw (Nat.le_refl _)).at hlt
          simp only [Option.some.injEq, Addr.mk.injEq, and_true] at e
          obtain ⟨rfl, rfl⟩ := e
          clear hbl
          have fB : FV .f32 (Zb j) (BB j) := by rw [HBB.out]; exact hfb
          have hb' := Lib.hid hbw
          clear hfb hk hbw
          (refine wp_region_loose_tail 13 (by kernel_rfl) (by kernel_rfl) ?_; simp only [List.take_succ_cons, List.take_zero, List.drop_succ_cons, List.drop_zero]; (repeat (refine wpLoose_want rfl (fun K hK => ?_); first | (refine loose_farith _ _ _ _ _ rfl rfl _ _ _ rfl rfl (by first | assumption | (with_reducible exact FV.ofInt _ _) | (with_reducible exact FV.neg (by assumption)) | exact FV.lit (by kernel_rfl) (by kernel_rfl)) (by first | assumption | (with_reducible exact FV.ofInt _ _) | (with_reducible exact FV.neg (by assumption)) | exact FV.lit (by kernel_rfl) (by kernel_rfl)) ?_; intro r hr; refine hK _ ?_; clear hK K; simp only [Act.put, List.setIfInBounds_toArray, List.set_cons_succ, List.set_cons_zero]) | (refine loose_of_quiet rfl ?_; go_big_quiet_op; refine hK _ ?_; clear hK K))); refine wpLoose_nil ?_)
          rintro _ ⟨k2, rfl⟩
          obtain ⟨hk, gg⟩ := (show Own 38 .f32 g w0.heap.size (wa.drewN k2) (some ⟨g, 0, none⟩) n n _ from HK.out).stored (t := j) hlt hr.2
          have hbw : Below w2.heap.size w2 ((wa.drewN k2).setCell ⟨g, j, none⟩ (.float .f32 r)) := (below_drewN hb'.out _).setCell hgE _
          have f2 : FV .f32 r (thB AA BB VV j) := hr
          have hk1 := Lib.hid (hk.same (Y := fun t => if t = j then r else X t) (fun t _ => by by_cases e : t = j <;> simp [e]))
          have hb1 := Lib.hid hbw
          clear hk hbw gg hb' f1 hr fB y1 HK
          have hlt3 : j + 1 < n := hlast
          have hd3 : decide ((j : Int) + 1 < (n : Int)) = true := decide_eq_true (by omega)
          go_wp2
          have hk := hk1.out
          have hbw := hb1.out
          have hBw : Below w.heap.size w _ := B2.trans (hbw.mono B2.size)
          generalize (wa.drewN k2).setCell ⟨g, j, none⟩ (.float .f32 r) = wc at hk hbw hBw ⊢
          clear hk1 hb1 cX rX hcb
          generalize r = x2 at f2 hk ⊢
          obtain ⟨cX, rX, _, _, hgU, wX⟩ := hk.cell hlt
          simp only [if_true] at cX
          have y2 := (X2.below hbw s2) 2 _ rfl
          obtain ⟨b', off', e, hbl, hcc, hfc⟩ := (hc.below hBw (Nat.le_refl _)).at hlt
          simp only [Option.some.injEq, Addr.mk.injEq, and_true] at e
          obtain ⟨rfl, rfl⟩ := e
          clear hbl
          obtain ⟨b', off', e, hbl, hcn, hfn⟩ := (h2.below hBw (Nat.le_refl _)).at hlt3
          simp only [Option.some.injEq, Addr.mk.injEq, and_true] at e
          obtain ⟨rfl, rfl⟩ := e
          clear hbl
          have fC : FV .f32 (Zc j) (CC j) := by rw [HCC.out]; exact hfc
          have fN : FV .f32 (Y (j + 1)) (VV (j + 1)) := by rw [HVV.out]; exact hfn
          have HK := Lib.hid hk
          have hb' := Lib.hid hbw
          clear hfc hfn hk hbw
          (refine wp_region_loose_tail 17 (by kernel_rfl) (by kernel_rfl) ?_; simp only [List.take_succ_cons, List.take_zero, List.drop_succ_cons, List.drop_zero]; (repeat (refine wpLoose_want rfl (fun K hK => ?_); first | (refine loose_farith _ _ _ _ _ rfl rfl _ _ _ rfl rfl (by first | assumption | (with_reducible exact FV.ofInt _ _) | (with_reducible exact FV.neg (by assumption)) | exact FV.lit (by kernel_rfl) (by kernel_rfl)) (by first | assumption | (with_reducible exact FV.ofInt _ _) | (with_reducible exact FV.neg (by assumption)) | exact FV.lit (by kernel_rfl) (by kernel_rfl)) ?_; intro r hr; refine hK _ ?_; clear hK K; simp only [Act.put, List.setIfInBounds_toArray, List.set_cons_succ, List.set_cons_zero]) | (refine loose_of_quiet rfl ?_; go_big_quiet_op; refine hK _ ?_; clear hK K))); refine wpLoose_nil ?_)
          rintro _ ⟨k3, rfl⟩
          obtain ⟨hk, gg⟩ := (show Own 38 .f32 g w0.heap.size (wc.drewN k3) (some ⟨g, 0, none⟩) n n _ from HK.out).stored (t := j) hlt hr.2
          have hb1 : Hid (Below w2.heap.size w2 ((wc.drewN k3).setCell ⟨g, j, none⟩ (.float .f32 r))) := Lib.hid ((below_drewN hb'.out _).setCell hgE _)
          have f3 : cn .f32 r = thV n AA BB CC VV j := by unfold thV; rw [if_pos hlt3]; exact hr.1
          have HX2 := Lib.hid (upTo_step HX.out f3)
          have hk1 := Lib.hid (hk.same (Y := fun t => if t = j then r else X t) (fun t _ => by by_cases e : t = j <;> simp [e]))
          clear hk gg hb' f2 hr fC fN y2 HK f3
          go_wp2_with fail
          go_roundw
          case rel => exact ⟨j + 1, _, by omega, by go_num, HX2.out, hk1.out, hb1.out⟩
          case measure => simp [intOf]; omega
        case neg =>
          obtain ⟨p, hp⟩ : ∃ p, p + 1 = j := ⟨j - 1, by omega⟩
          have hji : (j : Int) - 1 = (p : Int) := by omega
          have hpn : p < n := by omega
          have HP := Lib.hid hp
          clear hp
          have y0 := (X2.below hbw s2) 0 _ rfl
          obtain ⟨b', off', e, hbl, hca, hfa⟩ := (ha.below hBw (Nat.le_refl _)).at hlt
          simp only [Option.some.injEq, Addr.mk.injEq, and_true] at e
          obtain ⟨rfl, rfl⟩ := e
          clear hbl
          obtain ⟨b', off', e, hbl, hcp, hfp⟩ := (h2.below hBw (Nat.le_refl _)).at hpn
          simp only [Option.some.injEq, Addr.mk.injEq, and_true] at e
          obtain ⟨rfl, rfl⟩ := e
          clear hbl
          have fA : FV .f32 (Za j) (AA j) := by rw [HAA.out]; exact hfa
          have fP : FV .f32 (Y p) (VV p) := by rw [HVV.out]; exact hfp
          have hk' := Lib.hid hk
          have hb' := Lib.hid hbw
          clear hfa hfp hk hbw
          go_wp2
          (refine wp_region_loose_tail 17 (by kernel_rfl) (by kernel_rfl) ?_; simp only [List.take_succ_cons, List.take_zero, List.drop_succ_cons, List.drop_zero]; (repeat (refine wpLoose_want rfl (fun K hK => ?_); first | (refine loose_farith _ _ _ _ _ rfl rfl _ _ _ rfl rfl (by first | assumption | (with_reducible exact FV.ofInt _ _) | (with_reducible exact FV.neg (by assumption)) | exact FV.lit (by kernel_rfl) (by kernel_rfl)) (by first | assumption | (with_reducible exact FV.ofInt _ _) | (with_reducible exact FV.neg (by assumption)) | exact FV.lit (by kernel_rfl) (by kernel_rfl)) ?_; intro r hr; refine hK _ ?_; clear hK K; simp only [Act.put, List.setIfInBounds_toArray, List.set_cons_succ, List.set_cons_zero]) | (refine loose_of_quiet rfl ?_; go_big_quiet_op; refine hK _ ?_; clear hK K))); refine wpLoose_nil ?_)
          rintro _ ⟨k1, rfl⟩
          obtain ⟨hk, gg⟩ := (show Own 38 .f32 g w0.heap.size (wr.drewN k1) (some ⟨g, 0, none⟩) n n X from hk'.out).stored (t := j) hlt hr.2
          have hbw : Below w2.heap.size w2 ((wr.drewN k1).setCell ⟨g, j, none⟩ (.float .f32 r)) := (below_drewN hb'.out _).setCell hgE _
          have f1 : FV .f32 r (thA AA VV j) := FV.of_eq hr (thA_pos HP.out).symm
          have hk1 := Lib.hid hk
          have hb1 := Lib.hid hbw
          clear hk hbw gg hk' hb' f0 hr fA fP y0
          go_wp2
          have hk := hk1.out
          have hbw := hb1.out
          have hBw : Below w.heap.size w _ := B2.trans (hbw.mono B2.size)
          generalize (wr.drewN k1).setCell ⟨g, j, none⟩ (.float .f32 r) = wa at hk hbw hBw ⊢
          clear hk1 hb1 cX rX hca hcp hcv hji
          generalize r = x1 at f1 hk ⊢
          obtain ⟨cX, rX, _, _, hgU, wX⟩ := hk.cell hlt
          simp only [if_true] at cX
          have HK := Lib.hid (hk.same (Y := fun t => if t = j then x1 else X t) (fun t _ => rfl))
          have y1 := (X2.below hbw s2) 1 _ rfl
          obtain ⟨b', off', e, hbl, hcb, hfb⟩ := (hb.below hBw (Nat.le_refl _)).at hlt
          simp only [Option.some.injEq, Addr.mk.injEq, and_true] at e
          obtain ⟨rfl, rfl⟩ := e
          clear hbl
          have fB : FV .f32 (Zb j) (BB j) := by rw [HBB.out]; exact hfb
          have hb' := Lib.hid hbw
          clear hfb hk hbw
          (refine wp_region_loose_tail 13 (by kernel_rfl) (by kernel_rfl) ?_; simp only [List.take_succ_cons, List.take_zero, List.drop_succ_cons, List.drop_zero]; (repeat (refine wpLoose_want rfl (fun K hK => ?_); first | (refine loose_farith _ _ _ _ _ rfl rfl _ _ _ rfl rfl (by first | assumption | (with_reducible exact FV.ofInt _ _) | (with_reducible exact FV.neg (by assumption)) | exact FV.lit (by kernel_rfl) (by kernel_rfl)) (by first | assumption | (with_reducible exact FV.ofInt _ _) | (with_reducible exact FV.neg (by assumption)) | exact FV.lit (by kernel_rfl) (by kernel_rfl)) ?_; intro r hr; refine hK _ ?_; clear hK K; simp only [Act.put, List.setIfInBounds_toArray, List.set_cons_succ, List.set_cons_zero]) | (refine loose_of_quiet rfl ?_; go_big_quiet_op; refine hK _ ?_; clear hK K))); refine wpLoose_nil ?_)
          rintro _ ⟨k2, rfl⟩
          obtain ⟨hk, gg⟩ := (show Own 38 .f32 g w0.heap.size (wa.drewN k2) (some ⟨g, 0, none⟩) n n _ from HK.out).stored (t := j) hlt hr.2
          have hbw : Below w2.heap.size w2 ((wa.drewN k2).setCell ⟨g, j, none⟩ (.float .f32 r)) := (below_drewN hb'.out _).setCell hgE _
          have f2 : FV .f32 r (thB AA BB VV j) := hr
          have hk1 := Lib.hid (hk.same (Y := fun t => if t = j then r else X t) (fun t _ => by by_cases e : t = j <;> simp [e]))
          have hb1 := Lib.hid hbw
          clear hk hbw gg hb' f1 hr fB y1 HK
          have hd3 : decide ((j : Int) + 1 < (n : Int)) = false := decide_eq_false (by omega)
          have f3 : cn .f32 r = thV n AA BB CC VV j := by unfold thV; rw [if_neg hlast]; exact f2.1
          have HX2 := Lib.hid (upTo_step HX.out f3)
          clear f3 f2
          go_wp2
          go_roundw
          case rel => exact ⟨j + 1, _, by omega, by go_num, HX2.out, hk1.out, hb1.out⟩
          case measure => simp [intOf]; omega
      · have hgt : decide ((0 : Int) < (j : Int)) = false := decide_eq_false (by omega)
        have hgt2 : decide (0 < j) = false := decide_eq_false hgt0
        by_cases hlast : j + 1 < n
        case pos =>
          have f1 : FV .f32 (X j) (thA AA VV j) := FV.of_eq f0 (thA_zero hgt0).symm
          generalize wr = wa at hk hbw hBw cX rX hcv ⊢
          have HK : Hid (Own 38 .f32 g w0.heap.size wa (some ⟨g, 0, none⟩) n n (fun t => if t = j then X j else X t)) := Lib.hid (hk.same (fun t _ => by by_cases e : t = j <;> simp [e]))
          clear f0
          generalize hxj : X j = x1 at f1 cX HK
          have HXJ := Lib.hid hxj
          clear hxj
          go_wp2
          clear hcv
          have y1 := (X2.below hbw s2) 1 _ rfl
          obtain ⟨b', off', e, hbl, hcb, hfb⟩ := (hb.below hBw (Nat.le_refl _)).at hlt
          simp only [Option.some.injEq, Addr.mk.injEq, and_true] at e
          obtain ⟨rfl, rfl⟩ := e
          clear hbl
          have fB : FV .f32 (Zb j) (BB j) := by rw [HBB.out]; exact hfb
          have hb' := Lib.hid hbw
          clear hfb hk hbw
          (refine wp_region_loose_tail 13 (by kernel_rfl) (by kernel_rfl) ?_; simp only [List.take_succ_cons, List.take_zero, List.drop_succ_cons, List.drop_zero]; (repeat (refine wpLoose_want rfl (fun K hK => ?_); first | (refine loose_farith _ _ _ _ _ rfl rfl _ _ _ rfl rfl (by first | assumption | (with_reducible exact FV.ofInt _ _) | (with_reducible exact FV.neg (by assumption)) | exact FV.lit (by kernel_rfl) (by kernel_rfl)) (by first | assumption | (with_reducible exact FV.ofInt _ _) | (with_reducible exact FV.neg (by assumption)) | exact FV.lit (by kernel_rfl) (by kernel_rfl)) ?_; intro r hr; refine hK _ ?_; clear hK K; simp only [Act.put, List.setIfInBounds_toArray, List.set_cons_succ, List.set_cons_zero]) | (refine loose_of_quiet rfl ?_; go_big_quiet_op; refine hK _ ?_; clear hK K))); refine wpLoose_nil ?_)
          rintro _ ⟨k2, rfl⟩
          obtain ⟨hk, gg⟩ := (show Own 38 .f32 g w0.heap.size (wa.drewN k2) (some ⟨g, 0, none⟩) n n _ from HK.out).stored (t := j) hlt hr.2
          have hbw : Below w2.heap.size w2 ((wa.drewN k2).setCell ⟨g, j, none⟩ (.float .f32 r)) := (below_drewN hb'.out _).setCell hgE _
          have f2 : FV .f32 r (thB AA BB VV j) := hr
          have hk1 := Lib.hid (hk.same (Y := fun t => if t = j then r else X t) (fun t _ => by by_cases e : t = j <;> simp [e]))
          have hb1 := Lib.hid hbw
          clear hk hbw gg hb' f1 hr fB y1 HK
          have hlt3 : j + 1 < n := hlast
          have hd3 : decide ((j : Int) + 1 < (n : Int)) = true := decide_eq_true (by omega)
          go_wp2
          have hk := hk1.out
          have hbw := hb1.out
          have hBw : Below w.heap.size w _ := B2.trans (hbw.mono B2.size)
          generalize (wa.drewN k2).setCell ⟨g, j, none⟩ (.float .f32 r) = wc at hk hbw hBw ⊢
          clear hk1 hb1 cX rX hcb
          generalize r = x2 at f2 hk ⊢
          obtain ⟨cX, rX, _, _, hgU, wX⟩ := hk.cell hlt
          simp only [if_true] at cX
          have y2 := (X2.below hbw s2) 2 _ rfl
          obtain ⟨b', off', e, hbl, hcc, hfc⟩ := (hc.below hBw (Nat.le_refl _)).at hlt
          simp only [Option.some.injEq, Addr.mk.injEq, and_true] at e
          obtain ⟨rfl, rfl⟩ := e
          clear hbl
          obtain ⟨b', off', e, hbl, hcn, hfn⟩ := (h2.below hBw (Nat.le_refl _)).at hlt3
          simp only [Option.some.injEq, Addr.mk.injEq, and_true] at e
          obtain ⟨rfl, rfl⟩ := e
          clear hbl
          have fC : FV .f32 (Zc j) (CC j) := by rw [HCC.out]; exact hfc
          have fN : FV .f32 (Y (j + 1)) (VV (j + 1)) := by rw [HVV.out]; exact hfn
          have HK := Lib.hid hk
          have hb' := Lib.hid hbw
          clear hfc hfn hk hbw
          (refine wp_region_loose_tail 17 (by kernel_rfl) (by kernel_rfl) ?_; simp only [List.take_succ_cons, List.take_zero, List.drop_succ_cons, List.drop_zero]; (repeat (refine wpLoose_want rfl (fun K hK => ?_); first | (refine loose_farith _ _ _ _ _ rfl rfl _ _ _ rfl rfl (by first | assumption | (with_reducible exact FV.ofInt _ _) | (with_reducible exact FV.neg (by assumption)) | exact FV.lit (by kernel_rfl) (by kernel_rfl)) (by first | assumption | (with_reducible exact FV.ofInt _ _) | (with_reducible exact FV.neg (by assumption)) | exact FV.lit (by kernel_rfl) (by kernel_rfl)) ?_; intro r hr; refine hK _ ?_; clear hK K; simp only [Act.put, List.setIfInBounds_toArray, List.set_cons_succ, List.set_cons_zero]) | (refine loose_of_quiet rfl ?_; go_big_quiet_op; refine hK _ ?_; clear hK K))); refine wpLoose_nil ?_)
          rintro _ ⟨k3, rfl⟩
          obtain ⟨hk, gg⟩ := (show Own 38 .f32 g w0.heap.size (wc.drewN k3) (some ⟨g, 0, none⟩) n n _ from HK.out).stored (t := j) hlt hr.2
          have hb1 : Hid (Below w2.heap.size w2 ((wc.drewN k3).setCell ⟨g, j, none⟩ (.float .f32 r))) := Lib.hid ((below_drewN hb'.out _).setCell hgE _)
          have f3 : cn .f32 r = thV n AA BB CC VV j := by unfold thV; rw [if_pos hlt3]; exact hr.1
          have HX2 := Lib.hid (upTo_step HX.out f3)
          have hk1 := Lib.hid (hk.same (Y := fun t => if t = j then r else X t) (fun t _ => by by_cases e : t = j <;> simp [e]))
          clear hk gg hb' f2 hr fC fN y2 HK f3
          go_wp2_with fail
          go_roundw
          case rel => exact ⟨j + 1, _, by omega, by go_num, HX2.out, hk1.out, hb1.out⟩
          case measure => simp [intOf]; omega
        case neg =>
          have f1 : FV .f32 (X j) (thA AA VV j) := FV.of_eq f0 (thA_zero hgt0).symm
          generalize wr = wa at hk hbw hBw cX rX hcv ⊢
          have HK : Hid (Own 38 .f32 g w0.heap.size wa (some ⟨g, 0, none⟩) n n (fun t => if t = j then X j else X t)) := Lib.hid (hk.same (fun t _ => by by_cases e : t = j <;> simp [e]))
          clear f0
          generalize hxj : X j = x1 at f1 cX HK
          have HXJ := Lib.hid hxj
          clear hxj
          go_wp2
          clear hcv
          have y1 := (X2.below hbw s2) 1 _ rfl
          obtain ⟨b', off', e, hbl, hcb, hfb⟩ := (hb.below hBw (Nat.le_refl _)).at hlt
          simp only [Option.some.injEq, Addr.mk.injEq, and_true] at e
          obtain ⟨rfl, rfl⟩ := e
          clear hbl
          have fB : FV .f32 (Zb j) (BB j) := by rw [HBB.out]; exact hfb
          have hb' := Lib.hid hbw
          clear hfb hk hbw
          (refine wp_region_loose_tail 13 (by kernel_rfl) (by kernel_rfl) ?_; simp only [List.take_succ_cons, List.take_zero, List.drop_succ_cons, List.drop_zero]; (repeat (refine wpLoose_want rfl (fun K hK => ?_); first | (refine loose_farith _ _ _ _ _ rfl rfl _ _ _ rfl rfl (by first | assumption | (with_reducible exact FV.ofInt _ _) | (with_reducible exact FV.neg (by assumption)) | exact FV.lit (by kernel_rfl) (by kernel_rfl)) (by first | assumption | (with_reducible exact FV.ofInt _ _) | (with_reducible exact FV.neg (by assumption)) | exact FV.lit (by kernel_rfl) (by kernel_rfl)) ?_; intro r hr; refine hK _ ?_; clear hK K; simp only [Act.put, List.setIfInBounds_toArray, List.set_cons_succ, List.set_cons_zero]) | (refine loose_of_quiet rfl ?_; go_big_quiet_op; refine hK _ ?_; clear hK K))); refine wpLoose_nil ?_)
          rintro _ ⟨k2, rfl⟩
          obtain ⟨hk, gg⟩ := (show Own 38 .f32 g w0.heap.size (wa.drewN k2) (some ⟨g, 0, none⟩) n n _ from HK.out).stored (t := j) hlt hr.2
          have hbw : Below w2.heap.size w2 ((wa.drewN k2).setCell ⟨g, j, none⟩ (.float .f32 r)) := (below_drewN hb'.out _).setCell hgE _
          have f2 : FV .f32 r (thB AA BB VV j) := hr
          have hk1 := Lib.hid (hk.same (Y := fun t => if t = j then r else X t) (fun t _ => by by_cases e : t = j <;> simp [e]))
          have hb1 := Lib.hid hbw
          clear hk hbw gg hb' f1 hr fB y1 HK
          have hd3 : decide ((j : Int) + 1 < (n : Int)) = false := decide_eq_false (by omega)
          have f3 : cn .f32 r = thV n AA BB CC VV j := by unfold thV; rw [if_neg hlast]; exact f2.1
          have HX2 := Lib.hid (upTo_step HX.out f3)
          clear f3 f2
          go_wp2
          go_roundw
          case rel => exact ⟨j + 1, _, by omega, by go_num, HX2.out, hk1.out, hb1.out⟩
          case measure => simp [intOf]; omega
    · obtain rfl : j = n := by omega
      have hVV2 : Hid (∀ t, t < j → vals X t = VX t) := Lib.hid fun t ht => (HX.out t ht).trans (by rw [upTo_all ht, HVX.out, HAA.out, HBB.out, HCC.out, HVV.out])
      have hfin : Hid (allFin (vals X) j = OK) := Lib.hid (by rw [HOK.out]; exact allFin_congr hVV2.out)
      have FX := Lib.hid hk.fs
      have kX3 := Lib.hid hk
      have hb3 := Lib.hid (B2.trans (hbw.mono B2.size))
      have hlo : w.heap.size ≤ g := by omega
      have hU2 := (hk.cell (show 0 < j by omega)).2.2.2.2.1
      clear hk hbw
      cases OK with
      | true =>
        have hvec : vecB j (vals X) = true := by rw [vec_len (by omega) (by omega)]; exact hfin.out
        go_wp2_with fail
        go_at_call 39
        refine (vectorResult_yes _ j j X _ (by omega) FX.out hvec).mono ?_
        rintro e w9 ⟨rfl, m9, rfl⟩
        go_wp2_with fail
        go_ret2
        exact ⟨_, _, X, rfl, Own.mono (show Own 38 .f32 g w0.heap.size (wr.drewN m9) (some ⟨g, 0, none⟩) j j X from kX3.out) hlo hU2 (Nat.le_refl _), hVV2.out, below_drewN hb3.out _⟩
      | false =>
        have hvec : vecB j (vals X) = false := by rw [vec_len (by omega) (by omega)]; exact hfin.out
        go_wp2_with fail
        go_at_call 39
        refine (vectorResult_no _ j j X _ (by omega) FX.out hvec).mono ?_
        rintro e w9 ⟨rfl, m9, rfl⟩
        go_wp2_with fail
        go_ret2
        exact NumsOwn.no (below_drewN hb3.out _)
set_option maxRecDepth 20000 in
set_option maxHeartbeats 4000000 in
theorem specThTimes_yes (b1 o1 b2 o2 b3 o3 b4 o4 n ca cb cc d : Nat) (Za Zb Zc Y : Nat → Nat) (w : World) (OK : Bool) (VX : Nat → Option Nat) (h1 : 1 ≤ n) (h32 : n ≤ 32) (hv : thirdsB n (vals Za) n (vals Zb) n (vals Zc) = true) (hf : fitB n n (vals Y) = true)
    (hVX : VX = thV n (vals Za) (vals Zb) (vals Zc) (vals Y)) (hOK : OK = allFin VX n) (ha : FS .f32 w (some ⟨b1, o1, none⟩) n ca Za) (hb : FS .f32 w (some ⟨b2, o2, none⟩) n cb Zb) (hc : FS .f32 w (some ⟨b3, o3, none⟩) n cc Zc) (h2 : FS .f32 w (some ⟨b4, o4, none⟩) n d Y) :
    Calls Try.prog 14 #[.agg #[.slice (some ⟨b1, o1, none⟩) n ca, .slice (some ⟨b2, o2, none⟩) n cb, .slice (some ⟨b3, o3, none⟩) n cc], .slice (some ⟨b4, o4, none⟩) n d] w (NBelIf OK n VX w) := by
  obtain ⟨i0, hi, hz0, hz1, hz2⟩ := info_parts info32
  have HVX := Lib.hid hVX
  have HOK := Lib.hid hOK
  have hn : n ≤ 1048576 := by omega
  have hvf : Hid ((thirdsB n (vals Za) n (vals Zb) n (vals Zc) && fitB n n (vals Y)) = true) := Lib.hid (by rw [hv, hf]; rfl)
  clear hVX hOK hv hf
  have B0 : Below w.heap.size w (w.alloc (.cells #[.slice (some ⟨b1, o1, none⟩) n ca, .slice (some ⟨b2, o2, none⟩) n cb, .slice (some ⟨b3, o3, none⟩) n cc] 27)) := (by repeat first | (with_reducible exact Below.refl _ _) | (with_reducible refine Below.setCell ?_ (by first | exact Nat.le_refl _ | (simp; done) | (simp; omega) | omega) _) | (with_reducible refine Below.alloc ?_ (by first | exact Nat.le_refl _ | (simp; done) | (simp; omega) | omega) _) | (with_reducible refine below_drewN ?_ _) | (with_reducible refine Below.drew ?_))
  have X0 : BoxL (w.alloc (.cells #[.slice (some ⟨b1, o1, none⟩) n ca, .slice (some ⟨b2, o2, none⟩) n cb, .slice (some ⟨b3, o3, none⟩) n cc] 27)) w.heap.size [.slice (some ⟨b1, o1, none⟩) n ca, .slice (some ⟨b2, o2, none⟩) n cb, .slice (some ⟨b3, o3, none⟩) n cc] := BoxL.three (by simp [go_sem]) (by simp [go_sem]) (by simp [go_sem])
  have s0 : w.heap.size < (w.alloc (.cells #[.slice (some ⟨b1, o1, none⟩) n ca, .slice (some ⟨b2, o2, none⟩) n cb, .slice (some ⟨b3, o3, none⟩) n cc] 27)).heap.size := by simp
  go_enter Try.func14, Try.ntmps14
  go_wp2_with fail
  generalize w.alloc (.cells #[.slice (some ⟨b1, o1, none⟩) n ca, .slice (some ⟨b2, o2, none⟩) n cb, .slice (some ⟨b3, o3, none⟩) n cc] 27) = wb at B0 X0 s0 ⊢
  go_at_call 36
  refine (specFits_any _ _ n ca Za _ n cb Zb _ n cc Zc _ n d Y _ hn hn hn hn X0 (ha.below B0 (Nat.le_refl _)) (hb.below B0 (Nat.le_refl _)) (hc.below B0 (Nat.le_refl _)) (h2.below B0 (Nat.le_refl _))).mono ?_
  rintro e w1 ⟨rfl, q, rfl⟩
  rw [hvf.out]
  have B2 : Below w.heap.size w (wb.drewN q) := below_drewN B0 _
  have X2 : BoxL (wb.drewN q) w.heap.size [.slice (some ⟨b1, o1, none⟩) n ca, .slice (some ⟨b2, o2, none⟩) n cb, .slice (some ⟨b3, o3, none⟩) n cc] := X0.drewN
  have s2 : w.heap.size < (wb.drewN q).heap.size := s0
  generalize wb.drewN q = w2 at B2 X2 s2 ⊢
  clear B0 X0 s0
  obtain ⟨AA, hAA⟩ : ∃ F, F = vals Za := ⟨_, rfl⟩
  obtain ⟨BB, hBB⟩ : ∃ F, F = vals Zb := ⟨_, rfl⟩
  obtain ⟨CC, hCC⟩ : ∃ F, F = vals Zc := ⟨_, rfl⟩
  obtain ⟨VV, hVV⟩ : ∃ F, F = vals Y := ⟨_, rfl⟩
  have HAA := Lib.hid hAA
  have HBB := Lib.hid hBB
  have HCC := Lib.hid hCC
  have HVV := Lib.hid hVV
  clear hAA hBB hCC hVV
  have hL := World.ownsRow_lit (base := w2.heap.size) (e := 38) (size := 1) w2 #[] 0 (Nat.le_refl _) (Nat.zero_le _) rfl
  go_wp2
  go_loopw [6, 15] (fun v i wr => ∃ (j : Nat) (xs : List Value), j ≤ n ∧ i = .int .i64 j ∧ Grow w2 j (thV n AA BB CC VV) wr v xs) (fun _ i _ => n - (intOf i).toNat)
  case atStart => exact ⟨0, [], Nat.zero_le _, rfl, by simpa using hL, fun t ht => absurd ht (Nat.not_lt_zero _), (by repeat first | (with_reducible exact Below.refl _ _) | (with_reducible refine Below.setCell ?_ (by first | exact Nat.le_refl _ | (simp; done) | (simp; omega) | omega) _) | (with_reducible refine Below.alloc ?_ (by first | exact Nat.le_refl _ | (simp; done) | (simp; omega) | omega) _) | (with_reducible refine below_drewN ?_ _) | (with_reducible refine Below.drew ?_)), _, _, rfl⟩
  case round =>
    obtain ⟨j, xs, hj, rfl, hk⟩ := hrel
    clear hL
    by_cases hlt : j < n
    · have hBw : Below w.heap.size w wr := B2.trans (hk.bel.mono B2.size)
      have hbw := hk.bel
      obtain ⟨g, cp, rfl⟩ := hk.shape
      have y0 := (X2.below hbw s2) 0 _ rfl
      have y1 := (X2.below hbw s2) 1 _ rfl
      have y2 := (X2.below hbw s2) 2 _ rfl
      have fz : FV .f32 0 (some 0) := FV.lit (by kernel_rfl) (by kernel_rfl)
      have hsz := hbw.size
      obtain ⟨b', off', e, hbl, hcv, hfv⟩ := (h2.below hBw (Nat.le_refl _)).at hlt
      simp only [Option.some.injEq, Addr.mk.injEq, and_true] at e
      obtain ⟨rfl, rfl⟩ := e
      clear hbl
      obtain ⟨b', off', e, hbl, hca, hfa⟩ := (ha.below hBw (Nat.le_refl _)).at hlt
      simp only [Option.some.injEq, Addr.mk.injEq, and_true] at e
      obtain ⟨rfl, rfl⟩ := e
      clear hbl
      obtain ⟨b', off', e, hbl, hcb, hfb⟩ := (hb.below hBw (Nat.le_refl _)).at hlt
      simp only [Option.some.injEq, Addr.mk.injEq, and_true] at e
      obtain ⟨rfl, rfl⟩ := e
      clear hbl
      obtain ⟨b', off', e, hbl, hcc, hfc⟩ := (hc.below hBw (Nat.le_refl _)).at hlt
      simp only [Option.some.injEq, Addr.mk.injEq, and_true] at e
      obtain ⟨rfl, rfl⟩ := e
      clear hbl
      have fV : FV .f32 (Y j) (VV j) := by rw [HVV.out]; exact hfv
      have fA : FV .f32 (Za j) (AA j) := by rw [HAA.out]; exact hfa
      have fB : FV .f32 (Zb j) (BB j) := by rw [HBB.out]; exact hfb
      have fC : FV .f32 (Zc j) (CC j) := by rw [HCC.out]; exact hfc
      have HK := Lib.hid hk
      clear hk hbw hfv hfa hfb hfc
      by_cases hgt0 : 0 < j
      · have hgt : decide ((0 : Int) < (j : Int)) = true := decide_eq_true (by omega)
        by_cases hlast : j + 1 < n
        case pos =>
          obtain ⟨p, hp⟩ : ∃ p, p + 1 = j := ⟨j - 1, by omega⟩
          have hji : (j : Int) - 1 = (p : Int) := by omega
          have hpn : p < n := by omega
          have HP := Lib.hid hp
          clear hp
          obtain ⟨b', off', e, hbl, hcp, hfp⟩ := (h2.below hBw (Nat.le_refl _)).at hpn
          simp only [Option.some.injEq, Addr.mk.injEq, and_true] at e
          obtain ⟨rfl, rfl⟩ := e
          clear hbl
          have fP : FV .f32 (Y p) (VV p) := by rw [HVV.out]; exact hfp
          clear hfp
          go_wp2
          (refine wp_region_loose_tail 13 (by kernel_rfl) (by kernel_rfl) ?_; simp only [List.take_succ_cons, List.take_zero, List.drop_succ_cons, List.drop_zero]; (repeat (refine wpLoose_want rfl (fun K hK => ?_); first | (refine loose_farith _ _ _ _ _ rfl rfl _ _ _ rfl rfl (by first | assumption | (with_reducible exact FV.ofInt _ _) | (with_reducible exact FV.neg (by assumption)) | exact FV.lit (by kernel_rfl) (by kernel_rfl)) (by first | assumption | (with_reducible exact FV.ofInt _ _) | (with_reducible exact FV.neg (by assumption)) | exact FV.lit (by kernel_rfl) (by kernel_rfl)) ?_; intro r hr; refine hK _ ?_; clear hK K; simp only [Act.put, List.setIfInBounds_toArray, List.set_cons_succ, List.set_cons_zero]) | (refine loose_of_quiet rfl ?_; go_big_quiet_op; refine hK _ ?_; clear hK K))); refine wpLoose_nil ?_)
          rintro _ ⟨k1, rfl⟩
          have f1 : FV .f32 r (thA AA VV j) := FV.of_eq hr (thA_pos HP.out).symm
          clear hr fP hji
          generalize r = x1 at f1 ⊢
          go_wp2
          (refine wp_region_loose_tail 12 (by kernel_rfl) (by kernel_rfl) ?_; simp only [List.take_succ_cons, List.take_zero, List.drop_succ_cons, List.drop_zero]; (repeat (refine wpLoose_want rfl (fun K hK => ?_); first | (refine loose_farith _ _ _ _ _ rfl rfl _ _ _ rfl rfl (by first | assumption | (with_reducible exact FV.ofInt _ _) | (with_reducible exact FV.neg (by assumption)) | exact FV.lit (by kernel_rfl) (by kernel_rfl)) (by first | assumption | (with_reducible exact FV.ofInt _ _) | (with_reducible exact FV.neg (by assumption)) | exact FV.lit (by kernel_rfl) (by kernel_rfl)) ?_; intro r hr; refine hK _ ?_; clear hK K; simp only [Act.put, List.setIfInBounds_toArray, List.set_cons_succ, List.set_cons_zero]) | (refine loose_of_quiet rfl ?_; go_big_quiet_op; refine hK _ ?_; clear hK K))); refine wpLoose_nil ?_)
          rintro _ ⟨k2, rfl⟩
          have f2 : FV .f32 r (thB AA BB VV j) := hr
          clear hr f1
          generalize r = x2 at f2 ⊢
          have hlt3 : j + 1 < n := hlast
          have hd3 : decide ((j : Int) + 1 < (n : Int)) = true := decide_eq_true (by omega)
          obtain ⟨b', off', e, hbl, hcn, hfn⟩ := (h2.below hBw (Nat.le_refl _)).at hlt3
          simp only [Option.some.injEq, Addr.mk.injEq, and_true] at e
          obtain ⟨rfl, rfl⟩ := e
          clear hbl
          have fN : FV .f32 (Y (j + 1)) (VV (j + 1)) := by rw [HVV.out]; exact hfn
          clear hfn
          go_wp2
          (refine wp_region_loose_tail 13 (by kernel_rfl) (by kernel_rfl) ?_; simp only [List.take_succ_cons, List.take_zero, List.drop_succ_cons, List.drop_zero]; (repeat (refine wpLoose_want rfl (fun K hK => ?_); first | (refine loose_farith _ _ _ _ _ rfl rfl _ _ _ rfl rfl (by first | assumption | (with_reducible exact FV.ofInt _ _) | (with_reducible exact FV.neg (by assumption)) | exact FV.lit (by kernel_rfl) (by kernel_rfl)) (by first | assumption | (with_reducible exact FV.ofInt _ _) | (with_reducible exact FV.neg (by assumption)) | exact FV.lit (by kernel_rfl) (by kernel_rfl)) ?_; intro r hr; refine hK _ ?_; clear hK K; simp only [Act.put, List.setIfInBounds_toArray, List.set_cons_succ, List.set_cons_zero]) | (refine loose_of_quiet rfl ?_; go_big_quiet_op; refine hK _ ?_; clear hK K))); refine wpLoose_nil ?_)
          rintro _ ⟨k3, rfl⟩
          have f3 : FV .f32 r (thV n AA BB CC VV j) := FV.of_eq hr (by unfold thV; rw [if_pos hlt3])
          clear hr f2
          generalize r = x3 at f3 ⊢
          go_wp2_with (at_builtin; refine wpList_append_lies _ rfl _ _ _ rfl w2.heap.size 38 i0 _ 1 4 Try.underlying22 hi hz0 hz1 hz2 rfl (by omega) (.slice (some ⟨g, 0, none⟩) j cp) j xs rfl (by exact ownsRow_below HK.out.own (by repeat first | (with_reducible exact Below.refl _ _) | (with_reducible refine Below.setCell ?_ (by first | exact Nat.le_refl _ | (simp; done) | (simp; omega) | omega) _) | (with_reducible refine Below.alloc ?_ (by first | exact Nat.le_refl _ | (simp; done) | (simp; omega) | omega) _) | (with_reducible refine below_drewN ?_ _) | (with_reducible refine Below.drew ?_))) ⟨wr.heap.size, 0, none⟩ 1 1 [.float .f32 x3] rfl rfl (by exact World.news_of_block (cs := #[.float .f32 x3]) (t := 38) (fr := (0, 0)) (heap_alloc_new _ _)) (by simp [Value.oneCell']) (by omega) (by unfold maxLen; omega) (by omega) (by simp; omega) (wr.heap.size + 1) (by simp) ?_; intro gg cp2 w6 hown2 hgrow2 hat2 hlt3; have hst := Lib.hid (HK.out.step (by repeat first | (with_reducible exact Below.refl _ _) | (with_reducible refine Below.setCell ?_ (by first | exact Nat.le_refl _ | (simp; done) | (simp; omega) | omega) _) | (with_reducible refine Below.alloc ?_ (by first | exact Nat.le_refl _ | (simp; done) | (simp; omega) | omega) _) | (with_reducible refine below_drewN ?_ _) | (with_reducible refine Below.drew ?_)) hown2 hgrow2 f3); clear hown2 hgrow2 hat2 hlt3)
          go_roundw
          case rel => exact ⟨j + 1, _, by omega, by go_num, hst.out⟩
          case measure => simp [intOf]; omega
        case neg =>
          obtain ⟨p, hp⟩ : ∃ p, p + 1 = j := ⟨j - 1, by omega⟩
          have hji : (j : Int) - 1 = (p : Int) := by omega
          have hpn : p < n := by omega
          have HP := Lib.hid hp
          clear hp
          obtain ⟨b', off', e, hbl, hcp, hfp⟩ := (h2.below hBw (Nat.le_refl _)).at hpn
          simp only [Option.some.injEq, Addr.mk.injEq, and_true] at e
          obtain ⟨rfl, rfl⟩ := e
          clear hbl
          have fP : FV .f32 (Y p) (VV p) := by rw [HVV.out]; exact hfp
          clear hfp
          go_wp2
          (refine wp_region_loose_tail 13 (by kernel_rfl) (by kernel_rfl) ?_; simp only [List.take_succ_cons, List.take_zero, List.drop_succ_cons, List.drop_zero]; (repeat (refine wpLoose_want rfl (fun K hK => ?_); first | (refine loose_farith _ _ _ _ _ rfl rfl _ _ _ rfl rfl (by first | assumption | (with_reducible exact FV.ofInt _ _) | (with_reducible exact FV.neg (by assumption)) | exact FV.lit (by kernel_rfl) (by kernel_rfl)) (by first | assumption | (with_reducible exact FV.ofInt _ _) | (with_reducible exact FV.neg (by assumption)) | exact FV.lit (by kernel_rfl) (by kernel_rfl)) ?_; intro r hr; refine hK _ ?_; clear hK K; simp only [Act.put, List.setIfInBounds_toArray, List.set_cons_succ, List.set_cons_zero]) | (refine loose_of_quiet rfl ?_; go_big_quiet_op; refine hK _ ?_; clear hK K))); refine wpLoose_nil ?_)
          rintro _ ⟨k1, rfl⟩
          have f1 : FV .f32 r (thA AA VV j) := FV.of_eq hr (thA_pos HP.out).symm
          clear hr fP hji
          generalize r = x1 at f1 ⊢
          go_wp2
          (refine wp_region_loose_tail 12 (by kernel_rfl) (by kernel_rfl) ?_; simp only [List.take_succ_cons, List.take_zero, List.drop_succ_cons, List.drop_zero]; (repeat (refine wpLoose_want rfl (fun K hK => ?_); first | (refine loose_farith _ _ _ _ _ rfl rfl _ _ _ rfl rfl (by first | assumption | (with_reducible exact FV.ofInt _ _) | (with_reducible exact FV.neg (by assumption)) | exact FV.lit (by kernel_rfl) (by kernel_rfl)) (by first | assumption | (with_reducible exact FV.ofInt _ _) | (with_reducible exact FV.neg (by assumption)) | exact FV.lit (by kernel_rfl) (by kernel_rfl)) ?_; intro r hr; refine hK _ ?_; clear hK K; simp only [Act.put, List.setIfInBounds_toArray, List.set_cons_succ, List.set_cons_zero]) | (refine loose_of_quiet rfl ?_; go_big_quiet_op; refine hK _ ?_; clear hK K))); refine wpLoose_nil ?_)
          rintro _ ⟨k2, rfl⟩
          have f2 : FV .f32 r (thB AA BB VV j) := hr
          clear hr f1
          generalize r = x2 at f2 ⊢
          have hd3 : decide ((j : Int) + 1 < (n : Int)) = false := decide_eq_false (by omega)
          have f3 : FV .f32 x2 (thV n AA BB CC VV j) := FV.of_eq f2 (by unfold thV; rw [if_neg hlast])
          go_wp2_with (at_builtin; refine wpList_append_lies _ rfl _ _ _ rfl w2.heap.size 38 i0 _ 1 4 Try.underlying22 hi hz0 hz1 hz2 rfl (by omega) (.slice (some ⟨g, 0, none⟩) j cp) j xs rfl (by exact ownsRow_below HK.out.own (by repeat first | (with_reducible exact Below.refl _ _) | (with_reducible refine Below.setCell ?_ (by first | exact Nat.le_refl _ | (simp; done) | (simp; omega) | omega) _) | (with_reducible refine Below.alloc ?_ (by first | exact Nat.le_refl _ | (simp; done) | (simp; omega) | omega) _) | (with_reducible refine below_drewN ?_ _) | (with_reducible refine Below.drew ?_))) ⟨wr.heap.size, 0, none⟩ 1 1 [.float .f32 x2] rfl rfl (by exact World.news_of_block (cs := #[.float .f32 x2]) (t := 38) (fr := (0, 0)) (heap_alloc_new _ _)) (by simp [Value.oneCell']) (by omega) (by unfold maxLen; omega) (by omega) (by simp; omega) (wr.heap.size + 1) (by simp) ?_; intro gg cp2 w6 hown2 hgrow2 hat2 hlt3; have hst := Lib.hid (HK.out.step (by repeat first | (with_reducible exact Below.refl _ _) | (with_reducible refine Below.setCell ?_ (by first | exact Nat.le_refl _ | (simp; done) | (simp; omega) | omega) _) | (with_reducible refine Below.alloc ?_ (by first | exact Nat.le_refl _ | (simp; done) | (simp; omega) | omega) _) | (with_reducible refine below_drewN ?_ _) | (with_reducible refine Below.drew ?_)) hown2 hgrow2 f3); clear hown2 hgrow2 hat2 hlt3)
          go_roundw
          case rel => exact ⟨j + 1, _, by omega, by go_num, hst.out⟩
          case measure => simp [intOf]; omega
      · have hgt : decide ((0 : Int) < (j : Int)) = false := decide_eq_false (by omega)
        have hgt2 : decide (0 < j) = false := decide_eq_false hgt0
        by_cases hlast : j + 1 < n
        case pos =>
          have f1 : FV .f32 0 (thA AA VV j) := FV.of_eq fz (thA_zero hgt0).symm
          go_wp2
          (refine wp_region_loose_tail 12 (by kernel_rfl) (by kernel_rfl) ?_; simp only [List.take_succ_cons, List.take_zero, List.drop_succ_cons, List.drop_zero]; (repeat (refine wpLoose_want rfl (fun K hK => ?_); first | (refine loose_farith _ _ _ _ _ rfl rfl _ _ _ rfl rfl (by first | assumption | (with_reducible exact FV.ofInt _ _) | (with_reducible exact FV.neg (by assumption)) | exact FV.lit (by kernel_rfl) (by kernel_rfl)) (by first | assumption | (with_reducible exact FV.ofInt _ _) | (with_reducible exact FV.neg (by assumption)) | exact FV.lit (by kernel_rfl) (by kernel_rfl)) ?_; intro r hr; refine hK _ ?_; clear hK K; simp only [Act.put, List.setIfInBounds_toArray, List.set_cons_succ, List.set_cons_zero]) | (refine loose_of_quiet rfl ?_; go_big_quiet_op; refine hK _ ?_; clear hK K))); refine wpLoose_nil ?_)
          rintro _ ⟨k2, rfl⟩
          have f2 : FV .f32 r (thB AA BB VV j) := hr
          clear hr f1
          generalize r = x2 at f2 ⊢
          have hlt3 : j + 1 < n := hlast
          have hd3 : decide ((j : Int) + 1 < (n : Int)) = true := decide_eq_true (by omega)
          obtain ⟨b', off', e, hbl, hcn, hfn⟩ := (h2.below hBw (Nat.le_refl _)).at hlt3
          simp only [Option.some.injEq, Addr.mk.injEq, and_true] at e
          obtain ⟨rfl, rfl⟩ := e
          clear hbl
          have fN : FV .f32 (Y (j + 1)) (VV (j + 1)) := by rw [HVV.out]; exact hfn
          clear hfn
          go_wp2
          (refine wp_region_loose_tail 13 (by kernel_rfl) (by kernel_rfl) ?_; simp only [List.take_succ_cons, List.take_zero, List.drop_succ_cons, List.drop_zero]; (repeat (refine wpLoose_want rfl (fun K hK => ?_); first | (refine loose_farith _ _ _ _ _ rfl rfl _ _ _ rfl rfl (by first | assumption | (with_reducible exact FV.ofInt _ _) | (with_reducible exact FV.neg (by assumption)) | exact FV.lit (by kernel_rfl) (by kernel_rfl)) (by first | assumption | (with_reducible exact FV.ofInt _ _) | (with_reducible exact FV.neg (by assumption)) | exact FV.lit (by kernel_rfl) (by kernel_rfl)) ?_; intro r hr; refine hK _ ?_; clear hK K; simp only [Act.put, List.setIfInBounds_toArray, List.set_cons_succ, List.set_cons_zero]) | (refine loose_of_quiet rfl ?_; go_big_quiet_op; refine hK _ ?_; clear hK K))); refine wpLoose_nil ?_)
          rintro _ ⟨k3, rfl⟩
          have f3 : FV .f32 r (thV n AA BB CC VV j) := FV.of_eq hr (by unfold thV; rw [if_pos hlt3])
          clear hr f2
          generalize r = x3 at f3 ⊢
          go_wp2_with (at_builtin; refine wpList_append_lies _ rfl _ _ _ rfl w2.heap.size 38 i0 _ 1 4 Try.underlying22 hi hz0 hz1 hz2 rfl (by omega) (.slice (some ⟨g, 0, none⟩) j cp) j xs rfl (by exact ownsRow_below HK.out.own (by repeat first | (with_reducible exact Below.refl _ _) | (with_reducible refine Below.setCell ?_ (by first | exact Nat.le_refl _ | (simp; done) | (simp; omega) | omega) _) | (with_reducible refine Below.alloc ?_ (by first | exact Nat.le_refl _ | (simp; done) | (simp; omega) | omega) _) | (with_reducible refine below_drewN ?_ _) | (with_reducible refine Below.drew ?_))) ⟨wr.heap.size, 0, none⟩ 1 1 [.float .f32 x3] rfl rfl (by exact World.news_of_block (cs := #[.float .f32 x3]) (t := 38) (fr := (0, 0)) (heap_alloc_new _ _)) (by simp [Value.oneCell']) (by omega) (by unfold maxLen; omega) (by omega) (by simp; omega) (wr.heap.size + 1) (by simp) ?_; intro gg cp2 w6 hown2 hgrow2 hat2 hlt3; have hst := Lib.hid (HK.out.step (by repeat first | (with_reducible exact Below.refl _ _) | (with_reducible refine Below.setCell ?_ (by first | exact Nat.le_refl _ | (simp; done) | (simp; omega) | omega) _) | (with_reducible refine Below.alloc ?_ (by first | exact Nat.le_refl _ | (simp; done) | (simp; omega) | omega) _) | (with_reducible refine below_drewN ?_ _) | (with_reducible refine Below.drew ?_)) hown2 hgrow2 f3); clear hown2 hgrow2 hat2 hlt3)
          go_roundw
          case rel => exact ⟨j + 1, _, by omega, by go_num, hst.out⟩
          case measure => simp [intOf]; omega
        case neg =>
          have f1 : FV .f32 0 (thA AA VV j) := FV.of_eq fz (thA_zero hgt0).symm
          go_wp2
          (refine wp_region_loose_tail 12 (by kernel_rfl) (by kernel_rfl) ?_; simp only [List.take_succ_cons, List.take_zero, List.drop_succ_cons, List.drop_zero]; (repeat (refine wpLoose_want rfl (fun K hK => ?_); first | (refine loose_farith _ _ _ _ _ rfl rfl _ _ _ rfl rfl (by first | assumption | (with_reducible exact FV.ofInt _ _) | (with_reducible exact FV.neg (by assumption)) | exact FV.lit (by kernel_rfl) (by kernel_rfl)) (by first | assumption | (with_reducible exact FV.ofInt _ _) | (with_reducible exact FV.neg (by assumption)) | exact FV.lit (by kernel_rfl) (by kernel_rfl)) ?_; intro r hr; refine hK _ ?_; clear hK K; simp only [Act.put, List.setIfInBounds_toArray, List.set_cons_succ, List.set_cons_zero]) | (refine loose_of_quiet rfl ?_; go_big_quiet_op; refine hK _ ?_; clear hK K))); refine wpLoose_nil ?_)
          rintro _ ⟨k2, rfl⟩
          have f2 : FV .f32 r (thB AA BB VV j) := hr
          clear hr f1
          generalize r = x2 at f2 ⊢
          have hd3 : decide ((j : Int) + 1 < (n : Int)) = false := decide_eq_false (by omega)
          have f3 : FV .f32 x2 (thV n AA BB CC VV j) := FV.of_eq f2 (by unfold thV; rw [if_neg hlast])
          go_wp2_with (at_builtin; refine wpList_append_lies _ rfl _ _ _ rfl w2.heap.size 38 i0 _ 1 4 Try.underlying22 hi hz0 hz1 hz2 rfl (by omega) (.slice (some ⟨g, 0, none⟩) j cp) j xs rfl (by exact ownsRow_below HK.out.own (by repeat first | (with_reducible exact Below.refl _ _) | (with_reducible refine Below.setCell ?_ (by first | exact Nat.le_refl _ | (simp; done) | (simp; omega) | omega) _) | (with_reducible refine Below.alloc ?_ (by first | exact Nat.le_refl _ | (simp; done) | (simp; omega) | omega) _) | (with_reducible refine below_drewN ?_ _) | (with_reducible refine Below.drew ?_))) ⟨wr.heap.size, 0, none⟩ 1 1 [.float .f32 x2] rfl rfl (by exact World.news_of_block (cs := #[.float .f32 x2]) (t := 38) (fr := (0, 0)) (heap_alloc_new _ _)) (by simp [Value.oneCell']) (by omega) (by unfold maxLen; omega) (by omega) (by simp; omega) (wr.heap.size + 1) (by simp) ?_; intro gg cp2 w6 hown2 hgrow2 hat2 hlt3; have hst := Lib.hid (HK.out.step (by repeat first | (with_reducible exact Below.refl _ _) | (with_reducible refine Below.setCell ?_ (by first | exact Nat.le_refl _ | (simp; done) | (simp; omega) | omega) _) | (with_reducible refine Below.alloc ?_ (by first | exact Nat.le_refl _ | (simp; done) | (simp; omega) | omega) _) | (with_reducible refine below_drewN ?_ _) | (with_reducible refine Below.drew ?_)) hown2 hgrow2 f3); clear hown2 hgrow2 hat2 hlt3)
          go_roundw
          case rel => exact ⟨j + 1, _, by omega, by go_num, hst.out⟩
          case measure => simp [intOf]; omega
    · obtain rfl : j = n := by omega
      obtain ⟨g, cp, rfl⟩ := hk.shape
      obtain ⟨X, hX, hV⟩ := hk.fs
      have hVV2 : Hid (∀ t, t < j → vals X t = VX t) := Lib.hid fun t ht => (hV t ht).trans (by rw [HVX.out, HAA.out, HBB.out, HCC.out, HVV.out])
      have hfin : Hid (allFin (vals X) j = OK) := Lib.hid (by rw [HOK.out]; exact allFin_congr hVV2.out)
      have hb3 := Lib.hid (B2.trans (hk.bel.mono B2.size))
      clear hk hV
      cases OK with
      | true =>
        go_wp2_with fail
        go_at_call 37
        refine (l02List_yes _ j cp X _ (by omega) hX hfin.out).mono ?_
        rintro e w9 ⟨rfl, m9, rfl⟩
        go_wp2_with fail
        go_ret2
        exact ⟨_, _, X, rfl, FS.drewN hX, hVV2.out, below_drewN hb3.out _⟩
      | false =>
        go_wp2_with fail
        go_at_call 37
        refine (l02List_no _ j cp X _ (by omega) hX hfin.out).mono ?_
        rintro e w9 ⟨rfl, m9, rfl⟩
        go_wp2_with fail
        go_ret2
        exact NumsBel.no (below_drewN hb3.out _)
theorem keyThirdsTimes (na : Nat) (Za : Nat → Nat) (nb : Nat) (Zb : Nat → Nat) (nc : Nat) (Zc : Nat → Nat) (m : Nat) (Y : Nat → Nat) (hna : na ≤ 1048576) (hnb : nb ≤ 1048576) (hnc : nc ≤ 1048576) (hm : m ≤ 1048576) : ∃ (ok : Bool) (n' : Nat) (V : Nat → Option Nat), n' ≤ 144 ∧
    (∀ aa ca ab cb ac cc av d W, FS .f32 W aa na ca Za → FS .f32 W ab nb cb Zb → FS .f32 W ac nc cc Zc → FS .f32 W av m d Y → Calls Try.prog 14 #[.agg #[.slice aa na ca, .slice ab nb cb, .slice ac nc cc], .slice av m d] W (NumsBel ok n' V W)) ∧
    (∀ aa ca ab cb ac cc av d W, FS .f32 W aa na ca Za → FS .f32 W ab nb cb Zb → FS .f32 W ac nc cc Zc → FS .f32 W av m d Y → Calls Try.prog 16 #[.agg #[.slice aa na ca, .slice ab nb cb, .slice ac nc cc], .slice av m d] W (NumsOwn ok n' V W)) := by
  cases ho : (thirdsB na (vals Za) nb (vals Zb) nc (vals Zc) && fitB m nb (vals Y)) with
  | false => exact ⟨false, 0, fun _ => none, by omega, fun aa ca ab cb ac cc av d W ha hb hc h2 => specThTimes_no aa na ca Za ab nb cb Zb ac nc cc Zc av m d Y W hna hnb hnc hm ha hb hc h2 ho, fun aa ca ab cb ac cc av d W ha hb hc h2 => implThTimes_no aa na ca Za ab nb cb Zb ac nc cc Zc av m d Y W hna hnb hnc hm ha hb hc h2 ho⟩
  | true =>
    simp only [Bool.and_eq_true] at ho
    obtain ⟨hv, hf⟩ := ho
    obtain ⟨⟨g1, g2⟩, rfl, rfl, _⟩ := thirds_yes hv
    have e : m = nc := by unfold fitB at hf; simp only [Bool.and_eq_true, decide_eq_true_eq] at hf; exact hf.1
    subst e
    have k1 : ∀ aa ca ab cb ac cc av d W, FS .f32 W aa m ca Za → FS .f32 W ab m cb Zb → FS .f32 W ac m cc Zc → FS .f32 W av m d Y → Calls Try.prog 14 #[.agg #[.slice aa m ca, .slice ab m cb, .slice ac m cc], .slice av m d] W (NBelIf (allFin (thV m (vals Za) (vals Zb) (vals Zc) (vals Y)) m) m (thV m (vals Za) (vals Zb) (vals Zc) (vals Y)) W) := fun aa ca ab cb ac cc av d W ha hb hc h2 => by
      obtain ⟨b1, o1, rfl, _, _, _⟩ := ha.at (show 0 < m by omega)
      obtain ⟨b2, o2, rfl, _, _, _⟩ := hb.at (show 0 < m by omega)
      obtain ⟨b3, o3, rfl, _, _, _⟩ := hc.at (show 0 < m by omega)
      obtain ⟨b4, o4, rfl, _, _, _⟩ := h2.at (show 0 < m by omega)
      exact specThTimes_yes b1 o1 b2 o2 b3 o3 b4 o4 m ca cb cc d Za Zb Zc Y W _ _ g1 g2 hv hf rfl rfl ha hb hc h2
    have k2 : ∀ aa ca ab cb ac cc av d W, FS .f32 W aa m ca Za → FS .f32 W ab m cb Zb → FS .f32 W ac m cc Zc → FS .f32 W av m d Y → Calls Try.prog 16 #[.agg #[.slice aa m ca, .slice ab m cb, .slice ac m cc], .slice av m d] W (NOwnIf (allFin (thV m (vals Za) (vals Zb) (vals Zc) (vals Y)) m) m (thV m (vals Za) (vals Zb) (vals Zc) (vals Y)) W) := fun aa ca ab cb ac cc av d W ha hb hc h2 => by
      obtain ⟨b1, o1, rfl, _, _, _⟩ := ha.at (show 0 < m by omega)
      obtain ⟨b2, o2, rfl, _, _, _⟩ := hb.at (show 0 < m by omega)
      obtain ⟨b3, o3, rfl, _, _, _⟩ := hc.at (show 0 < m by omega)
      obtain ⟨b4, o4, rfl, _, _, _⟩ := h2.at (show 0 < m by omega)
      exact implThTimes_yes b1 o1 b2 o2 b3 o3 b4 o4 m ca cb cc d Za Zb Zc Y W _ _ g1 g2 hv hf rfl rfl ha hb hc h2
    generalize allFin (thV m (vals Za) (vals Zb) (vals Zc) (vals Y)) m = ok at k1 k2
    cases ok
    · exact ⟨false, 0, fun _ => none, by omega, k1, k2⟩
    · exact ⟨true, m, thV m (vals Za) (vals Zb) (vals Zc) (vals Y), by omega, k1, k2⟩
end Go.Proofs.Ytpmilaemmdcfaab
