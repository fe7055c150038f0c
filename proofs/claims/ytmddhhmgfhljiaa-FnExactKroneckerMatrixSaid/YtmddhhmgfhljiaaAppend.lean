/- Helper: a number appended to a list that is being built, in a region that draws its order. Conditions: none. -/
import Derived.Test.YtmddhhmgfhljiaaHeavy
import Derived.Test.YtmddhhmgfhljiaaBuild
set_option linter.unusedVariables false
set_option linter.unusedSimpArgs false
namespace Go.Proofs.Ytmddhhmgfhljiaa
open Go.RowKit

theorem drewN_tw {w : World} {a b : Nat} : (w.drewN a).drewN b = w.drewN (a + b) := by
  simp only [World.drewN, Nat.add_assoc]
theorem heavyUpon_run {C : Act → World → Prop} {A : Value → Act} {K : Act → Prop} {r : Result Next} {v : Value} {w' : World} (h : r = .ok (.value v) w') (h1 : C (A v) w') (h2 : K (A v)) : heavyUpon C A K r := by
  subst h
  exact ⟨h1, h2⟩
theorem heavy_append_lies {P : Program} (w : World) {o : Oper} {a : Act} {C : Act → World → Prop} {K : Act → Prop} (s x : Operand) (t : TypeId)
    (ho : o.op = .call { callee := .builtin .append, args := #[s, x], argTypes := #[t, t] })
    (base : Nat) (e : TypeId) (i : TypeInfo) (z : Value) (size bytes : Nat) (ht : P.underlying t = some (.slice e)) (hi : P.info? e = some i) (hz : i.zero = some z)
    (hsize : i.size = size) (hby : i.bytes = bytes) (hzs : z.cells.size = size) (hsz : 0 < size)
    (v : Value) (n : Nat) (xs : List Value) (hs : a.eval s = v) (hown : w.ownsRow base e size v n xs)
    (ad : Addr) (m c : Nat) (news : List Value) (hx : a.eval x = .slice (some ad) m c) (hl : news.length = m * size) (hnews : ∀ j u, news[j]? = some u → w.cell? (ad.add j) = some u) (h1 : ∀ u ∈ news, u.oneCell' = true)
    (hm : 0 < m) (h63 : n + m ≤ maxLen) (hbytes : (n + m) * bytes ≤ 140737488355328) (hbase : base ≤ w.heap.size) (H : Nat) (hH : w.heap.size = H)
    (h : ∀ g cap w', w'.ownsRow base e size (.slice (some ⟨g, 0, none⟩) (n + m) cap) (n + m) (xs ++ news) → w.grownBy w' v.ownBlock → (v.ownBlock = some g ∨ g = H) → g < w'.heap.size → C (a.put o.dst (.slice (some ⟨g, 0, none⟩) (n + m) cap)) w' ∧ K (a.put o.dst (.slice (some ⟨g, 0, none⟩) (n + m) cap))) :
    heavyUpon C (fun u => a.put o.dst u) K ((execOp a.eval o).run P w) := by
  obtain ⟨g, cap, w', hr, h2, h3, h4, h5⟩ := run_append_lies (P := P) w t o.type base e i z size bytes ht hi hz hsize hby hzs hsz v n xs hown ad m c news hl hnews h1 hm h63 hbytes hbase H hH
  unfold execOp
  simp only [ho, resolve, invoke, builtin, Sem.run_bind, Sem.run_pure, Result.andThen_ok, List.map_toArray, List.map_cons, List.map_nil, hs, hx, hr]
  exact h g cap w' h2 h3 h4 h5
/-- The world while a number is appended to a list that is being built: s heavy operations have come up; the slots of the sum, and of the new list. -/
def AppF (wa wr : World) (ob : Nat) (a : Option Addr) (j cp : Nat) (xs : List Value) (s : Nat) (l : List Value) (W : World) : Prop :=
  (Below wa.heap.size wa W ∧ W.cell? ⟨ob, 2, none⟩ = some (.slice a j cp)) ∧ match s with
    | 0 => ∃ m, W = wr.drewN m
    | 1 => ∃ m, W = wr.drewN m
    | 2 => ∃ m k r, l[0]? = some (.float .f32 r) ∧ W = ((wr.drewN m).alloc (.cells #[.float .f32 r] 44)).drewN k
    | _ => ∃ g c2 r wx, l[0]? = some (.float .f32 r) ∧ l[1]? = some (.slice (some ⟨g, 0, none⟩) (j + 1) c2) ∧ Below wr.heap.size wr wx ∧ W.ownsRow wa.heap.size 44 1 (.slice (some ⟨g, 0, none⟩) (j + 1) c2) (j + 1) (xs ++ [.float .f32 r]) ∧ wx.grownBy W (Value.slice a j cp).ownBlock ∧ ((Value.slice a j cp).ownBlock = some g ∨ g = wx.heap.size) ∧ g < W.heap.size
theorem AppF.drew {wa wr : World} {ob : Nat} {a : Option Addr} {j cp : Nat} {xs : List Value} (s : Nat) (l : List Value) (W : World) (k : Nat) (h : AppF wa wr ob a j cp xs s l W) : AppF wa wr ob a j cp xs s l (W.drewN k) := by
  have hb : Below W.heap.size W (W.drewN k) := below_drewN (Below.refl _ _) _
  unfold AppF at *
  refine ⟨⟨below_drewN h.1.1 _, by rw [← h.1.2]; rfl⟩, ?_⟩
  obtain ⟨_, h⟩ := h
  match s with
  | 0 => obtain ⟨m, rfl⟩ := h; exact ⟨_, drewN_tw⟩
  | 1 => obtain ⟨m, rfl⟩ := h; exact ⟨_, drewN_tw⟩
  | 2 => obtain ⟨m, q, r, h1, rfl⟩ := h; exact ⟨m, _, r, h1, drewN_tw⟩
  | s + 3 =>
    obtain ⟨g, c2, r, wx, h1, h2, h3, h4, h5, h6, h7⟩ := h
    exact ⟨g, c2, r, wx, h1, h2, h3, ownsRow_below h4 hb, grownBy_trans h5 ⟨hb.os, hb.tape, hb.output, hb.size, fun q hq _ => hb.block q hq⟩, h6, Nat.lt_of_lt_of_le h7 hb.size⟩
end Go.Proofs.Ytmddhhmgfhljiaa
