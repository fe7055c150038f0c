/- Proves that FnExactSameDesk returns true for all arguments and leaves them as they were. Conditions: none. -/
import Derived.Test.YtmddhhmgfhljiabRows
import Derived.Test.YtmddhhmgfhljiabSameDeskLaw
import Derived.WalkKit
import Derived.ProofKit
import Derived.OpenShut
import Derived.ShutString
import Derived.ChangeOld
import Derived.Below
import Derived.Laws.Cover2
namespace Go.Proofs.Ytmddhhmgfhljiab.fnExactSameDesk
open Go.ChangeShapes Go.WideShapes Go.ChangeAt Go.RowKit
open Go.ChangeMaps (open_string shut_string)
set_option linter.unusedVariables false
set_option linter.unusedSimpArgs false

theorem own : ownKnob Try.prog.godebug = none := by kernel_rfl
theorem laidOut : laidOutB Try.prog = true := by kernel_rfl

set_option maxRecDepth 100000 in
theorem lifted (os : Os) (started : os.Started) (H : Type) (enc : TypeId × Value → H) :
    ReturnsInHanded {} Try.checked os 4 .any (Rows.fnExactSameDeskSpec.pre6 enc Try.prog Try.f4 Rows.fnExactSameDeskRow.domain false) (Rows.fnExactSameDeskSpec.post enc Try.prog Try.f4 false true false false) := by
  refine returnsInHanded_of_change (C := Try.checked) own started (by kernel_rfl) Try.func4
    (ChangeSpec.witness6 (enc := enc) (C := Try.checked) false ⟨#[], #[.agg #[.int .i64 0, .int .i64 0, .slice none 0 0, .slice none 0 0, .slice none 0 0, .slice none 0 0, .int .i64 0, .int .i64 0, .slice none 0 0], .agg #[.int .i64 0, .int .i64 0, .slice none 0 0, .slice none 0 0, .slice none 0 0, .slice none 0 0, .int .i64 0, .int .i64 0, .slice none 0 0]], []⟩ 8 (by kernel_rfl) (by kernel_rfl) (by kernel_rfl) (by kernel_rfl)) ?_
  intro W base args ds gs before hval0 hW hcnd _
  have hval : ∀ (j : Nat) t v, Try.f4.params[j]? = some t → args[j]? = some v → Value.okWide Try.prog W .any base t v := hval0
  have hW' := hW
  obtain ⟨p, q, hA0, hV, rfl, hfz, hnd⟩ := hW
  have hA : DataW.TrodAll enc Try.prog W 0 (fun _ => true) true Try.f4.params.toList args.toList ds p := hA0
  rw [Try.params4] at hA hval
  obtain ⟨v0, vs0, d0, ds0, p0, q0, hargs, rfl, rfl, h0, r0⟩ := trodAll_cons hA
  obtain ⟨v1, vs1, d1, ds1, p1, q1, rfl, rfl, rfl, h1, r1⟩ := trodAll_cons r0
  obtain ⟨rfl, rfl, rfl⟩ := trodAll_nil r1
  obtain rfl : args = #[v0, v1] := by cases args; simp_all
  obtain ⟨rfl, rfl⟩ := trodVars_none hV
  have k0 := h0
  have lt0 : ∀ x ∈ p0, x.block < W.heap.size := by obtain ⟨m, hm⟩ := k0; exact DataW.trod_lt m _ _ _ hm
  obtain ⟨oxa_0, oxb_0, oac_0, onc_0, occ_0, oZc_0, oad_0, ond_0, ocd_0, oZd_0, oae_0, one_0, oce_0, oZe_0, oaf_0, onf_0, ocf_0, oZf_0, oxg_0, oxh_0, oai_0, oni_0, oci_0, oZi_0, rfl, owxa_0, owxb_0, owxg_0, owxh_0, ohc_0, ohd_0, ohe_0, ohf_0, ohi_0⟩ := open_desk (eF := 77) (eI := 2) Try.underlying31 (by kernel_rfl) Try.underlying24 Try.underlying26 Try.underlying29 (by kernel_rfl) (by kernel_rfl) (by kernel_rfl) (by kernel_rfl) Try.underlying2 Try.underlying2 Try.underlying22 Try.underlying22 Try.underlying22 Try.underlying22 Try.underlying2 Try.underlying2 Try.underlying27 Try.underlying77 (by kernel_rfl) Try.underlying2 (by kernel_rfl) (hval 0 31 v0 rfl rfl) h0
  have k1 := h1
  have lt1 : ∀ x ∈ p1, x.block < W.heap.size := by obtain ⟨m, hm⟩ := k1; exact DataW.trod_lt m _ _ _ hm
  obtain ⟨oxa_1, oxb_1, oac_1, onc_1, occ_1, oZc_1, oad_1, ond_1, ocd_1, oZd_1, oae_1, one_1, oce_1, oZe_1, oaf_1, onf_1, ocf_1, oZf_1, oxg_1, oxh_1, oai_1, oni_1, oci_1, oZi_1, rfl, owxa_1, owxb_1, owxg_1, owxh_1, ohc_1, ohd_1, ohe_1, ohf_1, ohi_1⟩ := open_desk (eF := 77) (eI := 2) Try.underlying31 (by kernel_rfl) Try.underlying24 Try.underlying26 Try.underlying29 (by kernel_rfl) (by kernel_rfl) (by kernel_rfl) (by kernel_rfl) Try.underlying2 Try.underlying2 Try.underlying22 Try.underlying22 Try.underlying22 Try.underlying22 Try.underlying2 Try.underlying2 Try.underlying27 Try.underlying77 (by kernel_rfl) Try.underlying2 (by kernel_rfl) (hval 1 31 v1 rfl rfl) h1
  clear hA0 hval0
  refine (law_FnExactSameDesk W oxa_0 oxb_0 oac_0 onc_0 occ_0 oZc_0 oad_0 ond_0 ocd_0 oZd_0 oae_0 one_0 oce_0 oZe_0 oaf_0 onf_0 ocf_0 oZf_0 oxg_0 oxh_0 oai_0 oni_0 oci_0 oZi_0 owxa_0 owxb_0 ohc_0 ohd_0 ohe_0 ohf_0 owxg_0 owxh_0 ohi_0 oxa_1 oxb_1 oac_1 onc_1 occ_1 oZc_1 oad_1 ond_1 ocd_1 oZd_1 oae_1 one_1 oce_1 oZe_1 oaf_1 onf_1 ocf_1 oZf_1 oxg_1 oxh_1 oai_1 oni_1 oci_1 oZi_1 owxa_1 owxb_1 ohc_1 ohd_1 ohe_1 ohf_1 owxg_1 owxh_1 ohi_1).mono fun e W' ⟨he, bel⟩ => ?_
  subst he
  exact ⟨_, rfl, _, _, _, [], _, [], hW', trodAll_mk1 (shut_bool Try.underlying4 _), (trodAll_cons_mk (Below.trod laidOut (by kernel_rfl) (of_decide_eq_true (by kernel_rfl)) k0 bel lt0) (trodAll_cons_mk (Below.trod laidOut (by kernel_rfl) (of_decide_eq_true (by kernel_rfl)) k1 bel lt1) trodAll_mk0)), rfl, bel.frame _, fun h => by cases h⟩

theorem over : Rows.fnExactSameDeskRow.holds Try.pinned (OpenSpec.ofChange Rows.fnExactSameDeskSpec) :=
  OpenClaim.holds_of_wide 4 Try.f4 rfl rfl rfl rfl rfl rfl rfl ⟨rfl, rfl, rfl, rfl, rfl⟩ rfl rfl rfl rfl rfl (by kernel_rfl) Try.func4 (by kernel_rfl)
    (of_decide_eq_true (by kernel_rfl)) (by unfold Func.isWrapper; first | (rw [if_pos (by decide +kernel)]; kernel_rfl) | (rw [if_neg (by decide +kernel)]; exact ⟨rfl, rfl⟩))
    (fun os started H enc _ => lifted os started H enc)

theorem proved : Rows.FnExactSameDeskSaid := over
#print axioms proved
end Go.Proofs.Ytmddhhmgfhljiab.fnExactSameDesk
