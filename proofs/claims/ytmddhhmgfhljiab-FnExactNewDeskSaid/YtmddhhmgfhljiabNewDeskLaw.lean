/- Helper: the walk of the law FnExactNewDesk. Conditions: none. -/
import Derived.Test.YtmddhhmgfhljiabNewDeskKey
set_option linter.unusedVariables false
set_option linter.unusedSimpArgs false
namespace Go.Proofs.Ytmddhhmgfhljiab
open Go.RowKit

set_option maxRecDepth 100000 in
set_option maxHeartbeats 4000000 in
theorem law_FnExactNewDesk (w : World) : Calls Try.prog 5 #[] w fun e w' => e = .returned (.bool true) ∧ Below w.heap.size w w' := by
  go_enter Try.func5, Try.ntmps5
  go_wp2_with fail
  go_at_call 14
  refine (specNewDesk_sep _).mono ?_
  rintro e w1 ⟨psc, qsc, psd, qsd, pse, qse, psf, qsf, psi, qsi, Mcs, Mds, Mes, Mfs, rfl, l0s, l1s, l2s, l3s, l4s, osc, osd, ose, osf, osi, b1⟩
  have fc := Own.fs osc
  have fd := Own.fs osd
  have fe := Own.fs ose
  have ff := Own.fs osf
  have fi := OwnI.is osi
  clear osc osd ose osf osi
  go_wp2_with fail
  go_at_call 15
  refine (implNewDesk_sep _).mono ?_
  rintro e w2 ⟨pgc, qgc, pgd, qgd, pge, qge, pgf, qgf, pgi, qgi, Mcg, Mdg, Meg, Mfg, rfl, l0g, l1g, l2g, l3g, l4g, ogc, ogd, oge, ogf, ogi, b2⟩
  have D2 : Below w1.heap.size w1 w2 := Below.trans (by repeat first | (with_reducible exact Below.refl _ _) | (with_reducible refine Below.setCell ?_ (by first | exact Nat.le_refl _ | (simp; done) | (simp; omega) | omega) _) | (with_reducible refine Below.alloc ?_ (by first | exact Nat.le_refl _ | (simp; done) | (simp; omega) | omega) _) | (with_reducible refine below_drewN ?_ _) | (with_reducible refine Below.drew ?_)) (b2.mono (by simp))
  have s2 : w1.heap.size + 1 ≤ w2.heap.size := by have := b2.size; simp at this; omega
  have B2 := b1.trans (D2.mono b1.size)
  have XS2 : BoxL w2 w1.heap.size [.int .i64 2, .int .i64 2, .slice psc 4 qsc, .slice psd 2 qsd, .slice pse 2 qse, .slice psf 1 qsf, .int .i64 2, .int .i64 2, .slice psi 4 qsi] := BoxL.below (BoxL.nine (by simp [go_sem]) (by simp [go_sem]) (by simp [go_sem]) (by simp [go_sem]) (by simp [go_sem]) (by simp [go_sem]) (by simp [go_sem]) (by simp [go_sem]) (by simp [go_sem])) b2 (by simp)
  replace ogc := Own.mono (B' := w1.heap.size + 1) ogc (by simp) (Nat.le_refl _) (by omega)
  have lg : w1.heap.size + 1 ≤ Mcg := by simp at l0g; omega
  clear b2
  have u0 := XS2 0 _ rfl
  have u1 := XS2 1 _ rfl
  have u2 := XS2 2 _ rfl
  have u3 := XS2 3 _ rfl
  have u4 := XS2 4 _ rfl
  have u5 := XS2 5 _ rfl
  have u6 := XS2 6 _ rfl
  have u7 := XS2 7 _ rfl
  have u8 := XS2 8 _ rfl
  have LS2 : w1.heap.size < w2.heap.size := by omega
  go_wp2_with fail
  go_at_call 11
  refine (eqDesk_any _ _ _ _ _ _ _ _ _ _ _ _ _ _ _ _ _ _ _ _ _ _ _ _ _ _ _ _ _ _ _ _ _ _ _ _ _ _ _ _ (by omega) (by omega) (by omega) (by omega) (by omega) ((Own.fs ogc).below (by repeat first | (with_reducible exact Below.refl _ _) | (with_reducible refine Below.setCell ?_ (by first | exact Nat.le_refl _ | (simp; done) | (simp; omega) | omega) _) | (with_reducible refine Below.alloc ?_ (by first | exact Nat.le_refl _ | (simp; done) | (simp; omega) | omega) _) | (with_reducible refine below_drewN ?_ _) | (with_reducible refine Below.drew ?_)) (Nat.le_refl _)) ((fc.below D2 (Nat.le_refl _)).below (by repeat first | (with_reducible exact Below.refl _ _) | (with_reducible refine Below.setCell ?_ (by first | exact Nat.le_refl _ | (simp; done) | (simp; omega) | omega) _) | (with_reducible refine Below.alloc ?_ (by first | exact Nat.le_refl _ | (simp; done) | (simp; omega) | omega) _) | (with_reducible refine below_drewN ?_ _) | (with_reducible refine Below.drew ?_)) (Nat.le_refl _)) ((Own.fs ogd).below (by repeat first | (with_reducible exact Below.refl _ _) | (with_reducible refine Below.setCell ?_ (by first | exact Nat.le_refl _ | (simp; done) | (simp; omega) | omega) _) | (with_reducible refine Below.alloc ?_ (by first | exact Nat.le_refl _ | (simp; done) | (simp; omega) | omega) _) | (with_reducible refine below_drewN ?_ _) | (with_reducible refine Below.drew ?_)) (Nat.le_refl _)) ((fd.below D2 (Nat.le_refl _)).below (by repeat first | (with_reducible exact Below.refl _ _) | (with_reducible refine Below.setCell ?_ (by first | exact Nat.le_refl _ | (simp; done) | (simp; omega) | omega) _) | (with_reducible refine Below.alloc ?_ (by first | exact Nat.le_refl _ | (simp; done) | (simp; omega) | omega) _) | (with_reducible refine below_drewN ?_ _) | (with_reducible refine Below.drew ?_)) (Nat.le_refl _)) ((Own.fs oge).below (by repeat first | (with_reducible exact Below.refl _ _) | (with_reducible refine Below.setCell ?_ (by first | exact Nat.le_refl _ | (simp; done) | (simp; omega) | omega) _) | (with_reducible refine Below.alloc ?_ (by first | exact Nat.le_refl _ | (simp; done) | (simp; omega) | omega) _) | (with_reducible refine below_drewN ?_ _) | (with_reducible refine Below.drew ?_)) (Nat.le_refl _)) ((fe.below D2 (Nat.le_refl _)).below (by repeat first | (with_reducible exact Below.refl _ _) | (with_reducible refine Below.setCell ?_ (by first | exact Nat.le_refl _ | (simp; done) | (simp; omega) | omega) _) | (with_reducible refine Below.alloc ?_ (by first | exact Nat.le_refl _ | (simp; done) | (simp; omega) | omega) _) | (with_reducible refine below_drewN ?_ _) | (with_reducible refine Below.drew ?_)) (Nat.le_refl _)) ((Own.fs ogf).below (by repeat first | (with_reducible exact Below.refl _ _) | (with_reducible refine Below.setCell ?_ (by first | exact Nat.le_refl _ | (simp; done) | (simp; omega) | omega) _) | (with_reducible refine Below.alloc ?_ (by first | exact Nat.le_refl _ | (simp; done) | (simp; omega) | omega) _) | (with_reducible refine below_drewN ?_ _) | (with_reducible refine Below.drew ?_)) (Nat.le_refl _)) ((ff.below D2 (Nat.le_refl _)).below (by repeat first | (with_reducible exact Below.refl _ _) | (with_reducible refine Below.setCell ?_ (by first | exact Nat.le_refl _ | (simp; done) | (simp; omega) | omega) _) | (with_reducible refine Below.alloc ?_ (by first | exact Nat.le_refl _ | (simp; done) | (simp; omega) | omega) _) | (with_reducible refine below_drewN ?_ _) | (with_reducible refine Below.drew ?_)) (Nat.le_refl _)) ((OwnI.is ogi).below (by repeat first | (with_reducible exact Below.refl _ _) | (with_reducible refine Below.setCell ?_ (by first | exact Nat.le_refl _ | (simp; done) | (simp; omega) | omega) _) | (with_reducible refine Below.alloc ?_ (by first | exact Nat.le_refl _ | (simp; done) | (simp; omega) | omega) _) | (with_reducible refine below_drewN ?_ _) | (with_reducible refine Below.drew ?_)) (Nat.le_refl _)) ((fi.below D2 (Nat.le_refl _)).below (by repeat first | (with_reducible exact Below.refl _ _) | (with_reducible refine Below.setCell ?_ (by first | exact Nat.le_refl _ | (simp; done) | (simp; omega) | omega) _) | (with_reducible refine Below.alloc ?_ (by first | exact Nat.le_refl _ | (simp; done) | (simp; omega) | omega) _) | (with_reducible refine below_drewN ?_ _) | (with_reducible refine Below.drew ?_)) (Nat.le_refl _)) (fun i hi => rfl) (fun i hi => rfl) (fun i hi => rfl) (fun i hi => rfl) (fun i hi => rfl)).mono ?_
  rintro e w3 ⟨rfl, b3⟩
  have D3 : Below w2.heap.size w2 w3 := Below.trans (by repeat first | (with_reducible exact Below.refl _ _) | (with_reducible refine Below.setCell ?_ (by first | exact Nat.le_refl _ | (simp; done) | (simp; omega) | omega) _) | (with_reducible refine Below.alloc ?_ (by first | exact Nat.le_refl _ | (simp; done) | (simp; omega) | omega) _) | (with_reducible refine below_drewN ?_ _) | (with_reducible refine Below.drew ?_)) (b3.mono (by simp))
  have s3 : w2.heap.size + 1 ≤ w3.heap.size := by have := b3.size; simp at this; omega
  have B3 := B2.trans (D3.mono B2.size)
  have DS3 := D2.trans (D3.mono D2.size)
  have XS3 := XS2.below D3 (by omega)
  have XG3 : BoxL w3 w2.heap.size [.int .i64 2, .int .i64 2, .slice pgc 4 qgc, .slice pgd 2 qgd, .slice pge 2 qge, .slice pgf 1 qgf, .int .i64 2, .int .i64 2, .slice pgi 4 qgi] := BoxL.below (BoxL.nine (by simp [go_sem]) (by simp [go_sem]) (by simp [go_sem]) (by simp [go_sem]) (by simp [go_sem]) (by simp [go_sem]) (by simp [go_sem]) (by simp [go_sem]) (by simp [go_sem])) b3 (by simp)
  replace ogc := ogc.kept (below_grew D3) (fun q hq => by cases hq)
  replace ogd := ogd.kept (below_grew D3) (fun q hq => by cases hq)
  replace oge := oge.kept (below_grew D3) (fun q hq => by cases hq)
  replace ogf := ogf.kept (below_grew D3) (fun q hq => by cases hq)
  replace ogi := ogi.kept (below_grew D3) (fun q hq => by cases hq)
  clear b3 XS2 D3 B2 u0 u1 u2 u3 u4 u5 u6 u7 u8
  have u0 := XS3 0 _ rfl
  have v0 := XG3 0 _ rfl
  have u1 := XS3 1 _ rfl
  have v1 := XG3 1 _ rfl
  have u2 := XS3 2 _ rfl
  have v2 := XG3 2 _ rfl
  have u3 := XS3 3 _ rfl
  have v3 := XG3 3 _ rfl
  have u4 := XS3 4 _ rfl
  have v4 := XG3 4 _ rfl
  have u5 := XS3 5 _ rfl
  have v5 := XG3 5 _ rfl
  have u6 := XS3 6 _ rfl
  have v6 := XG3 6 _ rfl
  have u7 := XS3 7 _ rfl
  have v7 := XG3 7 _ rfl
  have u8 := XS3 8 _ rfl
  have v8 := XG3 8 _ rfl
  have LS3 : w1.heap.size < w3.heap.size := by omega
  have LG3 : w2.heap.size < w3.heap.size := by omega
  go_wp2_with fail
  go_at_call 16
  refine (markDesk_sep (w1.heap.size + 1) Mcg Mdg Meg Mfg w2.heap.size _ _ _ _ _ _ _ _ _ _ _ _ _ _ _ _ _ _ _ _ _ _ _ _ 1 _ (by omega) (by omega) (by omega) (by omega) (by omega) (by omega) lg (by omega) (by omega) (by omega) (by omega) (by omega) ogc ogd oge ogf ogi).mono ?_
  rintro e w4 ⟨rfl, omc, omd, ome, omf, omi, G4⟩
  have s4 : w3.heap.size ≤ w4.heap.size := G4.size
  have B4 : Below w.heap.size w w4 := Below.over B3 G4 (by have := b1.size; omega) (by have := b1.size; omega)
  have DS4 : Below w1.heap.size w1 w4 := Below.over DS3 G4 (by omega) (by omega)
  have XS4 := XS3.over G4 (by omega) (.inl (by omega))
  have XG4 := XG3.over G4 (by omega) (.inr (by omega))
  clear G4 XS3 XG3 DS3 B3 u0 v0 u1 v1 u2 v2 u3 v3 u4 v4 u5 v5 u6 v6 u7 v7 u8 v8 ogc ogd oge ogf ogi
  have u0 := XS4 0 _ rfl
  have v0 := XG4 0 _ rfl
  have u1 := XS4 1 _ rfl
  have v1 := XG4 1 _ rfl
  have u2 := XS4 2 _ rfl
  have v2 := XG4 2 _ rfl
  have u3 := XS4 3 _ rfl
  have v3 := XG4 3 _ rfl
  have u4 := XS4 4 _ rfl
  have v4 := XG4 4 _ rfl
  have u5 := XS4 5 _ rfl
  have v5 := XG4 5 _ rfl
  have u6 := XS4 6 _ rfl
  have v6 := XG4 6 _ rfl
  have u7 := XS4 7 _ rfl
  have v7 := XG4 7 _ rfl
  have u8 := XS4 8 _ rfl
  have v8 := XG4 8 _ rfl
  have LS4 : w1.heap.size < w4.heap.size := by omega
  have LG4 : w2.heap.size < w4.heap.size := by omega
  go_wp2_with fail
  go_at_call 17
  refine (heldDesk_any _ _ _ _ _ _ _ _ _ _ _ _ _ _ _ _ _ _ _ _ _ _ _ _ 1 _ (by omega) (by omega) (by omega) (by omega) (by omega) (by omega) (Own.fs omc) (Own.fs omd) (Own.fs ome) (Own.fs omf) (OwnI.is omi) (fun i hi => rfl) (fun i hi => rfl) (fun i hi => rfl) (fun i hi => rfl) (fun i hi => rfl)).mono ?_
  rintro e w5 ⟨rfl, b5⟩
  have s5 : w4.heap.size ≤ w5.heap.size := b5.size
  have B5 := B4.trans (b5.mono B4.size)
  have DS5 := DS4.trans (b5.mono DS4.size)
  have XS5 := XS4.below b5 (by omega)
  have XG5 := XG4.below b5 (by omega)
  replace omc := omc.kept (below_grew b5) (fun q hq => by cases hq)
  replace omd := omd.kept (below_grew b5) (fun q hq => by cases hq)
  replace ome := ome.kept (below_grew b5) (fun q hq => by cases hq)
  replace omf := omf.kept (below_grew b5) (fun q hq => by cases hq)
  replace omi := omi.kept (below_grew b5) (fun q hq => by cases hq)
  clear b5 XS4 XG4 DS4 B4 u0 v0 u1 v1 u2 v2 u3 v3 u4 v4 u5 v5 u6 v6 u7 v7 u8 v8
  have u0 := XS5 0 _ rfl
  have v0 := XG5 0 _ rfl
  have u1 := XS5 1 _ rfl
  have v1 := XG5 1 _ rfl
  have u2 := XS5 2 _ rfl
  have v2 := XG5 2 _ rfl
  have u3 := XS5 3 _ rfl
  have v3 := XG5 3 _ rfl
  have u4 := XS5 4 _ rfl
  have v4 := XG5 4 _ rfl
  have u5 := XS5 5 _ rfl
  have v5 := XG5 5 _ rfl
  have u6 := XS5 6 _ rfl
  have v6 := XG5 6 _ rfl
  have u7 := XS5 7 _ rfl
  have v7 := XG5 7 _ rfl
  have u8 := XS5 8 _ rfl
  have v8 := XG5 8 _ rfl
  have LS5 : w1.heap.size < w5.heap.size := by omega
  have LG5 : w2.heap.size < w5.heap.size := by omega
  go_wp2_with fail
  go_at_call 15
  refine (implNewDesk_sep _).mono ?_
  rintro e w6 ⟨phc, qhc, phd, qhd, phe, qhe, phf, qhf, phi, qhi, Mch, Mdh, Meh, Mfh, rfl, l0h, l1h, l2h, l3h, l4h, ohc, ohd, ohe, ohf, ohi, b6⟩
  have s6 : w5.heap.size ≤ w6.heap.size := b6.size
  have B6 := B5.trans (b6.mono B5.size)
  have DS6 := DS5.trans (b6.mono DS5.size)
  have XS6 := XS5.below b6 (by omega)
  have XG6 := XG5.below b6 (by omega)
  replace omc := omc.kept (below_grew b6) (fun q hq => by cases hq)
  replace omd := omd.kept (below_grew b6) (fun q hq => by cases hq)
  replace ome := ome.kept (below_grew b6) (fun q hq => by cases hq)
  replace omf := omf.kept (below_grew b6) (fun q hq => by cases hq)
  replace omi := omi.kept (below_grew b6) (fun q hq => by cases hq)
  clear b6 XS5 XG5 DS5 B5 u0 v0 u1 v1 u2 v2 u3 v3 u4 v4 u5 v5 u6 v6 u7 v7 u8 v8
  have u0 := XS6 0 _ rfl
  have v0 := XG6 0 _ rfl
  have u1 := XS6 1 _ rfl
  have v1 := XG6 1 _ rfl
  have u2 := XS6 2 _ rfl
  have v2 := XG6 2 _ rfl
  have u3 := XS6 3 _ rfl
  have v3 := XG6 3 _ rfl
  have u4 := XS6 4 _ rfl
  have v4 := XG6 4 _ rfl
  have u5 := XS6 5 _ rfl
  have v5 := XG6 5 _ rfl
  have u6 := XS6 6 _ rfl
  have v6 := XG6 6 _ rfl
  have u7 := XS6 7 _ rfl
  have v7 := XG6 7 _ rfl
  have u8 := XS6 8 _ rfl
  have v8 := XG6 8 _ rfl
  have LS6 : w1.heap.size < w6.heap.size := by omega
  have LG6 : w2.heap.size < w6.heap.size := by omega
  go_wp2_with fail
  go_at_call 11
  refine (eqDesk_any _ _ _ _ _ _ _ _ _ _ _ _ _ _ _ _ _ _ _ _ _ _ _ _ _ _ _ _ _ _ _ _ _ _ _ _ _ _ _ _ (by omega) (by omega) (by omega) (by omega) (by omega) ((Own.fs ohc).below (by repeat first | (with_reducible exact Below.refl _ _) | (with_reducible refine Below.setCell ?_ (by first | exact Nat.le_refl _ | (simp; done) | (simp; omega) | omega) _) | (with_reducible refine Below.alloc ?_ (by first | exact Nat.le_refl _ | (simp; done) | (simp; omega) | omega) _) | (with_reducible refine below_drewN ?_ _) | (with_reducible refine Below.drew ?_)) (Nat.le_refl _)) ((fc.below DS6 (Nat.le_refl _)).below (by repeat first | (with_reducible exact Below.refl _ _) | (with_reducible refine Below.setCell ?_ (by first | exact Nat.le_refl _ | (simp; done) | (simp; omega) | omega) _) | (with_reducible refine Below.alloc ?_ (by first | exact Nat.le_refl _ | (simp; done) | (simp; omega) | omega) _) | (with_reducible refine below_drewN ?_ _) | (with_reducible refine Below.drew ?_)) (Nat.le_refl _)) ((Own.fs ohd).below (by repeat first | (with_reducible exact Below.refl _ _) | (with_reducible refine Below.setCell ?_ (by first | exact Nat.le_refl _ | (simp; done) | (simp; omega) | omega) _) | (with_reducible refine Below.alloc ?_ (by first | exact Nat.le_refl _ | (simp; done) | (simp; omega) | omega) _) | (with_reducible refine below_drewN ?_ _) | (with_reducible refine Below.drew ?_)) (Nat.le_refl _)) ((fd.below DS6 (Nat.le_refl _)).below (by repeat first | (with_reducible exact Below.refl _ _) | (with_reducible refine Below.setCell ?_ (by first | exact Nat.le_refl _ | (simp; done) | (simp; omega) | omega) _) | (with_reducible refine Below.alloc ?_ (by first | exact Nat.le_refl _ | (simp; done) | (simp; omega) | omega) _) | (with_reducible refine below_drewN ?_ _) | (with_reducible refine Below.drew ?_)) (Nat.le_refl _)) ((Own.fs ohe).below (by repeat first | (with_reducible exact Below.refl _ _) | (with_reducible refine Below.setCell ?_ (by first | exact Nat.le_refl _ | (simp; done) | (simp; omega) | omega) _) | (with_reducible refine Below.alloc ?_ (by first | exact Nat.le_refl _ | (simp; done) | (simp; omega) | omega) _) | (with_reducible refine below_drewN ?_ _) | (with_reducible refine Below.drew ?_)) (Nat.le_refl _)) ((fe.below DS6 (Nat.le_refl _)).below (by repeat first | (with_reducible exact Below.refl _ _) | (with_reducible refine Below.setCell ?_ (by first | exact Nat.le_refl _ | (simp; done) | (simp; omega) | omega) _) | (with_reducible refine Below.alloc ?_ (by first | exact Nat.le_refl _ | (simp; done) | (simp; omega) | omega) _) | (with_reducible refine below_drewN ?_ _) | (with_reducible refine Below.drew ?_)) (Nat.le_refl _)) ((Own.fs ohf).below (by repeat first | (with_reducible exact Below.refl _ _) | (with_reducible refine Below.setCell ?_ (by first | exact Nat.le_refl _ | (simp; done) | (simp; omega) | omega) _) | (with_reducible refine Below.alloc ?_ (by first | exact Nat.le_refl _ | (simp; done) | (simp; omega) | omega) _) | (with_reducible refine below_drewN ?_ _) | (with_reducible refine Below.drew ?_)) (Nat.le_refl _)) ((ff.below DS6 (Nat.le_refl _)).below (by repeat first | (with_reducible exact Below.refl _ _) | (with_reducible refine Below.setCell ?_ (by first | exact Nat.le_refl _ | (simp; done) | (simp; omega) | omega) _) | (with_reducible refine Below.alloc ?_ (by first | exact Nat.le_refl _ | (simp; done) | (simp; omega) | omega) _) | (with_reducible refine below_drewN ?_ _) | (with_reducible refine Below.drew ?_)) (Nat.le_refl _)) ((OwnI.is ohi).below (by repeat first | (with_reducible exact Below.refl _ _) | (with_reducible refine Below.setCell ?_ (by first | exact Nat.le_refl _ | (simp; done) | (simp; omega) | omega) _) | (with_reducible refine Below.alloc ?_ (by first | exact Nat.le_refl _ | (simp; done) | (simp; omega) | omega) _) | (with_reducible refine below_drewN ?_ _) | (with_reducible refine Below.drew ?_)) (Nat.le_refl _)) ((fi.below DS6 (Nat.le_refl _)).below (by repeat first | (with_reducible exact Below.refl _ _) | (with_reducible refine Below.setCell ?_ (by first | exact Nat.le_refl _ | (simp; done) | (simp; omega) | omega) _) | (with_reducible refine Below.alloc ?_ (by first | exact Nat.le_refl _ | (simp; done) | (simp; omega) | omega) _) | (with_reducible refine below_drewN ?_ _) | (with_reducible refine Below.drew ?_)) (Nat.le_refl _)) (fun i hi => rfl) (fun i hi => rfl) (fun i hi => rfl) (fun i hi => rfl) (fun i hi => rfl)).mono ?_
  rintro e w7 ⟨rfl, b7a⟩
  have b7 : Below w6.heap.size w6 w7 := Below.trans (by repeat first | (with_reducible exact Below.refl _ _) | (with_reducible refine Below.setCell ?_ (by first | exact Nat.le_refl _ | (simp; done) | (simp; omega) | omega) _) | (with_reducible refine Below.alloc ?_ (by first | exact Nat.le_refl _ | (simp; done) | (simp; omega) | omega) _) | (with_reducible refine below_drewN ?_ _) | (with_reducible refine Below.drew ?_)) (b7a.mono (by simp))
  clear b7a
  have s7 : w6.heap.size ≤ w7.heap.size := b7.size
  have B7 := B6.trans (b7.mono B6.size)
  have DS7 := DS6.trans (b7.mono DS6.size)
  have XS7 := XS6.below b7 (by omega)
  have XG7 := XG6.below b7 (by omega)
  replace omc := omc.kept (below_grew b7) (fun q hq => by cases hq)
  replace omd := omd.kept (below_grew b7) (fun q hq => by cases hq)
  replace ome := ome.kept (below_grew b7) (fun q hq => by cases hq)
  replace omf := omf.kept (below_grew b7) (fun q hq => by cases hq)
  replace omi := omi.kept (below_grew b7) (fun q hq => by cases hq)
  clear b7 XS6 XG6 DS6 B6 u0 v0 u1 v1 u2 v2 u3 v3 u4 v4 u5 v5 u6 v6 u7 v7 u8 v8
  have u0 := XS7 0 _ rfl
  have v0 := XG7 0 _ rfl
  have u1 := XS7 1 _ rfl
  have v1 := XG7 1 _ rfl
  have u2 := XS7 2 _ rfl
  have v2 := XG7 2 _ rfl
  have u3 := XS7 3 _ rfl
  have v3 := XG7 3 _ rfl
  have u4 := XS7 4 _ rfl
  have v4 := XG7 4 _ rfl
  have u5 := XS7 5 _ rfl
  have v5 := XG7 5 _ rfl
  have u6 := XS7 6 _ rfl
  have v6 := XG7 6 _ rfl
  have u7 := XS7 7 _ rfl
  have v7 := XG7 7 _ rfl
  have u8 := XS7 8 _ rfl
  have v8 := XG7 8 _ rfl
  have LS7 : w1.heap.size < w7.heap.size := by omega
  have LG7 : w2.heap.size < w7.heap.size := by omega
  go_wp2_with fail
  go_at_call 17
  refine (heldDesk_any _ _ _ _ _ _ _ _ _ _ _ _ _ _ _ _ _ _ _ _ _ _ _ _ 1 _ (by omega) (by omega) (by omega) (by omega) (by omega) (by omega) (Own.fs omc) (Own.fs omd) (Own.fs ome) (Own.fs omf) (OwnI.is omi) (fun i hi => rfl) (fun i hi => rfl) (fun i hi => rfl) (fun i hi => rfl) (fun i hi => rfl)).mono ?_
  rintro e w8 ⟨rfl, b8⟩
  have B8 := B7.trans (b8.mono B7.size)
  go_wp2_with fail
  go_ret
  exact ⟨rfl, B8⟩
end Go.Proofs.Ytmddhhmgfhljiab
