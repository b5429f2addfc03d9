/- The walk of laws.FnExactWhitesIn. -/
import Derived.Test.YtdagkbgobnaijabHl5
import Derived.Test.YtdagkbgobnaijabCc1
import Derived.Test.YtdagkbgobnaijabCs1
import Derived.Test.YtdagkbgobnaijabCe1
namespace Go.Proofs.Ytdagkbgobnaijab
open Go.RowKit Ph

set_option maxHeartbeats 12800000 in
set_option maxRecDepth 100000 in
theorem core_FnExactWhitesIn (vx : Value) (zx : List Int) (gs : List Int) (ok : Bool) (w : World) (hzx : IntsAt w vx zx)  (hlx : zx.length ≤ 1048576) (hrs : gs.length ≤ 1000)
    (hS : ∀ (w : World) (vx : Value), IntsAt w vx zx → Calls Try.prog 62 #[vx] w (EndI gs ok w))
    (hI : ∀ (w : World) (vx : Value), IntsAt w vx zx → Calls Try.prog 61 #[vx] w (EndI gs ok w)) :
    Calls Try.prog 10 #[vx] w fun e w' => e = .returned (.bool true) ∧ Below w.heap.size w w' := by
  have HZx := Lib.hid hzx
  have HS := Lib.hid hS; have HI := Lib.hid hI
  clear hS hI
  obtain ⟨pAx, qAx, rfl⟩ := hzx.shape
  clear hzx
  have HLx := Lib.hid hlx
  have HRS := Lib.hid hrs
  clear hrs
  generalize hnx : zx.length = nx at *
  have HNx := Lib.hid hnx; clear hnx
  have hbx : ¬ ((1048576 : Int) < (nx : Int)) := by omega
  generalize hngl : gs.length = gl at *
  have HNgl := Lib.hid hngl; clear hngl
  have e1 : (ok != ok) = false := by simp
  have L := Below.refl w.heap.size w
  go_enter Try.func10, Try.ntmps10
  go_wp2_with fail
  refine (c_toIntS (.slice pAx nx qAx) zx _ (IntsAt.below HZx.out L) (by rw [HNx.out]; exact HLx.out)).mono ?_
  rintro e wsx1 ⟨csx, rfl, ho1, hb⟩
  have ho := OwnH.ofInts ho1 hb
  clear ho1
  try simp only [World.size_alloc] at ho
  have hsh := ho.shapes
  simp only [HNx.out] at hsh
  obtain ⟨_, _, ⟨pcsx, qcsx, rfl⟩⟩ := hsh
  have hs0 := hb.size
  try simp only [World.size_alloc] at hs0
  replace L := bst L hb L.size
  clear hb
  have Osx := ho
  clear ho
  go_wp2_with fail
  refine (HS.out _ (.slice pcsx nx qcsx) Osx.reads.r).mono ?_
  rintro e wW ⟨cW, rfl, ho, hb⟩
  try simp only [World.size_alloc] at ho
  have hsh := ho.shapes
  simp only [HNgl.out] at hsh
  obtain ⟨_, _, ⟨pcW, qcW, rfl⟩⟩ := hsh
  replace Osx := OwnH.below Osx hb
  have hs1 := hb.size
  try simp only [World.size_alloc] at hs1
  replace L := bst L hb L.size
  clear hb
  have OW := ho
  clear ho
  clear Osx
  go_wp2_with fail
  refine (c_toIntS (.slice pAx nx qAx) zx _ (IntsAt.below HZx.out L) (by rw [HNx.out]; exact HLx.out)).mono ?_
  rintro e wXx ⟨cXx, rfl, ho1, hb⟩
  have ho := OwnH.ofInts ho1 hb
  clear ho1
  try simp only [World.size_alloc] at ho
  have hsh := ho.shapes
  simp only [HNx.out] at hsh
  obtain ⟨_, _, ⟨pcXx, qcXx, rfl⟩⟩ := hsh
  replace OW := OwnH.below OW hb
  have hs2 := hb.size
  try simp only [World.size_alloc] at hs2
  replace L := bst L hb L.size
  clear hb
  have OXx := ho
  clear ho
  go_wp2_with fail
  refine (HI.out _ (.slice pcXx nx qcXx) OXx.reads.r).mono ?_
  rintro e wG ⟨cG, rfl, ho, hb⟩
  try simp only [World.size_alloc] at ho
  have hsh := ho.shapes
  simp only [HNgl.out] at hsh
  obtain ⟨_, _, ⟨pcG, qcG, rfl⟩⟩ := hsh
  replace OW := OwnH.below OW hb
  replace OXx := OwnH.below OXx hb
  have hs3 := hb.size
  try simp only [World.size_alloc] at hs3
  replace L := bst L hb L.size
  clear hb
  have OG := ho
  clear ho
  go_wp2_with fail
  refine (c_eqIntS (.slice pcG gl qcG) (.slice pcW gl qcW) gs gs _ OG.reads.r OW.reads.r (by rw [HNgl.out]; have := HRS.out; omega)).mono ?_
  rintro e w1e ⟨hre, nd, hnd⟩
  rw [decide_eq_true rfl] at hre
  subst hre
  have hb : Below wG.heap.size wG w1e := by rw [hnd]; exact below_drewN (Below.refl _ _) nd
  clear hnd nd
  replace OW := OwnH.below OW hb
  replace OXx := OwnH.below OXx hb
  replace OG := OwnH.below OG hb
  have hs4 := hb.size
  try simp only [World.size_alloc] at hs4
  replace L := bst L hb L.size
  clear hb
  go_wp2_with fail
  refine (c_toIntS (.slice pAx nx qAx) zx _ (IntsAt.below HZx.out L) (by rw [HNx.out]; exact HLx.out)).mono ?_
  rintro e wDx ⟨cDx, rfl, ho1, hb⟩
  have ho := OwnH.ofInts ho1 hb
  clear ho1
  try simp only [World.size_alloc] at ho
  have hsh := ho.shapes
  simp only [HNx.out] at hsh
  obtain ⟨_, _, ⟨pcDx, qcDx, rfl⟩⟩ := hsh
  replace OW := OwnH.below OW hb
  replace OXx := OwnH.below OXx hb
  replace OG := OwnH.below OG hb
  have hs5 := hb.size
  try simp only [World.size_alloc] at hs5
  replace L := bst L hb L.size
  clear hb
  have ODx := ho
  clear ho
  go_wp2_with fail
  refine (c_eqIntS (.slice pcXx nx qcXx) (.slice pcDx nx qcDx) zx zx _ OXx.reads.r ODx.reads.r (by rw [HNx.out]; have := HLx.out; omega)).mono ?_
  rintro e wEx ⟨hre, nd, hnd⟩
  rw [decide_eq_true rfl] at hre
  subst hre
  have hb : Below wDx.heap.size wDx wEx := by rw [hnd]; exact below_drewN (Below.refl _ _) nd
  clear hnd nd
  replace OW := OwnH.below OW hb
  replace OXx := OwnH.below OXx hb
  replace OG := OwnH.below OG hb
  replace ODx := OwnH.below ODx hb
  have hs6 := hb.size
  try simp only [World.size_alloc] at hs6
  replace L := bst L hb L.size
  clear hb
  clear ODx
  go_wp2_with fail
  refine (c_markRoots _ _ _ _ (.slice pcXx nx qcXx) _ (1) _ OXx (by omega) (by simp only [HNx.out]; have := HLx.out; omega)).mono ?_
  rintro e wmx ⟨rfl, ho, hch⟩
  simp only [HNx.out] at ho ⊢
  replace OW := OwnH.chg OW hch (by omega)
  replace OG := OwnH.chg OG hch (by omega)
  have hs7 := hch.size
  replace L := below_chg L hch (by omega) L.size
  clear hch
  clear OXx ho
  go_wp2_with fail
  refine (c_eqIntS (.slice pcG gl qcG) (.slice pcW gl qcW) gs gs _ OG.reads.r OW.reads.r (by rw [HNgl.out]; have := HRS.out; omega)).mono ?_
  rintro e w2e ⟨hre, nd, hnd⟩
  rw [decide_eq_true rfl] at hre
  subst hre
  have hb : Below wmx.heap.size wmx w2e := by rw [hnd]; exact below_drewN (Below.refl _ _) nd
  clear hnd nd
  replace OW := OwnH.below OW hb
  replace OG := OwnH.below OG hb
  have hs8 := hb.size
  try simp only [World.size_alloc] at hs8
  replace L := bst L hb L.size
  clear hb
  go_wp2_with fail
  refine (c_markRoots _ _ _ _ (.slice pcG gl qcG) _ (1) _ OG (by omega) (by simp only [HNgl.out]; have := HRS.out; omega)).mono ?_
  rintro e wmG ⟨rfl, ho, hch⟩
  simp only [HNgl.out] at ho ⊢
  replace OW := OwnH.chg OW hch (by omega)
  have hs9 := hch.size
  replace L := below_chg L hch (by omega) L.size
  clear hch
  replace OG := ho
  clear ho
  go_wp2_with fail
  refine (c_heldIntS (.slice pcG gl qcG) gl 1 _ OG.reads.r (by omega) (by have := HRS.out; omega)).mono ?_
  rintro e wh1 ⟨rfl, hw⟩
  have hb : Below wmG.heap.size wmG wh1 := by rw [← hw]; exact Below.refl _ _
  clear hw
  replace OW := OwnH.below OW hb
  replace OG := OwnH.below OG hb
  have hs10 := hb.size
  try simp only [World.size_alloc] at hs10
  replace L := bst L hb L.size
  clear hb
  go_wp2_with fail
  refine (c_toIntS (.slice pAx nx qAx) zx _ (IntsAt.below HZx.out L) (by rw [HNx.out]; exact HLx.out)).mono ?_
  rintro e wtx1 ⟨ctx, rfl, ho1, hb⟩
  have ho := OwnH.ofInts ho1 hb
  clear ho1
  try simp only [World.size_alloc] at ho
  have hsh := ho.shapes
  simp only [HNx.out] at hsh
  obtain ⟨_, _, ⟨pctx, qctx, rfl⟩⟩ := hsh
  replace OW := OwnH.below OW hb
  replace OG := OwnH.below OG hb
  have hs11 := hb.size
  try simp only [World.size_alloc] at hs11
  replace L := bst L hb L.size
  clear hb
  have Otx := ho
  clear ho
  go_wp2_with fail
  refine (HI.out _ (.slice pctx nx qctx) Otx.reads.r).mono ?_
  rintro e wH ⟨cH, rfl, ho, hb⟩
  try simp only [World.size_alloc] at ho
  have hsh := ho.shapes
  simp only [HNgl.out] at hsh
  obtain ⟨_, _, ⟨pcH, qcH, rfl⟩⟩ := hsh
  replace OW := OwnH.below OW hb
  replace OG := OwnH.below OG hb
  replace Otx := OwnH.below Otx hb
  have hs12 := hb.size
  try simp only [World.size_alloc] at hs12
  replace L := bst L hb L.size
  clear hb
  have OH := ho
  clear ho
  clear Otx
  go_wp2_with fail
  refine (c_eqIntS (.slice pcH gl qcH) (.slice pcW gl qcW) gs gs _ OH.reads.r OW.reads.r (by rw [HNgl.out]; have := HRS.out; omega)).mono ?_
  rintro e w3e ⟨hre, nd, hnd⟩
  rw [decide_eq_true rfl] at hre
  subst hre
  have hb : Below wH.heap.size wH w3e := by rw [hnd]; exact below_drewN (Below.refl _ _) nd
  clear hnd nd
  replace OW := OwnH.below OW hb
  replace OG := OwnH.below OG hb
  replace OH := OwnH.below OH hb
  have hs13 := hb.size
  try simp only [World.size_alloc] at hs13
  replace L := bst L hb L.size
  clear hb
  go_wp2_with fail
  refine (c_heldIntS (.slice pcG gl qcG) gl 1 _ OG.reads.r (by omega) (by have := HRS.out; omega)).mono ?_
  rintro e wh2 ⟨rfl, hw⟩
  have hb : Below w3e.heap.size w3e wh2 := by rw [← hw]; exact Below.refl _ _
  clear hw
  replace OW := OwnH.below OW hb
  replace OG := OwnH.below OG hb
  replace OH := OwnH.below OH hb
  have hs14 := hb.size
  try simp only [World.size_alloc] at hs14
  replace L := bst L hb L.size
  clear hb
  go_wp2
  go_ret
  exact ⟨rfl, L⟩
set_option maxHeartbeats 1600000 in
set_option maxRecDepth 100000 in
theorem walk_FnExactWhitesIn (vx : Value) (zx : List Int) (w : World) (hzx : IntsAt w vx zx) (hnx : zx.length ≤ 9223372036854775807) : Calls Try.prog 10 #[vx] w fun e w' => e = .returned (.bool true) ∧ Below w.heap.size w w' := by
  by_cases hlox : 1048576 < zx.length
  · have HB0 := Lib.hid (Below.refl w.heap.size w)
    obtain ⟨pA, qA, rfl⟩ := hzx.shape
    have hbl : (1048576 : Int) < (zx.length : Int) := by omega
    generalize zx.length = n at *
    go_enter Try.func10, Try.ntmps10
    go_wp2
    go_ret
    exact ⟨rfl, HB0.out⟩
  have hlx : zx.length ≤ 1048576 := by omega
  clear hlox
  exact core_FnExactWhitesIn vx zx (ofR zx 0) (colsB zx) w hzx hlx (ofR_len zx 0) (fun w v h => s_WhitesIn v zx w h) (fun w v h => c_WhitesIn v zx w h)
end Go.Proofs.Ytdagkbgobnaijab
