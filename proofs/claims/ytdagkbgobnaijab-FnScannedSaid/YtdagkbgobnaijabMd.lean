/- laws.FnScanned: for every input the law answers true, and the input reads as it did. No condition. -/
import Derived.Test.YtdagkbgobnaijabMc
import Derived.Test.YtdagkbgobnaijabLift5
namespace Go.Proofs.Ytdagkbgobnaijab.Ph
theorem scan_get {cs zs : List Int} {k : Nat} (hk : k < cs.length) (i : Nat) : (scan cs zs k).getD i 0 = if i = k then 2 else if cs.getD i 0 = 0 ∧ i < cs.length ∧ (i : Int) ∈ zs then 1 else cs.getD i 0 := by
  unfold scan
  rw [shades_get, getD_setI hk, List.length_set]
  by_cases e : i = k
  · rw [if_pos e, if_pos e, if_neg (by omega)]
  · rw [if_neg e, if_neg e]
/-- What a scan leaves. -/
theorem scan_facts {h : H} {cs : List Int} {k : Int} (hok : scanOk h cs k = true) : ∃ t : Nat, k = t ∧ t < cs.length ∧ cs.length = h.f.length ∧ (scanR h cs k).length = cs.length ∧ (∀ i, cs.getD i 0 ≤ (scanR h cs k).getD i 0) ∧ (scanR h cs k).getD t 0 = 2 ∧ (∀ z ∈ h.f.getD t [], -1 ≤ z ∧ z < cs.length ∧ (0 ≤ z → (scanR h cs k).getD z.toNat 0 ≠ 0)) ∧ (h.f.getD t []).length ≤ 3 := by
  have hok' := hok
  unfold scanOk at hok'
  simp only [Bool.and_eq_true, decide_eq_true_eq] at hok'
  obtain ⟨⟨hb, hh⟩, h1⟩ := hok'
  obtain ⟨g, hl, hc⟩ := bothB_iff.1 hb
  obtain ⟨t, rfl, ht⟩ := hasB_nat hh
  rw [Int.toNat_natCast] at h1
  have he : scanR h cs (t : Int) = scan cs (h.f.getD t []) t := by rw [scanR_yes hok, Int.toNat_natCast]
  rw [he]
  refine ⟨t, rfl, ht, hl, scan_len _ _ _, fun i => ?_, by rw [scan_get ht, if_pos rfl], fun z hz => ?_, (g.row t (by omega)).1⟩
  · rw [scan_get ht]
    have := hc i
    split
    · omega
    · split <;> omega
  · rcases g.field hz with e | ⟨z0, z1, _⟩
    · exact ⟨by omega, by omega, fun q => by omega⟩
    · refine ⟨by omega, by omega, fun _ => ?_⟩
      rw [scan_get ht]
      split
      · omega
      · split
        · omega
        · next q1 q2 =>
          intro q
          exact q2 ⟨q, by omega, by rw [Int.toNat_of_nonneg z0]; exact hz⟩
theorem has_of {cs : List Int} {c : Int} {j : Nat} (hj : j < cs.length) (hok : colsB cs = true) : decide ((j : Int) ∈ ofR cs c) = (cs.getD j 0 == c) := by
  unfold ofR
  rw [hok, if_pos rfl, Bool.eq_iff_iff, decide_eq_true_eq, mem_ofC, beq_iff_eq]
  constructor
  · rintro ⟨i, _, h2, h3⟩
    have : i = j := by omega
    rw [← this]; exact h2
  · exact fun h => ⟨j, hj, h, rfl⟩
end Go.Proofs.Ytdagkbgobnaijab.Ph
namespace Go.Proofs.Ytdagkbgobnaijab
open Go.RowKit Ph

theorem EndI.reads {zs : List Int} {ok : Bool} {w w' : World} {e : Ending} (h : EndI zs ok w e w') : ∃ v, e = .returned (.tuple #[v, .bool ok]) ∧ IntsAt w' v zs ∧ Below w.heap.size w w' := by
  obtain ⟨v, h1, h2, h3⟩ := h
  exact ⟨v, h1, h2.reads.r, h3⟩
set_option maxHeartbeats 12800000 in
set_option maxRecDepth 100000 in
theorem walk_FnScanned (v0 : Value) (z0 : List Int) (v1 : Value) (z1 : List Int) (w : World) (hz0 : BytesAt w v0 z0) (hz1 : BytesAt w v1 z1) : Calls Try.prog 7 #[v0, v1] w fun e w' => e = .returned (.bool true) ∧ Below w.heap.size w w' := by
  obtain ⟨_, _, a0, ca0, hv0, _⟩ := id hz0
  obtain ⟨_, _, a2, ca2, hv2, _⟩ := id hz1
  have HZ := Lib.hid hz0; have M1 := Lib.hid hz1; clear hz0 hz1
  subst hv0
  subst hv2
  generalize hn : z0.length = n at *
  generalize hn2 : z1.length = n2 at *
  clear hn hn2
  by_cases hm : 1048576 < Go.RowKit.wrap64 ((n : Int) + (n2 : Int))
  · go_enter Try.func7, Try.ntmps7
    go_wp2
    go_ret
    exact ⟨rfl, Below.refl _ _⟩
  have L := Lib.hid (Below.refl w.heap.size w)
  go_enter Try.func7, Try.ntmps7
  go_wp2_with fail
  refine (d_ScanThing _ z0 _ HZ.out).mono ?_
  rintro e w1 ⟨a, b, cc, h, v, l, k, rfl, hsh, hl20, hA, hI, hk, hb⟩
  clear HZ
  obtain ⟨pa, qa, rfl⟩ := hA.f.shape
  obtain ⟨pb, qb, rfl⟩ := hA.l.shape
  obtain ⟨pc, qc, rfl⟩ := hA.r.shape
  obtain ⟨pv, qv, rfl⟩ := hI.shape
  have HA := Lib.hid hA; have HI := Lib.hid hI
  have FS := Lib.hid (scan_facts (h := h) (cs := l) (k := k))
  have HLS : Hid (∀ X : List Int, X = scanR h l k → X.length ≤ 1000) := fun X q => by rw [q]; exact scanR_len h l k
  have HCS : Hid (∀ w', HeapAt w' (.slice pa h.f.length qa) (.slice pb h.l.length qb) (.slice pc h.r.length qc) h → IntsAt w' (.slice pv l.length qv) l → Calls Try.prog 57 #[hv (.slice pa h.f.length qa) (.slice pb h.l.length qb) (.slice pc h.r.length qc), .slice pv l.length qv, .int .i64 k] w' (EndI (scanR h l k) (scanOk h l k) w')) := fun w' q1 q2 => c_ScanThing _ _ _ _ h l k w' q1 q2
  have HSS : Hid (∀ w', HeapAt w' (.slice pa h.f.length qa) (.slice pb h.l.length qb) (.slice pc h.r.length qc) h → IntsAt w' (.slice pv l.length qv) l → Calls Try.prog 58 #[hv (.slice pa h.f.length qa) (.slice pb h.l.length qb) (.slice pc h.r.length qc), .slice pv l.length qv, .int .i64 k] w' (EndI (scanR h l k) (scanOk h l k) w')) := fun w' q1 q2 => s_ScanThing _ _ _ _ h l k w' q1 q2
  clear hA hI hsh
  generalize scanR h l k = s at *
  generalize scanOk h l k = ok at *
  generalize h.f.length = nf at *
  generalize h.l.length = nl at *
  generalize h.r.length = nr at *
  generalize hml : l.length = m at *
  have HML := Lib.hid hml; clear hml
  replace M1 := Lib.hid (M1.out.below hb)
  replace L := Lib.hid (bst L.out hb L.out.size)
  clear hb
  have hbq := below1 w1 (.cells (c3 (.slice pa nf qa) (.slice pb nl qb) (.slice pc nr qc)) 27)
  replace M1 := Lib.hid (M1.out.below hbq)
  replace HA := Lib.hid (HA.out.below hbq)
  replace HI := Lib.hid (HI.out.below hbq)
  replace L := Lib.hid (bst L.out hbq L.out.size)
  clear hbq
  have VH := Lib.hid (show RowH _ _ _ _ _ from Row.new w1 27 (c3 (.slice pa nf qa) (.slice pb nl qb) (.slice pc nr qc)))
  have c0 := VH.out.c0
  have c1 := VH.out.c1
  have c2 := VH.out.c2
  go_wp2_with fail
  clear c0 c1 c2
  refine (HCS.out _ HA.out HI.out).mono ?_
  intro e w2 hend
  obtain ⟨vG, rfl, hiG, hb⟩ := hend.reads
  clear hend
  obtain ⟨pG, qG, rfl⟩ := hiG.shape
  replace M1 := Lib.hid (M1.out.below hb)
  replace HA := Lib.hid (HA.out.below hb)
  replace HI := Lib.hid (HI.out.below hb)
  replace VH := Lib.hid (VH.out.below hb)
  replace L := Lib.hid (bst L.out hb L.out.size)
  have IG := Lib.hid hiG
  clear hb hiG
  have c0 := VH.out.c0
  have c1 := VH.out.c1
  have c2 := VH.out.c2
  go_wp2_with fail
  clear c0 c1 c2
  refine (HSS.out _ HA.out HI.out).mono ?_
  intro e w3 hend
  obtain ⟨vW, rfl, hiW, hb⟩ := hend.reads
  clear hend
  obtain ⟨pW, qW, rfl⟩ := hiW.shape
  replace M1 := Lib.hid (M1.out.below hb)
  replace HA := Lib.hid (HA.out.below hb)
  replace HI := Lib.hid (HI.out.below hb)
  replace VH := Lib.hid (VH.out.below hb)
  replace IG := Lib.hid (IG.out.below hb)
  replace L := Lib.hid (bst L.out hb L.out.size)
  have IW := Lib.hid hiW
  clear hb hiW
  have e1 : (ok != ok) = false := by simp
  go_wp2_with fail
  refine (c_sameInts _ _ s s _ IG.out IW.out (by have := HLS.out _ rfl; omega)).mono ?_
  rintro e w4 ⟨hre, nd, hnd⟩
  rw [decide_eq_true rfl] at hre
  subst hre
  have hb : Below w3.heap.size w3 w4 := by rw [hnd]; exact below_drewN (Below.refl _ _) nd
  clear hnd nd
  replace M1 := Lib.hid (M1.out.below hb)
  replace HA := Lib.hid (HA.out.below hb)
  replace HI := Lib.hid (HI.out.below hb)
  replace VH := Lib.hid (VH.out.below hb)
  replace IG := Lib.hid (IG.out.below hb)
  replace IW := Lib.hid (IW.out.below hb)
  replace L := Lib.hid (bst L.out hb L.out.size)
  clear hb
  cases ok
  · skip
    go_wp2_with fail
    refine (d_GreysIn _ z1 _ M1.out).mono ?_
    rintro e x1a ⟨v5, l5, rfl, hl5, hi5, hb⟩
    obtain ⟨p5, q5, rfl⟩ := hi5.shape
    replace M1 := Lib.hid (M1.out.below hb)
    replace HA := Lib.hid (HA.out.below hb)
    replace HI := Lib.hid (HI.out.below hb)
    replace VH := Lib.hid (VH.out.below hb)
    replace IG := Lib.hid (IG.out.below hb)
    replace IW := Lib.hid (IW.out.below hb)
    replace L := Lib.hid (bst L.out hb L.out.size)
    have I5 := Lib.hid hi5
    have HG1 := Lib.hid (fun w' q => c_GreysIn (.slice p5 l5.length q5) l5 w' q); have HG2 := Lib.hid (fun w' q => s_GreysIn (.slice p5 l5.length q5) l5 w' q)
    have HW1 := Lib.hid (fun w' q => c_WhitesIn (.slice p5 l5.length q5) l5 w' q); have HW2 := Lib.hid (fun w' q => s_WhitesIn (.slice p5 l5.length q5) l5 w' q)
    have FG : Hid (∀ j, j < l5.length → colsB l5 = true → decide ((j : Int) ∈ ofR l5 1) = (l5.getD j 0 == 1)) := fun j q1 q2 => has_of q1 q2
    have FW : Hid (∀ j, j < l5.length → colsB l5 = true → decide ((j : Int) ∈ ofR l5 0) = (l5.getD j 0 == 0)) := fun j q1 q2 => has_of q1 q2
    have LG : Hid (∀ X : List Int, X = ofR l5 1 → X.length ≤ 1000) := fun X q => by rw [q]; exact ofR_len l5 1
    have LW : Hid (∀ X : List Int, X = ofR l5 0 → X.length ≤ 1000) := fun X q => by rw [q]; exact ofR_len l5 0
    clear hb hi5
    generalize ofR l5 1 = g1 at *
    generalize ofR l5 0 = g0 at *
    generalize colsB l5 = ok5 at *
    generalize hm5 : l5.length = m5 at *
    have HM5 := Lib.hid hm5; clear hm5
    go_wp2_with fail
    refine (HG1.out _ I5.out).mono ?_
    intro e x2a hend
    obtain ⟨va1, rfl, hia1, hb⟩ := hend.reads
    clear hend
    obtain ⟨pa1, qa1, rfl⟩ := hia1.shape
    replace M1 := Lib.hid (M1.out.below hb)
    replace HA := Lib.hid (HA.out.below hb)
    replace HI := Lib.hid (HI.out.below hb)
    replace VH := Lib.hid (VH.out.below hb)
    replace IG := Lib.hid (IG.out.below hb)
    replace IW := Lib.hid (IW.out.below hb)
    replace I5 := Lib.hid (I5.out.below hb)
    replace L := Lib.hid (bst L.out hb L.out.size)
    have J1 := Lib.hid hia1
    clear hb hia1
    go_wp2_with fail
    refine (HG2.out _ I5.out).mono ?_
    intro e x3a hend
    obtain ⟨va2, rfl, hia2, hb⟩ := hend.reads
    clear hend
    obtain ⟨pa2, qa2, rfl⟩ := hia2.shape
    replace M1 := Lib.hid (M1.out.below hb)
    replace HA := Lib.hid (HA.out.below hb)
    replace HI := Lib.hid (HI.out.below hb)
    replace VH := Lib.hid (VH.out.below hb)
    replace IG := Lib.hid (IG.out.below hb)
    replace IW := Lib.hid (IW.out.below hb)
    replace I5 := Lib.hid (I5.out.below hb)
    replace J1 := Lib.hid (J1.out.below hb)
    replace L := Lib.hid (bst L.out hb L.out.size)
    have J2 := Lib.hid hia2
    clear hb hia2
    go_wp2_with fail
    refine (HW1.out _ I5.out).mono ?_
    intro e x4a hend
    obtain ⟨va3, rfl, hia3, hb⟩ := hend.reads
    clear hend
    obtain ⟨pa3, qa3, rfl⟩ := hia3.shape
    replace M1 := Lib.hid (M1.out.below hb)
    replace HA := Lib.hid (HA.out.below hb)
    replace HI := Lib.hid (HI.out.below hb)
    replace VH := Lib.hid (VH.out.below hb)
    replace IG := Lib.hid (IG.out.below hb)
    replace IW := Lib.hid (IW.out.below hb)
    replace I5 := Lib.hid (I5.out.below hb)
    replace J1 := Lib.hid (J1.out.below hb)
    replace J2 := Lib.hid (J2.out.below hb)
    replace L := Lib.hid (bst L.out hb L.out.size)
    have J3 := Lib.hid hia3
    clear hb hia3
    go_wp2_with fail
    refine (HW2.out _ I5.out).mono ?_
    intro e x5a hend
    obtain ⟨va4, rfl, hia4, hb⟩ := hend.reads
    clear hend
    obtain ⟨pa4, qa4, rfl⟩ := hia4.shape
    replace M1 := Lib.hid (M1.out.below hb)
    replace HA := Lib.hid (HA.out.below hb)
    replace HI := Lib.hid (HI.out.below hb)
    replace VH := Lib.hid (VH.out.below hb)
    replace IG := Lib.hid (IG.out.below hb)
    replace IW := Lib.hid (IW.out.below hb)
    replace I5 := Lib.hid (I5.out.below hb)
    replace J1 := Lib.hid (J1.out.below hb)
    replace J2 := Lib.hid (J2.out.below hb)
    replace J3 := Lib.hid (J3.out.below hb)
    replace L := Lib.hid (bst L.out hb L.out.size)
    have J4 := Lib.hid hia4
    clear hb hia4
    go_wp2_with fail
    refine (d_ShadeThing _ z1 _ M1.out).mono ?_
    rintro e x6a ⟨v6, l6, k6, rfl, hl6, hi6, hb⟩
    obtain ⟨p6, q6, rfl⟩ := hi6.shape
    replace M1 := Lib.hid (M1.out.below hb)
    replace HA := Lib.hid (HA.out.below hb)
    replace HI := Lib.hid (HI.out.below hb)
    replace VH := Lib.hid (VH.out.below hb)
    replace IG := Lib.hid (IG.out.below hb)
    replace IW := Lib.hid (IW.out.below hb)
    replace I5 := Lib.hid (I5.out.below hb)
    replace J1 := Lib.hid (J1.out.below hb)
    replace J2 := Lib.hid (J2.out.below hb)
    replace J3 := Lib.hid (J3.out.below hb)
    replace J4 := Lib.hid (J4.out.below hb)
    replace L := Lib.hid (bst L.out hb L.out.size)
    have I6 := Lib.hid hi6
    have HS1 := Lib.hid (fun w' q => c_ShadeThing (.slice p6 l6.length q6) l6 k6 w' q); have HS2 := Lib.hid (fun w' q => s_ShadeThing (.slice p6 l6.length q6) l6 k6 w' q)
    have LS : Hid (∀ X : List Int, X = shadeR l6 k6 → X.length ≤ 1000) := fun X q => by rw [q]; exact shadeR_len l6 k6
    clear hb hi6
    generalize shadeR l6 k6 = s6 at *
    generalize shadeOk l6 k6 = ok6 at *
    generalize l6.length = m6 at *
    go_wp2_with fail
    refine (HS1.out _ I6.out).mono ?_
    intro e x7a hend
    obtain ⟨va5, rfl, hia5, hb⟩ := hend.reads
    clear hend
    obtain ⟨pa5, qa5, rfl⟩ := hia5.shape
    replace M1 := Lib.hid (M1.out.below hb)
    replace HA := Lib.hid (HA.out.below hb)
    replace HI := Lib.hid (HI.out.below hb)
    replace VH := Lib.hid (VH.out.below hb)
    replace IG := Lib.hid (IG.out.below hb)
    replace IW := Lib.hid (IW.out.below hb)
    replace I5 := Lib.hid (I5.out.below hb)
    replace J1 := Lib.hid (J1.out.below hb)
    replace J2 := Lib.hid (J2.out.below hb)
    replace J3 := Lib.hid (J3.out.below hb)
    replace J4 := Lib.hid (J4.out.below hb)
    replace I6 := Lib.hid (I6.out.below hb)
    replace L := Lib.hid (bst L.out hb L.out.size)
    have J5 := Lib.hid hia5
    clear hb hia5
    go_wp2_with fail
    refine (HS2.out _ I6.out).mono ?_
    intro e x8a hend
    obtain ⟨va6, rfl, hia6, hb⟩ := hend.reads
    clear hend
    obtain ⟨pa6, qa6, rfl⟩ := hia6.shape
    replace M1 := Lib.hid (M1.out.below hb)
    replace HA := Lib.hid (HA.out.below hb)
    replace HI := Lib.hid (HI.out.below hb)
    replace VH := Lib.hid (VH.out.below hb)
    replace IG := Lib.hid (IG.out.below hb)
    replace IW := Lib.hid (IW.out.below hb)
    replace I5 := Lib.hid (I5.out.below hb)
    replace J1 := Lib.hid (J1.out.below hb)
    replace J2 := Lib.hid (J2.out.below hb)
    replace J3 := Lib.hid (J3.out.below hb)
    replace J4 := Lib.hid (J4.out.below hb)
    replace I6 := Lib.hid (I6.out.below hb)
    replace J5 := Lib.hid (J5.out.below hb)
    replace L := Lib.hid (bst L.out hb L.out.size)
    have J6 := Lib.hid hia6
    clear hb hia6
    have e5 : (ok5 != ok5) = false := by simp
    have e6 : (ok6 != ok6) = false := by simp
    go_wp2_with fail
    refine (c_sameInts _ _ g1 g1 _ J1.out J2.out (by have := LG.out _ rfl; omega)).mono ?_
    rintro e y1a ⟨hre, nd, hnd⟩
    rw [decide_eq_true rfl] at hre
    subst hre
    have hb : Below x8a.heap.size x8a y1a := by rw [hnd]; exact below_drewN (Below.refl _ _) nd
    clear hnd nd
    replace M1 := Lib.hid (M1.out.below hb)
    replace HA := Lib.hid (HA.out.below hb)
    replace HI := Lib.hid (HI.out.below hb)
    replace VH := Lib.hid (VH.out.below hb)
    replace IG := Lib.hid (IG.out.below hb)
    replace IW := Lib.hid (IW.out.below hb)
    replace I5 := Lib.hid (I5.out.below hb)
    replace J1 := Lib.hid (J1.out.below hb)
    replace J2 := Lib.hid (J2.out.below hb)
    replace J3 := Lib.hid (J3.out.below hb)
    replace J4 := Lib.hid (J4.out.below hb)
    replace I6 := Lib.hid (I6.out.below hb)
    replace J5 := Lib.hid (J5.out.below hb)
    replace J6 := Lib.hid (J6.out.below hb)
    replace L := Lib.hid (bst L.out hb L.out.size)
    clear hb
    go_wp2_with fail
    refine (c_sameInts _ _ g0 g0 _ J3.out J4.out (by have := LW.out _ rfl; omega)).mono ?_
    rintro e y2a ⟨hre, nd, hnd⟩
    rw [decide_eq_true rfl] at hre
    subst hre
    have hb : Below y1a.heap.size y1a y2a := by rw [hnd]; exact below_drewN (Below.refl _ _) nd
    clear hnd nd
    replace M1 := Lib.hid (M1.out.below hb)
    replace HA := Lib.hid (HA.out.below hb)
    replace HI := Lib.hid (HI.out.below hb)
    replace VH := Lib.hid (VH.out.below hb)
    replace IG := Lib.hid (IG.out.below hb)
    replace IW := Lib.hid (IW.out.below hb)
    replace I5 := Lib.hid (I5.out.below hb)
    replace J1 := Lib.hid (J1.out.below hb)
    replace J2 := Lib.hid (J2.out.below hb)
    replace J3 := Lib.hid (J3.out.below hb)
    replace J4 := Lib.hid (J4.out.below hb)
    replace I6 := Lib.hid (I6.out.below hb)
    replace J5 := Lib.hid (J5.out.below hb)
    replace J6 := Lib.hid (J6.out.below hb)
    replace L := Lib.hid (bst L.out hb L.out.size)
    clear hb
    go_wp2_with fail
    refine (c_sameInts _ _ s6 s6 _ J5.out J6.out (by have := LS.out _ rfl; omega)).mono ?_
    rintro e y3a ⟨hre, nd, hnd⟩
    rw [decide_eq_true rfl] at hre
    subst hre
    have hb : Below y2a.heap.size y2a y3a := by rw [hnd]; exact below_drewN (Below.refl _ _) nd
    clear hnd nd
    replace M1 := Lib.hid (M1.out.below hb)
    replace HA := Lib.hid (HA.out.below hb)
    replace HI := Lib.hid (HI.out.below hb)
    replace VH := Lib.hid (VH.out.below hb)
    replace IG := Lib.hid (IG.out.below hb)
    replace IW := Lib.hid (IW.out.below hb)
    replace I5 := Lib.hid (I5.out.below hb)
    replace J1 := Lib.hid (J1.out.below hb)
    replace J2 := Lib.hid (J2.out.below hb)
    replace J3 := Lib.hid (J3.out.below hb)
    replace J4 := Lib.hid (J4.out.below hb)
    replace I6 := Lib.hid (I6.out.below hb)
    replace J5 := Lib.hid (J5.out.below hb)
    replace J6 := Lib.hid (J6.out.below hb)
    replace L := Lib.hid (bst L.out hb L.out.size)
    clear hb
    cases ok5
    · go_wp2_with fail
      go_ret
      exact ⟨rfl, L.out⟩
    replace FG := Lib.hid (fun j q => FG.out j q rfl); replace FW := Lib.hid (fun j q => FW.out j q rfl)
    go_wp2_with fail
    go_loopw [188] (fun i wr => ∃ j : Nat, j ≤ m5 ∧ i = .int .i64 (j : Int) ∧ wr = y3a) (fun i _ => m5 - (intOf i).toNat)
    case atStart => exact ⟨0, Nat.zero_le _, rfl, rfl⟩
    case round =>
      obtain ⟨j, hj, rfl, rfl⟩ := hrel
      by_cases hjl : j < m5
      · obtain ⟨b5, o5, rfl, hc5⟩ := I5.out.at' (by omega)
        have q := hc5 j hjl
        have j1 : (j : Int) < (m5 : Int) := by omega
        have f1 := Lib.hid (FG.out j hjl); have f0 := Lib.hid (FW.out j hjl)
        clear hc5
        generalize l5.getD j 0 = y at *
        go_wp2_with fail
        refine (c_has _ g1 (j : Int) _ J1.out (LG.out _ rfl)).mono ?_
        rintro e wh ⟨rfl, rfl⟩
        rw [f1.out]
        have e7 : ((y == 1) != (y == 1)) = false := by simp
        go_wp2_with fail
        refine (c_has _ g0 (j : Int) _ J3.out (LW.out _ rfl)).mono ?_
        rintro e wh ⟨rfl, rfl⟩
        rw [f0.out]
        have e8 : ((y == 0) != (y == 0)) = false := by simp
        go_wp2_with fail
        go_roundw
        case rel => first | exact ⟨j + 1, by omega, by go_num, rfl⟩ | exact ⟨j + 1, by omega, by go_num, trivial⟩
        case measure => simp [intOf]; omega
      · have j1 : ¬ (j : Int) < (m5 : Int) := by omega
        go_wp2_with fail
        go_ret
        exact ⟨rfl, L.out⟩
  obtain ⟨t, ht, htm, hlf, hsl, hle, hs2, hrow, hr3⟩ := FS.out rfl
  subst ht
  generalize hns : s.length = ns at *
  have HNS := Lib.hid hns; clear hns
  obtain rfl : m = ns := hsl.symm
  have HLE := Lib.hid hle; have HS2 := Lib.hid hs2; have HROW := Lib.hid hrow
  clear hle hs2 hrow FS
  clear hsl
  have htm' : (t : Int) < (m : Int) := by omega
  go_wp2_with fail
  go_loopw [70] (fun i wr => ∃ j : Nat, j ≤ m ∧ i = .int .i64 (j : Int) ∧ ∃ nd, wr = w4.drewN nd) (fun i _ => m - (intOf i).toNat)
  case atStart => exact ⟨0, Nat.zero_le _, rfl, drewN_refl _⟩
  case round =>
    obtain ⟨j, hj, rfl, nd, rfl⟩ := hrel
    by_cases hjl : j < m
    · obtain ⟨bs, os, rfl, hcs⟩ := IG.out.at' (by omega)
      obtain ⟨bc, oc, rfl, hcc⟩ := HI.out.at' (by omega)
      have qs : (w4.drewN nd).drew.cell? ⟨bs, os + j, none⟩ = some (.int .i64 (s.getD j 0)) := hcs j hjl
      have qc' : (w4.drewN nd).drew.cell? ⟨bc, oc + j, none⟩ = some (.int .i64 (l.getD j 0)) := hcc j hjl
      have hlej := HLE.out j
      have hs2j : j = t → s.getD j 0 = 2 := fun q => by rw [q]; exact HS2.out
      have HS2J := Lib.hid hs2j
      have j1 : (j : Int) < (m : Int) := by omega
      have j0 : (0 : Int) ≤ (j : Int) := by omega
      clear hcs hcc hs2j
      generalize s.getD j 0 = sj at *
      generalize l.getD j 0 = cj at *
      have hlt0 : decide (sj < cj) = false := decide_eq_false (by omega)
      by_cases hjt : j = t
      · have hs2 := HS2J.out hjt
        subst hs2
        subst hjt
        have b1 : ((j : Int) == (j : Int)) = true := by simp
        go_wp2_with fail
        refine wp_region_held_drew (S := (fun w' => w'.cell? ⟨bs, os + j, none⟩ = some (.int .i64 2) ∧ w'.cell? ⟨bc, oc + j, none⟩ = some (.int .i64 cj))) (by kernel_rfl) (⟨qs, qc'⟩) (fun hHeld => ?_)
        refine wpAnyH_take (i := 0) (v := ?va0x1) rfl (by kernel_rfl) (by kernel_rfl) (by kernel_rfl) (fun _ _ _ h => h) (Or.inl ⟨by rfl, ?hy0x1⟩) (by assumption) ?rest0x1
        case hy0x1 => (intro w hSw; (try dsimp only at hSw); go_simp; try with_reducible rfl)
        (try simp only [Act.put, List.getElem_toArray, List.getElem_cons_zero, List.setIfInBounds_toArray, List.set_cons_zero, List.set_cons_succ])
        refine wpAnyH_take (i := 1) (v := ?va1x2) rfl (by kernel_rfl) (by kernel_rfl) (by kernel_rfl) (fun _ _ _ h => h) (Or.inl ⟨by rfl, ?hy1x2⟩) (by assumption) ?rest1x2
        case hy1x2 => (intro w hSw; (try dsimp only at hSw); go_simp; try with_reducible rfl)
        (try simp only [Act.put, List.getElem_toArray, List.getElem_cons_zero, List.getElem_cons_succ, List.setIfInBounds_toArray, List.set_cons_zero, List.set_cons_succ])
        refine wpAnyH_take (i := 2) (v := ?va2x3) rfl (by kernel_rfl) (by kernel_rfl) (by kernel_rfl) (fun _ _ _ h => h) (Or.inl ⟨by rfl, ?hy2x3⟩) (by assumption) ?rest2x3
        case hy2x3 => (intro w hSw; (try dsimp only at hSw); go_simp; try with_reducible rfl)
        (try simp only [Act.put, List.getElem_toArray, List.getElem_cons_zero, List.getElem_cons_succ, List.setIfInBounds_toArray, List.set_cons_zero, List.set_cons_succ])
        refine wpAnyH_take (i := 3) (v := ?va3x4) rfl (by kernel_rfl) (by kernel_rfl) (by kernel_rfl) (fun _ _ _ h => h) (Or.inl ⟨by rfl, ?hy3x4⟩) (by assumption) ?rest3x4
        case hy3x4 => (intro w hSw; (try dsimp only at hSw); go_simp; try with_reducible rfl)
        (try simp only [Act.put, List.getElem_toArray, List.getElem_cons_zero, List.getElem_cons_succ, List.setIfInBounds_toArray, List.set_cons_zero, List.set_cons_succ])
        refine wpAnyH_take (i := 4) (v := ?va4x5) rfl (by kernel_rfl) (by kernel_rfl) (by kernel_rfl) (fun _ _ _ h => h) (Or.inl ⟨by rfl, ?hy4x5⟩) (by assumption) ?rest4x5
        case hy4x5 => (intro w hSw; (try dsimp only at hSw); go_simp; try with_reducible rfl)
        (try simp only [Act.put, List.getElem_toArray, List.getElem_cons_zero, List.getElem_cons_succ, List.setIfInBounds_toArray, List.set_cons_zero, List.set_cons_succ])
        refine wpAnyH_take (i := 5) (v := ?va5x6) rfl (by kernel_rfl) (by kernel_rfl) (by kernel_rfl) (fun _ _ _ h => h) (Or.inl ⟨by rfl, ?hy5x6⟩) (by assumption) ?rest5x6
        case hy5x6 => (intro w hSw; (try dsimp only at hSw); go_simp; try with_reducible rfl)
        (try simp only [Act.put, List.getElem_toArray, List.getElem_cons_zero, List.getElem_cons_succ, List.setIfInBounds_toArray, List.set_cons_zero, List.set_cons_succ])
        refine wpAnyH_take (i := 6) (v := ?va6x7) rfl (by kernel_rfl) (by kernel_rfl) (by kernel_rfl) (fun _ _ _ h => h) (Or.inl ⟨by rfl, ?hy6x7⟩) (by assumption) ?rest6x7
        case hy6x7 => (intro w hSw; (try dsimp only at hSw); go_simp; try with_reducible rfl)
        (try simp only [Act.put, List.getElem_toArray, List.getElem_cons_zero, List.getElem_cons_succ, List.setIfInBounds_toArray, List.set_cons_zero, List.set_cons_succ])
        refine wpAnyH_take (i := 7) (v := ?va7x8) rfl (by kernel_rfl) (by kernel_rfl) (by kernel_rfl) (fun _ _ _ h => h) (Or.inl ⟨by rfl, ?hy7x8⟩) (by assumption) ?rest7x8
        case hy7x8 => (intro w hSw; (try dsimp only at hSw); go_simp; try with_reducible rfl)
        (try simp only [Act.put, List.getElem_toArray, List.getElem_cons_zero, List.getElem_cons_succ, List.setIfInBounds_toArray, List.set_cons_zero, List.set_cons_succ])
        refine wpAnyH_take (i := 8) (v := ?va8x9) rfl (by kernel_rfl) (by kernel_rfl) (by kernel_rfl) (fun _ _ _ h => h) (Or.inl ⟨by rfl, ?hy8x9⟩) (by assumption) ?rest8x9
        case hy8x9 => (intro w hSw; (try dsimp only at hSw); go_simp; try with_reducible rfl)
        (try simp only [Act.put, List.getElem_toArray, List.getElem_cons_zero, List.getElem_cons_succ, List.setIfInBounds_toArray, List.set_cons_zero, List.set_cons_succ])
        refine wpAnyH_take (i := 9) (v := ?va9x10) rfl (by kernel_rfl) (by kernel_rfl) (by kernel_rfl) (fun _ _ _ h => h) (Or.inl ⟨by rfl, ?hy9x10⟩) (by assumption) ?rest9x10
        case hy9x10 => (intro w hSw; (try dsimp only at hSw); go_simp; try with_reducible rfl)
        (try simp only [Act.put, List.getElem_toArray, List.getElem_cons_zero, List.getElem_cons_succ, List.setIfInBounds_toArray, List.set_cons_zero, List.set_cons_succ])
        refine wpAnyH_take (i := 10) (v := ?va10x11) rfl (by kernel_rfl) (by kernel_rfl) (by kernel_rfl) (fun _ _ _ h => h) (Or.inl ⟨by rfl, ?hy10x11⟩) (by assumption) ?rest10x11
        case hy10x11 => (intro w hSw; (try dsimp only at hSw); go_simp; try with_reducible rfl)
        (try simp only [Act.put, List.getElem_toArray, List.getElem_cons_zero, List.getElem_cons_succ, List.setIfInBounds_toArray, List.set_cons_zero, List.set_cons_succ])
        refine wpAnyH_take (i := 11) (v := ?va11x12) rfl (by kernel_rfl) (by kernel_rfl) (by kernel_rfl) (fun _ _ _ h => h) (Or.inl ⟨by rfl, ?hy11x12⟩) (by assumption) ?rest11x12
        case hy11x12 => (intro w hSw; (try dsimp only at hSw); go_simp; try with_reducible rfl)
        (try simp only [Act.put, List.getElem_toArray, List.getElem_cons_zero, List.getElem_cons_succ, List.setIfInBounds_toArray, List.set_cons_zero, List.set_cons_succ])
        refine wpAnyH_take (i := 12) (v := ?va12x13) rfl (by kernel_rfl) (by kernel_rfl) (by kernel_rfl) (fun _ _ _ h => h) (Or.inl ⟨by rfl, ?hy12x13⟩) (by assumption) ?rest12x13
        case hy12x13 => (intro w hSw; (try dsimp only at hSw); go_simp; try with_reducible rfl)
        (try simp only [Act.put, List.getElem_toArray, List.getElem_cons_zero, List.getElem_cons_succ, List.setIfInBounds_toArray, List.set_cons_zero, List.set_cons_succ])
        refine wpAnyH_take (i := 13) (v := ?va13x14) rfl (by kernel_rfl) (by kernel_rfl) (by kernel_rfl) (fun _ _ _ h => h) (Or.inl ⟨by rfl, ?hy13x14⟩) (by assumption) ?rest13x14
        case hy13x14 => (intro w hSw; (try dsimp only at hSw); go_simp; try with_reducible rfl)
        (try simp only [Act.put, List.getElem_toArray, List.getElem_cons_zero, List.getElem_cons_succ, List.setIfInBounds_toArray, List.set_cons_zero, List.set_cons_succ])
        refine wpAnyH_take (i := 14) (v := ?va14x15) rfl (by kernel_rfl) (by kernel_rfl) (by kernel_rfl) (fun _ _ _ h => h) (Or.inl ⟨by rfl, ?hy14x15⟩) (by assumption) ?rest14x15
        case hy14x15 => (intro w hSw; (try dsimp only at hSw); go_simp; try with_reducible rfl)
        (try simp only [Act.put, List.getElem_toArray, List.getElem_cons_zero, List.getElem_cons_succ, List.setIfInBounds_toArray, List.set_cons_zero, List.set_cons_succ])
        refine wpAnyH_take (i := 15) (v := ?va15x16) rfl (by kernel_rfl) (by kernel_rfl) (by kernel_rfl) (fun _ _ _ h => h) (Or.inl ⟨by rfl, ?hy15x16⟩) (by assumption) ?rest15x16
        case hy15x16 => (intro w hSw; (try dsimp only at hSw); go_simp; try with_reducible rfl)
        (try simp only [Act.put, List.getElem_toArray, List.getElem_cons_zero, List.getElem_cons_succ, List.setIfInBounds_toArray, List.set_cons_zero, List.set_cons_succ])
        refine wpAnyH_take (i := 16) (v := ?va16x17) rfl (by kernel_rfl) (by kernel_rfl) (by kernel_rfl) (fun _ _ _ h => h) (Or.inl ⟨by rfl, ?hy16x17⟩) (by assumption) ?rest16x17
        case hy16x17 => (intro w hSw; (try dsimp only at hSw); go_simp; try with_reducible rfl)
        (try simp only [Act.put, List.getElem_toArray, List.getElem_cons_zero, List.getElem_cons_succ, List.setIfInBounds_toArray, List.set_cons_zero, List.set_cons_succ])
        refine wpAnyH_take (i := 17) (v := ?va17x18) rfl (by kernel_rfl) (by kernel_rfl) (by kernel_rfl) (fun _ _ _ h => h) (Or.inl ⟨by rfl, ?hy17x18⟩) (by assumption) ?rest17x18
        case hy17x18 => (intro w hSw; (try dsimp only at hSw); go_simp; try with_reducible rfl)
        (try simp only [Act.put, List.getElem_toArray, List.getElem_cons_zero, List.getElem_cons_succ, List.setIfInBounds_toArray, List.set_cons_zero, List.set_cons_succ])
        refine wpAnyH_take (i := 18) (v := ?va18x19) rfl (by kernel_rfl) (by kernel_rfl) (by kernel_rfl) (fun _ _ _ h => h) (Or.inl ⟨by rfl, ?hy18x19⟩) (by assumption) ?rest18x19
        case hy18x19 => (intro w hSw; (try dsimp only at hSw); go_simp; try with_reducible rfl)
        (try simp only [Act.put, List.getElem_toArray, List.getElem_cons_zero, List.getElem_cons_succ, List.setIfInBounds_toArray, List.set_cons_zero, List.set_cons_succ])
        refine wpAnyH_take (i := 19) (v := ?va19x20) rfl (by kernel_rfl) (by kernel_rfl) (by kernel_rfl) (fun _ _ _ h => h) (Or.inl ⟨by rfl, ?hy19x20⟩) (by assumption) ?rest19x20
        case hy19x20 => (intro w hSw; (try dsimp only at hSw); go_simp; try with_reducible rfl)
        (try simp only [Act.put, List.getElem_toArray, List.getElem_cons_zero, List.getElem_cons_succ, List.setIfInBounds_toArray, List.set_cons_zero, List.set_cons_succ])
        refine wpAnyH_take (i := 20) (v := ?va20x21) rfl (by kernel_rfl) (by kernel_rfl) (by kernel_rfl) (fun _ _ _ h => h) (Or.inl ⟨by rfl, ?hy20x21⟩) (by assumption) ?rest20x21
        case hy20x21 => (intro w hSw; (try dsimp only at hSw); go_simp; try with_reducible rfl)
        (try simp only [Act.put, List.getElem_toArray, List.getElem_cons_zero, List.getElem_cons_succ, List.setIfInBounds_toArray, List.set_cons_zero, List.set_cons_succ])
        refine wpAnyH_done (by kernel_rfl) ?_ _
        clear hHeld qs qc'
        go_wp2_with fail
        go_roundw
        case rel => exact ⟨j + 1, by omega, by go_num, nd + 1, rfl⟩
        case measure => simp [intOf]; omega
      · have b1 : ((j : Int) == (t : Int)) = false := by simp; omega
        go_wp2_with fail
        refine wp_region_held_drew (S := (fun w' => w'.cell? ⟨bs, os + j, none⟩ = some (.int .i64 sj) ∧ w'.cell? ⟨bc, oc + j, none⟩ = some (.int .i64 cj))) (by kernel_rfl) (⟨qs, qc'⟩) (fun hHeld => ?_)
        refine wpAnyH_take (i := 0) (v := ?va0x22) rfl (by kernel_rfl) (by kernel_rfl) (by kernel_rfl) (fun _ _ _ h => h) (Or.inl ⟨by rfl, ?hy0x22⟩) (by assumption) ?rest0x22
        case hy0x22 => (intro w hSw; (try dsimp only at hSw); go_simp; try with_reducible rfl)
        (try simp only [Act.put, List.getElem_toArray, List.getElem_cons_zero, List.setIfInBounds_toArray, List.set_cons_zero, List.set_cons_succ])
        refine wpAnyH_take (i := 1) (v := ?va1x23) rfl (by kernel_rfl) (by kernel_rfl) (by kernel_rfl) (fun _ _ _ h => h) (Or.inl ⟨by rfl, ?hy1x23⟩) (by assumption) ?rest1x23
        case hy1x23 => (intro w hSw; (try dsimp only at hSw); go_simp; try with_reducible rfl)
        (try simp only [Act.put, List.getElem_toArray, List.getElem_cons_zero, List.getElem_cons_succ, List.setIfInBounds_toArray, List.set_cons_zero, List.set_cons_succ])
        refine wpAnyH_take (i := 2) (v := ?va2x24) rfl (by kernel_rfl) (by kernel_rfl) (by kernel_rfl) (fun _ _ _ h => h) (Or.inl ⟨by rfl, ?hy2x24⟩) (by assumption) ?rest2x24
        case hy2x24 => (intro w hSw; (try dsimp only at hSw); go_simp; try with_reducible rfl)
        (try simp only [Act.put, List.getElem_toArray, List.getElem_cons_zero, List.getElem_cons_succ, List.setIfInBounds_toArray, List.set_cons_zero, List.set_cons_succ])
        refine wpAnyH_take (i := 3) (v := ?va3x25) rfl (by kernel_rfl) (by kernel_rfl) (by kernel_rfl) (fun _ _ _ h => h) (Or.inl ⟨by rfl, ?hy3x25⟩) (by assumption) ?rest3x25
        case hy3x25 => (intro w hSw; (try dsimp only at hSw); go_simp; try with_reducible rfl)
        (try simp only [Act.put, List.getElem_toArray, List.getElem_cons_zero, List.getElem_cons_succ, List.setIfInBounds_toArray, List.set_cons_zero, List.set_cons_succ])
        refine wpAnyH_take (i := 4) (v := ?va4x26) rfl (by kernel_rfl) (by kernel_rfl) (by kernel_rfl) (fun _ _ _ h => h) (Or.inl ⟨by rfl, ?hy4x26⟩) (by assumption) ?rest4x26
        case hy4x26 => (intro w hSw; (try dsimp only at hSw); go_simp; try with_reducible rfl)
        (try simp only [Act.put, List.getElem_toArray, List.getElem_cons_zero, List.getElem_cons_succ, List.setIfInBounds_toArray, List.set_cons_zero, List.set_cons_succ])
        refine wpAnyH_take (i := 5) (v := ?va5x27) rfl (by kernel_rfl) (by kernel_rfl) (by kernel_rfl) (fun _ _ _ h => h) (Or.inl ⟨by rfl, ?hy5x27⟩) (by assumption) ?rest5x27
        case hy5x27 => (intro w hSw; (try dsimp only at hSw); go_simp; try with_reducible rfl)
        (try simp only [Act.put, List.getElem_toArray, List.getElem_cons_zero, List.getElem_cons_succ, List.setIfInBounds_toArray, List.set_cons_zero, List.set_cons_succ])
        refine wpAnyH_take (i := 6) (v := ?va6x28) rfl (by kernel_rfl) (by kernel_rfl) (by kernel_rfl) (fun _ _ _ h => h) (Or.inl ⟨by rfl, ?hy6x28⟩) (by assumption) ?rest6x28
        case hy6x28 => (intro w hSw; (try dsimp only at hSw); go_simp; try with_reducible rfl)
        (try simp only [Act.put, List.getElem_toArray, List.getElem_cons_zero, List.getElem_cons_succ, List.setIfInBounds_toArray, List.set_cons_zero, List.set_cons_succ])
        refine wpAnyH_take (i := 7) (v := ?va7x29) rfl (by kernel_rfl) (by kernel_rfl) (by kernel_rfl) (fun _ _ _ h => h) (Or.inl ⟨by rfl, ?hy7x29⟩) (by assumption) ?rest7x29
        case hy7x29 => (intro w hSw; (try dsimp only at hSw); go_simp; try with_reducible rfl)
        (try simp only [Act.put, List.getElem_toArray, List.getElem_cons_zero, List.getElem_cons_succ, List.setIfInBounds_toArray, List.set_cons_zero, List.set_cons_succ])
        refine wpAnyH_take (i := 8) (v := ?va8x30) rfl (by kernel_rfl) (by kernel_rfl) (by kernel_rfl) (fun _ _ _ h => h) (Or.inl ⟨by rfl, ?hy8x30⟩) (by assumption) ?rest8x30
        case hy8x30 => (intro w hSw; (try dsimp only at hSw); go_simp; try with_reducible rfl)
        (try simp only [Act.put, List.getElem_toArray, List.getElem_cons_zero, List.getElem_cons_succ, List.setIfInBounds_toArray, List.set_cons_zero, List.set_cons_succ])
        refine wpAnyH_take (i := 9) (v := ?va9x31) rfl (by kernel_rfl) (by kernel_rfl) (by kernel_rfl) (fun _ _ _ h => h) (Or.inl ⟨by rfl, ?hy9x31⟩) (by assumption) ?rest9x31
        case hy9x31 => (intro w hSw; (try dsimp only at hSw); go_simp; try with_reducible rfl)
        (try simp only [Act.put, List.getElem_toArray, List.getElem_cons_zero, List.getElem_cons_succ, List.setIfInBounds_toArray, List.set_cons_zero, List.set_cons_succ])
        refine wpAnyH_take (i := 10) (v := ?va10x32) rfl (by kernel_rfl) (by kernel_rfl) (by kernel_rfl) (fun _ _ _ h => h) (Or.inl ⟨by rfl, ?hy10x32⟩) (by assumption) ?rest10x32
        case hy10x32 => (intro w hSw; (try dsimp only at hSw); go_simp; try with_reducible rfl)
        (try simp only [Act.put, List.getElem_toArray, List.getElem_cons_zero, List.getElem_cons_succ, List.setIfInBounds_toArray, List.set_cons_zero, List.set_cons_succ])
        refine wpAnyH_take (i := 11) (v := ?va11x33) rfl (by kernel_rfl) (by kernel_rfl) (by kernel_rfl) (fun _ _ _ h => h) (Or.inl ⟨by rfl, ?hy11x33⟩) (by assumption) ?rest11x33
        case hy11x33 => (intro w hSw; (try dsimp only at hSw); go_simp; try with_reducible rfl)
        (try simp only [Act.put, List.getElem_toArray, List.getElem_cons_zero, List.getElem_cons_succ, List.setIfInBounds_toArray, List.set_cons_zero, List.set_cons_succ])
        refine wpAnyH_take (i := 12) (v := ?va12x34) rfl (by kernel_rfl) (by kernel_rfl) (by kernel_rfl) (fun _ _ _ h => h) (Or.inl ⟨by rfl, ?hy12x34⟩) (by assumption) ?rest12x34
        case hy12x34 => (intro w hSw; (try dsimp only at hSw); go_simp; try with_reducible rfl)
        (try simp only [Act.put, List.getElem_toArray, List.getElem_cons_zero, List.getElem_cons_succ, List.setIfInBounds_toArray, List.set_cons_zero, List.set_cons_succ])
        refine wpAnyH_take (i := 13) (v := ?va13x35) rfl (by kernel_rfl) (by kernel_rfl) (by kernel_rfl) (fun _ _ _ h => h) (Or.inl ⟨by rfl, ?hy13x35⟩) (by assumption) ?rest13x35
        case hy13x35 => (intro w hSw; (try dsimp only at hSw); go_simp; try with_reducible rfl)
        (try simp only [Act.put, List.getElem_toArray, List.getElem_cons_zero, List.getElem_cons_succ, List.setIfInBounds_toArray, List.set_cons_zero, List.set_cons_succ])
        refine wpAnyH_take (i := 14) (v := undef) rfl (by kernel_rfl) (by kernel_rfl) (by kernel_rfl) (fun _ _ _ h => h) (Or.inr ⟨by rfl, rfl⟩) (by assumption) ?_
        (try simp only [Act.put, List.getElem_toArray, List.getElem_cons_zero, List.getElem_cons_succ, List.setIfInBounds_toArray, List.set_cons_zero, List.set_cons_succ])
        refine wpAnyH_take (i := 15) (v := undef) rfl (by kernel_rfl) (by kernel_rfl) (by kernel_rfl) (fun _ _ _ h => h) (Or.inr ⟨by rfl, rfl⟩) (by assumption) ?_
        (try simp only [Act.put, List.getElem_toArray, List.getElem_cons_zero, List.getElem_cons_succ, List.setIfInBounds_toArray, List.set_cons_zero, List.set_cons_succ])
        refine wpAnyH_take (i := 16) (v := undef) rfl (by kernel_rfl) (by kernel_rfl) (by kernel_rfl) (fun _ _ _ h => h) (Or.inr ⟨by rfl, rfl⟩) (by assumption) ?_
        (try simp only [Act.put, List.getElem_toArray, List.getElem_cons_zero, List.getElem_cons_succ, List.setIfInBounds_toArray, List.set_cons_zero, List.set_cons_succ])
        refine wpAnyH_take (i := 17) (v := undef) rfl (by kernel_rfl) (by kernel_rfl) (by kernel_rfl) (fun _ _ _ h => h) (Or.inr ⟨by rfl, rfl⟩) (by assumption) ?_
        (try simp only [Act.put, List.getElem_toArray, List.getElem_cons_zero, List.getElem_cons_succ, List.setIfInBounds_toArray, List.set_cons_zero, List.set_cons_succ])
        refine wpAnyH_take (i := 18) (v := undef) rfl (by kernel_rfl) (by kernel_rfl) (by kernel_rfl) (fun _ _ _ h => h) (Or.inr ⟨by rfl, rfl⟩) (by assumption) ?_
        (try simp only [Act.put, List.getElem_toArray, List.getElem_cons_zero, List.getElem_cons_succ, List.setIfInBounds_toArray, List.set_cons_zero, List.set_cons_succ])
        refine wpAnyH_take (i := 19) (v := ?va19x36) rfl (by kernel_rfl) (by kernel_rfl) (by kernel_rfl) (fun _ _ _ h => h) (Or.inl ⟨by rfl, ?hy19x36⟩) (by assumption) ?rest19x36
        case hy19x36 => (intro w hSw; (try dsimp only at hSw); go_simp; try with_reducible rfl)
        (try simp only [Act.put, List.getElem_toArray, List.getElem_cons_zero, List.getElem_cons_succ, List.setIfInBounds_toArray, List.set_cons_zero, List.set_cons_succ])
        refine wpAnyH_take (i := 20) (v := ?va20x37) rfl (by kernel_rfl) (by kernel_rfl) (by kernel_rfl) (fun _ _ _ h => h) (Or.inl ⟨by rfl, ?hy20x37⟩) (by assumption) ?rest20x37
        case hy20x37 => (intro w hSw; (try dsimp only at hSw); go_simp; try with_reducible rfl)
        (try simp only [Act.put, List.getElem_toArray, List.getElem_cons_zero, List.getElem_cons_succ, List.setIfInBounds_toArray, List.set_cons_zero, List.set_cons_succ])
        refine wpAnyH_done (by kernel_rfl) ?_ _
        clear hHeld qs qc'
        go_wp2_with fail
        go_roundw
        case rel => exact ⟨j + 1, by omega, by go_num, nd + 1, rfl⟩
        case measure => simp [intOf]; omega
    · obtain rfl : j = m := by omega
      have jn : ¬ (j : Int) < (j : Int) := by omega
      have hb : Below w4.heap.size w4 (w4.drewN nd) := below_drewN (Below.refl _ _) nd
      replace M1 := Lib.hid (M1.out.below hb)
      replace HA := Lib.hid (HA.out.below hb)
      replace HI := Lib.hid (HI.out.below hb)
      replace VH := Lib.hid (VH.out.below hb)
      replace IG := Lib.hid (IG.out.below hb)
      replace IW := Lib.hid (IW.out.below hb)
      replace L := Lib.hid (bst L.out hb L.out.size)
      clear hb
      generalize w4.drewN nd = w5 at *
      obtain ⟨fb, fo, rfl, hcf⟩ := HA.out.f.at' (by omega)
      obtain ⟨u, quf, huf⟩ := hcf t (by omega)
      obtain ⟨ur, uc, rfl⟩ := huf.shape
      have HU := Lib.hid huf
      have t0 : (0 : Int) ≤ (t : Int) := by omega
      have tf : (t : Int) < (nf : Int) := by omega
      have c0 := VH.out.c0
      clear hcf huf
      generalize hur : h.f.getD t [] = row at *
      clear hur
      generalize hul : row.length = ul at *
      have HUL := Lib.hid hul; clear hul
      go_wp2_with fail
      clear c0 quf
      go_loopw [101] (fun i wr => ∃ p : Nat, p ≤ ul ∧ i = .int .i64 (p : Int) ∧ wr = w5) (fun i _ => ul - (intOf i).toNat)
      case atStart => exact ⟨0, Nat.zero_le _, rfl, rfl⟩
      case round =>
        obtain ⟨p, hp, rfl, rfl⟩ := hrel
        by_cases hpl : p < ul
        · obtain ⟨zb, zo, rfl, hcz⟩ := HU.out.at' (by omega)
          have qz := hcz p hpl
          have hpr : p < row.length := by rw [HUL.out]; exact hpl
          obtain ⟨z1, z2, z3⟩ := HROW.out (row.getD p 0) (getD_memI hpr)
          have p1 : (p : Int) < (ul : Int) := by omega
          clear hcz hpr
          generalize row.getD p 0 = z at *
          by_cases zn : z < 0
          · have zn' : ¬ 0 ≤ z := by omega
            clear z3
            go_wp2_with fail
            go_roundw
            case rel => first | exact ⟨p + 1, by omega, by go_num, rfl⟩ | exact ⟨p + 1, by omega, by go_num, trivial⟩
            case measure => simp [intOf]; omega
          · obtain ⟨x, rfl⟩ : ∃ x : Nat, z = x := ⟨z.toNat, by omega⟩
            obtain ⟨bs, os, rfl, hcs⟩ := IG.out.at' (by omega)
            have qs := hcs x (by omega)
            have hx0 := z3 (by omega)
            rw [Int.toNat_natCast] at hx0
            have x0 : (0 : Int) ≤ (x : Int) := by omega
            have hx0' : (s.getD x 0 == 0) = false := by simpa using hx0
            generalize s.getD x 0 = sx at *
            clear z3 hcs zn hx0
            go_wp2_with fail
            go_roundw
            case rel => first | exact ⟨p + 1, by omega, by go_num, rfl⟩ | exact ⟨p + 1, by omega, by go_num, trivial⟩
            case measure => simp [intOf]; omega
        · have pn : ¬ (p : Int) < (ul : Int) := by omega
          go_wp2_with fail
          refine (d_GreysIn _ z1 _ M1.out).mono ?_
          rintro e x1b ⟨v5, l5, rfl, hl5, hi5, hb⟩
          obtain ⟨p5, q5, rfl⟩ := hi5.shape
          replace M1 := Lib.hid (M1.out.below hb)
          replace HA := Lib.hid (HA.out.below hb)
          replace HI := Lib.hid (HI.out.below hb)
          replace VH := Lib.hid (VH.out.below hb)
          replace IG := Lib.hid (IG.out.below hb)
          replace IW := Lib.hid (IW.out.below hb)
          replace L := Lib.hid (bst L.out hb L.out.size)
          have I5 := Lib.hid hi5
          have HG1 := Lib.hid (fun w' q => c_GreysIn (.slice p5 l5.length q5) l5 w' q); have HG2 := Lib.hid (fun w' q => s_GreysIn (.slice p5 l5.length q5) l5 w' q)
          have HW1 := Lib.hid (fun w' q => c_WhitesIn (.slice p5 l5.length q5) l5 w' q); have HW2 := Lib.hid (fun w' q => s_WhitesIn (.slice p5 l5.length q5) l5 w' q)
          have FG : Hid (∀ j, j < l5.length → colsB l5 = true → decide ((j : Int) ∈ ofR l5 1) = (l5.getD j 0 == 1)) := fun j q1 q2 => has_of q1 q2
          have FW : Hid (∀ j, j < l5.length → colsB l5 = true → decide ((j : Int) ∈ ofR l5 0) = (l5.getD j 0 == 0)) := fun j q1 q2 => has_of q1 q2
          have LG : Hid (∀ X : List Int, X = ofR l5 1 → X.length ≤ 1000) := fun X q => by rw [q]; exact ofR_len l5 1
          have LW : Hid (∀ X : List Int, X = ofR l5 0 → X.length ≤ 1000) := fun X q => by rw [q]; exact ofR_len l5 0
          clear hb hi5
          generalize ofR l5 1 = g1 at *
          generalize ofR l5 0 = g0 at *
          generalize colsB l5 = ok5 at *
          generalize hm5 : l5.length = m5 at *
          have HM5 := Lib.hid hm5; clear hm5
          go_wp2_with fail
          refine (HG1.out _ I5.out).mono ?_
          intro e x2b hend
          obtain ⟨va1, rfl, hia1, hb⟩ := hend.reads
          clear hend
          obtain ⟨pa1, qa1, rfl⟩ := hia1.shape
          replace M1 := Lib.hid (M1.out.below hb)
          replace HA := Lib.hid (HA.out.below hb)
          replace HI := Lib.hid (HI.out.below hb)
          replace VH := Lib.hid (VH.out.below hb)
          replace IG := Lib.hid (IG.out.below hb)
          replace IW := Lib.hid (IW.out.below hb)
          replace I5 := Lib.hid (I5.out.below hb)
          replace L := Lib.hid (bst L.out hb L.out.size)
          have J1 := Lib.hid hia1
          clear hb hia1
          go_wp2_with fail
          refine (HG2.out _ I5.out).mono ?_
          intro e x3b hend
          obtain ⟨va2, rfl, hia2, hb⟩ := hend.reads
          clear hend
          obtain ⟨pa2, qa2, rfl⟩ := hia2.shape
          replace M1 := Lib.hid (M1.out.below hb)
          replace HA := Lib.hid (HA.out.below hb)
          replace HI := Lib.hid (HI.out.below hb)
          replace VH := Lib.hid (VH.out.below hb)
          replace IG := Lib.hid (IG.out.below hb)
          replace IW := Lib.hid (IW.out.below hb)
          replace I5 := Lib.hid (I5.out.below hb)
          replace J1 := Lib.hid (J1.out.below hb)
          replace L := Lib.hid (bst L.out hb L.out.size)
          have J2 := Lib.hid hia2
          clear hb hia2
          go_wp2_with fail
          refine (HW1.out _ I5.out).mono ?_
          intro e x4b hend
          obtain ⟨va3, rfl, hia3, hb⟩ := hend.reads
          clear hend
          obtain ⟨pa3, qa3, rfl⟩ := hia3.shape
          replace M1 := Lib.hid (M1.out.below hb)
          replace HA := Lib.hid (HA.out.below hb)
          replace HI := Lib.hid (HI.out.below hb)
          replace VH := Lib.hid (VH.out.below hb)
          replace IG := Lib.hid (IG.out.below hb)
          replace IW := Lib.hid (IW.out.below hb)
          replace I5 := Lib.hid (I5.out.below hb)
          replace J1 := Lib.hid (J1.out.below hb)
          replace J2 := Lib.hid (J2.out.below hb)
          replace L := Lib.hid (bst L.out hb L.out.size)
          have J3 := Lib.hid hia3
          clear hb hia3
          go_wp2_with fail
          refine (HW2.out _ I5.out).mono ?_
          intro e x5b hend
          obtain ⟨va4, rfl, hia4, hb⟩ := hend.reads
          clear hend
          obtain ⟨pa4, qa4, rfl⟩ := hia4.shape
          replace M1 := Lib.hid (M1.out.below hb)
          replace HA := Lib.hid (HA.out.below hb)
          replace HI := Lib.hid (HI.out.below hb)
          replace VH := Lib.hid (VH.out.below hb)
          replace IG := Lib.hid (IG.out.below hb)
          replace IW := Lib.hid (IW.out.below hb)
          replace I5 := Lib.hid (I5.out.below hb)
          replace J1 := Lib.hid (J1.out.below hb)
          replace J2 := Lib.hid (J2.out.below hb)
          replace J3 := Lib.hid (J3.out.below hb)
          replace L := Lib.hid (bst L.out hb L.out.size)
          have J4 := Lib.hid hia4
          clear hb hia4
          go_wp2_with fail
          refine (d_ShadeThing _ z1 _ M1.out).mono ?_
          rintro e x6b ⟨v6, l6, k6, rfl, hl6, hi6, hb⟩
          obtain ⟨p6, q6, rfl⟩ := hi6.shape
          replace M1 := Lib.hid (M1.out.below hb)
          replace HA := Lib.hid (HA.out.below hb)
          replace HI := Lib.hid (HI.out.below hb)
          replace VH := Lib.hid (VH.out.below hb)
          replace IG := Lib.hid (IG.out.below hb)
          replace IW := Lib.hid (IW.out.below hb)
          replace I5 := Lib.hid (I5.out.below hb)
          replace J1 := Lib.hid (J1.out.below hb)
          replace J2 := Lib.hid (J2.out.below hb)
          replace J3 := Lib.hid (J3.out.below hb)
          replace J4 := Lib.hid (J4.out.below hb)
          replace L := Lib.hid (bst L.out hb L.out.size)
          have I6 := Lib.hid hi6
          have HS1 := Lib.hid (fun w' q => c_ShadeThing (.slice p6 l6.length q6) l6 k6 w' q); have HS2 := Lib.hid (fun w' q => s_ShadeThing (.slice p6 l6.length q6) l6 k6 w' q)
          have LS : Hid (∀ X : List Int, X = shadeR l6 k6 → X.length ≤ 1000) := fun X q => by rw [q]; exact shadeR_len l6 k6
          clear hb hi6
          generalize shadeR l6 k6 = s6 at *
          generalize shadeOk l6 k6 = ok6 at *
          generalize l6.length = m6 at *
          go_wp2_with fail
          refine (HS1.out _ I6.out).mono ?_
          intro e x7b hend
          obtain ⟨va5, rfl, hia5, hb⟩ := hend.reads
          clear hend
          obtain ⟨pa5, qa5, rfl⟩ := hia5.shape
          replace M1 := Lib.hid (M1.out.below hb)
          replace HA := Lib.hid (HA.out.below hb)
          replace HI := Lib.hid (HI.out.below hb)
          replace VH := Lib.hid (VH.out.below hb)
          replace IG := Lib.hid (IG.out.below hb)
          replace IW := Lib.hid (IW.out.below hb)
          replace I5 := Lib.hid (I5.out.below hb)
          replace J1 := Lib.hid (J1.out.below hb)
          replace J2 := Lib.hid (J2.out.below hb)
          replace J3 := Lib.hid (J3.out.below hb)
          replace J4 := Lib.hid (J4.out.below hb)
          replace I6 := Lib.hid (I6.out.below hb)
          replace L := Lib.hid (bst L.out hb L.out.size)
          have J5 := Lib.hid hia5
          clear hb hia5
          go_wp2_with fail
          refine (HS2.out _ I6.out).mono ?_
          intro e x8b hend
          obtain ⟨va6, rfl, hia6, hb⟩ := hend.reads
          clear hend
          obtain ⟨pa6, qa6, rfl⟩ := hia6.shape
          replace M1 := Lib.hid (M1.out.below hb)
          replace HA := Lib.hid (HA.out.below hb)
          replace HI := Lib.hid (HI.out.below hb)
          replace VH := Lib.hid (VH.out.below hb)
          replace IG := Lib.hid (IG.out.below hb)
          replace IW := Lib.hid (IW.out.below hb)
          replace I5 := Lib.hid (I5.out.below hb)
          replace J1 := Lib.hid (J1.out.below hb)
          replace J2 := Lib.hid (J2.out.below hb)
          replace J3 := Lib.hid (J3.out.below hb)
          replace J4 := Lib.hid (J4.out.below hb)
          replace I6 := Lib.hid (I6.out.below hb)
          replace J5 := Lib.hid (J5.out.below hb)
          replace L := Lib.hid (bst L.out hb L.out.size)
          have J6 := Lib.hid hia6
          clear hb hia6
          have e5 : (ok5 != ok5) = false := by simp
          have e6 : (ok6 != ok6) = false := by simp
          go_wp2_with fail
          refine (c_sameInts _ _ g1 g1 _ J1.out J2.out (by have := LG.out _ rfl; omega)).mono ?_
          rintro e y1b ⟨hre, nd, hnd⟩
          rw [decide_eq_true rfl] at hre
          subst hre
          have hb : Below x8b.heap.size x8b y1b := by rw [hnd]; exact below_drewN (Below.refl _ _) nd
          clear hnd nd
          replace M1 := Lib.hid (M1.out.below hb)
          replace HA := Lib.hid (HA.out.below hb)
          replace HI := Lib.hid (HI.out.below hb)
          replace VH := Lib.hid (VH.out.below hb)
          replace IG := Lib.hid (IG.out.below hb)
          replace IW := Lib.hid (IW.out.below hb)
          replace I5 := Lib.hid (I5.out.below hb)
          replace J1 := Lib.hid (J1.out.below hb)
          replace J2 := Lib.hid (J2.out.below hb)
          replace J3 := Lib.hid (J3.out.below hb)
          replace J4 := Lib.hid (J4.out.below hb)
          replace I6 := Lib.hid (I6.out.below hb)
          replace J5 := Lib.hid (J5.out.below hb)
          replace J6 := Lib.hid (J6.out.below hb)
          replace L := Lib.hid (bst L.out hb L.out.size)
          clear hb
          go_wp2_with fail
          refine (c_sameInts _ _ g0 g0 _ J3.out J4.out (by have := LW.out _ rfl; omega)).mono ?_
          rintro e y2b ⟨hre, nd, hnd⟩
          rw [decide_eq_true rfl] at hre
          subst hre
          have hb : Below y1b.heap.size y1b y2b := by rw [hnd]; exact below_drewN (Below.refl _ _) nd
          clear hnd nd
          replace M1 := Lib.hid (M1.out.below hb)
          replace HA := Lib.hid (HA.out.below hb)
          replace HI := Lib.hid (HI.out.below hb)
          replace VH := Lib.hid (VH.out.below hb)
          replace IG := Lib.hid (IG.out.below hb)
          replace IW := Lib.hid (IW.out.below hb)
          replace I5 := Lib.hid (I5.out.below hb)
          replace J1 := Lib.hid (J1.out.below hb)
          replace J2 := Lib.hid (J2.out.below hb)
          replace J3 := Lib.hid (J3.out.below hb)
          replace J4 := Lib.hid (J4.out.below hb)
          replace I6 := Lib.hid (I6.out.below hb)
          replace J5 := Lib.hid (J5.out.below hb)
          replace J6 := Lib.hid (J6.out.below hb)
          replace L := Lib.hid (bst L.out hb L.out.size)
          clear hb
          go_wp2_with fail
          refine (c_sameInts _ _ s6 s6 _ J5.out J6.out (by have := LS.out _ rfl; omega)).mono ?_
          rintro e y3b ⟨hre, nd, hnd⟩
          rw [decide_eq_true rfl] at hre
          subst hre
          have hb : Below y2b.heap.size y2b y3b := by rw [hnd]; exact below_drewN (Below.refl _ _) nd
          clear hnd nd
          replace M1 := Lib.hid (M1.out.below hb)
          replace HA := Lib.hid (HA.out.below hb)
          replace HI := Lib.hid (HI.out.below hb)
          replace VH := Lib.hid (VH.out.below hb)
          replace IG := Lib.hid (IG.out.below hb)
          replace IW := Lib.hid (IW.out.below hb)
          replace I5 := Lib.hid (I5.out.below hb)
          replace J1 := Lib.hid (J1.out.below hb)
          replace J2 := Lib.hid (J2.out.below hb)
          replace J3 := Lib.hid (J3.out.below hb)
          replace J4 := Lib.hid (J4.out.below hb)
          replace I6 := Lib.hid (I6.out.below hb)
          replace J5 := Lib.hid (J5.out.below hb)
          replace J6 := Lib.hid (J6.out.below hb)
          replace L := Lib.hid (bst L.out hb L.out.size)
          clear hb
          cases ok5
          · go_wp2_with fail
            go_ret
            exact ⟨rfl, L.out⟩
          replace FG := Lib.hid (fun j q => FG.out j q rfl); replace FW := Lib.hid (fun j q => FW.out j q rfl)
          go_wp2_with fail
          go_loopw [188] (fun i wr => ∃ j : Nat, j ≤ m5 ∧ i = .int .i64 (j : Int) ∧ wr = y3b) (fun i _ => m5 - (intOf i).toNat)
          case atStart => exact ⟨0, Nat.zero_le _, rfl, rfl⟩
          case round =>
            obtain ⟨j, hj, rfl, rfl⟩ := hrel
            by_cases hjl : j < m5
            · obtain ⟨b5, o5, rfl, hc5⟩ := I5.out.at' (by omega)
              have q := hc5 j hjl
              have j1 : (j : Int) < (m5 : Int) := by omega
              have f1 := Lib.hid (FG.out j hjl); have f0 := Lib.hid (FW.out j hjl)
              clear hc5
              generalize l5.getD j 0 = y at *
              go_wp2_with fail
              refine (c_has _ g1 (j : Int) _ J1.out (LG.out _ rfl)).mono ?_
              rintro e wh ⟨rfl, rfl⟩
              rw [f1.out]
              have e7 : ((y == 1) != (y == 1)) = false := by simp
              go_wp2_with fail
              refine (c_has _ g0 (j : Int) _ J3.out (LW.out _ rfl)).mono ?_
              rintro e wh ⟨rfl, rfl⟩
              rw [f0.out]
              have e8 : ((y == 0) != (y == 0)) = false := by simp
              go_wp2_with fail
              go_roundw
              case rel => first | exact ⟨j + 1, by omega, by go_num, rfl⟩ | exact ⟨j + 1, by omega, by go_num, trivial⟩
              case measure => simp [intOf]; omega
            · have j1 : ¬ (j : Int) < (m5 : Int) := by omega
              go_wp2_with fail
              go_ret
              exact ⟨rfl, L.out⟩
end Go.Proofs.Ytdagkbgobnaijab
namespace Go.Proofs.Ytdagkbgobnaijab.xScanned
open Go.ChangeShapes Go.WideShapes Go.ChangeAt Go.RowKit

set_option maxRecDepth 100000 in
theorem contract (H : Type) (enc : TypeId × Value → H) (W : World) (base : Nat) (args : Array Value) (ds gs : List (DataW H)) (before : List MemPlace)
    (hval : ∀ (j : Nat) t v, Try.f7.params[j]? = some t → args[j]? = some v → Value.okWide Try.prog W .any base t v)
    (hW : DataW.Whole enc Try.prog Try.f7.params.toList Rows.fnScannedSpec.vars false W args.toList ds gs before) :
    Calls Try.prog 7 args W fun e W' => ∃ v, e = .returned v ∧ Rows.fnScannedSpec.post enc Try.prog Try.f7 false true false false W args v W' := by
  have hW' := hW
  obtain ⟨p, q, hA0, hV, rfl, hfz, hnd⟩ := hW
  have hA : DataW.TrodAll enc Try.prog W 0 (fun _ => true) true Try.f7.params.toList args.toList ds p := hA0
  have hpar : ∀ t ∈ Try.f7.params.toList, Try.prog.readableRec t = true ∧ t < Try.prog.types.size := by
    rw [Try.params7]; intro t ht; simp at ht; subst ht; exact r_bytes
  rw [Try.params7] at hA hval
  obtain ⟨v0, vs0, d0, ds0, p0, q0, hargs, rfl, rfl, h0, r0⟩ := trodAll_cons hA
  obtain ⟨v1, vs1, d1, ds1, p1, q1, rfl, rfl, rfl, h1, r1⟩ := trodAll_cons r0
  obtain ⟨rfl, rfl, rfl⟩ := trodAll_nil r1
  obtain rfl : args = #[v0, v1] := by cases args; simp_all
  obtain ⟨rfl, rfl⟩ := trodVars_none hV
  obtain ⟨z0, hz0⟩ := bytes_of_arg (hval 0 22 v0 rfl rfl) h0
  obtain ⟨z1, hz1⟩ := bytes_of_arg (hval 1 22 v1 rfl rfl) h1
  refine (walk_FnScanned v0 z0 v1 z1 W hz0 hz1).mono fun e W' ⟨he, hb⟩ => ?_
  subst he
  exact ⟨_, rfl, law_post laidOut hpar (fun n hn => by cases hn) hW' hb rfl (by kernel_rfl) Try.underlying4⟩

set_option maxRecDepth 100000 in
theorem lifted (os : Os) (started : os.Started) (H : Type) (enc : TypeId × Value → H) :
    ReturnsInHanded {} Try.checked os 7 .any (Rows.fnScannedSpec.pre6 enc Try.prog Try.f7 Rows.fnScannedRow.domain false) (Rows.fnScannedSpec.post enc Try.prog Try.f7 false true false false) := by
  refine returnsInHanded_of_change (C := Try.checked) own started (by kernel_rfl) Try.func7
    (ChangeSpec.witness6 (enc := enc) (C := Try.checked) false ⟨#[], #[.slice none 0 0, .slice none 0 0], []⟩ 8 (by kernel_rfl) (by kernel_rfl) (by kernel_rfl) (by kernel_rfl)) ?_
  intro W base args ds gs before hval hW _ _
  exact contract H enc W base args ds gs before hval hW
end Go.Proofs.Ytdagkbgobnaijab.xScanned
namespace Go.Proofs.Ytdagkbgobnaijab
theorem xScanned_said : Rows.FnScannedSaid :=
  OpenClaim.holds_of_wide 7 Try.f7 rfl rfl rfl rfl rfl rfl rfl ⟨rfl, rfl, rfl, rfl, rfl⟩ rfl rfl rfl rfl rfl (by kernel_rfl) Try.func7 (by kernel_rfl)
    (of_decide_eq_true (by kernel_rfl)) (by unfold Func.isWrapper; first | (rw [if_pos (by decide +kernel)]; kernel_rfl) | (rw [if_neg (by decide +kernel)]; exact ⟨rfl, rfl⟩))
    (fun os started H enc _ => xScanned.lifted os started H enc)
end Go.Proofs.Ytdagkbgobnaijab
