/- The walk of laws.FnExactSweepSpan. -/
import Derived.Test.YtcelebblcjhpaaaDoorSw7
import Derived.Test.YtcelebblcjhpaaaDoorSs3
import Derived.Test.YtcelebblcjhpaaaDoorSe1
import Derived.Deep.Cut
namespace Go.Proofs.YtcelebblcjhpaaaDoor
open Go.RowKit Pb

set_option maxHeartbeats 12800000 in
set_option maxRecDepth 100000 in
theorem core_FnExactSweepSpan (fa ca la : Int) (va : Value) (za : List Int) (lb : Int) (vb : Value) (zb : List Int) (fr cr lr : Int) (rs : List Int) (nn : Int) (ok : Bool) (T : World → Prop) (w : World) (hza : IntsAt w va za) (hzb : IntsAt w vb zb) (hm : za.length + zb.length ≤ 1048576) (hrs : rs.length ≤ 1000) (hT : ∀ w', Below w.heap.size w w' → T w')
    (hS : ∀ (w : World) (va : Value) (vb : Value), IntsAt w va za → IntsAt w vb zb → Calls Tryd.prog 33 #[sp fa ca la va, bm lb vb] w (SpanEnd3 fr cr lr rs nn ok w))
    (hI : ∀ (w : World) (va : Value) (vb : Value), IntsAt w va za → IntsAt w vb zb → T w → Calls Tryd.prog 32 #[sp fa ca la va, bm lb vb] w (SpanEnd3 fr cr lr rs nn ok w)) :
    Calls Tryd.prog 11 #[sp fa ca la va, bm lb vb] w fun e w' => e = .returned (.bool true) ∧ Below w.heap.size w w' := by
  have HZa := Lib.hid hza
  have HZb := Lib.hid hzb
  have HS := Lib.hid hS; have HI := Lib.hid hI; have HT := Lib.hid hT
  clear hS hI hT
  obtain ⟨nr, hnr⟩ : ∃ n, n = rs.length := ⟨_, rfl⟩
  have HNR : Hid (rs.length = nr) := hnr.symm
  rw [← hnr] at hrs
  clear hnr
  obtain ⟨aa, caa, rfl, _⟩ := id hza
  obtain ⟨ab, cab, rfl, _⟩ := id hzb
  obtain ⟨na, hna⟩ : ∃ n, n = za.length := ⟨_, rfl⟩
  have HNa : Hid (za.length = na) := hna.symm
  obtain ⟨nb, hnb⟩ : ∃ n, n = zb.length := ⟨_, rfl⟩
  have HNb : Hid (zb.length = nb) := hnb.symm
  rw [← hna, ← hnb] at hm
  rw [← hna] at HZa
  rw [← hnb] at HZb
  rw [← hna, ← hnb]
  clear hza hna hzb hnb
  have HMa : Hid (za.length ≤ 1048576) := by unfold Hid; rw [HNa.out]; omega
  have HMb : Hid (zb.length ≤ 1048576) := by unfold Hid; rw [HNb.out]; omega
  have e2 : (ok != ok) = false := by simp
  have e3 : (nn != nn) = false := by simp
  have ek : ¬ (1 : Int) + (nr : Int) < 0 := by omega
  have em : ((1 : Int) + (nr : Int) != 1 + (nr : Int)) = false := by simp
  have hl0 : ¬ (1048576 - (na : Int)) < 0 := by omega
  have hl1 : ¬ (1048576 - (na : Int) - (nb : Int)) < 0 := by omega
  have ex : ¬ (1 : Int) + (na : Int) + (nb : Int) < 0 := by omega
  have L := ((Below.refl w.heap.size w).alloc (Nat.le_refl _) (.cells (c4 fa ca la (.slice aa na caa)) 53)).alloc (by simp) (.cells (cb lb (.slice ab nb cab)) 51)
  have R0 : Row _ w.heap.size 53 (c4 fa ca la (.slice aa na caa)) := (Row.new w _ _).alloc (.cells (cb lb (.slice ab nb cab)) 51)
  have R1 : Row ((w.alloc (.cells (c4 fa ca la (.slice aa na caa)) 53)).alloc (.cells (cb lb (.slice ab nb cab)) 51)) (w.heap.size + 1) 51 (cb lb (.slice ab nb cab)) := Row.new1 w _ _ _
  go_enter Tryd.func11, Tryd.ntmps11
  go_wp2_with fail
  refine (c_szSpan_yes fa ca la aa na caa (1048576) _ (by omega) (by omega)).mono ?_
  rintro e sa ⟨rfl, hb⟩
  replace R0 := Row.below R0 hb
  replace R1 := Row.below R1 hb
  have hs0 := hb.size
  try simp only [World.size_alloc] at hs0
  replace L := bst L hb L.size
  clear hb
  have c00 := Row.cell R0 0
  have c10 := Row.cell R0 1
  have c20 := Row.cell R0 2
  have c30 := Row.cell R0 3
  have lt0 := Row.lt R0
  have c01 := Row.cell R1 0
  have c11 := Row.cell R1 1
  have lt1 := Row.lt R1
  go_wp2_with fail
  clear c00 c10 c20 c30 lt0 c01 c11 lt1
  refine (c_szBits_yes lb ab nb cab (1048576 - (na : Int)) _ (by omega) (by omega)).mono ?_
  rintro e sb ⟨rfl, hb⟩
  replace R0 := Row.below R0 hb
  replace R1 := Row.below R1 hb
  have hs1 := hb.size
  try simp only [World.size_alloc] at hs1
  replace L := bst L hb L.size
  clear hb
  have c00 := Row.cell R0 0
  have c10 := Row.cell R0 1
  have c20 := Row.cell R0 2
  have c30 := Row.cell R0 3
  have lt0 := Row.lt R0
  have c01 := Row.cell R1 0
  have c11 := Row.cell R1 1
  have lt1 := Row.lt R1
  go_wp2_with fail
  have IZa : IntsAt sb (.slice aa na caa) za := IntsAt.below HZa.out L
  have IZb : IntsAt sb (.slice ab nb cab) zb := IntsAt.below HZb.out L
  have KS : Hid (∀ X, Below sb.heap.size sb X → X.cell? ⟨w.heap.size, 0, none⟩ = some (.int .i64 fa) ∧ X.cell? ⟨w.heap.size, 1, none⟩ = some (.int .i64 ca) ∧ X.cell? ⟨w.heap.size, 2, none⟩ = some (.int .i64 la) ∧ X.cell? ⟨w.heap.size, 3, none⟩ = some (.slice aa na caa) ∧ X.cell? ⟨w.heap.size + 1, 0, none⟩ = some (.int .i64 lb) ∧ X.cell? ⟨w.heap.size + 1, 1, none⟩ = some (.slice ab nb cab) ∧ Below sb.heap.size sb X) := fun X hX => ⟨Row.cell (Row.below R0 hX) 0, Row.cell (Row.below R0 hX) 1, Row.cell (Row.below R0 hX) 2, Row.cell (Row.below R0 hX) 3, Row.cell (Row.below R1 hX) 0, Row.cell (Row.below R1 hX) 1, hX⟩
  have BD := below_drew (Below.refl sb.heap.size sb)
  clear c00 c10 c20 c30 lt0 c01 c11 lt1
  go_cut [6, 7, 8] from 20 (fun s6 s7 s8 wz => ∃ (gB : Nat) (g : Option Addr) (cq : Nat), s6 = .pointer (some ⟨gB, 0, none⟩) ∧ s7 = .int .i64 nn ∧ s8 = .bool ok ∧ Row wz w.heap.size 53 (c4 fa ca la (.slice aa na caa)) ∧ Row wz (w.heap.size + 1) 51 (cb lb (.slice ab nb cab)) ∧ RowS wz gB fr cr lr (.slice g nr cq) ∧ Own wz sb.heap.size (.slice g nr cq) rs ∧ (∀ k, (Value.slice g nr cq).ownBlock = some k → sb.heap.size ≤ k ∧ k < wz.heap.size) ∧ Below w.heap.size w wz ∧ gB < wz.heap.size ∧ sb.heap.size ≤ gB ∧ sb.heap.size ≤ wz.heap.size)
  case first =>
    refine wp_region_noPanic ?_
    refine wp_region_held_drew (S := (fun w' => w'.cell? ⟨w.heap.size, 0, none⟩ = some (.int .i64 fa) ∧ w'.cell? ⟨w.heap.size, 1, none⟩ = some (.int .i64 ca) ∧ w'.cell? ⟨w.heap.size, 2, none⟩ = some (.int .i64 la) ∧ w'.cell? ⟨w.heap.size, 3, none⟩ = some (.slice aa na caa) ∧ w'.cell? ⟨w.heap.size + 1, 0, none⟩ = some (.int .i64 lb) ∧ w'.cell? ⟨w.heap.size + 1, 1, none⟩ = some (.slice ab nb cab) ∧ Below sb.heap.size sb w')) (by kernel_rfl) (KS.out _ BD) (fun hHeld => ?_)
    refine wpAnyH_take (i := 0) (v := ?va0x1) rfl (by kernel_rfl) (by kernel_rfl) (by kernel_rfl) (fun _ _ _ h => h) (Or.inl ⟨by rfl, ?hy0x1⟩) (by assumption) ?rest0x1
    case hy0x1 => (intro w hSw; (try dsimp only at hSw); go_simp; try with_reducible rfl)
    (try simp only [Act.put, List.getElem_toArray, List.getElem_cons_zero, List.setIfInBounds_toArray, List.set_cons_zero, List.set_cons_succ])
    refine wpAnyH_take (i := 2) (v := ?va2x2) rfl (by kernel_rfl) (by kernel_rfl) (by kernel_rfl) (fun _ _ _ h => h) (Or.inl ⟨by rfl, ?hy2x2⟩) (by assumption) ?rest2x2
    case hy2x2 => (intro w hSw; (try dsimp only at hSw); go_simp; try with_reducible rfl)
    (try simp only [Act.put, List.getElem_toArray, List.getElem_cons_zero, List.getElem_cons_succ, List.setIfInBounds_toArray, List.set_cons_zero, List.set_cons_succ])
    refine wpAnyH_ready (rs := [1, 9]) (by kernel_rfl) (by simp) ?_
    refine AllReadyH.cons rfl (fun K hK => ?_) ?_
    · go_simp
      refine (c_toSpan fa ca la (.slice aa na caa) za _ (IntsAt.below IZa BD) HMa.out).mono ?_
      rintro e pS1 ⟨vapS, rfl, hoa, hbk⟩
      have IA := hoa.ints
      have kb1 := bst BD hbk BD.size
      refine hK.out _ _ (KS.out _ kb1) (fun hHeld => ?_)
      clear hK K
      (try simp only [Act.put, List.getElem_toArray, List.getElem_cons_zero, List.getElem_cons_succ, List.setIfInBounds_toArray, List.set_cons_zero, List.set_cons_succ])
      refine wpAnyH_ready (rs := [3, 9]) (by kernel_rfl) (by simp) ?_
      refine AllReadyH.cons rfl (fun K hK => ?_) ?_
      · go_simp
        refine (c_toBits lb (.slice ab nb cab) zb _ (IntsAt.below IZb kb1) HMb.out).mono ?_
        rintro e pS2 ⟨vbpS, rfl, hob, hbk⟩
        replace IA := IA.below hbk
        have IB := hob.ints
        have kb2 := bst kb1 hbk kb1.size
        refine hK.out _ _ (KS.out _ kb2) (fun hHeld => ?_)
        clear hK K
        (try simp only [Act.put, List.getElem_toArray, List.getElem_cons_zero, List.getElem_cons_succ, List.setIfInBounds_toArray, List.set_cons_zero, List.set_cons_succ])
        refine wpAnyH_ready (rs := [4, 9]) (by kernel_rfl) (by simp) ?_
        refine AllReadyH.cons rfl (fun K hK => ?_) ?_
        · go_simp
          refine (HS.out _ _ _ IA IB).mono ?_
          rintro e pS3 ⟨vW, rfl, ho, hbk⟩
          have hU := World.ownsRow.lt ho
          try simp only [World.size_alloc] at hU
          have hX := hbk.size
          try simp only [World.size_alloc] at hX
          have hX0 := kb2.size
          try simp only [World.size_alloc] at hX0
          obtain ⟨gW, cW, hvs, _⟩ := ho.shape
          rw [HNR.out] at hvs
          subst hvs
          have kb3 := bst kb2 hbk kb2.size
          refine hK.out _ _ (KS.out _ kb3) (fun hHeld => ?_)
          clear hK K
          (try simp only [Act.put, List.getElem_toArray, List.getElem_cons_zero, List.getElem_cons_succ, List.setIfInBounds_toArray, List.set_cons_zero, List.set_cons_succ])
          refine wpAnyH_take (i := 5) (v := ?va5x5) rfl (by kernel_rfl) (by kernel_rfl) (by kernel_rfl) (fun _ _ _ h => h) (Or.inl ⟨by rfl, ?hy5x5⟩) (by assumption) ?rest5x5
          case hy5x5 => (intro w hSw; (try dsimp only at hSw); go_simp; try with_reducible rfl)
          (try simp only [Act.put, List.getElem_toArray, List.getElem_cons_zero, List.getElem_cons_succ, List.setIfInBounds_toArray, List.set_cons_zero, List.set_cons_succ])
          refine wpAnyH_take (i := 6) (v := ?va6x6) rfl (by kernel_rfl) (by kernel_rfl) (by kernel_rfl) (fun _ _ _ h => h) (Or.inl ⟨by rfl, ?hy6x6⟩) (by assumption) ?rest6x6
          case hy6x6 => (intro w hSw; (try dsimp only at hSw); go_simp; try with_reducible rfl)
          (try simp only [Act.put, List.getElem_toArray, List.getElem_cons_zero, List.getElem_cons_succ, List.setIfInBounds_toArray, List.set_cons_zero, List.set_cons_succ])
          refine wpAnyH_take (i := 7) (v := ?va7x7) rfl (by kernel_rfl) (by kernel_rfl) (by kernel_rfl) (fun _ _ _ h => h) (Or.inl ⟨by rfl, ?hy7x7⟩) (by assumption) ?rest7x7
          case hy7x7 => (intro w hSw; (try dsimp only at hSw); go_simp; try with_reducible rfl)
          (try simp only [Act.put, List.getElem_toArray, List.getElem_cons_zero, List.getElem_cons_succ, List.setIfInBounds_toArray, List.set_cons_zero, List.set_cons_succ])
          refine wpAnyH_take (i := 8) (v := ?va8x8) rfl (by kernel_rfl) (by kernel_rfl) (by kernel_rfl) (fun _ _ _ h => h) (Or.inl ⟨by rfl, ?hy8x8⟩) (by assumption) ?rest8x8
          case hy8x8 => (intro w hSw; (try dsimp only at hSw); go_simp; try with_reducible rfl)
          (try simp only [Act.put, List.getElem_toArray, List.getElem_cons_zero, List.getElem_cons_succ, List.setIfInBounds_toArray, List.set_cons_zero, List.set_cons_succ])
          refine wpAnyH_ready (rs := [9]) (by kernel_rfl) (by simp) ?_
          refine AllReadyH.cons rfl (fun K hK => ?_) AllReadyH.nil
          go_simp
          have kz := Below.alloc kb3 kb3.size (.cells (c4 0 0 0 (.slice none 0 0)) 27)
          refine hK.out _ _ (KS.out _ kz) (fun hHeld => ?_)
          clear hK K
          (try simp only [Act.put, List.getElem_toArray, List.getElem_cons_zero, List.getElem_cons_succ, List.setIfInBounds_toArray, List.set_cons_zero, List.set_cons_succ])
          refine wpAnyH_ready (rs := [10]) (by kernel_rfl) (by simp) ?_
          refine AllReadyH.cons rfl (fun K hK => ?_) AllReadyH.nil
          go_simp
          have kw := Below.alloc kb3 kb3.size (.cells (c4 fr cr lr (.slice gW nr cW)) 27)
          refine hK.out _ _ (KS.out _ kw) (fun hHeld => ?_)
          clear hK K
          (try simp only [Act.put, List.getElem_toArray, List.getElem_cons_zero, List.getElem_cons_succ, List.setIfInBounds_toArray, List.set_cons_zero, List.set_cons_succ])
          refine wpAnyH_take (i := 11) (v := ?va11x3) rfl (by kernel_rfl) (by kernel_rfl) (by kernel_rfl) (fun _ _ _ h => h) (Or.inl ⟨by rfl, ?hy11x3⟩) (by assumption) ?rest11x3
          case hy11x3 => (intro w hSw; (try dsimp only at hSw); go_simp; try with_reducible rfl)
          (try simp only [Act.put, List.getElem_toArray, List.getElem_cons_zero, List.getElem_cons_succ, List.setIfInBounds_toArray, List.set_cons_zero, List.set_cons_succ])
          refine wpAnyH_take (i := 12) (v := ?va12x4) rfl (by kernel_rfl) (by kernel_rfl) (by kernel_rfl) (fun _ _ _ h => h) (Or.inl ⟨by rfl, ?hy12x4⟩) (by assumption) ?rest12x4
          case hy12x4 => (intro w hSw; (try dsimp only at hSw); go_simp; try with_reducible rfl)
          (try simp only [Act.put, List.getElem_toArray, List.getElem_cons_zero, List.getElem_cons_succ, List.setIfInBounds_toArray, List.set_cons_zero, List.set_cons_succ])
          refine wpAnyH_done (by kernel_rfl) ?_ _
          refine NoPanic.normal ?_
          have RW : RowS _ pS3.heap.size fr cr lr (.slice gW nr cW) := Row.new pS3 _ _
          replace R0 := (Row.below R0 kb3).alloc (.cells (c4 fr cr lr (.slice gW nr cW)) 27)
          replace R1 := (Row.below R1 kb3).alloc (.cells (c4 fr cr lr (.slice gW nr cW)) 27)
          have OW := (ho.mono (show sb.heap.size ≤ _ by omega)).below ((Below.refl _ _).alloc (Nat.le_refl _) (.cells (c4 fr cr lr (.slice gW nr cW)) 27))
          replace L := bst L kb3 L.size
          replace L := L.alloc L.size (.cells (c4 fr cr lr (.slice gW nr cW)) 27)
          have hV : ∀ k, (Value.slice gW nr cW).ownBlock = some k → sb.heap.size ≤ k ∧ k < (pS3.alloc (.cells (c4 fr cr lr (.slice gW nr cW)) 27)).heap.size := fun k hk => by have := hU k hk; simp; omega
          have hsa : pS3.heap.size < (pS3.alloc (.cells (c4 fr cr lr (.slice gW nr cW)) 27)).heap.size := by simp
          have hsb : sb.heap.size ≤ pS3.heap.size := kb3.size
          have hsc : sb.heap.size ≤ (pS3.alloc (.cells (c4 fr cr lr (.slice gW nr cW)) 27)).heap.size := by simp; omega
          go_wp2_with fail
          go_meet
          case rel => exact ⟨_, _, _, rfl, rfl, rfl, R0, R1, RW, OW, hV, L, hsa, hsb, hsc⟩
        · refine AllReadyH.cons rfl (fun K hK => ?_) AllReadyH.nil
          go_simp
          have kz := Below.alloc kb2 kb2.size (.cells (c4 0 0 0 (.slice none 0 0)) 27)
          have RZ : RowS ((pS2).alloc (.cells (c4 0 0 0 (.slice none 0 0)) 27)) pS2.heap.size 0 0 0 (.slice none 0 0) := Row.new (pS2) _ _
          have hgz : sb.heap.size ≤ pS2.heap.size := kb2.size
          replace IA := IA.below ((Below.refl _ _).alloc (Nat.le_refl _) (.cells (c4 0 0 0 (.slice none 0 0)) 27))
          replace IB := IB.below ((Below.refl _ _).alloc (Nat.le_refl _) (.cells (c4 0 0 0 (.slice none 0 0)) 27))
          refine hK.out _ _ (KS.out _ kz) (fun hHeld => ?_)
          clear hK K
          (try simp only [Act.put, List.getElem_toArray, List.getElem_cons_zero, List.getElem_cons_succ, List.setIfInBounds_toArray, List.set_cons_zero, List.set_cons_succ])
          refine wpAnyH_ready (rs := [4]) (by kernel_rfl) (by simp) ?_
          refine AllReadyH.cons rfl (fun K hK => ?_) AllReadyH.nil
          go_simp
          refine (HS.out _ _ _ IA IB).mono ?_
          rintro e pS3z ⟨vW, rfl, ho, hbk⟩
          have hU := World.ownsRow.lt ho
          try simp only [World.size_alloc] at hU
          have hX := hbk.size
          try simp only [World.size_alloc] at hX
          have hX0 := kz.size
          try simp only [World.size_alloc] at hX0
          obtain ⟨gW, cW, hvs, _⟩ := ho.shape
          rw [HNR.out] at hvs
          subst hvs
          have kb3 := bst kz hbk kz.size
          replace RZ := Row.below RZ hbk
          refine hK.out _ _ (KS.out _ kb3) (fun hHeld => ?_)
          clear hK K
          (try simp only [Act.put, List.getElem_toArray, List.getElem_cons_zero, List.getElem_cons_succ, List.setIfInBounds_toArray, List.set_cons_zero, List.set_cons_succ])
          refine wpAnyH_take (i := 5) (v := ?va5x11) rfl (by kernel_rfl) (by kernel_rfl) (by kernel_rfl) (fun _ _ _ h => h) (Or.inl ⟨by rfl, ?hy5x11⟩) (by assumption) ?rest5x11
          case hy5x11 => (intro w hSw; (try dsimp only at hSw); go_simp; try with_reducible rfl)
          (try simp only [Act.put, List.getElem_toArray, List.getElem_cons_zero, List.getElem_cons_succ, List.setIfInBounds_toArray, List.set_cons_zero, List.set_cons_succ])
          refine wpAnyH_take (i := 6) (v := ?va6x12) rfl (by kernel_rfl) (by kernel_rfl) (by kernel_rfl) (fun _ _ _ h => h) (Or.inl ⟨by rfl, ?hy6x12⟩) (by assumption) ?rest6x12
          case hy6x12 => (intro w hSw; (try dsimp only at hSw); go_simp; try with_reducible rfl)
          (try simp only [Act.put, List.getElem_toArray, List.getElem_cons_zero, List.getElem_cons_succ, List.setIfInBounds_toArray, List.set_cons_zero, List.set_cons_succ])
          refine wpAnyH_take (i := 7) (v := ?va7x13) rfl (by kernel_rfl) (by kernel_rfl) (by kernel_rfl) (fun _ _ _ h => h) (Or.inl ⟨by rfl, ?hy7x13⟩) (by assumption) ?rest7x13
          case hy7x13 => (intro w hSw; (try dsimp only at hSw); go_simp; try with_reducible rfl)
          (try simp only [Act.put, List.getElem_toArray, List.getElem_cons_zero, List.getElem_cons_succ, List.setIfInBounds_toArray, List.set_cons_zero, List.set_cons_succ])
          refine wpAnyH_take (i := 8) (v := ?va8x14) rfl (by kernel_rfl) (by kernel_rfl) (by kernel_rfl) (fun _ _ _ h => h) (Or.inl ⟨by rfl, ?hy8x14⟩) (by assumption) ?rest8x14
          case hy8x14 => (intro w hSw; (try dsimp only at hSw); go_simp; try with_reducible rfl)
          (try simp only [Act.put, List.getElem_toArray, List.getElem_cons_zero, List.getElem_cons_succ, List.setIfInBounds_toArray, List.set_cons_zero, List.set_cons_succ])
          have hgl : pS2.heap.size < pS3z.heap.size := Row.lt RZ
          refine wpAnyH_ready (rs := [10]) (by kernel_rfl) (by simp) ?_
          have dz0 := RowS.c0 RZ
          have dz1 := RowS.c1 RZ
          have dz2 := RowS.c2 RZ
          have dz3 := RowS.c3 RZ
          have fz0 := Row.frozen RZ 0
          have fz1 := Row.frozen RZ 1
          have fz2 := Row.frozen RZ 2
          have fz3 := Row.frozen RZ 3
          refine AllReadyH.cons rfl (fun K hK => ?_) AllReadyH.nil
          go_simp
          have kw := below_set4 (g := pS2.heap.size) kb3 hgz (.int .i64 fr) (.int .i64 cr) (.int .i64 lr) (.slice gW nr cW)
          refine hK.out _ _ (KS.out _ kw) (fun hHeld => ?_)
          clear hK K
          (try simp only [Act.put, List.getElem_toArray, List.getElem_cons_zero, List.getElem_cons_succ, List.setIfInBounds_toArray, List.set_cons_zero, List.set_cons_succ])
          clear dz0 dz1 dz2 dz3 fz0 fz1 fz2 fz3
          refine wpAnyH_take (i := 11) (v := ?va11x9) rfl (by kernel_rfl) (by kernel_rfl) (by kernel_rfl) (fun _ _ _ h => h) (Or.inl ⟨by rfl, ?hy11x9⟩) (by assumption) ?rest11x9
          case hy11x9 => (intro w hSw; (try dsimp only at hSw); go_simp; try with_reducible rfl)
          (try simp only [Act.put, List.getElem_toArray, List.getElem_cons_zero, List.getElem_cons_succ, List.setIfInBounds_toArray, List.set_cons_zero, List.set_cons_succ])
          refine wpAnyH_take (i := 12) (v := ?va12x10) rfl (by kernel_rfl) (by kernel_rfl) (by kernel_rfl) (fun _ _ _ h => h) (Or.inl ⟨by rfl, ?hy12x10⟩) (by assumption) ?rest12x10
          case hy12x10 => (intro w hSw; (try dsimp only at hSw); go_simp; try with_reducible rfl)
          (try simp only [Act.put, List.getElem_toArray, List.getElem_cons_zero, List.getElem_cons_succ, List.setIfInBounds_toArray, List.set_cons_zero, List.set_cons_succ])
          refine wpAnyH_done (by kernel_rfl) ?_ _
          refine NoPanic.normal ?_
          have RW : RowS ((((pS3z.setCell ⟨pS2.heap.size, 0, none⟩ (.int .i64 fr)).setCell ⟨pS2.heap.size, 1, none⟩ (.int .i64 cr)).setCell ⟨pS2.heap.size, 2, none⟩ (.int .i64 lr)).setCell ⟨pS2.heap.size, 3, none⟩ (.slice gW nr cW)) (pS2.heap.size) fr cr lr (.slice gW nr cW) := rowS_set4 RZ fr cr lr (.slice gW nr cW)
          replace R0 := row_set4 (g' := pS2.heap.size) (Row.below R0 kb3) (by have := Row.lt R0; omega) (.int .i64 fr) (.int .i64 cr) (.int .i64 lr) (.slice gW nr cW)
          replace R1 := row_set4 (g' := pS2.heap.size) (Row.below R1 kb3) (by have := Row.lt R1; omega) (.int .i64 fr) (.int .i64 cr) (.int .i64 lr) (.slice gW nr cW)
          have OW := Own.setApart4 (ho.mono (show sb.heap.size ≤ _ by first | omega | (simp; omega))) (pS2.heap.size) (.int .i64 fr) (.int .i64 cr) (.int .i64 lr) (.slice gW nr cW) (own_row_ne' ho RZ)
          replace L := bst L kb3 L.size
          replace L := below_set4 (g := pS2.heap.size) L (by have := L.size; omega) (.int .i64 fr) (.int .i64 cr) (.int .i64 lr) (.slice gW nr cW)
          have hsz : ((((pS3z.setCell ⟨pS2.heap.size, 0, none⟩ (.int .i64 fr)).setCell ⟨pS2.heap.size, 1, none⟩ (.int .i64 cr)).setCell ⟨pS2.heap.size, 2, none⟩ (.int .i64 lr)).setCell ⟨pS2.heap.size, 3, none⟩ (.slice gW nr cW)).heap.size = pS3z.heap.size := by simp [World.setCell]
          have hV : ∀ k, (Value.slice gW nr cW).ownBlock = some k → sb.heap.size ≤ k ∧ k < ((((pS3z.setCell ⟨pS2.heap.size, 0, none⟩ (.int .i64 fr)).setCell ⟨pS2.heap.size, 1, none⟩ (.int .i64 cr)).setCell ⟨pS2.heap.size, 2, none⟩ (.int .i64 lr)).setCell ⟨pS2.heap.size, 3, none⟩ (.slice gW nr cW)).heap.size := fun k hk => by have := hU k hk; rw [hsz]; omega
          have hsa : pS2.heap.size < ((((pS3z.setCell ⟨pS2.heap.size, 0, none⟩ (.int .i64 fr)).setCell ⟨pS2.heap.size, 1, none⟩ (.int .i64 cr)).setCell ⟨pS2.heap.size, 2, none⟩ (.int .i64 lr)).setCell ⟨pS2.heap.size, 3, none⟩ (.slice gW nr cW)).heap.size := by rw [hsz]; omega
          have hsb : sb.heap.size ≤ pS2.heap.size := hgz
          have hsc : sb.heap.size ≤ ((((pS3z.setCell ⟨pS2.heap.size, 0, none⟩ (.int .i64 fr)).setCell ⟨pS2.heap.size, 1, none⟩ (.int .i64 cr)).setCell ⟨pS2.heap.size, 2, none⟩ (.int .i64 lr)).setCell ⟨pS2.heap.size, 3, none⟩ (.slice gW nr cW)).heap.size := by rw [hsz]; omega
          go_wp2_with fail
          go_meet
          case rel => exact ⟨_, _, _, rfl, rfl, rfl, R0, R1, RW, OW, hV, L, hsa, hsb, hsc⟩
      · refine AllReadyH.cons rfl (fun K hK => ?_) AllReadyH.nil
        go_simp
        have kz := Below.alloc kb1 kb1.size (.cells (c4 0 0 0 (.slice none 0 0)) 27)
        have RZ : RowS ((pS1).alloc (.cells (c4 0 0 0 (.slice none 0 0)) 27)) pS1.heap.size 0 0 0 (.slice none 0 0) := Row.new (pS1) _ _
        have hgz : sb.heap.size ≤ pS1.heap.size := kb1.size
        replace IA := IA.below ((Below.refl _ _).alloc (Nat.le_refl _) (.cells (c4 0 0 0 (.slice none 0 0)) 27))
        refine hK.out _ _ (KS.out _ kz) (fun hHeld => ?_)
        clear hK K
        (try simp only [Act.put, List.getElem_toArray, List.getElem_cons_zero, List.getElem_cons_succ, List.setIfInBounds_toArray, List.set_cons_zero, List.set_cons_succ])
        refine wpAnyH_ready (rs := [3]) (by kernel_rfl) (by simp) ?_
        refine AllReadyH.cons rfl (fun K hK => ?_) AllReadyH.nil
        go_simp
        refine (c_toBits lb (.slice ab nb cab) zb _ (IntsAt.below IZb kz) HMb.out).mono ?_
        rintro e pS2z ⟨vbpS, rfl, hob, hbk⟩
        replace IA := IA.below hbk
        have IB := hob.ints
        have kb2 := bst kz hbk kz.size
        replace RZ := Row.below RZ hbk
        refine hK.out _ _ (KS.out _ kb2) (fun hHeld => ?_)
        clear hK K
        (try simp only [Act.put, List.getElem_toArray, List.getElem_cons_zero, List.getElem_cons_succ, List.setIfInBounds_toArray, List.set_cons_zero, List.set_cons_succ])
        refine wpAnyH_ready (rs := [4]) (by kernel_rfl) (by simp) ?_
        refine AllReadyH.cons rfl (fun K hK => ?_) AllReadyH.nil
        go_simp
        refine (HS.out _ _ _ IA IB).mono ?_
        rintro e pS3z ⟨vW, rfl, ho, hbk⟩
        have hU := World.ownsRow.lt ho
        try simp only [World.size_alloc] at hU
        have hX := hbk.size
        try simp only [World.size_alloc] at hX
        have hX0 := kb2.size
        try simp only [World.size_alloc] at hX0
        obtain ⟨gW, cW, hvs, _⟩ := ho.shape
        rw [HNR.out] at hvs
        subst hvs
        have kb3 := bst kb2 hbk kb2.size
        replace RZ := Row.below RZ hbk
        refine hK.out _ _ (KS.out _ kb3) (fun hHeld => ?_)
        clear hK K
        (try simp only [Act.put, List.getElem_toArray, List.getElem_cons_zero, List.getElem_cons_succ, List.setIfInBounds_toArray, List.set_cons_zero, List.set_cons_succ])
        refine wpAnyH_take (i := 5) (v := ?va5x17) rfl (by kernel_rfl) (by kernel_rfl) (by kernel_rfl) (fun _ _ _ h => h) (Or.inl ⟨by rfl, ?hy5x17⟩) (by assumption) ?rest5x17
        case hy5x17 => (intro w hSw; (try dsimp only at hSw); go_simp; try with_reducible rfl)
        (try simp only [Act.put, List.getElem_toArray, List.getElem_cons_zero, List.getElem_cons_succ, List.setIfInBounds_toArray, List.set_cons_zero, List.set_cons_succ])
        refine wpAnyH_take (i := 6) (v := ?va6x18) rfl (by kernel_rfl) (by kernel_rfl) (by kernel_rfl) (fun _ _ _ h => h) (Or.inl ⟨by rfl, ?hy6x18⟩) (by assumption) ?rest6x18
        case hy6x18 => (intro w hSw; (try dsimp only at hSw); go_simp; try with_reducible rfl)
        (try simp only [Act.put, List.getElem_toArray, List.getElem_cons_zero, List.getElem_cons_succ, List.setIfInBounds_toArray, List.set_cons_zero, List.set_cons_succ])
        refine wpAnyH_take (i := 7) (v := ?va7x19) rfl (by kernel_rfl) (by kernel_rfl) (by kernel_rfl) (fun _ _ _ h => h) (Or.inl ⟨by rfl, ?hy7x19⟩) (by assumption) ?rest7x19
        case hy7x19 => (intro w hSw; (try dsimp only at hSw); go_simp; try with_reducible rfl)
        (try simp only [Act.put, List.getElem_toArray, List.getElem_cons_zero, List.getElem_cons_succ, List.setIfInBounds_toArray, List.set_cons_zero, List.set_cons_succ])
        refine wpAnyH_take (i := 8) (v := ?va8x20) rfl (by kernel_rfl) (by kernel_rfl) (by kernel_rfl) (fun _ _ _ h => h) (Or.inl ⟨by rfl, ?hy8x20⟩) (by assumption) ?rest8x20
        case hy8x20 => (intro w hSw; (try dsimp only at hSw); go_simp; try with_reducible rfl)
        (try simp only [Act.put, List.getElem_toArray, List.getElem_cons_zero, List.getElem_cons_succ, List.setIfInBounds_toArray, List.set_cons_zero, List.set_cons_succ])
        have hgl : pS1.heap.size < pS3z.heap.size := Row.lt RZ
        refine wpAnyH_ready (rs := [10]) (by kernel_rfl) (by simp) ?_
        have dz0 := RowS.c0 RZ
        have dz1 := RowS.c1 RZ
        have dz2 := RowS.c2 RZ
        have dz3 := RowS.c3 RZ
        have fz0 := Row.frozen RZ 0
        have fz1 := Row.frozen RZ 1
        have fz2 := Row.frozen RZ 2
        have fz3 := Row.frozen RZ 3
        refine AllReadyH.cons rfl (fun K hK => ?_) AllReadyH.nil
        go_simp
        have kw := below_set4 (g := pS1.heap.size) kb3 hgz (.int .i64 fr) (.int .i64 cr) (.int .i64 lr) (.slice gW nr cW)
        refine hK.out _ _ (KS.out _ kw) (fun hHeld => ?_)
        clear hK K
        (try simp only [Act.put, List.getElem_toArray, List.getElem_cons_zero, List.getElem_cons_succ, List.setIfInBounds_toArray, List.set_cons_zero, List.set_cons_succ])
        clear dz0 dz1 dz2 dz3 fz0 fz1 fz2 fz3
        refine wpAnyH_take (i := 11) (v := ?va11x15) rfl (by kernel_rfl) (by kernel_rfl) (by kernel_rfl) (fun _ _ _ h => h) (Or.inl ⟨by rfl, ?hy11x15⟩) (by assumption) ?rest11x15
        case hy11x15 => (intro w hSw; (try dsimp only at hSw); go_simp; try with_reducible rfl)
        (try simp only [Act.put, List.getElem_toArray, List.getElem_cons_zero, List.getElem_cons_succ, List.setIfInBounds_toArray, List.set_cons_zero, List.set_cons_succ])
        refine wpAnyH_take (i := 12) (v := ?va12x16) rfl (by kernel_rfl) (by kernel_rfl) (by kernel_rfl) (fun _ _ _ h => h) (Or.inl ⟨by rfl, ?hy12x16⟩) (by assumption) ?rest12x16
        case hy12x16 => (intro w hSw; (try dsimp only at hSw); go_simp; try with_reducible rfl)
        (try simp only [Act.put, List.getElem_toArray, List.getElem_cons_zero, List.getElem_cons_succ, List.setIfInBounds_toArray, List.set_cons_zero, List.set_cons_succ])
        refine wpAnyH_done (by kernel_rfl) ?_ _
        refine NoPanic.normal ?_
        have RW : RowS ((((pS3z.setCell ⟨pS1.heap.size, 0, none⟩ (.int .i64 fr)).setCell ⟨pS1.heap.size, 1, none⟩ (.int .i64 cr)).setCell ⟨pS1.heap.size, 2, none⟩ (.int .i64 lr)).setCell ⟨pS1.heap.size, 3, none⟩ (.slice gW nr cW)) (pS1.heap.size) fr cr lr (.slice gW nr cW) := rowS_set4 RZ fr cr lr (.slice gW nr cW)
        replace R0 := row_set4 (g' := pS1.heap.size) (Row.below R0 kb3) (by have := Row.lt R0; omega) (.int .i64 fr) (.int .i64 cr) (.int .i64 lr) (.slice gW nr cW)
        replace R1 := row_set4 (g' := pS1.heap.size) (Row.below R1 kb3) (by have := Row.lt R1; omega) (.int .i64 fr) (.int .i64 cr) (.int .i64 lr) (.slice gW nr cW)
        have OW := Own.setApart4 (ho.mono (show sb.heap.size ≤ _ by first | omega | (simp; omega))) (pS1.heap.size) (.int .i64 fr) (.int .i64 cr) (.int .i64 lr) (.slice gW nr cW) (own_row_ne' ho RZ)
        replace L := bst L kb3 L.size
        replace L := below_set4 (g := pS1.heap.size) L (by have := L.size; omega) (.int .i64 fr) (.int .i64 cr) (.int .i64 lr) (.slice gW nr cW)
        have hsz : ((((pS3z.setCell ⟨pS1.heap.size, 0, none⟩ (.int .i64 fr)).setCell ⟨pS1.heap.size, 1, none⟩ (.int .i64 cr)).setCell ⟨pS1.heap.size, 2, none⟩ (.int .i64 lr)).setCell ⟨pS1.heap.size, 3, none⟩ (.slice gW nr cW)).heap.size = pS3z.heap.size := by simp [World.setCell]
        have hV : ∀ k, (Value.slice gW nr cW).ownBlock = some k → sb.heap.size ≤ k ∧ k < ((((pS3z.setCell ⟨pS1.heap.size, 0, none⟩ (.int .i64 fr)).setCell ⟨pS1.heap.size, 1, none⟩ (.int .i64 cr)).setCell ⟨pS1.heap.size, 2, none⟩ (.int .i64 lr)).setCell ⟨pS1.heap.size, 3, none⟩ (.slice gW nr cW)).heap.size := fun k hk => by have := hU k hk; rw [hsz]; omega
        have hsa : pS1.heap.size < ((((pS3z.setCell ⟨pS1.heap.size, 0, none⟩ (.int .i64 fr)).setCell ⟨pS1.heap.size, 1, none⟩ (.int .i64 cr)).setCell ⟨pS1.heap.size, 2, none⟩ (.int .i64 lr)).setCell ⟨pS1.heap.size, 3, none⟩ (.slice gW nr cW)).heap.size := by rw [hsz]; omega
        have hsb : sb.heap.size ≤ pS1.heap.size := hgz
        have hsc : sb.heap.size ≤ ((((pS3z.setCell ⟨pS1.heap.size, 0, none⟩ (.int .i64 fr)).setCell ⟨pS1.heap.size, 1, none⟩ (.int .i64 cr)).setCell ⟨pS1.heap.size, 2, none⟩ (.int .i64 lr)).setCell ⟨pS1.heap.size, 3, none⟩ (.slice gW nr cW)).heap.size := by rw [hsz]; omega
        go_wp2_with fail
        go_meet
        case rel => exact ⟨_, _, _, rfl, rfl, rfl, R0, R1, RW, OW, hV, L, hsa, hsb, hsc⟩
    · refine AllReadyH.cons rfl (fun K hK => ?_) AllReadyH.nil
      go_simp
      have kz := Below.alloc BD BD.size (.cells (c4 0 0 0 (.slice none 0 0)) 27)
      have RZ : RowS ((sb.drew).alloc (.cells (c4 0 0 0 (.slice none 0 0)) 27)) sb.heap.size 0 0 0 (.slice none 0 0) := Row.new (sb.drew) _ _
      have hgz : sb.heap.size ≤ sb.heap.size := BD.size
      refine hK.out _ _ (KS.out _ kz) (fun hHeld => ?_)
      clear hK K
      (try simp only [Act.put, List.getElem_toArray, List.getElem_cons_zero, List.getElem_cons_succ, List.setIfInBounds_toArray, List.set_cons_zero, List.set_cons_succ])
      refine wpAnyH_ready (rs := [1]) (by kernel_rfl) (by simp) ?_
      refine AllReadyH.cons rfl (fun K hK => ?_) AllReadyH.nil
      go_simp
      refine (c_toSpan fa ca la (.slice aa na caa) za _ (IntsAt.below IZa kz) HMa.out).mono ?_
      rintro e pS1z ⟨vapS, rfl, hoa, hbk⟩
      have IA := hoa.ints
      have kb1 := bst kz hbk kz.size
      replace RZ := Row.below RZ hbk
      refine hK.out _ _ (KS.out _ kb1) (fun hHeld => ?_)
      clear hK K
      (try simp only [Act.put, List.getElem_toArray, List.getElem_cons_zero, List.getElem_cons_succ, List.setIfInBounds_toArray, List.set_cons_zero, List.set_cons_succ])
      refine wpAnyH_ready (rs := [3]) (by kernel_rfl) (by simp) ?_
      refine AllReadyH.cons rfl (fun K hK => ?_) AllReadyH.nil
      go_simp
      refine (c_toBits lb (.slice ab nb cab) zb _ (IntsAt.below IZb kb1) HMb.out).mono ?_
      rintro e pS2z ⟨vbpS, rfl, hob, hbk⟩
      replace IA := IA.below hbk
      have IB := hob.ints
      have kb2 := bst kb1 hbk kb1.size
      replace RZ := Row.below RZ hbk
      refine hK.out _ _ (KS.out _ kb2) (fun hHeld => ?_)
      clear hK K
      (try simp only [Act.put, List.getElem_toArray, List.getElem_cons_zero, List.getElem_cons_succ, List.setIfInBounds_toArray, List.set_cons_zero, List.set_cons_succ])
      refine wpAnyH_ready (rs := [4]) (by kernel_rfl) (by simp) ?_
      refine AllReadyH.cons rfl (fun K hK => ?_) AllReadyH.nil
      go_simp
      refine (HS.out _ _ _ IA IB).mono ?_
      rintro e pS3z ⟨vW, rfl, ho, hbk⟩
      have hU := World.ownsRow.lt ho
      try simp only [World.size_alloc] at hU
      have hX := hbk.size
      try simp only [World.size_alloc] at hX
      have hX0 := kb2.size
      try simp only [World.size_alloc] at hX0
      obtain ⟨gW, cW, hvs, _⟩ := ho.shape
      rw [HNR.out] at hvs
      subst hvs
      have kb3 := bst kb2 hbk kb2.size
      replace RZ := Row.below RZ hbk
      refine hK.out _ _ (KS.out _ kb3) (fun hHeld => ?_)
      clear hK K
      (try simp only [Act.put, List.getElem_toArray, List.getElem_cons_zero, List.getElem_cons_succ, List.setIfInBounds_toArray, List.set_cons_zero, List.set_cons_succ])
      refine wpAnyH_take (i := 5) (v := ?va5x23) rfl (by kernel_rfl) (by kernel_rfl) (by kernel_rfl) (fun _ _ _ h => h) (Or.inl ⟨by rfl, ?hy5x23⟩) (by assumption) ?rest5x23
      case hy5x23 => (intro w hSw; (try dsimp only at hSw); go_simp; try with_reducible rfl)
      (try simp only [Act.put, List.getElem_toArray, List.getElem_cons_zero, List.getElem_cons_succ, List.setIfInBounds_toArray, List.set_cons_zero, List.set_cons_succ])
      refine wpAnyH_take (i := 6) (v := ?va6x24) rfl (by kernel_rfl) (by kernel_rfl) (by kernel_rfl) (fun _ _ _ h => h) (Or.inl ⟨by rfl, ?hy6x24⟩) (by assumption) ?rest6x24
      case hy6x24 => (intro w hSw; (try dsimp only at hSw); go_simp; try with_reducible rfl)
      (try simp only [Act.put, List.getElem_toArray, List.getElem_cons_zero, List.getElem_cons_succ, List.setIfInBounds_toArray, List.set_cons_zero, List.set_cons_succ])
      refine wpAnyH_take (i := 7) (v := ?va7x25) rfl (by kernel_rfl) (by kernel_rfl) (by kernel_rfl) (fun _ _ _ h => h) (Or.inl ⟨by rfl, ?hy7x25⟩) (by assumption) ?rest7x25
      case hy7x25 => (intro w hSw; (try dsimp only at hSw); go_simp; try with_reducible rfl)
      (try simp only [Act.put, List.getElem_toArray, List.getElem_cons_zero, List.getElem_cons_succ, List.setIfInBounds_toArray, List.set_cons_zero, List.set_cons_succ])
      refine wpAnyH_take (i := 8) (v := ?va8x26) rfl (by kernel_rfl) (by kernel_rfl) (by kernel_rfl) (fun _ _ _ h => h) (Or.inl ⟨by rfl, ?hy8x26⟩) (by assumption) ?rest8x26
      case hy8x26 => (intro w hSw; (try dsimp only at hSw); go_simp; try with_reducible rfl)
      (try simp only [Act.put, List.getElem_toArray, List.getElem_cons_zero, List.getElem_cons_succ, List.setIfInBounds_toArray, List.set_cons_zero, List.set_cons_succ])
      have hgl : sb.heap.size < pS3z.heap.size := Row.lt RZ
      refine wpAnyH_ready (rs := [10]) (by kernel_rfl) (by simp) ?_
      have dz0 := RowS.c0 RZ
      have dz1 := RowS.c1 RZ
      have dz2 := RowS.c2 RZ
      have dz3 := RowS.c3 RZ
      have fz0 := Row.frozen RZ 0
      have fz1 := Row.frozen RZ 1
      have fz2 := Row.frozen RZ 2
      have fz3 := Row.frozen RZ 3
      refine AllReadyH.cons rfl (fun K hK => ?_) AllReadyH.nil
      go_simp
      have kw := below_set4 (g := sb.heap.size) kb3 hgz (.int .i64 fr) (.int .i64 cr) (.int .i64 lr) (.slice gW nr cW)
      refine hK.out _ _ (KS.out _ kw) (fun hHeld => ?_)
      clear hK K
      (try simp only [Act.put, List.getElem_toArray, List.getElem_cons_zero, List.getElem_cons_succ, List.setIfInBounds_toArray, List.set_cons_zero, List.set_cons_succ])
      clear dz0 dz1 dz2 dz3 fz0 fz1 fz2 fz3
      refine wpAnyH_take (i := 11) (v := ?va11x21) rfl (by kernel_rfl) (by kernel_rfl) (by kernel_rfl) (fun _ _ _ h => h) (Or.inl ⟨by rfl, ?hy11x21⟩) (by assumption) ?rest11x21
      case hy11x21 => (intro w hSw; (try dsimp only at hSw); go_simp; try with_reducible rfl)
      (try simp only [Act.put, List.getElem_toArray, List.getElem_cons_zero, List.getElem_cons_succ, List.setIfInBounds_toArray, List.set_cons_zero, List.set_cons_succ])
      refine wpAnyH_take (i := 12) (v := ?va12x22) rfl (by kernel_rfl) (by kernel_rfl) (by kernel_rfl) (fun _ _ _ h => h) (Or.inl ⟨by rfl, ?hy12x22⟩) (by assumption) ?rest12x22
      case hy12x22 => (intro w hSw; (try dsimp only at hSw); go_simp; try with_reducible rfl)
      (try simp only [Act.put, List.getElem_toArray, List.getElem_cons_zero, List.getElem_cons_succ, List.setIfInBounds_toArray, List.set_cons_zero, List.set_cons_succ])
      refine wpAnyH_done (by kernel_rfl) ?_ _
      refine NoPanic.normal ?_
      have RW : RowS ((((pS3z.setCell ⟨sb.heap.size, 0, none⟩ (.int .i64 fr)).setCell ⟨sb.heap.size, 1, none⟩ (.int .i64 cr)).setCell ⟨sb.heap.size, 2, none⟩ (.int .i64 lr)).setCell ⟨sb.heap.size, 3, none⟩ (.slice gW nr cW)) (sb.heap.size) fr cr lr (.slice gW nr cW) := rowS_set4 RZ fr cr lr (.slice gW nr cW)
      replace R0 := row_set4 (g' := sb.heap.size) (Row.below R0 kb3) (by have := Row.lt R0; omega) (.int .i64 fr) (.int .i64 cr) (.int .i64 lr) (.slice gW nr cW)
      replace R1 := row_set4 (g' := sb.heap.size) (Row.below R1 kb3) (by have := Row.lt R1; omega) (.int .i64 fr) (.int .i64 cr) (.int .i64 lr) (.slice gW nr cW)
      have OW := Own.setApart4 (ho.mono (show sb.heap.size ≤ _ by first | omega | (simp; omega))) (sb.heap.size) (.int .i64 fr) (.int .i64 cr) (.int .i64 lr) (.slice gW nr cW) (own_row_ne' ho RZ)
      replace L := bst L kb3 L.size
      replace L := below_set4 (g := sb.heap.size) L (by have := L.size; omega) (.int .i64 fr) (.int .i64 cr) (.int .i64 lr) (.slice gW nr cW)
      have hsz : ((((pS3z.setCell ⟨sb.heap.size, 0, none⟩ (.int .i64 fr)).setCell ⟨sb.heap.size, 1, none⟩ (.int .i64 cr)).setCell ⟨sb.heap.size, 2, none⟩ (.int .i64 lr)).setCell ⟨sb.heap.size, 3, none⟩ (.slice gW nr cW)).heap.size = pS3z.heap.size := by simp [World.setCell]
      have hV : ∀ k, (Value.slice gW nr cW).ownBlock = some k → sb.heap.size ≤ k ∧ k < ((((pS3z.setCell ⟨sb.heap.size, 0, none⟩ (.int .i64 fr)).setCell ⟨sb.heap.size, 1, none⟩ (.int .i64 cr)).setCell ⟨sb.heap.size, 2, none⟩ (.int .i64 lr)).setCell ⟨sb.heap.size, 3, none⟩ (.slice gW nr cW)).heap.size := fun k hk => by have := hU k hk; rw [hsz]; omega
      have hsa : sb.heap.size < ((((pS3z.setCell ⟨sb.heap.size, 0, none⟩ (.int .i64 fr)).setCell ⟨sb.heap.size, 1, none⟩ (.int .i64 cr)).setCell ⟨sb.heap.size, 2, none⟩ (.int .i64 lr)).setCell ⟨sb.heap.size, 3, none⟩ (.slice gW nr cW)).heap.size := by rw [hsz]; omega
      have hsb : sb.heap.size ≤ sb.heap.size := hgz
      have hsc : sb.heap.size ≤ ((((pS3z.setCell ⟨sb.heap.size, 0, none⟩ (.int .i64 fr)).setCell ⟨sb.heap.size, 1, none⟩ (.int .i64 cr)).setCell ⟨sb.heap.size, 2, none⟩ (.int .i64 lr)).setCell ⟨sb.heap.size, 3, none⟩ (.slice gW nr cW)).heap.size := by rw [hsz]; omega
      go_wp2_with fail
      go_meet
      case rel => exact ⟨_, _, _, rfl, rfl, rfl, R0, R1, RW, OW, hV, L, hsa, hsb, hsc⟩
  case rest =>
    clear IZa IZb KS BD L R0 R1 
    obtain ⟨gBW, gW, cW, rfl, rfl, rfl, R0, R1, RW, OW, hU, L, hs2, hs3, hs4⟩ := hcut
    have UW := Lib.hid hU; clear hU
    have c00 := Row.cell R0 0
    have c10 := Row.cell R0 1
    have c20 := Row.cell R0 2
    have c30 := Row.cell R0 3
    have lt0 := Row.lt R0
    have c01 := Row.cell R1 0
    have c11 := Row.cell R1 1
    have lt1 := Row.lt R1
    have c0W := Row.cell RW 0
    have c1W := Row.cell RW 1
    have c2W := Row.cell RW 2
    have c3W := Row.cell RW 3
    have ltW := Row.lt RW
    go_wp2_with fail
    clear c00 c10 c20 c30 lt0 c01 c11 lt1 c0W c1W c2W c3W ltW
    refine (c_toSpan fa ca la (.slice aa na caa) za _ (IntsAt.below HZa.out L) HMa.out).mono ?_
    rintro e wXa ⟨vXa, rfl, ho, hb⟩
    have hU := World.ownsRow.lt ho
    try simp only [World.size_alloc] at hU
    have UXa := Lib.hid hU
    clear hU
    obtain ⟨gXa, cXa, hvs, _⟩ := ho.shape
    rw [HNa.out] at hvs
    subst hvs
    replace R0 := Row.below R0 hb
    replace R1 := Row.below R1 hb
    replace RW := Row.below RW hb
    replace OW := Own.below OW hb
    have hs5 := hb.size
    try simp only [World.size_alloc] at hs5
    replace L := bst L hb L.size
    clear hb
    have OXa := ho
    clear ho
    have c00 := Row.cell R0 0
    have c10 := Row.cell R0 1
    have c20 := Row.cell R0 2
    have c30 := Row.cell R0 3
    have lt0 := Row.lt R0
    have c01 := Row.cell R1 0
    have c11 := Row.cell R1 1
    have lt1 := Row.lt R1
    have c0W := Row.cell RW 0
    have c1W := Row.cell RW 1
    have c2W := Row.cell RW 2
    have c3W := Row.cell RW 3
    have ltW := Row.lt RW
    go_wp2_with fail
    clear c00 c10 c20 c30 lt0 c01 c11 lt1 c0W c1W c2W c3W ltW
    replace R0 := Row.alloc R0 (.cells (c4 fa ca la (.slice gXa na cXa)) 27)
    replace R1 := Row.alloc R1 (.cells (c4 fa ca la (.slice gXa na cXa)) 27)
    replace RW := Row.alloc RW (.cells (c4 fa ca la (.slice gXa na cXa)) 27)
    have RXa := Row.new wXa 27 (c4 fa ca la (.slice gXa na cXa))
    replace OW := Own.below OW ((Below.refl _ _).alloc (Nat.le_refl _) (.cells (c4 fa ca la (.slice gXa na cXa)) 27))
    replace OXa := Own.below OXa ((Below.refl _ _).alloc (Nat.le_refl _) (.cells (c4 fa ca la (.slice gXa na cXa)) 27))
    replace L := Below.alloc L L.size (.cells (c4 fa ca la (.slice gXa na cXa)) 27)
    refine (c_toBits lb (.slice ab nb cab) zb _ (IntsAt.below HZb.out L) HMb.out).mono ?_
    rintro e wXb ⟨vXb, rfl, ho, hb⟩
    have hU := World.ownsRow.lt ho
    try simp only [World.size_alloc] at hU
    have UXb := Lib.hid hU
    clear hU
    obtain ⟨gXb, cXb, hvs, _⟩ := ho.shape
    rw [HNb.out] at hvs
    subst hvs
    replace R0 := Row.below R0 hb
    replace R1 := Row.below R1 hb
    replace RW := Row.below RW hb
    replace RXa := Row.below RXa hb
    replace OW := Own.below OW hb
    replace OXa := Own.below OXa hb
    have hs6 := hb.size
    try simp only [World.size_alloc] at hs6
    replace L := bst L hb L.size
    clear hb
    have OXb := ho
    clear ho
    have c00 := Row.cell R0 0
    have c10 := Row.cell R0 1
    have c20 := Row.cell R0 2
    have c30 := Row.cell R0 3
    have lt0 := Row.lt R0
    have c01 := Row.cell R1 0
    have c11 := Row.cell R1 1
    have lt1 := Row.lt R1
    have c0W := Row.cell RW 0
    have c1W := Row.cell RW 1
    have c2W := Row.cell RW 2
    have c3W := Row.cell RW 3
    have ltW := Row.lt RW
    have c0Xa := Row.cell RXa 0
    have c1Xa := Row.cell RXa 1
    have c2Xa := Row.cell RXa 2
    have c3Xa := Row.cell RXa 3
    have ltXa := Row.lt RXa
    go_wp2_with fail
    clear c00 c10 c20 c30 lt0 c01 c11 lt1 c0W c1W c2W c3W ltW c0Xa c1Xa c2Xa c3Xa ltXa
    replace R0 := Row.alloc R0 (.cells (cb lb (.slice gXb nb cXb)) 25)
    replace R1 := Row.alloc R1 (.cells (cb lb (.slice gXb nb cXb)) 25)
    replace RW := Row.alloc RW (.cells (cb lb (.slice gXb nb cXb)) 25)
    replace RXa := Row.alloc RXa (.cells (cb lb (.slice gXb nb cXb)) 25)
    have RXb := Row.new wXb 25 (cb lb (.slice gXb nb cXb))
    replace OW := Own.below OW ((Below.refl _ _).alloc (Nat.le_refl _) (.cells (cb lb (.slice gXb nb cXb)) 25))
    replace OXa := Own.below OXa ((Below.refl _ _).alloc (Nat.le_refl _) (.cells (cb lb (.slice gXb nb cXb)) 25))
    replace OXb := Own.below OXb ((Below.refl _ _).alloc (Nat.le_refl _) (.cells (cb lb (.slice gXb nb cXb)) 25))
    replace L := Below.alloc L L.size (.cells (cb lb (.slice gXb nb cXb)) 25)
    refine (HI.out _ (.slice gXa na cXa) (.slice gXb nb cXb) OXa.ints OXb.ints (HT.out _ L)).mono ?_
    rintro e wG ⟨vG, rfl, ho, hb⟩
    have hU := World.ownsRow.lt ho
    try simp only [World.size_alloc] at hU
    have UG := Lib.hid hU
    clear hU
    obtain ⟨gG, cG, hvs, _⟩ := ho.shape
    rw [HNR.out] at hvs
    subst hvs
    replace R0 := Row.below R0 hb
    replace R1 := Row.below R1 hb
    replace RW := Row.below RW hb
    replace RXa := Row.below RXa hb
    replace RXb := Row.below RXb hb
    replace OW := Own.below OW hb
    replace OXa := Own.below OXa hb
    replace OXb := Own.below OXb hb
    have hs7 := hb.size
    try simp only [World.size_alloc] at hs7
    replace L := bst L hb L.size
    clear hb
    have OG := ho
    clear ho
    have c00 := Row.cell R0 0
    have c10 := Row.cell R0 1
    have c20 := Row.cell R0 2
    have c30 := Row.cell R0 3
    have lt0 := Row.lt R0
    have c01 := Row.cell R1 0
    have c11 := Row.cell R1 1
    have lt1 := Row.lt R1
    have c0W := Row.cell RW 0
    have c1W := Row.cell RW 1
    have c2W := Row.cell RW 2
    have c3W := Row.cell RW 3
    have ltW := Row.lt RW
    have c0Xa := Row.cell RXa 0
    have c1Xa := Row.cell RXa 1
    have c2Xa := Row.cell RXa 2
    have c3Xa := Row.cell RXa 3
    have ltXa := Row.lt RXa
    have c0Xb := Row.cell RXb 0
    have c1Xb := Row.cell RXb 1
    have ltXb := Row.lt RXb
    go_wp2_with fail
    clear c00 c10 c20 c30 lt0 c01 c11 lt1 c0W c1W c2W c3W ltW c0Xa c1Xa c2Xa c3Xa ltXa c0Xb c1Xb ltXb
    replace R0 := Row.alloc R0 (.cells (c4 fr cr lr (.slice gG nr cG)) 27)
    replace R1 := Row.alloc R1 (.cells (c4 fr cr lr (.slice gG nr cG)) 27)
    replace RW := Row.alloc RW (.cells (c4 fr cr lr (.slice gG nr cG)) 27)
    replace RXa := Row.alloc RXa (.cells (c4 fr cr lr (.slice gG nr cG)) 27)
    replace RXb := Row.alloc RXb (.cells (c4 fr cr lr (.slice gG nr cG)) 27)
    have RG := Row.new wG 27 (c4 fr cr lr (.slice gG nr cG))
    replace OW := Own.below OW ((Below.refl _ _).alloc (Nat.le_refl _) (.cells (c4 fr cr lr (.slice gG nr cG)) 27))
    replace OXa := Own.below OXa ((Below.refl _ _).alloc (Nat.le_refl _) (.cells (c4 fr cr lr (.slice gG nr cG)) 27))
    replace OXb := Own.below OXb ((Below.refl _ _).alloc (Nat.le_refl _) (.cells (c4 fr cr lr (.slice gG nr cG)) 27))
    replace OG := Own.below OG ((Below.refl _ _).alloc (Nat.le_refl _) (.cells (c4 fr cr lr (.slice gG nr cG)) 27))
    replace L := Below.alloc L L.size (.cells (c4 fr cr lr (.slice gG nr cG)) 27)
    refine (c_eqSpan fr cr lr (.slice gG nr cG) (.slice gW nr cW) rs _ OG.ints OW.ints (by rw [HNR.out]; omega)).mono ?_
    rintro e w1e ⟨rfl, hb⟩
    replace R0 := Row.below R0 hb
    replace R1 := Row.below R1 hb
    replace RW := Row.below RW hb
    replace RXa := Row.below RXa hb
    replace RXb := Row.below RXb hb
    replace RG := Row.below RG hb
    replace OW := Own.below OW hb
    replace OXa := Own.below OXa hb
    replace OXb := Own.below OXb hb
    replace OG := Own.below OG hb
    have hs8 := hb.size
    try simp only [World.size_alloc] at hs8
    replace L := bst L hb L.size
    clear hb
    have c00 := Row.cell R0 0
    have c10 := Row.cell R0 1
    have c20 := Row.cell R0 2
    have c30 := Row.cell R0 3
    have lt0 := Row.lt R0
    have c01 := Row.cell R1 0
    have c11 := Row.cell R1 1
    have lt1 := Row.lt R1
    have c0W := Row.cell RW 0
    have c1W := Row.cell RW 1
    have c2W := Row.cell RW 2
    have c3W := Row.cell RW 3
    have ltW := Row.lt RW
    have c0Xa := Row.cell RXa 0
    have c1Xa := Row.cell RXa 1
    have c2Xa := Row.cell RXa 2
    have c3Xa := Row.cell RXa 3
    have ltXa := Row.lt RXa
    have c0Xb := Row.cell RXb 0
    have c1Xb := Row.cell RXb 1
    have ltXb := Row.lt RXb
    have c0G := Row.cell RG 0
    have c1G := Row.cell RG 1
    have c2G := Row.cell RG 2
    have c3G := Row.cell RG 3
    have ltG := Row.lt RG
    go_wp2_with fail
    have IZ : IntsAt w1e.drew (.slice aa na caa) za := IntsAt.below HZa.out (below_drew L)
    have IX : IntsAt w1e.drew (.slice gXa na cXa) za := OXa.ints
    have RR0 : w1e.drew.cell? ⟨w.heap.size, 0, none⟩ = some (.int .i64 fa) := Row.cell R0 0
    have RR1 : w1e.drew.cell? ⟨w.heap.size, 1, none⟩ = some (.int .i64 ca) := Row.cell R0 1
    have RR2 : w1e.drew.cell? ⟨w.heap.size, 2, none⟩ = some (.int .i64 la) := Row.cell R0 2
    have RR3 : w1e.drew.cell? ⟨w.heap.size, 3, none⟩ = some (.slice aa na caa) := Row.cell R0 3
    have RX0 : w1e.drew.cell? ⟨wXa.heap.size, 0, none⟩ = some (.int .i64 fa) := Row.cell RXa 0
    have RX1 : w1e.drew.cell? ⟨wXa.heap.size, 1, none⟩ = some (.int .i64 ca) := Row.cell RXa 1
    have RX2 : w1e.drew.cell? ⟨wXa.heap.size, 2, none⟩ = some (.int .i64 la) := Row.cell RXa 2
    have RX3 : w1e.drew.cell? ⟨wXa.heap.size, 3, none⟩ = some (.slice gXa na cXa) := Row.cell RXa 3
    have BD := Below.refl w1e.heap.size w1e
    replace BD := below_drew BD
    clear c00 c10 c20 c30 lt0 c01 c11 lt1 c0W c1W c2W c3W ltW c0Xa c1Xa c2Xa c3Xa ltXa c0Xb c1Xb ltXb c0G c1G c2G c3G ltG
    go_region_held3 (fun w' => w'.cell? ⟨w.heap.size, 0, none⟩ = some (.int .i64 fa) ∧ w'.cell? ⟨w.heap.size, 1, none⟩ = some (.int .i64 ca) ∧ w'.cell? ⟨w.heap.size, 2, none⟩ = some (.int .i64 la) ∧ w'.cell? ⟨w.heap.size, 3, none⟩ = some (.slice aa na caa) ∧ w'.cell? ⟨wXa.heap.size, 0, none⟩ = some (.int .i64 fa) ∧ w'.cell? ⟨wXa.heap.size, 1, none⟩ = some (.int .i64 ca) ∧ w'.cell? ⟨wXa.heap.size, 2, none⟩ = some (.int .i64 la) ∧ w'.cell? ⟨wXa.heap.size, 3, none⟩ = some (.slice gXa na cXa) ∧ Below w1e.heap.size w1e w')
      (first
        | (with_reducible exact ⟨RR0, RR1, RR2, RR3, RX0, RX1, RX2, RX3, BD⟩)
        | (go_split_ands
           exact ⟨cellBelow hbk (by assumption), cellBelow hbk (by assumption), cellBelow hbk (by assumption), cellBelow hbk (by assumption), cellBelow hbk (by assumption), cellBelow hbk (by assumption), cellBelow hbk (by assumption), cellBelow hbk (by assumption), bst (by assumption) hbk (Below.size (by assumption))⟩)
        | (go_split_ands; refine ⟨?_, ?_, ?_, ?_, ?_, ?_, ?_, ?_, ?_⟩ <;> assumption))
      (first
        | (go_at_call 37; refine (c_toSpan fa ca la (.slice aa na caa) za _ IZ HMa.out).mono ?_; rintro e wad1 ⟨vDa, rfl, hoD, hbk⟩; have OD := Lib.hid hoD.ints; have XD := Lib.hid (IX.below hbk); clear hoD)
        | (go_at_call 38; refine (c_eqSpan fa ca la _ _ za _ XD.out OD.out HMa.out).mono ?_; rintro e wad2 ⟨rfl, hbk⟩))
    have hb : Below w1e.heap.size w1e wad2 := by go_split_ands; assumption
    clear OD XD IZ IX RR0 RX0 RR1 RX1 RR2 RX2 RR3 RX3 BD
    replace R0 := Row.below R0 hb
    replace R1 := Row.below R1 hb
    replace RW := Row.below RW hb
    replace RXa := Row.below RXa hb
    replace RXb := Row.below RXb hb
    replace RG := Row.below RG hb
    replace OW := Own.below OW hb
    replace OXa := Own.below OXa hb
    replace OXb := Own.below OXb hb
    replace OG := Own.below OG hb
    have hs9 := hb.size
    try simp only [World.size_alloc] at hs9
    replace L := bst L hb L.size
    clear hb
    have c00 := Row.cell R0 0
    have c10 := Row.cell R0 1
    have c20 := Row.cell R0 2
    have c30 := Row.cell R0 3
    have lt0 := Row.lt R0
    have c01 := Row.cell R1 0
    have c11 := Row.cell R1 1
    have lt1 := Row.lt R1
    have c0W := Row.cell RW 0
    have c1W := Row.cell RW 1
    have c2W := Row.cell RW 2
    have c3W := Row.cell RW 3
    have ltW := Row.lt RW
    have c0Xa := Row.cell RXa 0
    have c1Xa := Row.cell RXa 1
    have c2Xa := Row.cell RXa 2
    have c3Xa := Row.cell RXa 3
    have ltXa := Row.lt RXa
    have c0Xb := Row.cell RXb 0
    have c1Xb := Row.cell RXb 1
    have ltXb := Row.lt RXb
    have c0G := Row.cell RG 0
    have c1G := Row.cell RG 1
    have c2G := Row.cell RG 2
    have c3G := Row.cell RG 3
    have ltG := Row.lt RG
    go_wp2_with fail
    have IZ : IntsAt wad2.drew (.slice ab nb cab) zb := IntsAt.below HZb.out (below_drew L)
    have IX : IntsAt wad2.drew (.slice gXb nb cXb) zb := OXb.ints
    have RR0 : wad2.drew.cell? ⟨w.heap.size + 1, 0, none⟩ = some (.int .i64 lb) := Row.cell R1 0
    have RR1 : wad2.drew.cell? ⟨w.heap.size + 1, 1, none⟩ = some (.slice ab nb cab) := Row.cell R1 1
    have RX0 : wad2.drew.cell? ⟨wXb.heap.size, 0, none⟩ = some (.int .i64 lb) := Row.cell RXb 0
    have RX1 : wad2.drew.cell? ⟨wXb.heap.size, 1, none⟩ = some (.slice gXb nb cXb) := Row.cell RXb 1
    have BD := Below.refl wad2.heap.size wad2
    replace BD := below_drew BD
    clear c00 c10 c20 c30 lt0 c01 c11 lt1 c0W c1W c2W c3W ltW c0Xa c1Xa c2Xa c3Xa ltXa c0Xb c1Xb ltXb c0G c1G c2G c3G ltG
    go_region_held3 (fun w' => w'.cell? ⟨w.heap.size + 1, 0, none⟩ = some (.int .i64 lb) ∧ w'.cell? ⟨w.heap.size + 1, 1, none⟩ = some (.slice ab nb cab) ∧ w'.cell? ⟨wXb.heap.size, 0, none⟩ = some (.int .i64 lb) ∧ w'.cell? ⟨wXb.heap.size, 1, none⟩ = some (.slice gXb nb cXb) ∧ Below wad2.heap.size wad2 w')
      (first
        | (with_reducible exact ⟨RR0, RR1, RX0, RX1, BD⟩)
        | (go_split_ands
           exact ⟨cellBelow hbk (by assumption), cellBelow hbk (by assumption), cellBelow hbk (by assumption), cellBelow hbk (by assumption), bst (by assumption) hbk (Below.size (by assumption))⟩)
        | (go_split_ands; refine ⟨?_, ?_, ?_, ?_, ?_⟩ <;> assumption))
      (first
        | (go_at_call 42; refine (c_toBits lb (.slice ab nb cab) zb _ IZ HMb.out).mono ?_; rintro e wbd1 ⟨vDb, rfl, hoD, hbk⟩; have OD := Lib.hid hoD.ints; have XD := Lib.hid (IX.below hbk); clear hoD)
        | (go_at_call 43; refine (c_eqBits lb _ _ zb _ XD.out OD.out HMb.out).mono ?_; rintro e wbd2 ⟨rfl, hbk⟩))
    have hb : Below wad2.heap.size wad2 wbd2 := by go_split_ands; assumption
    clear OD XD IZ IX RR0 RX0 RR1 RX1 BD
    replace R0 := Row.below R0 hb
    replace R1 := Row.below R1 hb
    replace RW := Row.below RW hb
    replace RXa := Row.below RXa hb
    replace RXb := Row.below RXb hb
    replace RG := Row.below RG hb
    replace OW := Own.below OW hb
    replace OXa := Own.below OXa hb
    replace OXb := Own.below OXb hb
    replace OG := Own.below OG hb
    have hs10 := hb.size
    try simp only [World.size_alloc] at hs10
    replace L := bst L hb L.size
    clear hb
    have c00 := Row.cell R0 0
    have c10 := Row.cell R0 1
    have c20 := Row.cell R0 2
    have c30 := Row.cell R0 3
    have lt0 := Row.lt R0
    have c01 := Row.cell R1 0
    have c11 := Row.cell R1 1
    have lt1 := Row.lt R1
    have c0W := Row.cell RW 0
    have c1W := Row.cell RW 1
    have c2W := Row.cell RW 2
    have c3W := Row.cell RW 3
    have ltW := Row.lt RW
    have c0Xa := Row.cell RXa 0
    have c1Xa := Row.cell RXa 1
    have c2Xa := Row.cell RXa 2
    have c3Xa := Row.cell RXa 3
    have ltXa := Row.lt RXa
    have c0Xb := Row.cell RXb 0
    have c1Xb := Row.cell RXb 1
    have ltXb := Row.lt RXb
    have c0G := Row.cell RG 0
    have c1G := Row.cell RG 1
    have c2G := Row.cell RG 2
    have c3G := Row.cell RG 3
    have ltG := Row.lt RG
    go_wp2_with fail
    clear c00 c10 c20 c30 lt0 c01 c11 lt1 c0W c1W c2W c3W ltW c0Xa c1Xa c2Xa c3Xa ltXa c0Xb c1Xb ltXb c0G c1G c2G c3G ltG
    refine (c_markSpan fa ca la (.slice gXa na cXa) za _ (1) _ OXa (by omega) (by rw [HNa.out]; omega)).mono ?_
    rintro e wma ⟨rfl, ho, hg⟩
    rw [HNa.out] at ho
    rw [HNa.out]
    replace R0 := Row.grownBy R0 hg (rowApart UXa.out (by omega))
    replace R1 := Row.grownBy R1 hg (rowApart UXa.out (by omega))
    replace RW := Row.grownBy RW hg (rowApart UXa.out (by omega))
    replace RXa := Row.grownBy RXa hg (rowApart UXa.out (by omega))
    replace RXb := Row.grownBy RXb hg (rowApart UXa.out (by omega))
    replace RG := Row.grownBy RG hg (rowApart UXa.out (by omega))
    replace OW : Own _ _ _ _ := World.ownsRow.kept OW hg (ownApart UW.out UXa.out (by omega))
    replace OXb : Own _ _ _ _ := World.ownsRow.kept OXb hg (ownApart UXb.out UXa.out (by omega))
    replace OG : Own _ _ _ _ := World.ownsRow.kept OG hg (ownApart UG.out UXa.out (by omega))
    have hs11 := hg.size
    replace L := Below.grown L hg L.size (fun k hk => by have := UXa.out k hk; omega)
    clear hg
    clear OXa ho
    have c00 := Row.cell R0 0
    have c10 := Row.cell R0 1
    have c20 := Row.cell R0 2
    have c30 := Row.cell R0 3
    have lt0 := Row.lt R0
    have c01 := Row.cell R1 0
    have c11 := Row.cell R1 1
    have lt1 := Row.lt R1
    have c0W := Row.cell RW 0
    have c1W := Row.cell RW 1
    have c2W := Row.cell RW 2
    have c3W := Row.cell RW 3
    have ltW := Row.lt RW
    have c0Xa := Row.cell RXa 0
    have c1Xa := Row.cell RXa 1
    have c2Xa := Row.cell RXa 2
    have c3Xa := Row.cell RXa 3
    have ltXa := Row.lt RXa
    have c0Xb := Row.cell RXb 0
    have c1Xb := Row.cell RXb 1
    have ltXb := Row.lt RXb
    have c0G := Row.cell RG 0
    have c1G := Row.cell RG 1
    have c2G := Row.cell RG 2
    have c3G := Row.cell RG 3
    have ltG := Row.lt RG
    go_wp2_with fail
    clear c00 c10 c20 c30 lt0 c01 c11 lt1 c0W c1W c2W c3W ltW c0Xa c1Xa c2Xa c3Xa ltXa c0Xb c1Xb ltXb c0G c1G c2G c3G ltG
    refine (c_markBits lb (.slice gXb nb cXb) zb _ (1 + (na : Int)) _ OXb (by omega) (by rw [HNb.out]; omega)).mono ?_
    rintro e wmb ⟨rfl, ho, hg⟩
    rw [HNb.out] at ho
    rw [HNb.out]
    replace R0 := Row.grownBy R0 hg (rowApart UXb.out (by omega))
    replace R1 := Row.grownBy R1 hg (rowApart UXb.out (by omega))
    replace RW := Row.grownBy RW hg (rowApart UXb.out (by omega))
    replace RXa := Row.grownBy RXa hg (rowApart UXb.out (by omega))
    replace RXb := Row.grownBy RXb hg (rowApart UXb.out (by omega))
    replace RG := Row.grownBy RG hg (rowApart UXb.out (by omega))
    replace OW : Own _ _ _ _ := World.ownsRow.kept OW hg (ownApart UW.out UXb.out (by omega))
    replace OG : Own _ _ _ _ := World.ownsRow.kept OG hg (ownApart UG.out UXb.out (by omega))
    have hs12 := hg.size
    replace L := Below.grown L hg L.size (fun k hk => by have := UXb.out k hk; omega)
    clear hg
    clear OXb ho
    have c00 := Row.cell R0 0
    have c10 := Row.cell R0 1
    have c20 := Row.cell R0 2
    have c30 := Row.cell R0 3
    have lt0 := Row.lt R0
    have c01 := Row.cell R1 0
    have c11 := Row.cell R1 1
    have lt1 := Row.lt R1
    have c0W := Row.cell RW 0
    have c1W := Row.cell RW 1
    have c2W := Row.cell RW 2
    have c3W := Row.cell RW 3
    have ltW := Row.lt RW
    have c0Xa := Row.cell RXa 0
    have c1Xa := Row.cell RXa 1
    have c2Xa := Row.cell RXa 2
    have c3Xa := Row.cell RXa 3
    have ltXa := Row.lt RXa
    have c0Xb := Row.cell RXb 0
    have c1Xb := Row.cell RXb 1
    have ltXb := Row.lt RXb
    have c0G := Row.cell RG 0
    have c1G := Row.cell RG 1
    have c2G := Row.cell RG 2
    have c3G := Row.cell RG 3
    have ltG := Row.lt RG
    go_wp2_with fail
    clear c00 c10 c20 c30 lt0 c01 c11 lt1 c0W c1W c2W c3W ltW c0Xa c1Xa c2Xa c3Xa ltXa c0Xb c1Xb ltXb c0G c1G c2G c3G ltG
    refine (c_eqSpan fr cr lr (.slice gG nr cG) (.slice gW nr cW) rs _ OG.ints OW.ints (by rw [HNR.out]; omega)).mono ?_
    rintro e w2e ⟨rfl, hb⟩
    replace R0 := Row.below R0 hb
    replace R1 := Row.below R1 hb
    replace RW := Row.below RW hb
    replace RXa := Row.below RXa hb
    replace RXb := Row.below RXb hb
    replace RG := Row.below RG hb
    replace OW := Own.below OW hb
    replace OG := Own.below OG hb
    have hs13 := hb.size
    try simp only [World.size_alloc] at hs13
    replace L := bst L hb L.size
    clear hb
    have c00 := Row.cell R0 0
    have c10 := Row.cell R0 1
    have c20 := Row.cell R0 2
    have c30 := Row.cell R0 3
    have lt0 := Row.lt R0
    have c01 := Row.cell R1 0
    have c11 := Row.cell R1 1
    have lt1 := Row.lt R1
    have c0W := Row.cell RW 0
    have c1W := Row.cell RW 1
    have c2W := Row.cell RW 2
    have c3W := Row.cell RW 3
    have ltW := Row.lt RW
    have c0Xa := Row.cell RXa 0
    have c1Xa := Row.cell RXa 1
    have c2Xa := Row.cell RXa 2
    have c3Xa := Row.cell RXa 3
    have ltXa := Row.lt RXa
    have c0Xb := Row.cell RXb 0
    have c1Xb := Row.cell RXb 1
    have ltXb := Row.lt RXb
    have c0G := Row.cell RG 0
    have c1G := Row.cell RG 1
    have c2G := Row.cell RG 2
    have c3G := Row.cell RG 3
    have ltG := Row.lt RG
    go_wp2_with fail
    clear c00 c10 c20 c30 lt0 c01 c11 lt1 c0W c1W c2W c3W ltW c0Xa c1Xa c2Xa c3Xa ltXa c0Xb c1Xb ltXb c0G c1G c2G c3G ltG
    refine (c_markSpan fr cr lr (.slice gG nr cG) rs _ (1) _ OG (by omega) (by rw [HNR.out]; omega)).mono ?_
    rintro e wmG ⟨rfl, ho, hg⟩
    rw [HNR.out] at ho
    rw [HNR.out]
    replace R0 := Row.grownBy R0 hg (rowApart UG.out (by omega))
    replace R1 := Row.grownBy R1 hg (rowApart UG.out (by omega))
    replace RW := Row.grownBy RW hg (rowApart UG.out (by omega))
    replace RXa := Row.grownBy RXa hg (rowApart UG.out (by omega))
    replace RXb := Row.grownBy RXb hg (rowApart UG.out (by omega))
    replace RG := Row.grownBy RG hg (rowApart UG.out (by omega))
    replace OW : Own _ _ _ _ := World.ownsRow.kept OW hg (ownApart UW.out UG.out (by omega))
    have hs14 := hg.size
    replace L := Below.grown L hg L.size (fun k hk => by have := UG.out k hk; omega)
    clear hg
    replace OG := ho
    clear ho
    have c00 := Row.cell R0 0
    have c10 := Row.cell R0 1
    have c20 := Row.cell R0 2
    have c30 := Row.cell R0 3
    have lt0 := Row.lt R0
    have c01 := Row.cell R1 0
    have c11 := Row.cell R1 1
    have lt1 := Row.lt R1
    have c0W := Row.cell RW 0
    have c1W := Row.cell RW 1
    have c2W := Row.cell RW 2
    have c3W := Row.cell RW 3
    have ltW := Row.lt RW
    have c0Xa := Row.cell RXa 0
    have c1Xa := Row.cell RXa 1
    have c2Xa := Row.cell RXa 2
    have c3Xa := Row.cell RXa 3
    have ltXa := Row.lt RXa
    have c0Xb := Row.cell RXb 0
    have c1Xb := Row.cell RXb 1
    have ltXb := Row.lt RXb
    have c0G := Row.cell RG 0
    have c1G := Row.cell RG 1
    have c2G := Row.cell RG 2
    have c3G := Row.cell RG 3
    have ltG := Row.lt RG
    go_wp2_with fail
    clear c00 c10 c20 c30 lt0 c01 c11 lt1 c0W c1W c2W c3W ltW c0Xa c1Xa c2Xa c3Xa ltXa c0Xb c1Xb ltXb c0G c1G c2G c3G ltG
    refine (c_heldSpan fr cr lr (.slice gG nr cG) nr 1 _ OG.ints (by omega) (by omega)).mono ?_
    rintro e wh1 ⟨rfl, hb⟩
    replace R0 := Row.below R0 hb
    replace R1 := Row.below R1 hb
    replace RW := Row.below RW hb
    replace RXa := Row.below RXa hb
    replace RXb := Row.below RXb hb
    replace RG := Row.below RG hb
    replace OW := Own.below OW hb
    replace OG := Own.below OG hb
    have hs15 := hb.size
    try simp only [World.size_alloc] at hs15
    replace L := bst L hb L.size
    clear hb
    have c00 := Row.cell R0 0
    have c10 := Row.cell R0 1
    have c20 := Row.cell R0 2
    have c30 := Row.cell R0 3
    have lt0 := Row.lt R0
    have c01 := Row.cell R1 0
    have c11 := Row.cell R1 1
    have lt1 := Row.lt R1
    have c0W := Row.cell RW 0
    have c1W := Row.cell RW 1
    have c2W := Row.cell RW 2
    have c3W := Row.cell RW 3
    have ltW := Row.lt RW
    have c0Xa := Row.cell RXa 0
    have c1Xa := Row.cell RXa 1
    have c2Xa := Row.cell RXa 2
    have c3Xa := Row.cell RXa 3
    have ltXa := Row.lt RXa
    have c0Xb := Row.cell RXb 0
    have c1Xb := Row.cell RXb 1
    have ltXb := Row.lt RXb
    have c0G := Row.cell RG 0
    have c1G := Row.cell RG 1
    have c2G := Row.cell RG 2
    have c3G := Row.cell RG 3
    have ltG := Row.lt RG
    go_wp2_with fail
    have IZa : IntsAt wh1 (.slice aa na caa) za := IntsAt.below HZa.out L
    have IZb : IntsAt wh1 (.slice ab nb cab) zb := IntsAt.below HZb.out L
    have KS : Hid (∀ X, Below wh1.heap.size wh1 X → X.cell? ⟨w.heap.size, 0, none⟩ = some (.int .i64 fa) ∧ X.cell? ⟨w.heap.size, 1, none⟩ = some (.int .i64 ca) ∧ X.cell? ⟨w.heap.size, 2, none⟩ = some (.int .i64 la) ∧ X.cell? ⟨w.heap.size, 3, none⟩ = some (.slice aa na caa) ∧ X.cell? ⟨w.heap.size + 1, 0, none⟩ = some (.int .i64 lb) ∧ X.cell? ⟨w.heap.size + 1, 1, none⟩ = some (.slice ab nb cab) ∧ Below wh1.heap.size wh1 X) := fun X hX => ⟨Row.cell (Row.below R0 hX) 0, Row.cell (Row.below R0 hX) 1, Row.cell (Row.below R0 hX) 2, Row.cell (Row.below R0 hX) 3, Row.cell (Row.below R1 hX) 0, Row.cell (Row.below R1 hX) 1, hX⟩
    have BD := below_drew (Below.refl wh1.heap.size wh1)
    have HTC : Hid (∀ X, Below wh1.heap.size wh1 X → T X) := fun X hX => HT.out X (bst L hX L.size)
    clear c00 c10 c20 c30 lt0 c01 c11 lt1 c0W c1W c2W c3W ltW c0Xa c1Xa c2Xa c3Xa ltXa c0Xb c1Xb ltXb c0G c1G c2G c3G ltG
    obtain ⟨BW, hBW⟩ : ∃ b, Own wh1 b (.slice gW nr cW) rs := ⟨_, OW⟩
    replace OW := hBW
    clear hBW
    obtain ⟨BG, hBG⟩ : ∃ b, Own wh1 b (.slice gG nr cG) (upFrom 1 nr) := ⟨_, OG⟩
    replace OG := hBG
    clear hBG
    go_cut [17, 18, 19] from 20 (fun s17 s18 s19 wz => ∃ (gB : Nat) (g : Option Addr) (cq : Nat), s17 = .pointer (some ⟨gB, 0, none⟩) ∧ s18 = .int .i64 nn ∧ s19 = .bool ok ∧ Row wz w.heap.size 53 (c4 fa ca la (.slice aa na caa)) ∧ Row wz (w.heap.size + 1) 51 (cb lb (.slice ab nb cab)) ∧ Row wz gBW 27 (c4 fr cr lr (.slice gW nr cW)) ∧ Row wz wXa.heap.size 27 (c4 fa ca la (.slice gXa na cXa)) ∧ Row wz wXb.heap.size 25 (cb lb (.slice gXb nb cXb)) ∧ Row wz wG.heap.size 27 (c4 fr cr lr (.slice gG nr cG)) ∧ RowS wz gB fr cr lr (.slice g nr cq) ∧ (World.ownsRow wz BW 3 1 (.slice gW nr cW) rs.length (rs.map (Value.int .i64))) ∧ (World.ownsRow wz BG 3 1 (.slice gG nr cG) (upFrom 1 nr).length ((upFrom 1 nr).map (Value.int .i64))) ∧ Own wz wh1.heap.size (.slice g nr cq) rs ∧ (∀ k, (Value.slice g nr cq).ownBlock = some k → wh1.heap.size ≤ k ∧ k < wz.heap.size) ∧ Below w.heap.size w wz ∧ gB < wz.heap.size ∧ wh1.heap.size ≤ gB ∧ wh1.heap.size ≤ wz.heap.size)
    case first =>
      refine wp_region_noPanic ?_
      refine wp_region_held_drew (S := (fun w' => w'.cell? ⟨w.heap.size, 0, none⟩ = some (.int .i64 fa) ∧ w'.cell? ⟨w.heap.size, 1, none⟩ = some (.int .i64 ca) ∧ w'.cell? ⟨w.heap.size, 2, none⟩ = some (.int .i64 la) ∧ w'.cell? ⟨w.heap.size, 3, none⟩ = some (.slice aa na caa) ∧ w'.cell? ⟨w.heap.size + 1, 0, none⟩ = some (.int .i64 lb) ∧ w'.cell? ⟨w.heap.size + 1, 1, none⟩ = some (.slice ab nb cab) ∧ Below wh1.heap.size wh1 w')) (by kernel_rfl) (KS.out _ BD) (fun hHeld => ?_)
      refine wpAnyH_take (i := 0) (v := ?va0x27) rfl (by kernel_rfl) (by kernel_rfl) (by kernel_rfl) (fun _ _ _ h => h) (Or.inl ⟨by rfl, ?hy0x27⟩) (by assumption) ?rest0x27
      case hy0x27 => (intro w hSw; (try dsimp only at hSw); go_simp; try with_reducible rfl)
      (try simp only [Act.put, List.getElem_toArray, List.getElem_cons_zero, List.setIfInBounds_toArray, List.set_cons_zero, List.set_cons_succ])
      refine wpAnyH_take (i := 2) (v := ?va2x28) rfl (by kernel_rfl) (by kernel_rfl) (by kernel_rfl) (fun _ _ _ h => h) (Or.inl ⟨by rfl, ?hy2x28⟩) (by assumption) ?rest2x28
      case hy2x28 => (intro w hSw; (try dsimp only at hSw); go_simp; try with_reducible rfl)
      (try simp only [Act.put, List.getElem_toArray, List.getElem_cons_zero, List.getElem_cons_succ, List.setIfInBounds_toArray, List.set_cons_zero, List.set_cons_succ])
      refine wpAnyH_ready (rs := [1, 9]) (by kernel_rfl) (by simp) ?_
      refine AllReadyH.cons rfl (fun K hK => ?_) ?_
      · go_simp
        refine (c_toSpan fa ca la (.slice aa na caa) za _ (IntsAt.below IZa BD) HMa.out).mono ?_
        rintro e pI1 ⟨vapI, rfl, hoa, hbk⟩
        have IA := hoa.ints
        have kb1 := bst BD hbk BD.size
        refine hK.out _ _ (KS.out _ kb1) (fun hHeld => ?_)
        clear hK K
        (try simp only [Act.put, List.getElem_toArray, List.getElem_cons_zero, List.getElem_cons_succ, List.setIfInBounds_toArray, List.set_cons_zero, List.set_cons_succ])
        refine wpAnyH_ready (rs := [3, 9]) (by kernel_rfl) (by simp) ?_
        refine AllReadyH.cons rfl (fun K hK => ?_) ?_
        · go_simp
          refine (c_toBits lb (.slice ab nb cab) zb _ (IntsAt.below IZb kb1) HMb.out).mono ?_
          rintro e pI2 ⟨vbpI, rfl, hob, hbk⟩
          replace IA := IA.below hbk
          have IB := hob.ints
          have kb2 := bst kb1 hbk kb1.size
          refine hK.out _ _ (KS.out _ kb2) (fun hHeld => ?_)
          clear hK K
          (try simp only [Act.put, List.getElem_toArray, List.getElem_cons_zero, List.getElem_cons_succ, List.setIfInBounds_toArray, List.set_cons_zero, List.set_cons_succ])
          refine wpAnyH_ready (rs := [4, 9]) (by kernel_rfl) (by simp) ?_
          refine AllReadyH.cons rfl (fun K hK => ?_) ?_
          · go_simp
            refine (HI.out _ _ _ IA IB (HTC.out _ kb2)).mono ?_
            rintro e pI3 ⟨vH, rfl, ho, hbk⟩
            have hU := World.ownsRow.lt ho
            try simp only [World.size_alloc] at hU
            have hX := hbk.size
            try simp only [World.size_alloc] at hX
            have hX0 := kb2.size
            try simp only [World.size_alloc] at hX0
            obtain ⟨gH, cH, hvs, _⟩ := ho.shape
            rw [HNR.out] at hvs
            subst hvs
            have kb3 := bst kb2 hbk kb2.size
            refine hK.out _ _ (KS.out _ kb3) (fun hHeld => ?_)
            clear hK K
            (try simp only [Act.put, List.getElem_toArray, List.getElem_cons_zero, List.getElem_cons_succ, List.setIfInBounds_toArray, List.set_cons_zero, List.set_cons_succ])
            refine wpAnyH_take (i := 5) (v := ?va5x31) rfl (by kernel_rfl) (by kernel_rfl) (by kernel_rfl) (fun _ _ _ h => h) (Or.inl ⟨by rfl, ?hy5x31⟩) (by assumption) ?rest5x31
            case hy5x31 => (intro w hSw; (try dsimp only at hSw); go_simp; try with_reducible rfl)
            (try simp only [Act.put, List.getElem_toArray, List.getElem_cons_zero, List.getElem_cons_succ, List.setIfInBounds_toArray, List.set_cons_zero, List.set_cons_succ])
            refine wpAnyH_take (i := 6) (v := ?va6x32) rfl (by kernel_rfl) (by kernel_rfl) (by kernel_rfl) (fun _ _ _ h => h) (Or.inl ⟨by rfl, ?hy6x32⟩) (by assumption) ?rest6x32
            case hy6x32 => (intro w hSw; (try dsimp only at hSw); go_simp; try with_reducible rfl)
            (try simp only [Act.put, List.getElem_toArray, List.getElem_cons_zero, List.getElem_cons_succ, List.setIfInBounds_toArray, List.set_cons_zero, List.set_cons_succ])
            refine wpAnyH_take (i := 7) (v := ?va7x33) rfl (by kernel_rfl) (by kernel_rfl) (by kernel_rfl) (fun _ _ _ h => h) (Or.inl ⟨by rfl, ?hy7x33⟩) (by assumption) ?rest7x33
            case hy7x33 => (intro w hSw; (try dsimp only at hSw); go_simp; try with_reducible rfl)
            (try simp only [Act.put, List.getElem_toArray, List.getElem_cons_zero, List.getElem_cons_succ, List.setIfInBounds_toArray, List.set_cons_zero, List.set_cons_succ])
            refine wpAnyH_take (i := 8) (v := ?va8x34) rfl (by kernel_rfl) (by kernel_rfl) (by kernel_rfl) (fun _ _ _ h => h) (Or.inl ⟨by rfl, ?hy8x34⟩) (by assumption) ?rest8x34
            case hy8x34 => (intro w hSw; (try dsimp only at hSw); go_simp; try with_reducible rfl)
            (try simp only [Act.put, List.getElem_toArray, List.getElem_cons_zero, List.getElem_cons_succ, List.setIfInBounds_toArray, List.set_cons_zero, List.set_cons_succ])
            refine wpAnyH_ready (rs := [9]) (by kernel_rfl) (by simp) ?_
            refine AllReadyH.cons rfl (fun K hK => ?_) AllReadyH.nil
            go_simp
            have kz := Below.alloc kb3 kb3.size (.cells (c4 0 0 0 (.slice none 0 0)) 27)
            refine hK.out _ _ (KS.out _ kz) (fun hHeld => ?_)
            clear hK K
            (try simp only [Act.put, List.getElem_toArray, List.getElem_cons_zero, List.getElem_cons_succ, List.setIfInBounds_toArray, List.set_cons_zero, List.set_cons_succ])
            refine wpAnyH_ready (rs := [10]) (by kernel_rfl) (by simp) ?_
            refine AllReadyH.cons rfl (fun K hK => ?_) AllReadyH.nil
            go_simp
            have kw := Below.alloc kb3 kb3.size (.cells (c4 fr cr lr (.slice gH nr cH)) 27)
            refine hK.out _ _ (KS.out _ kw) (fun hHeld => ?_)
            clear hK K
            (try simp only [Act.put, List.getElem_toArray, List.getElem_cons_zero, List.getElem_cons_succ, List.setIfInBounds_toArray, List.set_cons_zero, List.set_cons_succ])
            refine wpAnyH_take (i := 11) (v := ?va11x29) rfl (by kernel_rfl) (by kernel_rfl) (by kernel_rfl) (fun _ _ _ h => h) (Or.inl ⟨by rfl, ?hy11x29⟩) (by assumption) ?rest11x29
            case hy11x29 => (intro w hSw; (try dsimp only at hSw); go_simp; try with_reducible rfl)
            (try simp only [Act.put, List.getElem_toArray, List.getElem_cons_zero, List.getElem_cons_succ, List.setIfInBounds_toArray, List.set_cons_zero, List.set_cons_succ])
            refine wpAnyH_take (i := 12) (v := ?va12x30) rfl (by kernel_rfl) (by kernel_rfl) (by kernel_rfl) (fun _ _ _ h => h) (Or.inl ⟨by rfl, ?hy12x30⟩) (by assumption) ?rest12x30
            case hy12x30 => (intro w hSw; (try dsimp only at hSw); go_simp; try with_reducible rfl)
            (try simp only [Act.put, List.getElem_toArray, List.getElem_cons_zero, List.getElem_cons_succ, List.setIfInBounds_toArray, List.set_cons_zero, List.set_cons_succ])
            refine wpAnyH_done (by kernel_rfl) ?_ _
            refine NoPanic.normal ?_
            have RH : RowS _ pI3.heap.size fr cr lr (.slice gH nr cH) := Row.new pI3 _ _
            replace R0 := (Row.below R0 kb3).alloc (.cells (c4 fr cr lr (.slice gH nr cH)) 27)
            replace R1 := (Row.below R1 kb3).alloc (.cells (c4 fr cr lr (.slice gH nr cH)) 27)
            replace RW := (Row.below RW kb3).alloc (.cells (c4 fr cr lr (.slice gH nr cH)) 27)
            replace RXa := (Row.below RXa kb3).alloc (.cells (c4 fr cr lr (.slice gH nr cH)) 27)
            replace RXb := (Row.below RXb kb3).alloc (.cells (c4 fr cr lr (.slice gH nr cH)) 27)
            replace RG := (Row.below RG kb3).alloc (.cells (c4 fr cr lr (.slice gH nr cH)) 27)
            replace OW := (Own.below OW kb3).below ((Below.refl _ _).alloc (Nat.le_refl _) (.cells (c4 fr cr lr (.slice gH nr cH)) 27))
            replace OG := (Own.below OG kb3).below ((Below.refl _ _).alloc (Nat.le_refl _) (.cells (c4 fr cr lr (.slice gH nr cH)) 27))
            have OH := (ho.mono (show wh1.heap.size ≤ _ by omega)).below ((Below.refl _ _).alloc (Nat.le_refl _) (.cells (c4 fr cr lr (.slice gH nr cH)) 27))
            replace L := bst L kb3 L.size
            replace L := L.alloc L.size (.cells (c4 fr cr lr (.slice gH nr cH)) 27)
            have hV : ∀ k, (Value.slice gH nr cH).ownBlock = some k → wh1.heap.size ≤ k ∧ k < (pI3.alloc (.cells (c4 fr cr lr (.slice gH nr cH)) 27)).heap.size := fun k hk => by have := hU k hk; simp; omega
            have hsa : pI3.heap.size < (pI3.alloc (.cells (c4 fr cr lr (.slice gH nr cH)) 27)).heap.size := by simp
            have hsb : wh1.heap.size ≤ pI3.heap.size := kb3.size
            have hsc : wh1.heap.size ≤ (pI3.alloc (.cells (c4 fr cr lr (.slice gH nr cH)) 27)).heap.size := by simp; omega
            go_wp2_with fail
            go_meet
            case rel => exact ⟨_, _, _, rfl, rfl, rfl, R0, R1, RW, RXa, RXb, RG, RH, OW, OG, OH, hV, L, hsa, hsb, hsc⟩
          · refine AllReadyH.cons rfl (fun K hK => ?_) AllReadyH.nil
            go_simp
            have kz := Below.alloc kb2 kb2.size (.cells (c4 0 0 0 (.slice none 0 0)) 27)
            have RZ : RowS ((pI2).alloc (.cells (c4 0 0 0 (.slice none 0 0)) 27)) pI2.heap.size 0 0 0 (.slice none 0 0) := Row.new (pI2) _ _
            have hgz : wh1.heap.size ≤ pI2.heap.size := kb2.size
            replace IA := IA.below ((Below.refl _ _).alloc (Nat.le_refl _) (.cells (c4 0 0 0 (.slice none 0 0)) 27))
            replace IB := IB.below ((Below.refl _ _).alloc (Nat.le_refl _) (.cells (c4 0 0 0 (.slice none 0 0)) 27))
            refine hK.out _ _ (KS.out _ kz) (fun hHeld => ?_)
            clear hK K
            (try simp only [Act.put, List.getElem_toArray, List.getElem_cons_zero, List.getElem_cons_succ, List.setIfInBounds_toArray, List.set_cons_zero, List.set_cons_succ])
            refine wpAnyH_ready (rs := [4]) (by kernel_rfl) (by simp) ?_
            refine AllReadyH.cons rfl (fun K hK => ?_) AllReadyH.nil
            go_simp
            refine (HI.out _ _ _ IA IB (HTC.out _ kz)).mono ?_
            rintro e pI3z ⟨vH, rfl, ho, hbk⟩
            have hU := World.ownsRow.lt ho
            try simp only [World.size_alloc] at hU
            have hX := hbk.size
            try simp only [World.size_alloc] at hX
            have hX0 := kz.size
            try simp only [World.size_alloc] at hX0
            obtain ⟨gH, cH, hvs, _⟩ := ho.shape
            rw [HNR.out] at hvs
            subst hvs
            have kb3 := bst kz hbk kz.size
            replace RZ := Row.below RZ hbk
            refine hK.out _ _ (KS.out _ kb3) (fun hHeld => ?_)
            clear hK K
            (try simp only [Act.put, List.getElem_toArray, List.getElem_cons_zero, List.getElem_cons_succ, List.setIfInBounds_toArray, List.set_cons_zero, List.set_cons_succ])
            refine wpAnyH_take (i := 5) (v := ?va5x37) rfl (by kernel_rfl) (by kernel_rfl) (by kernel_rfl) (fun _ _ _ h => h) (Or.inl ⟨by rfl, ?hy5x37⟩) (by assumption) ?rest5x37
            case hy5x37 => (intro w hSw; (try dsimp only at hSw); go_simp; try with_reducible rfl)
            (try simp only [Act.put, List.getElem_toArray, List.getElem_cons_zero, List.getElem_cons_succ, List.setIfInBounds_toArray, List.set_cons_zero, List.set_cons_succ])
            refine wpAnyH_take (i := 6) (v := ?va6x38) rfl (by kernel_rfl) (by kernel_rfl) (by kernel_rfl) (fun _ _ _ h => h) (Or.inl ⟨by rfl, ?hy6x38⟩) (by assumption) ?rest6x38
            case hy6x38 => (intro w hSw; (try dsimp only at hSw); go_simp; try with_reducible rfl)
            (try simp only [Act.put, List.getElem_toArray, List.getElem_cons_zero, List.getElem_cons_succ, List.setIfInBounds_toArray, List.set_cons_zero, List.set_cons_succ])
            refine wpAnyH_take (i := 7) (v := ?va7x39) rfl (by kernel_rfl) (by kernel_rfl) (by kernel_rfl) (fun _ _ _ h => h) (Or.inl ⟨by rfl, ?hy7x39⟩) (by assumption) ?rest7x39
            case hy7x39 => (intro w hSw; (try dsimp only at hSw); go_simp; try with_reducible rfl)
            (try simp only [Act.put, List.getElem_toArray, List.getElem_cons_zero, List.getElem_cons_succ, List.setIfInBounds_toArray, List.set_cons_zero, List.set_cons_succ])
            refine wpAnyH_take (i := 8) (v := ?va8x40) rfl (by kernel_rfl) (by kernel_rfl) (by kernel_rfl) (fun _ _ _ h => h) (Or.inl ⟨by rfl, ?hy8x40⟩) (by assumption) ?rest8x40
            case hy8x40 => (intro w hSw; (try dsimp only at hSw); go_simp; try with_reducible rfl)
            (try simp only [Act.put, List.getElem_toArray, List.getElem_cons_zero, List.getElem_cons_succ, List.setIfInBounds_toArray, List.set_cons_zero, List.set_cons_succ])
            have hgl : pI2.heap.size < pI3z.heap.size := Row.lt RZ
            refine wpAnyH_ready (rs := [10]) (by kernel_rfl) (by simp) ?_
            have dz0 := RowS.c0 RZ
            have dz1 := RowS.c1 RZ
            have dz2 := RowS.c2 RZ
            have dz3 := RowS.c3 RZ
            have fz0 := Row.frozen RZ 0
            have fz1 := Row.frozen RZ 1
            have fz2 := Row.frozen RZ 2
            have fz3 := Row.frozen RZ 3
            refine AllReadyH.cons rfl (fun K hK => ?_) AllReadyH.nil
            go_simp
            have kw := below_set4 (g := pI2.heap.size) kb3 hgz (.int .i64 fr) (.int .i64 cr) (.int .i64 lr) (.slice gH nr cH)
            refine hK.out _ _ (KS.out _ kw) (fun hHeld => ?_)
            clear hK K
            (try simp only [Act.put, List.getElem_toArray, List.getElem_cons_zero, List.getElem_cons_succ, List.setIfInBounds_toArray, List.set_cons_zero, List.set_cons_succ])
            clear dz0 dz1 dz2 dz3 fz0 fz1 fz2 fz3
            refine wpAnyH_take (i := 11) (v := ?va11x35) rfl (by kernel_rfl) (by kernel_rfl) (by kernel_rfl) (fun _ _ _ h => h) (Or.inl ⟨by rfl, ?hy11x35⟩) (by assumption) ?rest11x35
            case hy11x35 => (intro w hSw; (try dsimp only at hSw); go_simp; try with_reducible rfl)
            (try simp only [Act.put, List.getElem_toArray, List.getElem_cons_zero, List.getElem_cons_succ, List.setIfInBounds_toArray, List.set_cons_zero, List.set_cons_succ])
            refine wpAnyH_take (i := 12) (v := ?va12x36) rfl (by kernel_rfl) (by kernel_rfl) (by kernel_rfl) (fun _ _ _ h => h) (Or.inl ⟨by rfl, ?hy12x36⟩) (by assumption) ?rest12x36
            case hy12x36 => (intro w hSw; (try dsimp only at hSw); go_simp; try with_reducible rfl)
            (try simp only [Act.put, List.getElem_toArray, List.getElem_cons_zero, List.getElem_cons_succ, List.setIfInBounds_toArray, List.set_cons_zero, List.set_cons_succ])
            refine wpAnyH_done (by kernel_rfl) ?_ _
            refine NoPanic.normal ?_
            have RH : RowS ((((pI3z.setCell ⟨pI2.heap.size, 0, none⟩ (.int .i64 fr)).setCell ⟨pI2.heap.size, 1, none⟩ (.int .i64 cr)).setCell ⟨pI2.heap.size, 2, none⟩ (.int .i64 lr)).setCell ⟨pI2.heap.size, 3, none⟩ (.slice gH nr cH)) (pI2.heap.size) fr cr lr (.slice gH nr cH) := rowS_set4 RZ fr cr lr (.slice gH nr cH)
            replace R0 := row_set4 (g' := pI2.heap.size) (Row.below R0 kb3) (by have := Row.lt R0; omega) (.int .i64 fr) (.int .i64 cr) (.int .i64 lr) (.slice gH nr cH)
            replace R1 := row_set4 (g' := pI2.heap.size) (Row.below R1 kb3) (by have := Row.lt R1; omega) (.int .i64 fr) (.int .i64 cr) (.int .i64 lr) (.slice gH nr cH)
            replace RW := row_set4 (g' := pI2.heap.size) (Row.below RW kb3) (by have := Row.lt RW; omega) (.int .i64 fr) (.int .i64 cr) (.int .i64 lr) (.slice gH nr cH)
            replace RXa := row_set4 (g' := pI2.heap.size) (Row.below RXa kb3) (by have := Row.lt RXa; omega) (.int .i64 fr) (.int .i64 cr) (.int .i64 lr) (.slice gH nr cH)
            replace RXb := row_set4 (g' := pI2.heap.size) (Row.below RXb kb3) (by have := Row.lt RXb; omega) (.int .i64 fr) (.int .i64 cr) (.int .i64 lr) (.slice gH nr cH)
            replace RG := row_set4 (g' := pI2.heap.size) (Row.below RG kb3) (by have := Row.lt RG; omega) (.int .i64 fr) (.int .i64 cr) (.int .i64 lr) (.slice gH nr cH)
            replace OW := Own.setApart4 (Own.below OW kb3) (pI2.heap.size) (.int .i64 fr) (.int .i64 cr) (.int .i64 lr) (.slice gH nr cH) (rowApart UW.out (by omega))
            replace OG := Own.setApart4 (Own.below OG kb3) (pI2.heap.size) (.int .i64 fr) (.int .i64 cr) (.int .i64 lr) (.slice gH nr cH) (rowApart UG.out (by omega))
            have OH := Own.setApart4 (ho.mono (show wh1.heap.size ≤ _ by first | omega | (simp; omega))) (pI2.heap.size) (.int .i64 fr) (.int .i64 cr) (.int .i64 lr) (.slice gH nr cH) (own_row_ne' ho RZ)
            replace L := bst L kb3 L.size
            replace L := below_set4 (g := pI2.heap.size) L (by have := L.size; omega) (.int .i64 fr) (.int .i64 cr) (.int .i64 lr) (.slice gH nr cH)
            have hsz : ((((pI3z.setCell ⟨pI2.heap.size, 0, none⟩ (.int .i64 fr)).setCell ⟨pI2.heap.size, 1, none⟩ (.int .i64 cr)).setCell ⟨pI2.heap.size, 2, none⟩ (.int .i64 lr)).setCell ⟨pI2.heap.size, 3, none⟩ (.slice gH nr cH)).heap.size = pI3z.heap.size := by simp [World.setCell]
            have hV : ∀ k, (Value.slice gH nr cH).ownBlock = some k → wh1.heap.size ≤ k ∧ k < ((((pI3z.setCell ⟨pI2.heap.size, 0, none⟩ (.int .i64 fr)).setCell ⟨pI2.heap.size, 1, none⟩ (.int .i64 cr)).setCell ⟨pI2.heap.size, 2, none⟩ (.int .i64 lr)).setCell ⟨pI2.heap.size, 3, none⟩ (.slice gH nr cH)).heap.size := fun k hk => by have := hU k hk; rw [hsz]; omega
            have hsa : pI2.heap.size < ((((pI3z.setCell ⟨pI2.heap.size, 0, none⟩ (.int .i64 fr)).setCell ⟨pI2.heap.size, 1, none⟩ (.int .i64 cr)).setCell ⟨pI2.heap.size, 2, none⟩ (.int .i64 lr)).setCell ⟨pI2.heap.size, 3, none⟩ (.slice gH nr cH)).heap.size := by rw [hsz]; omega
            have hsb : wh1.heap.size ≤ pI2.heap.size := hgz
            have hsc : wh1.heap.size ≤ ((((pI3z.setCell ⟨pI2.heap.size, 0, none⟩ (.int .i64 fr)).setCell ⟨pI2.heap.size, 1, none⟩ (.int .i64 cr)).setCell ⟨pI2.heap.size, 2, none⟩ (.int .i64 lr)).setCell ⟨pI2.heap.size, 3, none⟩ (.slice gH nr cH)).heap.size := by rw [hsz]; omega
            go_wp2_with fail
            go_meet
            case rel => exact ⟨_, _, _, rfl, rfl, rfl, R0, R1, RW, RXa, RXb, RG, RH, OW, OG, OH, hV, L, hsa, hsb, hsc⟩
        · refine AllReadyH.cons rfl (fun K hK => ?_) AllReadyH.nil
          go_simp
          have kz := Below.alloc kb1 kb1.size (.cells (c4 0 0 0 (.slice none 0 0)) 27)
          have RZ : RowS ((pI1).alloc (.cells (c4 0 0 0 (.slice none 0 0)) 27)) pI1.heap.size 0 0 0 (.slice none 0 0) := Row.new (pI1) _ _
          have hgz : wh1.heap.size ≤ pI1.heap.size := kb1.size
          replace IA := IA.below ((Below.refl _ _).alloc (Nat.le_refl _) (.cells (c4 0 0 0 (.slice none 0 0)) 27))
          refine hK.out _ _ (KS.out _ kz) (fun hHeld => ?_)
          clear hK K
          (try simp only [Act.put, List.getElem_toArray, List.getElem_cons_zero, List.getElem_cons_succ, List.setIfInBounds_toArray, List.set_cons_zero, List.set_cons_succ])
          refine wpAnyH_ready (rs := [3]) (by kernel_rfl) (by simp) ?_
          refine AllReadyH.cons rfl (fun K hK => ?_) AllReadyH.nil
          go_simp
          refine (c_toBits lb (.slice ab nb cab) zb _ (IntsAt.below IZb kz) HMb.out).mono ?_
          rintro e pI2z ⟨vbpI, rfl, hob, hbk⟩
          replace IA := IA.below hbk
          have IB := hob.ints
          have kb2 := bst kz hbk kz.size
          replace RZ := Row.below RZ hbk
          refine hK.out _ _ (KS.out _ kb2) (fun hHeld => ?_)
          clear hK K
          (try simp only [Act.put, List.getElem_toArray, List.getElem_cons_zero, List.getElem_cons_succ, List.setIfInBounds_toArray, List.set_cons_zero, List.set_cons_succ])
          refine wpAnyH_ready (rs := [4]) (by kernel_rfl) (by simp) ?_
          refine AllReadyH.cons rfl (fun K hK => ?_) AllReadyH.nil
          go_simp
          refine (HI.out _ _ _ IA IB (HTC.out _ kb2)).mono ?_
          rintro e pI3z ⟨vH, rfl, ho, hbk⟩
          have hU := World.ownsRow.lt ho
          try simp only [World.size_alloc] at hU
          have hX := hbk.size
          try simp only [World.size_alloc] at hX
          have hX0 := kb2.size
          try simp only [World.size_alloc] at hX0
          obtain ⟨gH, cH, hvs, _⟩ := ho.shape
          rw [HNR.out] at hvs
          subst hvs
          have kb3 := bst kb2 hbk kb2.size
          replace RZ := Row.below RZ hbk
          refine hK.out _ _ (KS.out _ kb3) (fun hHeld => ?_)
          clear hK K
          (try simp only [Act.put, List.getElem_toArray, List.getElem_cons_zero, List.getElem_cons_succ, List.setIfInBounds_toArray, List.set_cons_zero, List.set_cons_succ])
          refine wpAnyH_take (i := 5) (v := ?va5x43) rfl (by kernel_rfl) (by kernel_rfl) (by kernel_rfl) (fun _ _ _ h => h) (Or.inl ⟨by rfl, ?hy5x43⟩) (by assumption) ?rest5x43
          case hy5x43 => (intro w hSw; (try dsimp only at hSw); go_simp; try with_reducible rfl)
          (try simp only [Act.put, List.getElem_toArray, List.getElem_cons_zero, List.getElem_cons_succ, List.setIfInBounds_toArray, List.set_cons_zero, List.set_cons_succ])
          refine wpAnyH_take (i := 6) (v := ?va6x44) rfl (by kernel_rfl) (by kernel_rfl) (by kernel_rfl) (fun _ _ _ h => h) (Or.inl ⟨by rfl, ?hy6x44⟩) (by assumption) ?rest6x44
          case hy6x44 => (intro w hSw; (try dsimp only at hSw); go_simp; try with_reducible rfl)
          (try simp only [Act.put, List.getElem_toArray, List.getElem_cons_zero, List.getElem_cons_succ, List.setIfInBounds_toArray, List.set_cons_zero, List.set_cons_succ])
          refine wpAnyH_take (i := 7) (v := ?va7x45) rfl (by kernel_rfl) (by kernel_rfl) (by kernel_rfl) (fun _ _ _ h => h) (Or.inl ⟨by rfl, ?hy7x45⟩) (by assumption) ?rest7x45
          case hy7x45 => (intro w hSw; (try dsimp only at hSw); go_simp; try with_reducible rfl)
          (try simp only [Act.put, List.getElem_toArray, List.getElem_cons_zero, List.getElem_cons_succ, List.setIfInBounds_toArray, List.set_cons_zero, List.set_cons_succ])
          refine wpAnyH_take (i := 8) (v := ?va8x46) rfl (by kernel_rfl) (by kernel_rfl) (by kernel_rfl) (fun _ _ _ h => h) (Or.inl ⟨by rfl, ?hy8x46⟩) (by assumption) ?rest8x46
          case hy8x46 => (intro w hSw; (try dsimp only at hSw); go_simp; try with_reducible rfl)
          (try simp only [Act.put, List.getElem_toArray, List.getElem_cons_zero, List.getElem_cons_succ, List.setIfInBounds_toArray, List.set_cons_zero, List.set_cons_succ])
          have hgl : pI1.heap.size < pI3z.heap.size := Row.lt RZ
          refine wpAnyH_ready (rs := [10]) (by kernel_rfl) (by simp) ?_
          have dz0 := RowS.c0 RZ
          have dz1 := RowS.c1 RZ
          have dz2 := RowS.c2 RZ
          have dz3 := RowS.c3 RZ
          have fz0 := Row.frozen RZ 0
          have fz1 := Row.frozen RZ 1
          have fz2 := Row.frozen RZ 2
          have fz3 := Row.frozen RZ 3
          refine AllReadyH.cons rfl (fun K hK => ?_) AllReadyH.nil
          go_simp
          have kw := below_set4 (g := pI1.heap.size) kb3 hgz (.int .i64 fr) (.int .i64 cr) (.int .i64 lr) (.slice gH nr cH)
          refine hK.out _ _ (KS.out _ kw) (fun hHeld => ?_)
          clear hK K
          (try simp only [Act.put, List.getElem_toArray, List.getElem_cons_zero, List.getElem_cons_succ, List.setIfInBounds_toArray, List.set_cons_zero, List.set_cons_succ])
          clear dz0 dz1 dz2 dz3 fz0 fz1 fz2 fz3
          refine wpAnyH_take (i := 11) (v := ?va11x41) rfl (by kernel_rfl) (by kernel_rfl) (by kernel_rfl) (fun _ _ _ h => h) (Or.inl ⟨by rfl, ?hy11x41⟩) (by assumption) ?rest11x41
          case hy11x41 => (intro w hSw; (try dsimp only at hSw); go_simp; try with_reducible rfl)
          (try simp only [Act.put, List.getElem_toArray, List.getElem_cons_zero, List.getElem_cons_succ, List.setIfInBounds_toArray, List.set_cons_zero, List.set_cons_succ])
          refine wpAnyH_take (i := 12) (v := ?va12x42) rfl (by kernel_rfl) (by kernel_rfl) (by kernel_rfl) (fun _ _ _ h => h) (Or.inl ⟨by rfl, ?hy12x42⟩) (by assumption) ?rest12x42
          case hy12x42 => (intro w hSw; (try dsimp only at hSw); go_simp; try with_reducible rfl)
          (try simp only [Act.put, List.getElem_toArray, List.getElem_cons_zero, List.getElem_cons_succ, List.setIfInBounds_toArray, List.set_cons_zero, List.set_cons_succ])
          refine wpAnyH_done (by kernel_rfl) ?_ _
          refine NoPanic.normal ?_
          have RH : RowS ((((pI3z.setCell ⟨pI1.heap.size, 0, none⟩ (.int .i64 fr)).setCell ⟨pI1.heap.size, 1, none⟩ (.int .i64 cr)).setCell ⟨pI1.heap.size, 2, none⟩ (.int .i64 lr)).setCell ⟨pI1.heap.size, 3, none⟩ (.slice gH nr cH)) (pI1.heap.size) fr cr lr (.slice gH nr cH) := rowS_set4 RZ fr cr lr (.slice gH nr cH)
          replace R0 := row_set4 (g' := pI1.heap.size) (Row.below R0 kb3) (by have := Row.lt R0; omega) (.int .i64 fr) (.int .i64 cr) (.int .i64 lr) (.slice gH nr cH)
          replace R1 := row_set4 (g' := pI1.heap.size) (Row.below R1 kb3) (by have := Row.lt R1; omega) (.int .i64 fr) (.int .i64 cr) (.int .i64 lr) (.slice gH nr cH)
          replace RW := row_set4 (g' := pI1.heap.size) (Row.below RW kb3) (by have := Row.lt RW; omega) (.int .i64 fr) (.int .i64 cr) (.int .i64 lr) (.slice gH nr cH)
          replace RXa := row_set4 (g' := pI1.heap.size) (Row.below RXa kb3) (by have := Row.lt RXa; omega) (.int .i64 fr) (.int .i64 cr) (.int .i64 lr) (.slice gH nr cH)
          replace RXb := row_set4 (g' := pI1.heap.size) (Row.below RXb kb3) (by have := Row.lt RXb; omega) (.int .i64 fr) (.int .i64 cr) (.int .i64 lr) (.slice gH nr cH)
          replace RG := row_set4 (g' := pI1.heap.size) (Row.below RG kb3) (by have := Row.lt RG; omega) (.int .i64 fr) (.int .i64 cr) (.int .i64 lr) (.slice gH nr cH)
          replace OW := Own.setApart4 (Own.below OW kb3) (pI1.heap.size) (.int .i64 fr) (.int .i64 cr) (.int .i64 lr) (.slice gH nr cH) (rowApart UW.out (by omega))
          replace OG := Own.setApart4 (Own.below OG kb3) (pI1.heap.size) (.int .i64 fr) (.int .i64 cr) (.int .i64 lr) (.slice gH nr cH) (rowApart UG.out (by omega))
          have OH := Own.setApart4 (ho.mono (show wh1.heap.size ≤ _ by first | omega | (simp; omega))) (pI1.heap.size) (.int .i64 fr) (.int .i64 cr) (.int .i64 lr) (.slice gH nr cH) (own_row_ne' ho RZ)
          replace L := bst L kb3 L.size
          replace L := below_set4 (g := pI1.heap.size) L (by have := L.size; omega) (.int .i64 fr) (.int .i64 cr) (.int .i64 lr) (.slice gH nr cH)
          have hsz : ((((pI3z.setCell ⟨pI1.heap.size, 0, none⟩ (.int .i64 fr)).setCell ⟨pI1.heap.size, 1, none⟩ (.int .i64 cr)).setCell ⟨pI1.heap.size, 2, none⟩ (.int .i64 lr)).setCell ⟨pI1.heap.size, 3, none⟩ (.slice gH nr cH)).heap.size = pI3z.heap.size := by simp [World.setCell]
          have hV : ∀ k, (Value.slice gH nr cH).ownBlock = some k → wh1.heap.size ≤ k ∧ k < ((((pI3z.setCell ⟨pI1.heap.size, 0, none⟩ (.int .i64 fr)).setCell ⟨pI1.heap.size, 1, none⟩ (.int .i64 cr)).setCell ⟨pI1.heap.size, 2, none⟩ (.int .i64 lr)).setCell ⟨pI1.heap.size, 3, none⟩ (.slice gH nr cH)).heap.size := fun k hk => by have := hU k hk; rw [hsz]; omega
          have hsa : pI1.heap.size < ((((pI3z.setCell ⟨pI1.heap.size, 0, none⟩ (.int .i64 fr)).setCell ⟨pI1.heap.size, 1, none⟩ (.int .i64 cr)).setCell ⟨pI1.heap.size, 2, none⟩ (.int .i64 lr)).setCell ⟨pI1.heap.size, 3, none⟩ (.slice gH nr cH)).heap.size := by rw [hsz]; omega
          have hsb : wh1.heap.size ≤ pI1.heap.size := hgz
          have hsc : wh1.heap.size ≤ ((((pI3z.setCell ⟨pI1.heap.size, 0, none⟩ (.int .i64 fr)).setCell ⟨pI1.heap.size, 1, none⟩ (.int .i64 cr)).setCell ⟨pI1.heap.size, 2, none⟩ (.int .i64 lr)).setCell ⟨pI1.heap.size, 3, none⟩ (.slice gH nr cH)).heap.size := by rw [hsz]; omega
          go_wp2_with fail
          go_meet
          case rel => exact ⟨_, _, _, rfl, rfl, rfl, R0, R1, RW, RXa, RXb, RG, RH, OW, OG, OH, hV, L, hsa, hsb, hsc⟩
      · refine AllReadyH.cons rfl (fun K hK => ?_) AllReadyH.nil
        go_simp
        have kz := Below.alloc BD BD.size (.cells (c4 0 0 0 (.slice none 0 0)) 27)
        have RZ : RowS ((wh1.drew).alloc (.cells (c4 0 0 0 (.slice none 0 0)) 27)) wh1.heap.size 0 0 0 (.slice none 0 0) := Row.new (wh1.drew) _ _
        have hgz : wh1.heap.size ≤ wh1.heap.size := BD.size
        refine hK.out _ _ (KS.out _ kz) (fun hHeld => ?_)
        clear hK K
        (try simp only [Act.put, List.getElem_toArray, List.getElem_cons_zero, List.getElem_cons_succ, List.setIfInBounds_toArray, List.set_cons_zero, List.set_cons_succ])
        refine wpAnyH_ready (rs := [1]) (by kernel_rfl) (by simp) ?_
        refine AllReadyH.cons rfl (fun K hK => ?_) AllReadyH.nil
        go_simp
        refine (c_toSpan fa ca la (.slice aa na caa) za _ (IntsAt.below IZa kz) HMa.out).mono ?_
        rintro e pI1z ⟨vapI, rfl, hoa, hbk⟩
        have IA := hoa.ints
        have kb1 := bst kz hbk kz.size
        replace RZ := Row.below RZ hbk
        refine hK.out _ _ (KS.out _ kb1) (fun hHeld => ?_)
        clear hK K
        (try simp only [Act.put, List.getElem_toArray, List.getElem_cons_zero, List.getElem_cons_succ, List.setIfInBounds_toArray, List.set_cons_zero, List.set_cons_succ])
        refine wpAnyH_ready (rs := [3]) (by kernel_rfl) (by simp) ?_
        refine AllReadyH.cons rfl (fun K hK => ?_) AllReadyH.nil
        go_simp
        refine (c_toBits lb (.slice ab nb cab) zb _ (IntsAt.below IZb kb1) HMb.out).mono ?_
        rintro e pI2z ⟨vbpI, rfl, hob, hbk⟩
        replace IA := IA.below hbk
        have IB := hob.ints
        have kb2 := bst kb1 hbk kb1.size
        replace RZ := Row.below RZ hbk
        refine hK.out _ _ (KS.out _ kb2) (fun hHeld => ?_)
        clear hK K
        (try simp only [Act.put, List.getElem_toArray, List.getElem_cons_zero, List.getElem_cons_succ, List.setIfInBounds_toArray, List.set_cons_zero, List.set_cons_succ])
        refine wpAnyH_ready (rs := [4]) (by kernel_rfl) (by simp) ?_
        refine AllReadyH.cons rfl (fun K hK => ?_) AllReadyH.nil
        go_simp
        refine (HI.out _ _ _ IA IB (HTC.out _ kb2)).mono ?_
        rintro e pI3z ⟨vH, rfl, ho, hbk⟩
        have hU := World.ownsRow.lt ho
        try simp only [World.size_alloc] at hU
        have hX := hbk.size
        try simp only [World.size_alloc] at hX
        have hX0 := kb2.size
        try simp only [World.size_alloc] at hX0
        obtain ⟨gH, cH, hvs, _⟩ := ho.shape
        rw [HNR.out] at hvs
        subst hvs
        have kb3 := bst kb2 hbk kb2.size
        replace RZ := Row.below RZ hbk
        refine hK.out _ _ (KS.out _ kb3) (fun hHeld => ?_)
        clear hK K
        (try simp only [Act.put, List.getElem_toArray, List.getElem_cons_zero, List.getElem_cons_succ, List.setIfInBounds_toArray, List.set_cons_zero, List.set_cons_succ])
        refine wpAnyH_take (i := 5) (v := ?va5x49) rfl (by kernel_rfl) (by kernel_rfl) (by kernel_rfl) (fun _ _ _ h => h) (Or.inl ⟨by rfl, ?hy5x49⟩) (by assumption) ?rest5x49
        case hy5x49 => (intro w hSw; (try dsimp only at hSw); go_simp; try with_reducible rfl)
        (try simp only [Act.put, List.getElem_toArray, List.getElem_cons_zero, List.getElem_cons_succ, List.setIfInBounds_toArray, List.set_cons_zero, List.set_cons_succ])
        refine wpAnyH_take (i := 6) (v := ?va6x50) rfl (by kernel_rfl) (by kernel_rfl) (by kernel_rfl) (fun _ _ _ h => h) (Or.inl ⟨by rfl, ?hy6x50⟩) (by assumption) ?rest6x50
        case hy6x50 => (intro w hSw; (try dsimp only at hSw); go_simp; try with_reducible rfl)
        (try simp only [Act.put, List.getElem_toArray, List.getElem_cons_zero, List.getElem_cons_succ, List.setIfInBounds_toArray, List.set_cons_zero, List.set_cons_succ])
        refine wpAnyH_take (i := 7) (v := ?va7x51) rfl (by kernel_rfl) (by kernel_rfl) (by kernel_rfl) (fun _ _ _ h => h) (Or.inl ⟨by rfl, ?hy7x51⟩) (by assumption) ?rest7x51
        case hy7x51 => (intro w hSw; (try dsimp only at hSw); go_simp; try with_reducible rfl)
        (try simp only [Act.put, List.getElem_toArray, List.getElem_cons_zero, List.getElem_cons_succ, List.setIfInBounds_toArray, List.set_cons_zero, List.set_cons_succ])
        refine wpAnyH_take (i := 8) (v := ?va8x52) rfl (by kernel_rfl) (by kernel_rfl) (by kernel_rfl) (fun _ _ _ h => h) (Or.inl ⟨by rfl, ?hy8x52⟩) (by assumption) ?rest8x52
        case hy8x52 => (intro w hSw; (try dsimp only at hSw); go_simp; try with_reducible rfl)
        (try simp only [Act.put, List.getElem_toArray, List.getElem_cons_zero, List.getElem_cons_succ, List.setIfInBounds_toArray, List.set_cons_zero, List.set_cons_succ])
        have hgl : wh1.heap.size < pI3z.heap.size := Row.lt RZ
        refine wpAnyH_ready (rs := [10]) (by kernel_rfl) (by simp) ?_
        have dz0 := RowS.c0 RZ
        have dz1 := RowS.c1 RZ
        have dz2 := RowS.c2 RZ
        have dz3 := RowS.c3 RZ
        have fz0 := Row.frozen RZ 0
        have fz1 := Row.frozen RZ 1
        have fz2 := Row.frozen RZ 2
        have fz3 := Row.frozen RZ 3
        refine AllReadyH.cons rfl (fun K hK => ?_) AllReadyH.nil
        go_simp
        have kw := below_set4 (g := wh1.heap.size) kb3 hgz (.int .i64 fr) (.int .i64 cr) (.int .i64 lr) (.slice gH nr cH)
        refine hK.out _ _ (KS.out _ kw) (fun hHeld => ?_)
        clear hK K
        (try simp only [Act.put, List.getElem_toArray, List.getElem_cons_zero, List.getElem_cons_succ, List.setIfInBounds_toArray, List.set_cons_zero, List.set_cons_succ])
        clear dz0 dz1 dz2 dz3 fz0 fz1 fz2 fz3
        refine wpAnyH_take (i := 11) (v := ?va11x47) rfl (by kernel_rfl) (by kernel_rfl) (by kernel_rfl) (fun _ _ _ h => h) (Or.inl ⟨by rfl, ?hy11x47⟩) (by assumption) ?rest11x47
        case hy11x47 => (intro w hSw; (try dsimp only at hSw); go_simp; try with_reducible rfl)
        (try simp only [Act.put, List.getElem_toArray, List.getElem_cons_zero, List.getElem_cons_succ, List.setIfInBounds_toArray, List.set_cons_zero, List.set_cons_succ])
        refine wpAnyH_take (i := 12) (v := ?va12x48) rfl (by kernel_rfl) (by kernel_rfl) (by kernel_rfl) (fun _ _ _ h => h) (Or.inl ⟨by rfl, ?hy12x48⟩) (by assumption) ?rest12x48
        case hy12x48 => (intro w hSw; (try dsimp only at hSw); go_simp; try with_reducible rfl)
        (try simp only [Act.put, List.getElem_toArray, List.getElem_cons_zero, List.getElem_cons_succ, List.setIfInBounds_toArray, List.set_cons_zero, List.set_cons_succ])
        refine wpAnyH_done (by kernel_rfl) ?_ _
        refine NoPanic.normal ?_
        have RH : RowS ((((pI3z.setCell ⟨wh1.heap.size, 0, none⟩ (.int .i64 fr)).setCell ⟨wh1.heap.size, 1, none⟩ (.int .i64 cr)).setCell ⟨wh1.heap.size, 2, none⟩ (.int .i64 lr)).setCell ⟨wh1.heap.size, 3, none⟩ (.slice gH nr cH)) (wh1.heap.size) fr cr lr (.slice gH nr cH) := rowS_set4 RZ fr cr lr (.slice gH nr cH)
        replace R0 := row_set4 (g' := wh1.heap.size) (Row.below R0 kb3) (by have := Row.lt R0; omega) (.int .i64 fr) (.int .i64 cr) (.int .i64 lr) (.slice gH nr cH)
        replace R1 := row_set4 (g' := wh1.heap.size) (Row.below R1 kb3) (by have := Row.lt R1; omega) (.int .i64 fr) (.int .i64 cr) (.int .i64 lr) (.slice gH nr cH)
        replace RW := row_set4 (g' := wh1.heap.size) (Row.below RW kb3) (by have := Row.lt RW; omega) (.int .i64 fr) (.int .i64 cr) (.int .i64 lr) (.slice gH nr cH)
        replace RXa := row_set4 (g' := wh1.heap.size) (Row.below RXa kb3) (by have := Row.lt RXa; omega) (.int .i64 fr) (.int .i64 cr) (.int .i64 lr) (.slice gH nr cH)
        replace RXb := row_set4 (g' := wh1.heap.size) (Row.below RXb kb3) (by have := Row.lt RXb; omega) (.int .i64 fr) (.int .i64 cr) (.int .i64 lr) (.slice gH nr cH)
        replace RG := row_set4 (g' := wh1.heap.size) (Row.below RG kb3) (by have := Row.lt RG; omega) (.int .i64 fr) (.int .i64 cr) (.int .i64 lr) (.slice gH nr cH)
        replace OW := Own.setApart4 (Own.below OW kb3) (wh1.heap.size) (.int .i64 fr) (.int .i64 cr) (.int .i64 lr) (.slice gH nr cH) (rowApart UW.out (by omega))
        replace OG := Own.setApart4 (Own.below OG kb3) (wh1.heap.size) (.int .i64 fr) (.int .i64 cr) (.int .i64 lr) (.slice gH nr cH) (rowApart UG.out (by omega))
        have OH := Own.setApart4 (ho.mono (show wh1.heap.size ≤ _ by first | omega | (simp; omega))) (wh1.heap.size) (.int .i64 fr) (.int .i64 cr) (.int .i64 lr) (.slice gH nr cH) (own_row_ne' ho RZ)
        replace L := bst L kb3 L.size
        replace L := below_set4 (g := wh1.heap.size) L (by have := L.size; omega) (.int .i64 fr) (.int .i64 cr) (.int .i64 lr) (.slice gH nr cH)
        have hsz : ((((pI3z.setCell ⟨wh1.heap.size, 0, none⟩ (.int .i64 fr)).setCell ⟨wh1.heap.size, 1, none⟩ (.int .i64 cr)).setCell ⟨wh1.heap.size, 2, none⟩ (.int .i64 lr)).setCell ⟨wh1.heap.size, 3, none⟩ (.slice gH nr cH)).heap.size = pI3z.heap.size := by simp [World.setCell]
        have hV : ∀ k, (Value.slice gH nr cH).ownBlock = some k → wh1.heap.size ≤ k ∧ k < ((((pI3z.setCell ⟨wh1.heap.size, 0, none⟩ (.int .i64 fr)).setCell ⟨wh1.heap.size, 1, none⟩ (.int .i64 cr)).setCell ⟨wh1.heap.size, 2, none⟩ (.int .i64 lr)).setCell ⟨wh1.heap.size, 3, none⟩ (.slice gH nr cH)).heap.size := fun k hk => by have := hU k hk; rw [hsz]; omega
        have hsa : wh1.heap.size < ((((pI3z.setCell ⟨wh1.heap.size, 0, none⟩ (.int .i64 fr)).setCell ⟨wh1.heap.size, 1, none⟩ (.int .i64 cr)).setCell ⟨wh1.heap.size, 2, none⟩ (.int .i64 lr)).setCell ⟨wh1.heap.size, 3, none⟩ (.slice gH nr cH)).heap.size := by rw [hsz]; omega
        have hsb : wh1.heap.size ≤ wh1.heap.size := hgz
        have hsc : wh1.heap.size ≤ ((((pI3z.setCell ⟨wh1.heap.size, 0, none⟩ (.int .i64 fr)).setCell ⟨wh1.heap.size, 1, none⟩ (.int .i64 cr)).setCell ⟨wh1.heap.size, 2, none⟩ (.int .i64 lr)).setCell ⟨wh1.heap.size, 3, none⟩ (.slice gH nr cH)).heap.size := by rw [hsz]; omega
        go_wp2_with fail
        go_meet
        case rel => exact ⟨_, _, _, rfl, rfl, rfl, R0, R1, RW, RXa, RXb, RG, RH, OW, OG, OH, hV, L, hsa, hsb, hsc⟩
    case rest =>
      clear IZa IZb KS BD HTC L R0 R1 RW RXa RXb RG OW OG
      obtain ⟨gBH, gH, cH, rfl, rfl, rfl, R0, R1, RW, RXa, RXb, RG, RH, OW, OG, OH, hU, L, hs16, hs17, hs18⟩ := hcut
      replace OW : Own wc BW (.slice gW nr cW) rs := OW
      replace OG : Own wc BG (.slice gG nr cG) (upFrom 1 nr) := OG
      have UH := Lib.hid hU; clear hU
      have c00 := Row.cell R0 0
      have c10 := Row.cell R0 1
      have c20 := Row.cell R0 2
      have c30 := Row.cell R0 3
      have lt0 := Row.lt R0
      have c01 := Row.cell R1 0
      have c11 := Row.cell R1 1
      have lt1 := Row.lt R1
      have c0W := Row.cell RW 0
      have c1W := Row.cell RW 1
      have c2W := Row.cell RW 2
      have c3W := Row.cell RW 3
      have ltW := Row.lt RW
      have c0Xa := Row.cell RXa 0
      have c1Xa := Row.cell RXa 1
      have c2Xa := Row.cell RXa 2
      have c3Xa := Row.cell RXa 3
      have ltXa := Row.lt RXa
      have c0Xb := Row.cell RXb 0
      have c1Xb := Row.cell RXb 1
      have ltXb := Row.lt RXb
      have c0G := Row.cell RG 0
      have c1G := Row.cell RG 1
      have c2G := Row.cell RG 2
      have c3G := Row.cell RG 3
      have ltG := Row.lt RG
      have c0H := Row.cell RH 0
      have c1H := Row.cell RH 1
      have c2H := Row.cell RH 2
      have c3H := Row.cell RH 3
      have ltH := Row.lt RH
      go_wp2_with fail
      clear c00 c10 c20 c30 lt0 c01 c11 lt1 c0W c1W c2W c3W ltW c0Xa c1Xa c2Xa c3Xa ltXa c0Xb c1Xb ltXb c0G c1G c2G c3G ltG c0H c1H c2H c3H ltH
      refine (c_eqSpan fr cr lr (.slice gH nr cH) (.slice gW nr cW) rs _ OH.ints OW.ints (by rw [HNR.out]; omega)).mono ?_
      rintro e w3e ⟨rfl, hb⟩
      replace R0 := Row.below R0 hb
      replace R1 := Row.below R1 hb
      replace RW := Row.below RW hb
      replace RXa := Row.below RXa hb
      replace RXb := Row.below RXb hb
      replace RG := Row.below RG hb
      replace RH := Row.below RH hb
      replace OW := Own.below OW hb
      replace OG := Own.below OG hb
      replace OH := Own.below OH hb
      have hs19 := hb.size
      try simp only [World.size_alloc] at hs19
      replace L := bst L hb L.size
      clear hb
      have c00 := Row.cell R0 0
      have c10 := Row.cell R0 1
      have c20 := Row.cell R0 2
      have c30 := Row.cell R0 3
      have lt0 := Row.lt R0
      have c01 := Row.cell R1 0
      have c11 := Row.cell R1 1
      have lt1 := Row.lt R1
      have c0W := Row.cell RW 0
      have c1W := Row.cell RW 1
      have c2W := Row.cell RW 2
      have c3W := Row.cell RW 3
      have ltW := Row.lt RW
      have c0Xa := Row.cell RXa 0
      have c1Xa := Row.cell RXa 1
      have c2Xa := Row.cell RXa 2
      have c3Xa := Row.cell RXa 3
      have ltXa := Row.lt RXa
      have c0Xb := Row.cell RXb 0
      have c1Xb := Row.cell RXb 1
      have ltXb := Row.lt RXb
      have c0G := Row.cell RG 0
      have c1G := Row.cell RG 1
      have c2G := Row.cell RG 2
      have c3G := Row.cell RG 3
      have ltG := Row.lt RG
      have c0H := Row.cell RH 0
      have c1H := Row.cell RH 1
      have c2H := Row.cell RH 2
      have c3H := Row.cell RH 3
      have ltH := Row.lt RH
      go_wp2_with fail
      clear c00 c10 c20 c30 lt0 c01 c11 lt1 c0W c1W c2W c3W ltW c0Xa c1Xa c2Xa c3Xa ltXa c0Xb c1Xb ltXb c0G c1G c2G c3G ltG c0H c1H c2H c3H ltH
      refine (c_heldSpan fr cr lr (.slice gG nr cG) nr 1 _ OG.ints (by omega) (by omega)).mono ?_
      rintro e wh2 ⟨rfl, hb⟩
      replace R0 := Row.below R0 hb
      replace R1 := Row.below R1 hb
      replace RW := Row.below RW hb
      replace RXa := Row.below RXa hb
      replace RXb := Row.below RXb hb
      replace RG := Row.below RG hb
      replace RH := Row.below RH hb
      replace OW := Own.below OW hb
      replace OG := Own.below OG hb
      replace OH := Own.below OH hb
      have hs20 := hb.size
      try simp only [World.size_alloc] at hs20
      replace L := bst L hb L.size
      clear hb
      have c00 := Row.cell R0 0
      have c10 := Row.cell R0 1
      have c20 := Row.cell R0 2
      have c30 := Row.cell R0 3
      have lt0 := Row.lt R0
      have c01 := Row.cell R1 0
      have c11 := Row.cell R1 1
      have lt1 := Row.lt R1
      have c0W := Row.cell RW 0
      have c1W := Row.cell RW 1
      have c2W := Row.cell RW 2
      have c3W := Row.cell RW 3
      have ltW := Row.lt RW
      have c0Xa := Row.cell RXa 0
      have c1Xa := Row.cell RXa 1
      have c2Xa := Row.cell RXa 2
      have c3Xa := Row.cell RXa 3
      have ltXa := Row.lt RXa
      have c0Xb := Row.cell RXb 0
      have c1Xb := Row.cell RXb 1
      have ltXb := Row.lt RXb
      have c0G := Row.cell RG 0
      have c1G := Row.cell RG 1
      have c2G := Row.cell RG 2
      have c3G := Row.cell RG 3
      have ltG := Row.lt RG
      have c0H := Row.cell RH 0
      have c1H := Row.cell RH 1
      have c2H := Row.cell RH 2
      have c3H := Row.cell RH 3
      have ltH := Row.lt RH
      go_wp2
      go_ret
      exact ⟨rfl, L⟩
set_option maxHeartbeats 1600000 in
set_option maxRecDepth 100000 in
theorem walk_FnExactSweepSpan (fa ca la : Int) (va : Value) (za : List Int) (lb : Int) (vb : Value) (zb : List Int) (w : World) (hza : IntsAt w va za) (hna : za.length ≤ 9223372036854775807) (hzb : IntsAt w vb zb) (hnb : zb.length ≤ 9223372036854775807) (hT : TabW w) : Calls Tryd.prog 11 #[sp fa ca la va, bm lb vb] w fun e w' => e = .returned (.bool true) ∧ Below w.heap.size w w' := by
  by_cases hm : za.length + zb.length ≤ 1048576
  · by_cases hB : Sok fa ca la za
    · have hz4 := hB.len
      by_cases hM : Bok lb zb
      · by_cases hl : la = lb
        · refine core_FnExactSweepSpan fa ca la va za lb vb zb fa ca la (zipW .and za zb) (countTo (bitL za) la.toNat - countTo (bitL (zipW .and za zb)) la.toNat) true TabW w hza hzb hm (by rw [zip_length]; omega) (fun w' hb => hT.below hb hT.pos) (fun w v u h k => c_sSweep_yes fa ca la v za lb u zb w h k hB hM hl _ _ rfl rfl) (fun w v u h k ht => ?_)
          rw [zipW_and hB.2.2.2 hM, ← zipW_and hB.2.2.2 hM, ← freed_eq hB.2.2.2 hM (L := la.toNat) (by have := hB.long; omega), zipW_and hB.2.2.2 hM]
          exact c_iSweep_yes fa ca la v za lb u zb w ht h k hB hM hl.symm _ rfl
        · exact core_FnExactSweepSpan fa ca la va za lb vb zb 0 0 0 [] 0 false TabW w hza hzb hm (by simp) (fun w' hb => hT.below hb hT.pos) (fun w v u h k => (c_sSweep_marks fa ca la v za lb u zb w h k hB (fun h => hl h.2.2)).mono fun _ _ ⟨he, hb⟩ => spanEnd3_none he hb) (fun w v u h k ht => (c_iSweep_long fa ca la v za lb u zb w ht h k hB hM (fun h => hl h.symm)).mono fun _ _ ⟨he, hb⟩ => spanEnd3_none he hb)
      · exact core_FnExactSweepSpan fa ca la va za lb vb zb 0 0 0 [] 0 false TabW w hza hzb hm (by simp) (fun w' hb => hT.below hb hT.pos) (fun w v u h k => (c_sSweep_marks fa ca la v za lb u zb w h k hB (fun h => hM h.2.1)).mono fun _ _ ⟨he, hb⟩ => spanEnd3_none he hb) (fun w v u h k ht => (c_iSweep_marks fa ca la v za lb u zb w ht h k hB hM).mono fun _ _ ⟨he, hb⟩ => spanEnd3_none he hb)
    · exact core_FnExactSweepSpan fa ca la va za lb vb zb 0 0 0 [] 0 false TabW w hza hzb hm (by simp) (fun w' hb => hT.below hb hT.pos) (fun w v u h k => (c_sSweep_bad fa ca la v za lb u zb w h k hB).mono fun _ _ ⟨he, hb⟩ => spanEnd3_none he hb) (fun w v u h k ht => (c_iSweep_bad fa ca la v za lb u zb w ht h k hB).mono fun _ _ ⟨he, hb⟩ => spanEnd3_none he hb)
  · have HB0 := Lib.hid (((Below.refl w.heap.size w).alloc (Nat.le_refl _) (.cells (c4 fa ca la va) 53)).alloc (by simp) (.cells (cb lb vb) 51))
    by_cases h1 : za.length ≤ 1048576
    · obtain ⟨a, cap, rfl, _⟩ := hza
      obtain ⟨b, cbb, rfl, _⟩ := hzb
      generalize za.length = n at *
      generalize zb.length = m at *
      have R1 := Row.new1 w (.cells (c4 fa ca la (.slice a n cap)) 53) 51 (cb lb (.slice b m cbb))
      have hl0 : ¬ (1048576 - (n : Int)) < 0 := by omega
      go_enter Tryd.func11, Tryd.ntmps11
      go_wp2_with fail
      refine (c_szSpan_yes fa ca la a n cap 1048576 _ (by omega) (by omega)).mono ?_
      rintro e w1 ⟨rfl, hb1⟩
      have HB1 := Lib.hid (bst HB0.out hb1 HB0.out.size)
      have R2 := Row.below R1 hb1
      have c0 := Row.cell R2 0
      have c1 := Row.cell R2 1
      clear hb1 R1
      go_wp2_with fail
      refine (c_szBits_no lb b m cbb (1048576 - (n : Int)) _ (by omega) (by omega) hnb (by omega)).mono ?_
      rintro e w2 ⟨rfl, hb2⟩
      have HB2 := Lib.hid (bst HB1.out hb2 HB1.out.size)
      clear hb2 c0 c1
      go_wp2
      go_ret
      exact ⟨rfl, HB2.out⟩
    · obtain ⟨a, cap, rfl, _⟩ := hza
      generalize za.length = n at *
      go_enter Tryd.func11, Tryd.ntmps11
      go_wp2_with fail
      refine (c_szSpan_no fa ca la a n cap 1048576 _ (by omega) (by omega) hna (by omega)).mono ?_
      rintro e w1 ⟨rfl, hb1⟩
      have HB1 := Lib.hid (bst HB0.out hb1 HB0.out.size)
      clear hb1
      go_wp2
      go_ret
      exact ⟨rfl, HB1.out⟩
end Go.Proofs.YtcelebblcjhpaaaDoor
