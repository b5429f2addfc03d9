/- What the laws rest on, part 6. -/
import Derived.Test.YtbmfkgfmibpkjaaPC5
namespace Go.Proofs.Ytbmfkgfmibpkjaa
open Go.RowKit Ph

theorem ref_in {h : H} (g : Ph.Good h) {z : Int} (hz : refB h.l z = true) : inR h.f.length z := by
  have := refs_bound g (zs := [z]) (refsB_iff.2 fun y hy => by rw [List.mem_singleton.1 hy]; exact hz) z (by simp)
  exact this.imp id (fun q => ⟨q.1, q.2.1⟩)
theorem root_in {h : H} (g : Ph.Good h) {k : Nat} (hk : k < h.r.length) : inR h.f.length (h.r.getD k 0) := (refs_bound g g.rr _ (getD_memI hk)).imp id (fun q => ⟨q.1, q.2.1⟩)
theorem field_in {h : H} (g : Ph.Good h) {t k : Nat} (hk : k < (h.f.getD t []).length) : inR h.f.length ((h.f.getD t []).getD k 0) := (g.field (getD_memI hk)).imp id (fun q => ⟨q.1, q.2.1⟩)
theorem info_write : (Try.prog.info? 116).map (·.size) = some 2 := by kernel_rfl
set_option maxHeartbeats 6400000 in
set_option maxRecDepth 100000 in
theorem c_msetRoot_false (a b c d x r : Value) (h : H) (cs : List Int) (rs : List Bool) (v : Mv) (w : World) (hA : HeapAt w a b c h) (hC : IntsAt w d cs) (hQ : BoolsAt w r rs) (hB : bothB h cs = true) : Calls Try.prog 186 #[mu a b c d (.func (.func 92) #[] #[]) x r, mo v] w (EndM (outH (refB rs v.t && setROk h v.a v.t) (setR h v.a v.t)) (outC (refB rs v.t && setROk h v.a v.t) (shade cs (barZ false (h.r.getD v.a.toNat 0) v.t))) (refB rs v.t && setROk h v.a v.t) w) := by
  have HF : ∃ f : Value, Hid (f = .func (.func 92) #[] #[]) := ⟨_, rfl⟩
  obtain ⟨f, hf⟩ := HF
  rw [← hf.out]
  have b0 := ((below1 w (.cells (mu7 a b c d f x r) 164)).alloc (by simp) (.cells (mo4 v) 38)).alloc (by simp; omega) (.cells (m4 nilS nilS nilS nilS) 34)
  have A0 := Lib.hid (hA.below b0); have Z0 := Lib.hid (hC.below b0); have Q0 := Lib.hid (hQ.below b0)
  have L := Lib.hid b0
  have U0 := Lib.hid (show Row _ w.heap.size 164 (mu7 a b c d f x r) from ((Row.new w 164 (mu7 a b c d f x r)).alloc (.cells (mo4 v) 38)).alloc (.cells (m4 nilS nilS nilS nilS) 34))
  have V0 := Lib.hid (show Row _ (w.heap.size + 1) 38 (mo4 v) from (Row.new1 w (.cells (mu7 a b c d f x r) 164) 38 (mo4 v)).alloc (.cells (m4 nilS nilS nilS nilS) 34))
  have R0 := Lib.hid (show RowM _ (w.heap.size + 1 + 1) nilS nilS nilS nilS from Row.new2 w (.cells (mu7 a b c d f x r) 164) (.cells (mo4 v) 38) 34 (m4 nilS nilS nilS nilS))
  obtain ⟨hG, hl, hcol⟩ := bothB_iff.1 hB
  have HG := Lib.hid hG; have HLN := Lib.hid hl; have HCOL := Lib.hid hcol
  have HC12 : Hid (cs.length ≤ 12) := by unfold Hid; rw [hl]; exact hG.n
  clear hA hC hQ hB b0 hG hl hcol
  obtain ⟨vk, va, vb, vt⟩ := v
  simp only
  have HM1 := Lib.hid (fun w' q => c_mayStore a b c d f x r rs vt w' q)
  have HS1 := Lib.hid (fun w' q => c_SetRoot a b c h va vt w' q)
  have HOKK : Hid (setROk h va vt = true → (0 ≤ va ∧ va.toNat < h.r.length) ∧ refB h.l vt = true) := fun q => by
    obtain ⟨_, q1, q2, _⟩ := setR_good q
    unfold setROk at q
    simp only [Bool.and_eq_true] at q
    exact ⟨⟨q1, q2⟩, q.2⟩
  generalize hkk : (refB rs vt && setROk h va vt) = ok at *
  have HK := Lib.hid hkk; clear hkk
  generalize setR h va vt = hX at *
  generalize refB rs vt = k1 at *
  generalize setROk h va vt = k3 at *
  have qU00 := U0.out.cell 0
  have qU01 := U0.out.cell 1
  have qU02 := U0.out.cell 2
  have qU03 := U0.out.cell 3
  have qU04 := U0.out.cell 4
  have qU05 := U0.out.cell 5
  have qU06 := U0.out.cell 6
  have qV00 := V0.out.cell 0
  have qV01 := V0.out.cell 1
  have qV02 := V0.out.cell 2
  have qV03 := V0.out.cell 3
  go_enter Try.func186, Try.ntmps186
  go_wp2_with fail
  clear qU00 qU01 qU02 qU03 qU04 qU05 qU06 qV00 qV01 qV02 qV03
  refine (HM1.out _ Q0.out).mono ?_
  rintro e w1 ⟨rfl, hb⟩
  replace A0 := Lib.hid (A0.out.below hb)
  replace Z0 := Lib.hid (Z0.out.below hb)
  replace Q0 := Lib.hid (Q0.out.below hb)
  replace U0 := Lib.hid (Row.below U0.out hb)
  replace V0 := Lib.hid (Row.below V0.out hb)
  replace R0 := Lib.hid (Row.below R0.out hb)
  replace L := Lib.hid (bst L.out hb L.out.size)
  clear hb
  cases k1
  · have HE : Hid (ok = false) := by unfold Hid; rw [← HK.out]; rfl
    go_wp2_with (refine wl_storeM rfl _ _ rfl (w.heap.size + 1 + 1) nilS nilS nilS nilS _ _ _ _ R0.out rfl rfl rfl rfl rfl rfl ?_)
    refine bodyPost_ret (res_row_slot Try.results186 (Row.put R0.out (m4 nilS nilS nilS nilS)) rfl rfl Try.underlying34 rfl info_marking) rfl (endM_none (below_setRow L.out (by omega) _) (by rw [HE.out]; rfl) (by rw [HE.out]; rfl) HE.out)
  have qU00 := U0.out.cell 0
  have qU01 := U0.out.cell 1
  have qU02 := U0.out.cell 2
  have qV00 := V0.out.cell 0
  have qV01 := V0.out.cell 1
  have qV02 := V0.out.cell 2
  have qV03 := V0.out.cell 3
  go_wp2_with fail
  clear qU00 qU01 qU02 qV00 qV01 qV02 qV03
  have SZ1 : Hid (w.heap.size + 1 + 1 < w1.heap.size) := Row.lt R0.out
  refine (HS1.out _ A0.out).mono ?_
  intro e w2 hend
  obtain ⟨a2, b2, c2, rfl, ho, hb⟩ := hend
  obtain ⟨⟨pa, qa, e1⟩, ⟨pb, qb, e2⟩, ⟨pc, qc, e3⟩⟩ := ho.shapes
  subst e1 e2 e3
  replace A0 := Lib.hid (A0.out.below hb)
  replace Z0 := Lib.hid (Z0.out.below hb)
  replace Q0 := Lib.hid (Q0.out.below hb)
  replace U0 := Lib.hid (Row.below U0.out hb)
  replace V0 := Lib.hid (Row.below V0.out hb)
  replace R0 := Lib.hid (Row.below R0.out hb)
  replace L := Lib.hid (bst L.out hb L.out.size)
  have SZ2 : Hid (w1.heap.size ≤ w2.heap.size) := hb.size
  have OH := Lib.hid ho
  clear hb ho
  generalize hX.f.length = nf at *
  generalize hX.l.length = nl at *
  generalize hX.r.length = nr at *
  have hb := below1 w2 (.cells (c3 (.slice pa nf qa) (.slice pb nl qb) (.slice pc nr qc)) 32)
  have HH := Lib.hid (show RowH _ w2.heap.size (.slice pa nf qa) (.slice pb nl qb) (.slice pc nr qc) from Row.new w2 32 (c3 (.slice pa nf qa) (.slice pb nl qb) (.slice pc nr qc)))
  have OH2 := Lib.hid (OH.out.below hb)
  clear OH
  replace A0 := Lib.hid (A0.out.below hb)
  replace Z0 := Lib.hid (Z0.out.below hb)
  replace Q0 := Lib.hid (Q0.out.below hb)
  replace U0 := Lib.hid (Row.below U0.out hb)
  replace V0 := Lib.hid (Row.below V0.out hb)
  replace R0 := Lib.hid (Row.below R0.out hb)
  replace L := Lib.hid (bst L.out hb L.out.size)
  clear hb
  cases k3
  · have HE : Hid (ok = false) := by unfold Hid; rw [← HK.out]; rfl
    go_wp2_with (refine wl_storeM rfl _ _ rfl (w.heap.size + 1 + 1) nilS nilS nilS nilS _ _ _ _ R0.out rfl rfl rfl rfl rfl rfl ?_)
    refine bodyPost_ret (res_row_slot Try.results186 (Row.put R0.out (m4 nilS nilS nilS nilS)) rfl rfl Try.underlying34 rfl info_marking) rfl (endM_none (below_setRow L.out (by omega) _) (by rw [HE.out]; rfl) (by rw [HE.out]; rfl) HE.out)
  have HE : Hid (ok = true) := by unfold Hid; rw [← HK.out]; rfl
  obtain ⟨hi, href⟩ := HOKK.out rfl
  clear HOKK HK
  obtain ⟨i0, i1⟩ := hi
  obtain ⟨k, rfl⟩ : ∃ k : Nat, va = k := ⟨va.toNat, by omega⟩
  rw [Int.toNat_natCast] at i1
  have HWS : Hid (inR cs.length (h.r.getD k 0)) := by unfold Hid; rw [HLN.out]; exact root_in HG.out i1
  have HTS : Hid (inR cs.length vt) := by unfold Hid; rw [HLN.out]; exact ref_in HG.out href
  obtain ⟨ra, rc, hrs⟩ := A0.out.r.shape
  subst hrs
  obtain ⟨rb, ro, rfl, hcr⟩ := A0.out.r.at' (by omega)
  have qz := hcr k i1
  have j1 : (k : Int) < (h.r.length : Int) := by omega
  have j0 : (0 : Int) ≤ (k : Int) := by omega
  clear hcr href i0 i1
  generalize hzz : h.r.getD k 0 = z at *
  have HZZ : Hid (h.r.getD (k : Int).toNat 0 = z) := by unfold Hid; rw [Int.toNat_natCast]; exact hzz
  clear hzz
  generalize h.r.length = nrr at *
  have QZ := Lib.hid qz; clear qz
  go_wp2_with fail
  have hb := below_drew (Below.refl (w2.alloc (.cells (c3 (.slice pa nf qa) (.slice pb nl qb) (.slice pc nr qc)) 32)).heap.size (w2.alloc (.cells (c3 (.slice pa nf qa) (.slice pb nl qb) (.slice pc nr qc)) 32)))
  replace QZ := Lib.hid (cellBelow hb (Nat.le_refl _) QZ.out)
  replace OH2 := Lib.hid (OH2.out.below hb)
  replace A0 := Lib.hid (A0.out.below hb)
  replace Z0 := Lib.hid (Z0.out.below hb)
  replace Q0 := Lib.hid (Q0.out.below hb)
  replace U0 := Lib.hid (Row.below U0.out hb)
  replace V0 := Lib.hid (Row.below V0.out hb)
  replace R0 := Lib.hid (Row.below R0.out hb)
  replace HH := Lib.hid (Row.below HH.out hb)
  replace L := Lib.hid (bst L.out hb L.out.size)
  clear hb
  refine wp_region_held_drew (S := (fun w' => w'.cell? ⟨w.heap.size, 2, none⟩ = some (.slice (some ⟨rb, ro, none⟩) nrr rc) ∧ w'.cell? ⟨(w.heap.size + 1), 1, none⟩ = some (.int .i64 (k : Int)) ∧ w'.cell? ⟨(w.heap.size + 1), 3, none⟩ = some (.int .i64 vt) ∧ w'.cell? ⟨rb, ro + k, none⟩ = some (.int .i64 z))) (by kernel_rfl) (⟨U0.out.cell 2, V0.out.cell 1, V0.out.cell 3, QZ.out⟩) (fun hHeld => ?_)
  generalize (w2.alloc (.cells (c3 (.slice pa nf qa) (.slice pb nl qb) (.slice pc nr qc)) 32)).drew = x0 at *
  refine wpAnyH_take (i := 0) (v := ?va0x1) rfl (by kernel_rfl) (by kernel_rfl) (by kernel_rfl) (fun _ _ _ h => h) (Or.inl ⟨by rfl, ?hy0x1⟩) (by assumption) ?rest0x1
  case hy0x1 => (intro w hSw; (try dsimp only at hSw); go_simp; try with_reducible rfl)
  (try simp only [Act.put, List.getElem_toArray, List.getElem_cons_zero, List.setIfInBounds_toArray, List.set_cons_zero, List.set_cons_succ])
  refine wpAnyH_take (i := 1) (v := ?va1x2) rfl (by kernel_rfl) (by kernel_rfl) (by kernel_rfl) (fun _ _ _ h => h) (Or.inl ⟨by rfl, ?hy1x2⟩) (by assumption) ?rest1x2
  case hy1x2 => (intro w hSw; (try dsimp only at hSw); go_simp; try with_reducible rfl)
  (try simp only [Act.put, List.getElem_toArray, List.getElem_cons_zero, List.getElem_cons_succ, List.setIfInBounds_toArray, List.set_cons_zero, List.set_cons_succ])
  refine wpAnyH_take (i := 2) (v := ?va2x3) rfl (by kernel_rfl) (by kernel_rfl) (by kernel_rfl) (fun _ _ _ h => h) (Or.inl ⟨by rfl, ?hy2x3⟩) (by assumption) ?rest2x3
  case hy2x3 => (intro w hSw; (try dsimp only at hSw); go_simp; try with_reducible rfl)
  (try simp only [Act.put, List.getElem_toArray, List.getElem_cons_zero, List.getElem_cons_succ, List.setIfInBounds_toArray, List.set_cons_zero, List.set_cons_succ])
  refine wpAnyH_take (i := 3) (v := ?va3x4) rfl (by kernel_rfl) (by kernel_rfl) (by kernel_rfl) (fun _ _ _ h => h) (Or.inl ⟨by rfl, ?hy3x4⟩) (by assumption) ?rest3x4
  case hy3x4 => (intro w hSw; (try dsimp only at hSw); go_simp; try with_reducible rfl)
  (try simp only [Act.put, List.getElem_toArray, List.getElem_cons_zero, List.getElem_cons_succ, List.setIfInBounds_toArray, List.set_cons_zero, List.set_cons_succ])
  refine wpAnyH_take (i := 4) (v := ?va4x5) rfl (by kernel_rfl) (by kernel_rfl) (by kernel_rfl) (fun _ _ _ h => h) (Or.inl ⟨by rfl, ?hy4x5⟩) (by assumption) ?rest4x5
  case hy4x5 => (intro w hSw; (try dsimp only at hSw); go_simp; try with_reducible rfl)
  (try simp only [Act.put, List.getElem_toArray, List.getElem_cons_zero, List.getElem_cons_succ, List.setIfInBounds_toArray, List.set_cons_zero, List.set_cons_succ])
  refine wpAnyH_take (i := 5) (v := ?va5x6) rfl (by kernel_rfl) (by kernel_rfl) (by kernel_rfl) (fun _ _ _ h => h) (Or.inl ⟨by rfl, ?hy5x6⟩) (by assumption) ?rest5x6
  case hy5x6 => (intro w hSw; (try dsimp only at hSw); go_simp; try with_reducible rfl)
  (try simp only [Act.put, List.getElem_toArray, List.getElem_cons_zero, List.getElem_cons_succ, List.setIfInBounds_toArray, List.set_cons_zero, List.set_cons_succ])
  refine wpAnyH_take (i := 6) (v := ?va6x7) rfl (by kernel_rfl) (by kernel_rfl) (by kernel_rfl) (fun _ _ _ h => h) (Or.inl ⟨by rfl, ?hy6x7⟩) (by assumption) ?rest6x7
  case hy6x7 => (intro w hSw; (try dsimp only at hSw); go_simp; try with_reducible rfl)
  (try simp only [Act.put, List.getElem_toArray, List.getElem_cons_zero, List.getElem_cons_succ, List.setIfInBounds_toArray, List.set_cons_zero, List.set_cons_succ])
  refine wpAnyH_take (i := 7) (v := ?va7x8) rfl (by kernel_rfl) (by kernel_rfl) (by kernel_rfl) (fun _ _ _ h => h) (Or.inl ⟨by rfl, ?hy7x8⟩) (by assumption) ?rest7x8
  case hy7x8 => (intro w hSw; (try dsimp only at hSw); go_simp; try with_reducible rfl)
  (try simp only [Act.put, List.getElem_toArray, List.getElem_cons_zero, List.getElem_cons_succ, List.setIfInBounds_toArray, List.set_cons_zero, List.set_cons_succ])
  refine wpAnyH_take (i := 8) (v := ?va8x9) rfl (by kernel_rfl) (by kernel_rfl) (by kernel_rfl) (fun _ _ _ h => h) (Or.inl ⟨by rfl, ?hy8x9⟩) (by assumption) ?rest8x9
  case hy8x9 => (intro w hSw; (try dsimp only at hSw); go_simp; try with_reducible rfl)
  (try simp only [Act.put, List.getElem_toArray, List.getElem_cons_zero, List.getElem_cons_succ, List.setIfInBounds_toArray, List.set_cons_zero, List.set_cons_succ])
  refine wpAnyH_take (i := 9) (v := ?va9x10) rfl (by kernel_rfl) (by kernel_rfl) (by kernel_rfl) (fun _ _ _ h => h) (Or.inl ⟨by rfl, ?hy9x10⟩) (by assumption) ?rest9x10
  case hy9x10 => (intro w hSw; (try dsimp only at hSw); go_simp; try with_reducible rfl)
  (try simp only [Act.put, List.getElem_toArray, List.getElem_cons_zero, List.getElem_cons_succ, List.setIfInBounds_toArray, List.set_cons_zero, List.set_cons_succ])
  refine wpAnyH_take (i := 10) (v := ?va10x11) rfl (by kernel_rfl) (by kernel_rfl) (by kernel_rfl) (fun _ _ _ h => h) (Or.inl ⟨by rfl, ?hy10x11⟩) (by assumption) ?rest10x11
  case hy10x11 => (intro w hSw; (try dsimp only at hSw); go_simp; try with_reducible rfl)
  (try simp only [Act.put, List.getElem_toArray, List.getElem_cons_zero, List.getElem_cons_succ, List.setIfInBounds_toArray, List.set_cons_zero, List.set_cons_succ])
  refine wpAnyH_ready (rs := [11]) (by kernel_rfl) (by simp) ?_
  refine AllReadyH.cons rfl (fun K hK => ?_) AllReadyH.nil
  have hbA := below1 x0 (.cells #[.int .i64 0, .int .i64 0] 116)
  have hbS := below_setRow (g := x0.heap.size) hbA (Nat.le_refl _) #[.int .i64 z, .int .i64 vt]
  have XW := Lib.hid (Nat.le_of_lt (Row.lt HH.out))
  have W1 := Lib.hid (Row.new x0 116 #[.int .i64 0, .int .i64 0])
  have U1 := Lib.hid (Row.below U0.out hbA); have V1 := Lib.hid (Row.below V0.out hbA)
  have QZ1 := Lib.hid (cellBelow hbA (Nat.le_refl _) QZ.out)
  go_simp
  refine hK.out _ _ ⟨U1.out.cell 2, V1.out.cell 1, V1.out.cell 3, QZ1.out⟩ (fun hHeld => ?_)
  clear hK K U1 V1 QZ1
  (try simp only [Act.put, List.getElem_toArray, List.getElem_cons_zero, List.getElem_cons_succ, List.setIfInBounds_toArray, List.set_cons_zero, List.set_cons_succ])
  refine wpAnyH_ready (rs := [12]) (by kernel_rfl) (by simp) ?_
  refine AllReadyH.cons rfl (fun K hK => ?_) AllReadyH.nil
  have W2 := Lib.hid (Row.put W1.out #[.int .i64 z, .int .i64 vt])
  replace QZ := Lib.hid (cellBelow hbS (Nat.le_refl _) QZ.out)
  replace OH2 := Lib.hid (OH2.out.below hbS)
  replace A0 := Lib.hid (A0.out.below hbS)
  replace Z0 := Lib.hid (Z0.out.below hbS)
  replace Q0 := Lib.hid (Q0.out.below hbS)
  replace U0 := Lib.hid (Row.below U0.out hbS)
  replace V0 := Lib.hid (Row.below V0.out hbS)
  replace R0 := Lib.hid (Row.below R0.out hbS)
  replace HH := Lib.hid (Row.below HH.out hbS)
  replace L := Lib.hid (bst L.out hbS L.out.size)
  refine wp_store_row 116 _ _ rfl x0.heap.size #[.int .i64 z, .int .i64 vt] rfl rfl 116 _ W1.out info_write rfl (by simp [Value.oneCell']) ?_
  refine hK.out _ _ ⟨U0.out.cell 2, V0.out.cell 1, V0.out.cell 3, QZ.out⟩ (fun hHeld => ?_)
  clear hK K W1 hbA hbS QZ
  (try simp only [Act.put, List.getElem_toArray, List.getElem_cons_zero, List.getElem_cons_succ])
  refine wpAnyH_done (by kernel_rfl) ?_ _
  clear hHeld
  generalize x0.heap.size = gw at *
  generalize (x0.alloc (.cells #[.int .i64 0, .int .i64 0] 116)).setRow gw #[.int .i64 z, .int .i64 vt] = x1 at *
  go_wp2_with fail
  have hb := below_drew (Below.refl x1.heap.size x1)
  replace OH2 := Lib.hid (OH2.out.below hb)
  replace A0 := Lib.hid (A0.out.below hb)
  replace Z0 := Lib.hid (Z0.out.below hb)
  replace Q0 := Lib.hid (Q0.out.below hb)
  replace U0 := Lib.hid (Row.below U0.out hb)
  replace V0 := Lib.hid (Row.below V0.out hb)
  replace R0 := Lib.hid (Row.below R0.out hb)
  replace HH := Lib.hid (Row.below HH.out hb)
  replace W2 := Lib.hid (Row.below W2.out hb)
  replace L := Lib.hid (bst L.out hb L.out.size)
  clear hb
  refine wp_region_held_drew (S := (fun w' => w'.cell? ⟨w.heap.size, 0, none⟩ = some a ∧ w'.cell? ⟨w.heap.size, 1, none⟩ = some b ∧ w'.cell? ⟨w.heap.size, 2, none⟩ = some (.slice (some ⟨rb, ro, none⟩) nrr rc) ∧ w'.cell? ⟨w.heap.size, 3, none⟩ = some d ∧ w'.cell? ⟨w.heap.size, 4, none⟩ = some f ∧ w'.cell? ⟨w.heap.size, 5, none⟩ = some x ∧ w'.cell? ⟨w.heap.size, 6, none⟩ = some r ∧ w'.cell? ⟨w2.heap.size, 0, none⟩ = some (.slice pa nf qa) ∧ w'.cell? ⟨w2.heap.size, 1, none⟩ = some (.slice pb nl qb) ∧ w'.cell? ⟨w2.heap.size, 2, none⟩ = some (.slice pc nr qc) ∧ w'.cell? ⟨gw, 0, none⟩ = some (.int .i64 z) ∧ w'.cell? ⟨gw, 1, none⟩ = some (.int .i64 vt))) (by kernel_rfl) (⟨U0.out.cell 0, U0.out.cell 1, U0.out.cell 2, U0.out.cell 3, U0.out.cell 4, U0.out.cell 5, U0.out.cell 6, HH.out.cell 0, HH.out.cell 1, HH.out.cell 2, W2.out.cell 0, W2.out.cell 1⟩) (fun hHeld => ?_)
  generalize x1.drew = x2 at *
  refine wpAnyH_take (i := 0) (v := ?va0x12) rfl (by kernel_rfl) (by kernel_rfl) (by kernel_rfl) (fun _ _ _ h => h) (Or.inl ⟨by rfl, ?hy0x12⟩) (by assumption) ?rest0x12
  case hy0x12 => (intro w hSw; (try dsimp only at hSw); go_simp; try with_reducible rfl)
  (try simp only [Act.put, List.getElem_toArray, List.getElem_cons_zero, List.setIfInBounds_toArray, List.set_cons_zero, List.set_cons_succ])
  refine wpAnyH_take (i := 1) (v := ?va1x13) rfl (by kernel_rfl) (by kernel_rfl) (by kernel_rfl) (fun _ _ _ h => h) (Or.inl ⟨by rfl, ?hy1x13⟩) (by assumption) ?rest1x13
  case hy1x13 => (intro w hSw; (try dsimp only at hSw); go_simp; try with_reducible rfl)
  (try simp only [Act.put, List.getElem_toArray, List.getElem_cons_zero, List.getElem_cons_succ, List.setIfInBounds_toArray, List.set_cons_zero, List.set_cons_succ])
  refine wpAnyH_take (i := 2) (v := ?va2x14) rfl (by kernel_rfl) (by kernel_rfl) (by kernel_rfl) (fun _ _ _ h => h) (Or.inl ⟨by rfl, ?hy2x14⟩) (by assumption) ?rest2x14
  case hy2x14 => (intro w hSw; (try dsimp only at hSw); go_simp; try with_reducible rfl)
  (try simp only [Act.put, List.getElem_toArray, List.getElem_cons_zero, List.getElem_cons_succ, List.setIfInBounds_toArray, List.set_cons_zero, List.set_cons_succ])
  refine wpAnyH_take (i := 3) (v := ?va3x15) rfl (by kernel_rfl) (by kernel_rfl) (by kernel_rfl) (fun _ _ _ h => h) (Or.inl ⟨by rfl, ?hy3x15⟩) (by assumption) ?rest3x15
  case hy3x15 => (intro w hSw; (try dsimp only at hSw); go_simp; try with_reducible rfl)
  (try simp only [Act.put, List.getElem_toArray, List.getElem_cons_zero, List.getElem_cons_succ, List.setIfInBounds_toArray, List.set_cons_zero, List.set_cons_succ])
  refine wpAnyH_take (i := 4) (v := ?va4x16) rfl (by kernel_rfl) (by kernel_rfl) (by kernel_rfl) (fun _ _ _ h => h) (Or.inl ⟨by rfl, ?hy4x16⟩) (by assumption) ?rest4x16
  case hy4x16 => (intro w hSw; (try dsimp only at hSw); go_simp; try with_reducible rfl)
  (try simp only [Act.put, List.getElem_toArray, List.getElem_cons_zero, List.getElem_cons_succ, List.setIfInBounds_toArray, List.set_cons_zero, List.set_cons_succ])
  refine wpAnyH_take (i := 6) (v := ?va6x17) rfl (by kernel_rfl) (by kernel_rfl) (by kernel_rfl) (fun _ _ _ h => h) (Or.inl ⟨by rfl, ?hy6x17⟩) (by assumption) ?rest6x17
  case hy6x17 => (intro w hSw; (try dsimp only at hSw); go_simp; try with_reducible rfl)
  (try simp only [Act.put, List.getElem_toArray, List.getElem_cons_zero, List.getElem_cons_succ, List.setIfInBounds_toArray, List.set_cons_zero, List.set_cons_succ])
  refine wpAnyH_ready (rs := [5]) (by kernel_rfl) (by simp) ?_
  refine AllReadyH.cons rfl (fun K hK => ?_) AllReadyH.nil
  go_simp
  refine (c_copyInts d cs _ Z0.out (by have := HC12.out; omega)).mono ?_
  rintro e w5 ⟨d5, rfl, ho5, hb⟩
  obtain ⟨pd, qd, e4⟩ := ho5.ints.shape
  subst e4
  have XW2 : Hid (w2.heap.size ≤ x2.heap.size) := Nat.le_of_lt (Row.lt HH.out)
  have OC := Lib.hid (Own.mono ho5 XW2.out)
  clear ho5
  replace OH2 := Lib.hid (OH2.out.below hb)
  replace A0 := Lib.hid (A0.out.below hb)
  replace Z0 := Lib.hid (Z0.out.below hb)
  replace Q0 := Lib.hid (Q0.out.below hb)
  replace U0 := Lib.hid (Row.below U0.out hb)
  replace V0 := Lib.hid (Row.below V0.out hb)
  replace R0 := Lib.hid (Row.below R0.out hb)
  replace HH := Lib.hid (Row.below HH.out hb)
  replace W2 := Lib.hid (Row.below W2.out hb)
  replace L := Lib.hid (bst L.out hb L.out.size)
  clear hb
  refine hK.out _ _ ⟨U0.out.cell 0, U0.out.cell 1, U0.out.cell 2, U0.out.cell 3, U0.out.cell 4, U0.out.cell 5, U0.out.cell 6, HH.out.cell 0, HH.out.cell 1, HH.out.cell 2, W2.out.cell 0, W2.out.cell 1⟩ (fun hHeld => ?_)
  clear hK K
  (try simp only [Act.put, List.getElem_toArray, List.getElem_cons_zero, List.getElem_cons_succ, List.setIfInBounds_toArray, List.set_cons_zero, List.set_cons_succ])
  refine wpAnyH_ready (rs := [7]) (by kernel_rfl) (by simp) ?_
  refine AllReadyH.cons rfl (fun K hK => ?_) AllReadyH.nil
  go_simp
  rw [hf.out]
  refine (c_written_false w2.heap.size _ _ _ _ _ _ (.slice pa nf qa) (.slice pb nl qb) (.slice pc nr qc) (.slice pd cs.length qd) cs z vt _ OC.out HCOL.out HWS.out ⟨rfl, rfl, rfl⟩).mono ?_
  rw [← hf.out]
  rintro e w6 ⟨rfl, ho6, hg6⟩
  have U6 := Lib.hid (Row.grownBy U0.out hg6 (ne_row OC.out U0.out (by decide))); have H6 := Lib.hid (Row.grownBy HH.out hg6 (ne_row OC.out HH.out (by decide))); have W6 := Lib.hid (Row.grownBy W2.out hg6 (ne_row OC.out W2.out (by decide))); have R6 := Lib.hid (show RowM _ _ _ _ _ _ from Row.grownBy R0.out hg6 (ne_row OC.out R0.out (by decide)))
  have O6 := Lib.hid (OH2.out.chg (Chg.of_grown (lo := w2.heap.size) (hi := w5.heap.size) hg6 (fun g' e => owns_lt OC.out e)) (.inl (Nat.le_refl _)))
  have L6 := Lib.hid (L.out.grown hg6 L.out.size (fun g' e => by have := (owns_lt OC.out e).1; have := SZ1.out; have := SZ2.out; omega))
  have C6 := Lib.hid ho6
  have SW6 : Hid (w2.heap.size ≤ w6.heap.size) := (by unfold Hid; have := hg6.size; have := Row.lt HH.out; omega)
  clear ho6 hg6
  refine hK.out _ _ ⟨U6.out.cell 0, U6.out.cell 1, U6.out.cell 2, U6.out.cell 3, U6.out.cell 4, U6.out.cell 5, U6.out.cell 6, H6.out.cell 0, H6.out.cell 1, H6.out.cell 2, W6.out.cell 0, W6.out.cell 1⟩ (fun hHeld => ?_)
  clear hK K
  (try simp only [Act.put, List.getElem_toArray, List.getElem_cons_zero, List.getElem_cons_succ, List.setIfInBounds_toArray, List.set_cons_zero, List.set_cons_succ])
  refine wpAnyH_ready (rs := [8]) (by kernel_rfl) (by simp) ?_
  refine AllReadyH.cons rfl (fun K hK => ?_) AllReadyH.nil
  have nU : w.heap.size ≠ w.heap.size + 1 + 1 := by omega
  have nH : w2.heap.size ≠ w.heap.size + 1 + 1 := rows_ne H6.out R6.out (by decide)
  have nW : gw ≠ w.heap.size + 1 + 1 := rows_ne W6.out R6.out (by decide)
  have U8 := Lib.hid (Row.putOther U6.out (m4 (.slice pa nf qa) (.slice pb nl qb) (.slice pc nr qc) (.slice pd cs.length qd)) nU); have H8 := Lib.hid (Row.putOther H6.out (m4 (.slice pa nf qa) (.slice pb nl qb) (.slice pc nr qc) (.slice pd cs.length qd)) nH); have W8 := Lib.hid (Row.putOther W6.out (m4 (.slice pa nf qa) (.slice pb nl qb) (.slice pc nr qc) (.slice pd cs.length qd)) nW)
  refine wp_store_row 34 _ _ rfl (w.heap.size + 1 + 1) (m4 (.slice pa nf qa) (.slice pb nl qb) (.slice pc nr qc) (.slice pd cs.length qd)) rfl rfl 34 _ R6.out info_marking rfl (by simp [Value.oneCell']) ?_
  refine hK.out _ _ ⟨U8.out.cell 0, U8.out.cell 1, U8.out.cell 2, U8.out.cell 3, U8.out.cell 4, U8.out.cell 5, U8.out.cell 6, H8.out.cell 0, H8.out.cell 1, H8.out.cell 2, W8.out.cell 0, W8.out.cell 1⟩ (fun hHeld => ?_)
  clear hK K
  (try simp only [Act.put, List.getElem_toArray, List.getElem_cons_zero, List.getElem_cons_succ])
  refine wpAnyH_take (i := 9) (v := ?va9x18) rfl (by kernel_rfl) (by kernel_rfl) (by kernel_rfl) (fun _ _ _ h => h) (Or.inl ⟨by rfl, ?hy9x18⟩) (by assumption) ?rest9x18
  case hy9x18 => (intro w hSw; (try dsimp only at hSw); go_simp; try with_reducible rfl)
  (try simp only [Act.put, List.getElem_toArray, List.getElem_cons_zero, List.getElem_cons_succ, List.setIfInBounds_toArray, List.set_cons_zero, List.set_cons_succ])
  refine wpAnyH_done (by kernel_rfl) ?_ _
  clear hHeld
  go_wp2_with fail
  refine bodyPost_ret (res_row_slot Try.results186 (Row.put R6.out (m4 (.slice pa nf qa) (.slice pb nl qb) (.slice pc nr qc) (.slice pd cs.length qd))) rfl rfl Try.underlying34 rfl info_marking) rfl (endM_yes (below_setRow L6.out (by omega) _) ((OwnM.hc O6.out (OwnC.ofOwn C6.out SW6.out) SZ2.out SW6.out).whole (w.heap.size + 1 + 1) SZ1.out _) (by have := SZ1.out; omega) (by rw [size_setRow]; exact Nat.le_refl _) (by rw [HE.out]; rfl) (by rw [HE.out, HZZ.out]; rfl) HE.out)
set_option maxHeartbeats 6400000 in
set_option maxRecDepth 100000 in
theorem c_msetRoot_true (a b c d x r : Value) (h : H) (cs : List Int) (rs : List Bool) (v : Mv) (w : World) (hA : HeapAt w a b c h) (hC : IntsAt w d cs) (hQ : BoolsAt w r rs) (hB : bothB h cs = true) : Calls Try.prog 186 #[mu a b c d (.func (.func 94) #[] #[]) x r, mo v] w (EndM (outH (refB rs v.t && setROk h v.a v.t) (setR h v.a v.t)) (outC (refB rs v.t && setROk h v.a v.t) (shade cs (barZ true (h.r.getD v.a.toNat 0) v.t))) (refB rs v.t && setROk h v.a v.t) w) := by
  have HF : ∃ f : Value, Hid (f = .func (.func 94) #[] #[]) := ⟨_, rfl⟩
  obtain ⟨f, hf⟩ := HF
  rw [← hf.out]
  have b0 := ((below1 w (.cells (mu7 a b c d f x r) 164)).alloc (by simp) (.cells (mo4 v) 38)).alloc (by simp; omega) (.cells (m4 nilS nilS nilS nilS) 34)
  have A0 := Lib.hid (hA.below b0); have Z0 := Lib.hid (hC.below b0); have Q0 := Lib.hid (hQ.below b0)
  have L := Lib.hid b0
  have U0 := Lib.hid (show Row _ w.heap.size 164 (mu7 a b c d f x r) from ((Row.new w 164 (mu7 a b c d f x r)).alloc (.cells (mo4 v) 38)).alloc (.cells (m4 nilS nilS nilS nilS) 34))
  have V0 := Lib.hid (show Row _ (w.heap.size + 1) 38 (mo4 v) from (Row.new1 w (.cells (mu7 a b c d f x r) 164) 38 (mo4 v)).alloc (.cells (m4 nilS nilS nilS nilS) 34))
  have R0 := Lib.hid (show RowM _ (w.heap.size + 1 + 1) nilS nilS nilS nilS from Row.new2 w (.cells (mu7 a b c d f x r) 164) (.cells (mo4 v) 38) 34 (m4 nilS nilS nilS nilS))
  obtain ⟨hG, hl, hcol⟩ := bothB_iff.1 hB
  have HG := Lib.hid hG; have HLN := Lib.hid hl; have HCOL := Lib.hid hcol
  have HC12 : Hid (cs.length ≤ 12) := by unfold Hid; rw [hl]; exact hG.n
  clear hA hC hQ hB b0 hG hl hcol
  obtain ⟨vk, va, vb, vt⟩ := v
  simp only
  have HM1 := Lib.hid (fun w' q => c_mayStore a b c d f x r rs vt w' q)
  have HS1 := Lib.hid (fun w' q => c_SetRoot a b c h va vt w' q)
  have HOKK : Hid (setROk h va vt = true → (0 ≤ va ∧ va.toNat < h.r.length) ∧ refB h.l vt = true) := fun q => by
    obtain ⟨_, q1, q2, _⟩ := setR_good q
    unfold setROk at q
    simp only [Bool.and_eq_true] at q
    exact ⟨⟨q1, q2⟩, q.2⟩
  generalize hkk : (refB rs vt && setROk h va vt) = ok at *
  have HK := Lib.hid hkk; clear hkk
  generalize setR h va vt = hX at *
  generalize refB rs vt = k1 at *
  generalize setROk h va vt = k3 at *
  have qU00 := U0.out.cell 0
  have qU01 := U0.out.cell 1
  have qU02 := U0.out.cell 2
  have qU03 := U0.out.cell 3
  have qU04 := U0.out.cell 4
  have qU05 := U0.out.cell 5
  have qU06 := U0.out.cell 6
  have qV00 := V0.out.cell 0
  have qV01 := V0.out.cell 1
  have qV02 := V0.out.cell 2
  have qV03 := V0.out.cell 3
  go_enter Try.func186, Try.ntmps186
  go_wp2_with fail
  clear qU00 qU01 qU02 qU03 qU04 qU05 qU06 qV00 qV01 qV02 qV03
  refine (HM1.out _ Q0.out).mono ?_
  rintro e w1 ⟨rfl, hb⟩
  replace A0 := Lib.hid (A0.out.below hb)
  replace Z0 := Lib.hid (Z0.out.below hb)
  replace Q0 := Lib.hid (Q0.out.below hb)
  replace U0 := Lib.hid (Row.below U0.out hb)
  replace V0 := Lib.hid (Row.below V0.out hb)
  replace R0 := Lib.hid (Row.below R0.out hb)
  replace L := Lib.hid (bst L.out hb L.out.size)
  clear hb
  cases k1
  · have HE : Hid (ok = false) := by unfold Hid; rw [← HK.out]; rfl
    go_wp2_with (refine wl_storeM rfl _ _ rfl (w.heap.size + 1 + 1) nilS nilS nilS nilS _ _ _ _ R0.out rfl rfl rfl rfl rfl rfl ?_)
    refine bodyPost_ret (res_row_slot Try.results186 (Row.put R0.out (m4 nilS nilS nilS nilS)) rfl rfl Try.underlying34 rfl info_marking) rfl (endM_none (below_setRow L.out (by omega) _) (by rw [HE.out]; rfl) (by rw [HE.out]; rfl) HE.out)
  have qU00 := U0.out.cell 0
  have qU01 := U0.out.cell 1
  have qU02 := U0.out.cell 2
  have qV00 := V0.out.cell 0
  have qV01 := V0.out.cell 1
  have qV02 := V0.out.cell 2
  have qV03 := V0.out.cell 3
  go_wp2_with fail
  clear qU00 qU01 qU02 qV00 qV01 qV02 qV03
  have SZ1 : Hid (w.heap.size + 1 + 1 < w1.heap.size) := Row.lt R0.out
  refine (HS1.out _ A0.out).mono ?_
  intro e w2 hend
  obtain ⟨a2, b2, c2, rfl, ho, hb⟩ := hend
  obtain ⟨⟨pa, qa, e1⟩, ⟨pb, qb, e2⟩, ⟨pc, qc, e3⟩⟩ := ho.shapes
  subst e1 e2 e3
  replace A0 := Lib.hid (A0.out.below hb)
  replace Z0 := Lib.hid (Z0.out.below hb)
  replace Q0 := Lib.hid (Q0.out.below hb)
  replace U0 := Lib.hid (Row.below U0.out hb)
  replace V0 := Lib.hid (Row.below V0.out hb)
  replace R0 := Lib.hid (Row.below R0.out hb)
  replace L := Lib.hid (bst L.out hb L.out.size)
  have SZ2 : Hid (w1.heap.size ≤ w2.heap.size) := hb.size
  have OH := Lib.hid ho
  clear hb ho
  generalize hX.f.length = nf at *
  generalize hX.l.length = nl at *
  generalize hX.r.length = nr at *
  have hb := below1 w2 (.cells (c3 (.slice pa nf qa) (.slice pb nl qb) (.slice pc nr qc)) 32)
  have HH := Lib.hid (show RowH _ w2.heap.size (.slice pa nf qa) (.slice pb nl qb) (.slice pc nr qc) from Row.new w2 32 (c3 (.slice pa nf qa) (.slice pb nl qb) (.slice pc nr qc)))
  have OH2 := Lib.hid (OH.out.below hb)
  clear OH
  replace A0 := Lib.hid (A0.out.below hb)
  replace Z0 := Lib.hid (Z0.out.below hb)
  replace Q0 := Lib.hid (Q0.out.below hb)
  replace U0 := Lib.hid (Row.below U0.out hb)
  replace V0 := Lib.hid (Row.below V0.out hb)
  replace R0 := Lib.hid (Row.below R0.out hb)
  replace L := Lib.hid (bst L.out hb L.out.size)
  clear hb
  cases k3
  · have HE : Hid (ok = false) := by unfold Hid; rw [← HK.out]; rfl
    go_wp2_with (refine wl_storeM rfl _ _ rfl (w.heap.size + 1 + 1) nilS nilS nilS nilS _ _ _ _ R0.out rfl rfl rfl rfl rfl rfl ?_)
    refine bodyPost_ret (res_row_slot Try.results186 (Row.put R0.out (m4 nilS nilS nilS nilS)) rfl rfl Try.underlying34 rfl info_marking) rfl (endM_none (below_setRow L.out (by omega) _) (by rw [HE.out]; rfl) (by rw [HE.out]; rfl) HE.out)
  have HE : Hid (ok = true) := by unfold Hid; rw [← HK.out]; rfl
  obtain ⟨hi, href⟩ := HOKK.out rfl
  clear HOKK HK
  obtain ⟨i0, i1⟩ := hi
  obtain ⟨k, rfl⟩ : ∃ k : Nat, va = k := ⟨va.toNat, by omega⟩
  rw [Int.toNat_natCast] at i1
  have HWS : Hid (inR cs.length (h.r.getD k 0)) := by unfold Hid; rw [HLN.out]; exact root_in HG.out i1
  have HTS : Hid (inR cs.length vt) := by unfold Hid; rw [HLN.out]; exact ref_in HG.out href
  obtain ⟨ra, rc, hrs⟩ := A0.out.r.shape
  subst hrs
  obtain ⟨rb, ro, rfl, hcr⟩ := A0.out.r.at' (by omega)
  have qz := hcr k i1
  have j1 : (k : Int) < (h.r.length : Int) := by omega
  have j0 : (0 : Int) ≤ (k : Int) := by omega
  clear hcr href i0 i1
  generalize hzz : h.r.getD k 0 = z at *
  have HZZ : Hid (h.r.getD (k : Int).toNat 0 = z) := by unfold Hid; rw [Int.toNat_natCast]; exact hzz
  clear hzz
  generalize h.r.length = nrr at *
  have QZ := Lib.hid qz; clear qz
  go_wp2_with fail
  have hb := below_drew (Below.refl (w2.alloc (.cells (c3 (.slice pa nf qa) (.slice pb nl qb) (.slice pc nr qc)) 32)).heap.size (w2.alloc (.cells (c3 (.slice pa nf qa) (.slice pb nl qb) (.slice pc nr qc)) 32)))
  replace QZ := Lib.hid (cellBelow hb (Nat.le_refl _) QZ.out)
  replace OH2 := Lib.hid (OH2.out.below hb)
  replace A0 := Lib.hid (A0.out.below hb)
  replace Z0 := Lib.hid (Z0.out.below hb)
  replace Q0 := Lib.hid (Q0.out.below hb)
  replace U0 := Lib.hid (Row.below U0.out hb)
  replace V0 := Lib.hid (Row.below V0.out hb)
  replace R0 := Lib.hid (Row.below R0.out hb)
  replace HH := Lib.hid (Row.below HH.out hb)
  replace L := Lib.hid (bst L.out hb L.out.size)
  clear hb
  refine wp_region_held_drew (S := (fun w' => w'.cell? ⟨w.heap.size, 2, none⟩ = some (.slice (some ⟨rb, ro, none⟩) nrr rc) ∧ w'.cell? ⟨(w.heap.size + 1), 1, none⟩ = some (.int .i64 (k : Int)) ∧ w'.cell? ⟨(w.heap.size + 1), 3, none⟩ = some (.int .i64 vt) ∧ w'.cell? ⟨rb, ro + k, none⟩ = some (.int .i64 z))) (by kernel_rfl) (⟨U0.out.cell 2, V0.out.cell 1, V0.out.cell 3, QZ.out⟩) (fun hHeld => ?_)
  generalize (w2.alloc (.cells (c3 (.slice pa nf qa) (.slice pb nl qb) (.slice pc nr qc)) 32)).drew = x0 at *
  refine wpAnyH_take (i := 0) (v := ?va0x19) rfl (by kernel_rfl) (by kernel_rfl) (by kernel_rfl) (fun _ _ _ h => h) (Or.inl ⟨by rfl, ?hy0x19⟩) (by assumption) ?rest0x19
  case hy0x19 => (intro w hSw; (try dsimp only at hSw); go_simp; try with_reducible rfl)
  (try simp only [Act.put, List.getElem_toArray, List.getElem_cons_zero, List.setIfInBounds_toArray, List.set_cons_zero, List.set_cons_succ])
  refine wpAnyH_take (i := 1) (v := ?va1x20) rfl (by kernel_rfl) (by kernel_rfl) (by kernel_rfl) (fun _ _ _ h => h) (Or.inl ⟨by rfl, ?hy1x20⟩) (by assumption) ?rest1x20
  case hy1x20 => (intro w hSw; (try dsimp only at hSw); go_simp; try with_reducible rfl)
  (try simp only [Act.put, List.getElem_toArray, List.getElem_cons_zero, List.getElem_cons_succ, List.setIfInBounds_toArray, List.set_cons_zero, List.set_cons_succ])
  refine wpAnyH_take (i := 2) (v := ?va2x21) rfl (by kernel_rfl) (by kernel_rfl) (by kernel_rfl) (fun _ _ _ h => h) (Or.inl ⟨by rfl, ?hy2x21⟩) (by assumption) ?rest2x21
  case hy2x21 => (intro w hSw; (try dsimp only at hSw); go_simp; try with_reducible rfl)
  (try simp only [Act.put, List.getElem_toArray, List.getElem_cons_zero, List.getElem_cons_succ, List.setIfInBounds_toArray, List.set_cons_zero, List.set_cons_succ])
  refine wpAnyH_take (i := 3) (v := ?va3x22) rfl (by kernel_rfl) (by kernel_rfl) (by kernel_rfl) (fun _ _ _ h => h) (Or.inl ⟨by rfl, ?hy3x22⟩) (by assumption) ?rest3x22
  case hy3x22 => (intro w hSw; (try dsimp only at hSw); go_simp; try with_reducible rfl)
  (try simp only [Act.put, List.getElem_toArray, List.getElem_cons_zero, List.getElem_cons_succ, List.setIfInBounds_toArray, List.set_cons_zero, List.set_cons_succ])
  refine wpAnyH_take (i := 4) (v := ?va4x23) rfl (by kernel_rfl) (by kernel_rfl) (by kernel_rfl) (fun _ _ _ h => h) (Or.inl ⟨by rfl, ?hy4x23⟩) (by assumption) ?rest4x23
  case hy4x23 => (intro w hSw; (try dsimp only at hSw); go_simp; try with_reducible rfl)
  (try simp only [Act.put, List.getElem_toArray, List.getElem_cons_zero, List.getElem_cons_succ, List.setIfInBounds_toArray, List.set_cons_zero, List.set_cons_succ])
  refine wpAnyH_take (i := 5) (v := ?va5x24) rfl (by kernel_rfl) (by kernel_rfl) (by kernel_rfl) (fun _ _ _ h => h) (Or.inl ⟨by rfl, ?hy5x24⟩) (by assumption) ?rest5x24
  case hy5x24 => (intro w hSw; (try dsimp only at hSw); go_simp; try with_reducible rfl)
  (try simp only [Act.put, List.getElem_toArray, List.getElem_cons_zero, List.getElem_cons_succ, List.setIfInBounds_toArray, List.set_cons_zero, List.set_cons_succ])
  refine wpAnyH_take (i := 6) (v := ?va6x25) rfl (by kernel_rfl) (by kernel_rfl) (by kernel_rfl) (fun _ _ _ h => h) (Or.inl ⟨by rfl, ?hy6x25⟩) (by assumption) ?rest6x25
  case hy6x25 => (intro w hSw; (try dsimp only at hSw); go_simp; try with_reducible rfl)
  (try simp only [Act.put, List.getElem_toArray, List.getElem_cons_zero, List.getElem_cons_succ, List.setIfInBounds_toArray, List.set_cons_zero, List.set_cons_succ])
  refine wpAnyH_take (i := 7) (v := ?va7x26) rfl (by kernel_rfl) (by kernel_rfl) (by kernel_rfl) (fun _ _ _ h => h) (Or.inl ⟨by rfl, ?hy7x26⟩) (by assumption) ?rest7x26
  case hy7x26 => (intro w hSw; (try dsimp only at hSw); go_simp; try with_reducible rfl)
  (try simp only [Act.put, List.getElem_toArray, List.getElem_cons_zero, List.getElem_cons_succ, List.setIfInBounds_toArray, List.set_cons_zero, List.set_cons_succ])
  refine wpAnyH_take (i := 8) (v := ?va8x27) rfl (by kernel_rfl) (by kernel_rfl) (by kernel_rfl) (fun _ _ _ h => h) (Or.inl ⟨by rfl, ?hy8x27⟩) (by assumption) ?rest8x27
  case hy8x27 => (intro w hSw; (try dsimp only at hSw); go_simp; try with_reducible rfl)
  (try simp only [Act.put, List.getElem_toArray, List.getElem_cons_zero, List.getElem_cons_succ, List.setIfInBounds_toArray, List.set_cons_zero, List.set_cons_succ])
  refine wpAnyH_take (i := 9) (v := ?va9x28) rfl (by kernel_rfl) (by kernel_rfl) (by kernel_rfl) (fun _ _ _ h => h) (Or.inl ⟨by rfl, ?hy9x28⟩) (by assumption) ?rest9x28
  case hy9x28 => (intro w hSw; (try dsimp only at hSw); go_simp; try with_reducible rfl)
  (try simp only [Act.put, List.getElem_toArray, List.getElem_cons_zero, List.getElem_cons_succ, List.setIfInBounds_toArray, List.set_cons_zero, List.set_cons_succ])
  refine wpAnyH_take (i := 10) (v := ?va10x29) rfl (by kernel_rfl) (by kernel_rfl) (by kernel_rfl) (fun _ _ _ h => h) (Or.inl ⟨by rfl, ?hy10x29⟩) (by assumption) ?rest10x29
  case hy10x29 => (intro w hSw; (try dsimp only at hSw); go_simp; try with_reducible rfl)
  (try simp only [Act.put, List.getElem_toArray, List.getElem_cons_zero, List.getElem_cons_succ, List.setIfInBounds_toArray, List.set_cons_zero, List.set_cons_succ])
  refine wpAnyH_ready (rs := [11]) (by kernel_rfl) (by simp) ?_
  refine AllReadyH.cons rfl (fun K hK => ?_) AllReadyH.nil
  have hbA := below1 x0 (.cells #[.int .i64 0, .int .i64 0] 116)
  have hbS := below_setRow (g := x0.heap.size) hbA (Nat.le_refl _) #[.int .i64 z, .int .i64 vt]
  have XW := Lib.hid (Nat.le_of_lt (Row.lt HH.out))
  have W1 := Lib.hid (Row.new x0 116 #[.int .i64 0, .int .i64 0])
  have U1 := Lib.hid (Row.below U0.out hbA); have V1 := Lib.hid (Row.below V0.out hbA)
  have QZ1 := Lib.hid (cellBelow hbA (Nat.le_refl _) QZ.out)
  go_simp
  refine hK.out _ _ ⟨U1.out.cell 2, V1.out.cell 1, V1.out.cell 3, QZ1.out⟩ (fun hHeld => ?_)
  clear hK K U1 V1 QZ1
  (try simp only [Act.put, List.getElem_toArray, List.getElem_cons_zero, List.getElem_cons_succ, List.setIfInBounds_toArray, List.set_cons_zero, List.set_cons_succ])
  refine wpAnyH_ready (rs := [12]) (by kernel_rfl) (by simp) ?_
  refine AllReadyH.cons rfl (fun K hK => ?_) AllReadyH.nil
  have W2 := Lib.hid (Row.put W1.out #[.int .i64 z, .int .i64 vt])
  replace QZ := Lib.hid (cellBelow hbS (Nat.le_refl _) QZ.out)
  replace OH2 := Lib.hid (OH2.out.below hbS)
  replace A0 := Lib.hid (A0.out.below hbS)
  replace Z0 := Lib.hid (Z0.out.below hbS)
  replace Q0 := Lib.hid (Q0.out.below hbS)
  replace U0 := Lib.hid (Row.below U0.out hbS)
  replace V0 := Lib.hid (Row.below V0.out hbS)
  replace R0 := Lib.hid (Row.below R0.out hbS)
  replace HH := Lib.hid (Row.below HH.out hbS)
  replace L := Lib.hid (bst L.out hbS L.out.size)
  refine wp_store_row 116 _ _ rfl x0.heap.size #[.int .i64 z, .int .i64 vt] rfl rfl 116 _ W1.out info_write rfl (by simp [Value.oneCell']) ?_
  refine hK.out _ _ ⟨U0.out.cell 2, V0.out.cell 1, V0.out.cell 3, QZ.out⟩ (fun hHeld => ?_)
  clear hK K W1 hbA hbS QZ
  (try simp only [Act.put, List.getElem_toArray, List.getElem_cons_zero, List.getElem_cons_succ])
  refine wpAnyH_done (by kernel_rfl) ?_ _
  clear hHeld
  generalize x0.heap.size = gw at *
  generalize (x0.alloc (.cells #[.int .i64 0, .int .i64 0] 116)).setRow gw #[.int .i64 z, .int .i64 vt] = x1 at *
  go_wp2_with fail
  have hb := below_drew (Below.refl x1.heap.size x1)
  replace OH2 := Lib.hid (OH2.out.below hb)
  replace A0 := Lib.hid (A0.out.below hb)
  replace Z0 := Lib.hid (Z0.out.below hb)
  replace Q0 := Lib.hid (Q0.out.below hb)
  replace U0 := Lib.hid (Row.below U0.out hb)
  replace V0 := Lib.hid (Row.below V0.out hb)
  replace R0 := Lib.hid (Row.below R0.out hb)
  replace HH := Lib.hid (Row.below HH.out hb)
  replace W2 := Lib.hid (Row.below W2.out hb)
  replace L := Lib.hid (bst L.out hb L.out.size)
  clear hb
  refine wp_region_held_drew (S := (fun w' => w'.cell? ⟨w.heap.size, 0, none⟩ = some a ∧ w'.cell? ⟨w.heap.size, 1, none⟩ = some b ∧ w'.cell? ⟨w.heap.size, 2, none⟩ = some (.slice (some ⟨rb, ro, none⟩) nrr rc) ∧ w'.cell? ⟨w.heap.size, 3, none⟩ = some d ∧ w'.cell? ⟨w.heap.size, 4, none⟩ = some f ∧ w'.cell? ⟨w.heap.size, 5, none⟩ = some x ∧ w'.cell? ⟨w.heap.size, 6, none⟩ = some r ∧ w'.cell? ⟨w2.heap.size, 0, none⟩ = some (.slice pa nf qa) ∧ w'.cell? ⟨w2.heap.size, 1, none⟩ = some (.slice pb nl qb) ∧ w'.cell? ⟨w2.heap.size, 2, none⟩ = some (.slice pc nr qc) ∧ w'.cell? ⟨gw, 0, none⟩ = some (.int .i64 z) ∧ w'.cell? ⟨gw, 1, none⟩ = some (.int .i64 vt))) (by kernel_rfl) (⟨U0.out.cell 0, U0.out.cell 1, U0.out.cell 2, U0.out.cell 3, U0.out.cell 4, U0.out.cell 5, U0.out.cell 6, HH.out.cell 0, HH.out.cell 1, HH.out.cell 2, W2.out.cell 0, W2.out.cell 1⟩) (fun hHeld => ?_)
  generalize x1.drew = x2 at *
  refine wpAnyH_take (i := 0) (v := ?va0x30) rfl (by kernel_rfl) (by kernel_rfl) (by kernel_rfl) (fun _ _ _ h => h) (Or.inl ⟨by rfl, ?hy0x30⟩) (by assumption) ?rest0x30
  case hy0x30 => (intro w hSw; (try dsimp only at hSw); go_simp; try with_reducible rfl)
  (try simp only [Act.put, List.getElem_toArray, List.getElem_cons_zero, List.setIfInBounds_toArray, List.set_cons_zero, List.set_cons_succ])
  refine wpAnyH_take (i := 1) (v := ?va1x31) rfl (by kernel_rfl) (by kernel_rfl) (by kernel_rfl) (fun _ _ _ h => h) (Or.inl ⟨by rfl, ?hy1x31⟩) (by assumption) ?rest1x31
  case hy1x31 => (intro w hSw; (try dsimp only at hSw); go_simp; try with_reducible rfl)
  (try simp only [Act.put, List.getElem_toArray, List.getElem_cons_zero, List.getElem_cons_succ, List.setIfInBounds_toArray, List.set_cons_zero, List.set_cons_succ])
  refine wpAnyH_take (i := 2) (v := ?va2x32) rfl (by kernel_rfl) (by kernel_rfl) (by kernel_rfl) (fun _ _ _ h => h) (Or.inl ⟨by rfl, ?hy2x32⟩) (by assumption) ?rest2x32
  case hy2x32 => (intro w hSw; (try dsimp only at hSw); go_simp; try with_reducible rfl)
  (try simp only [Act.put, List.getElem_toArray, List.getElem_cons_zero, List.getElem_cons_succ, List.setIfInBounds_toArray, List.set_cons_zero, List.set_cons_succ])
  refine wpAnyH_take (i := 3) (v := ?va3x33) rfl (by kernel_rfl) (by kernel_rfl) (by kernel_rfl) (fun _ _ _ h => h) (Or.inl ⟨by rfl, ?hy3x33⟩) (by assumption) ?rest3x33
  case hy3x33 => (intro w hSw; (try dsimp only at hSw); go_simp; try with_reducible rfl)
  (try simp only [Act.put, List.getElem_toArray, List.getElem_cons_zero, List.getElem_cons_succ, List.setIfInBounds_toArray, List.set_cons_zero, List.set_cons_succ])
  refine wpAnyH_take (i := 4) (v := ?va4x34) rfl (by kernel_rfl) (by kernel_rfl) (by kernel_rfl) (fun _ _ _ h => h) (Or.inl ⟨by rfl, ?hy4x34⟩) (by assumption) ?rest4x34
  case hy4x34 => (intro w hSw; (try dsimp only at hSw); go_simp; try with_reducible rfl)
  (try simp only [Act.put, List.getElem_toArray, List.getElem_cons_zero, List.getElem_cons_succ, List.setIfInBounds_toArray, List.set_cons_zero, List.set_cons_succ])
  refine wpAnyH_take (i := 6) (v := ?va6x35) rfl (by kernel_rfl) (by kernel_rfl) (by kernel_rfl) (fun _ _ _ h => h) (Or.inl ⟨by rfl, ?hy6x35⟩) (by assumption) ?rest6x35
  case hy6x35 => (intro w hSw; (try dsimp only at hSw); go_simp; try with_reducible rfl)
  (try simp only [Act.put, List.getElem_toArray, List.getElem_cons_zero, List.getElem_cons_succ, List.setIfInBounds_toArray, List.set_cons_zero, List.set_cons_succ])
  refine wpAnyH_ready (rs := [5]) (by kernel_rfl) (by simp) ?_
  refine AllReadyH.cons rfl (fun K hK => ?_) AllReadyH.nil
  go_simp
  refine (c_copyInts d cs _ Z0.out (by have := HC12.out; omega)).mono ?_
  rintro e w5 ⟨d5, rfl, ho5, hb⟩
  obtain ⟨pd, qd, e4⟩ := ho5.ints.shape
  subst e4
  have XW2 : Hid (w2.heap.size ≤ x2.heap.size) := Nat.le_of_lt (Row.lt HH.out)
  have OC := Lib.hid (Own.mono ho5 XW2.out)
  clear ho5
  replace OH2 := Lib.hid (OH2.out.below hb)
  replace A0 := Lib.hid (A0.out.below hb)
  replace Z0 := Lib.hid (Z0.out.below hb)
  replace Q0 := Lib.hid (Q0.out.below hb)
  replace U0 := Lib.hid (Row.below U0.out hb)
  replace V0 := Lib.hid (Row.below V0.out hb)
  replace R0 := Lib.hid (Row.below R0.out hb)
  replace HH := Lib.hid (Row.below HH.out hb)
  replace W2 := Lib.hid (Row.below W2.out hb)
  replace L := Lib.hid (bst L.out hb L.out.size)
  clear hb
  refine hK.out _ _ ⟨U0.out.cell 0, U0.out.cell 1, U0.out.cell 2, U0.out.cell 3, U0.out.cell 4, U0.out.cell 5, U0.out.cell 6, HH.out.cell 0, HH.out.cell 1, HH.out.cell 2, W2.out.cell 0, W2.out.cell 1⟩ (fun hHeld => ?_)
  clear hK K
  (try simp only [Act.put, List.getElem_toArray, List.getElem_cons_zero, List.getElem_cons_succ, List.setIfInBounds_toArray, List.set_cons_zero, List.set_cons_succ])
  refine wpAnyH_ready (rs := [7]) (by kernel_rfl) (by simp) ?_
  refine AllReadyH.cons rfl (fun K hK => ?_) AllReadyH.nil
  go_simp
  rw [hf.out]
  refine (c_written_true w2.heap.size _ _ _ _ _ _ (.slice pa nf qa) (.slice pb nl qb) (.slice pc nr qc) (.slice pd cs.length qd) cs z vt _ OC.out HCOL.out HTS.out ⟨rfl, rfl, rfl⟩).mono ?_
  rw [← hf.out]
  rintro e w6 ⟨rfl, ho6, hg6⟩
  have U6 := Lib.hid (Row.grownBy U0.out hg6 (ne_row OC.out U0.out (by decide))); have H6 := Lib.hid (Row.grownBy HH.out hg6 (ne_row OC.out HH.out (by decide))); have W6 := Lib.hid (Row.grownBy W2.out hg6 (ne_row OC.out W2.out (by decide))); have R6 := Lib.hid (show RowM _ _ _ _ _ _ from Row.grownBy R0.out hg6 (ne_row OC.out R0.out (by decide)))
  have O6 := Lib.hid (OH2.out.chg (Chg.of_grown (lo := w2.heap.size) (hi := w5.heap.size) hg6 (fun g' e => owns_lt OC.out e)) (.inl (Nat.le_refl _)))
  have L6 := Lib.hid (L.out.grown hg6 L.out.size (fun g' e => by have := (owns_lt OC.out e).1; have := SZ1.out; have := SZ2.out; omega))
  have C6 := Lib.hid ho6
  have SW6 : Hid (w2.heap.size ≤ w6.heap.size) := (by unfold Hid; have := hg6.size; have := Row.lt HH.out; omega)
  clear ho6 hg6
  refine hK.out _ _ ⟨U6.out.cell 0, U6.out.cell 1, U6.out.cell 2, U6.out.cell 3, U6.out.cell 4, U6.out.cell 5, U6.out.cell 6, H6.out.cell 0, H6.out.cell 1, H6.out.cell 2, W6.out.cell 0, W6.out.cell 1⟩ (fun hHeld => ?_)
  clear hK K
  (try simp only [Act.put, List.getElem_toArray, List.getElem_cons_zero, List.getElem_cons_succ, List.setIfInBounds_toArray, List.set_cons_zero, List.set_cons_succ])
  refine wpAnyH_ready (rs := [8]) (by kernel_rfl) (by simp) ?_
  refine AllReadyH.cons rfl (fun K hK => ?_) AllReadyH.nil
  have nU : w.heap.size ≠ w.heap.size + 1 + 1 := by omega
  have nH : w2.heap.size ≠ w.heap.size + 1 + 1 := rows_ne H6.out R6.out (by decide)
  have nW : gw ≠ w.heap.size + 1 + 1 := rows_ne W6.out R6.out (by decide)
  have U8 := Lib.hid (Row.putOther U6.out (m4 (.slice pa nf qa) (.slice pb nl qb) (.slice pc nr qc) (.slice pd cs.length qd)) nU); have H8 := Lib.hid (Row.putOther H6.out (m4 (.slice pa nf qa) (.slice pb nl qb) (.slice pc nr qc) (.slice pd cs.length qd)) nH); have W8 := Lib.hid (Row.putOther W6.out (m4 (.slice pa nf qa) (.slice pb nl qb) (.slice pc nr qc) (.slice pd cs.length qd)) nW)
  refine wp_store_row 34 _ _ rfl (w.heap.size + 1 + 1) (m4 (.slice pa nf qa) (.slice pb nl qb) (.slice pc nr qc) (.slice pd cs.length qd)) rfl rfl 34 _ R6.out info_marking rfl (by simp [Value.oneCell']) ?_
  refine hK.out _ _ ⟨U8.out.cell 0, U8.out.cell 1, U8.out.cell 2, U8.out.cell 3, U8.out.cell 4, U8.out.cell 5, U8.out.cell 6, H8.out.cell 0, H8.out.cell 1, H8.out.cell 2, W8.out.cell 0, W8.out.cell 1⟩ (fun hHeld => ?_)
  clear hK K
  (try simp only [Act.put, List.getElem_toArray, List.getElem_cons_zero, List.getElem_cons_succ])
  refine wpAnyH_take (i := 9) (v := ?va9x36) rfl (by kernel_rfl) (by kernel_rfl) (by kernel_rfl) (fun _ _ _ h => h) (Or.inl ⟨by rfl, ?hy9x36⟩) (by assumption) ?rest9x36
  case hy9x36 => (intro w hSw; (try dsimp only at hSw); go_simp; try with_reducible rfl)
  (try simp only [Act.put, List.getElem_toArray, List.getElem_cons_zero, List.getElem_cons_succ, List.setIfInBounds_toArray, List.set_cons_zero, List.set_cons_succ])
  refine wpAnyH_done (by kernel_rfl) ?_ _
  clear hHeld
  go_wp2_with fail
  refine bodyPost_ret (res_row_slot Try.results186 (Row.put R6.out (m4 (.slice pa nf qa) (.slice pb nl qb) (.slice pc nr qc) (.slice pd cs.length qd))) rfl rfl Try.underlying34 rfl info_marking) rfl (endM_yes (below_setRow L6.out (by omega) _) ((OwnM.hc O6.out (OwnC.ofOwn C6.out SW6.out) SZ2.out SW6.out).whole (w.heap.size + 1 + 1) SZ1.out _) (by have := SZ1.out; omega) (by rw [size_setRow]; exact Nat.le_refl _) (by rw [HE.out]; rfl) (by rw [HE.out, HZZ.out]; rfl) HE.out)
set_option maxHeartbeats 6400000 in
set_option maxRecDepth 100000 in
theorem c_msetField_false (a b c d x r : Value) (h : H) (cs : List Int) (rs : List Bool) (v : Mv) (w : World) (hA : HeapAt w a b c h) (hC : IntsAt w d cs) (hQ : BoolsAt w r rs) (hB : bothB h cs = true) : Calls Try.prog 185 #[mu a b c d (.func (.func 92) #[] #[]) x r, mo v] w (EndM (outH (liveB rs v.a && refB rs v.t && setFOk h v.a v.b v.t) (setF h v.a v.b v.t)) (outC (liveB rs v.a && refB rs v.t && setFOk h v.a v.b v.t) (shade cs (barZ false ((h.f.getD v.a.toNat []).getD v.b.toNat 0) v.t))) (liveB rs v.a && refB rs v.t && setFOk h v.a v.b v.t) w) := by
  have HF : ∃ f : Value, Hid (f = .func (.func 92) #[] #[]) := ⟨_, rfl⟩
  obtain ⟨f, hf⟩ := HF
  rw [← hf.out]
  have b0 := ((below1 w (.cells (mu7 a b c d f x r) 164)).alloc (by simp) (.cells (mo4 v) 38)).alloc (by simp; omega) (.cells (m4 nilS nilS nilS nilS) 34)
  have A0 := Lib.hid (hA.below b0); have Z0 := Lib.hid (hC.below b0); have Q0 := Lib.hid (hQ.below b0)
  have L := Lib.hid b0
  have U0 := Lib.hid (show Row _ w.heap.size 164 (mu7 a b c d f x r) from ((Row.new w 164 (mu7 a b c d f x r)).alloc (.cells (mo4 v) 38)).alloc (.cells (m4 nilS nilS nilS nilS) 34))
  have V0 := Lib.hid (show Row _ (w.heap.size + 1) 38 (mo4 v) from (Row.new1 w (.cells (mu7 a b c d f x r) 164) 38 (mo4 v)).alloc (.cells (m4 nilS nilS nilS nilS) 34))
  have R0 := Lib.hid (show RowM _ (w.heap.size + 1 + 1) nilS nilS nilS nilS from Row.new2 w (.cells (mu7 a b c d f x r) 164) (.cells (mo4 v) 38) 34 (m4 nilS nilS nilS nilS))
  obtain ⟨hG, hl, hcol⟩ := bothB_iff.1 hB
  have HG := Lib.hid hG; have HLN := Lib.hid hl; have HCOL := Lib.hid hcol
  have HC12 : Hid (cs.length ≤ 12) := by unfold Hid; rw [hl]; exact hG.n
  clear hA hC hQ hB b0 hG hl hcol
  obtain ⟨vk, va, vb, vt⟩ := v
  simp only
  have HM1 := Lib.hid (fun w' q => c_mayStore a b c d f x r rs vt w' q)
  have HI1 := Lib.hid (fun w' q => c_isReached a b c d f x r rs va w' q)
  have HS1 := Lib.hid (fun w' q => c_SetField a b c h va vb vt w' q)
  have HOKK : Hid (setFOk h va vb vt = true → (0 ≤ va ∧ va.toNat < h.f.length ∧ 0 ≤ vb ∧ vb.toNat < (h.f.getD va.toNat []).length) ∧ refB h.l vt = true) := fun q => by
    obtain ⟨tn, fn, e1, e2, q1, q2, _⟩ := setF_facts q
    unfold setFOk at q
    simp only [Bool.and_eq_true] at q
    subst e1; subst e2; simp only [Int.toNat_natCast]; exact ⟨⟨by omega, q1, by omega, q2⟩, q.2⟩
  generalize hkk : (liveB rs va && refB rs vt && setFOk h va vb vt) = ok at *
  have HK := Lib.hid hkk; clear hkk
  generalize setF h va vb vt = hX at *
  generalize refB rs vt = k1 at *
  generalize liveB rs va = k2 at *
  generalize setFOk h va vb vt = k3 at *
  have qU00 := U0.out.cell 0
  have qU01 := U0.out.cell 1
  have qU02 := U0.out.cell 2
  have qU03 := U0.out.cell 3
  have qU04 := U0.out.cell 4
  have qU05 := U0.out.cell 5
  have qU06 := U0.out.cell 6
  have qV00 := V0.out.cell 0
  have qV01 := V0.out.cell 1
  have qV02 := V0.out.cell 2
  have qV03 := V0.out.cell 3
  go_enter Try.func185, Try.ntmps185
  go_wp2_with fail
  clear qU00 qU01 qU02 qU03 qU04 qU05 qU06 qV00 qV01 qV02 qV03
  refine (HI1.out _ Q0.out).mono ?_
  rintro e w0 ⟨rfl, hb⟩
  replace A0 := Lib.hid (A0.out.below hb)
  replace Z0 := Lib.hid (Z0.out.below hb)
  replace Q0 := Lib.hid (Q0.out.below hb)
  replace U0 := Lib.hid (Row.below U0.out hb)
  replace V0 := Lib.hid (Row.below V0.out hb)
  replace R0 := Lib.hid (Row.below R0.out hb)
  replace L := Lib.hid (bst L.out hb L.out.size)
  clear hb
  cases k2
  · have HE : Hid (ok = false) := by unfold Hid; rw [← HK.out]; rfl
    go_wp2_with (refine wl_storeM rfl _ _ rfl (w.heap.size + 1 + 1) nilS nilS nilS nilS _ _ _ _ R0.out rfl rfl rfl rfl rfl rfl ?_)
    refine bodyPost_ret (res_row_slot Try.results185 (Row.put R0.out (m4 nilS nilS nilS nilS)) rfl rfl Try.underlying34 rfl info_marking) rfl (endM_none (below_setRow L.out (by omega) _) (by rw [HE.out]; rfl) (by rw [HE.out]; rfl) HE.out)
  have qU00 := U0.out.cell 0
  have qU01 := U0.out.cell 1
  have qU02 := U0.out.cell 2
  have qU03 := U0.out.cell 3
  have qU04 := U0.out.cell 4
  have qU05 := U0.out.cell 5
  have qU06 := U0.out.cell 6
  have qV00 := V0.out.cell 0
  have qV01 := V0.out.cell 1
  have qV02 := V0.out.cell 2
  have qV03 := V0.out.cell 3
  go_wp2_with fail
  clear qU00 qU01 qU02 qU03 qU04 qU05 qU06 qV00 qV01 qV02 qV03
  refine (HM1.out _ Q0.out).mono ?_
  rintro e w1 ⟨rfl, hb⟩
  replace A0 := Lib.hid (A0.out.below hb)
  replace Z0 := Lib.hid (Z0.out.below hb)
  replace Q0 := Lib.hid (Q0.out.below hb)
  replace U0 := Lib.hid (Row.below U0.out hb)
  replace V0 := Lib.hid (Row.below V0.out hb)
  replace R0 := Lib.hid (Row.below R0.out hb)
  replace L := Lib.hid (bst L.out hb L.out.size)
  clear hb
  cases k1
  · have HE : Hid (ok = false) := by unfold Hid; rw [← HK.out]; rfl
    go_wp2_with (refine wl_storeM rfl _ _ rfl (w.heap.size + 1 + 1) nilS nilS nilS nilS _ _ _ _ R0.out rfl rfl rfl rfl rfl rfl ?_)
    refine bodyPost_ret (res_row_slot Try.results185 (Row.put R0.out (m4 nilS nilS nilS nilS)) rfl rfl Try.underlying34 rfl info_marking) rfl (endM_none (below_setRow L.out (by omega) _) (by rw [HE.out]; rfl) (by rw [HE.out]; rfl) HE.out)
  have qU00 := U0.out.cell 0
  have qU01 := U0.out.cell 1
  have qU02 := U0.out.cell 2
  have qV00 := V0.out.cell 0
  have qV01 := V0.out.cell 1
  have qV02 := V0.out.cell 2
  have qV03 := V0.out.cell 3
  go_wp2_with fail
  clear qU00 qU01 qU02 qV00 qV01 qV02 qV03
  have SZ1 : Hid (w.heap.size + 1 + 1 < w1.heap.size) := Row.lt R0.out
  refine (HS1.out _ A0.out).mono ?_
  intro e w2 hend
  obtain ⟨a2, b2, c2, rfl, ho, hb⟩ := hend
  obtain ⟨⟨pa, qa, e1⟩, ⟨pb, qb, e2⟩, ⟨pc, qc, e3⟩⟩ := ho.shapes
  subst e1 e2 e3
  replace A0 := Lib.hid (A0.out.below hb)
  replace Z0 := Lib.hid (Z0.out.below hb)
  replace Q0 := Lib.hid (Q0.out.below hb)
  replace U0 := Lib.hid (Row.below U0.out hb)
  replace V0 := Lib.hid (Row.below V0.out hb)
  replace R0 := Lib.hid (Row.below R0.out hb)
  replace L := Lib.hid (bst L.out hb L.out.size)
  have SZ2 : Hid (w1.heap.size ≤ w2.heap.size) := hb.size
  have OH := Lib.hid ho
  clear hb ho
  generalize hX.f.length = nf at *
  generalize hX.l.length = nl at *
  generalize hX.r.length = nr at *
  have hb := below1 w2 (.cells (c3 (.slice pa nf qa) (.slice pb nl qb) (.slice pc nr qc)) 32)
  have HH := Lib.hid (show RowH _ w2.heap.size (.slice pa nf qa) (.slice pb nl qb) (.slice pc nr qc) from Row.new w2 32 (c3 (.slice pa nf qa) (.slice pb nl qb) (.slice pc nr qc)))
  have OH2 := Lib.hid (OH.out.below hb)
  clear OH
  replace A0 := Lib.hid (A0.out.below hb)
  replace Z0 := Lib.hid (Z0.out.below hb)
  replace Q0 := Lib.hid (Q0.out.below hb)
  replace U0 := Lib.hid (Row.below U0.out hb)
  replace V0 := Lib.hid (Row.below V0.out hb)
  replace R0 := Lib.hid (Row.below R0.out hb)
  replace L := Lib.hid (bst L.out hb L.out.size)
  clear hb
  cases k3
  · have HE : Hid (ok = false) := by unfold Hid; rw [← HK.out]; rfl
    go_wp2_with (refine wl_storeM rfl _ _ rfl (w.heap.size + 1 + 1) nilS nilS nilS nilS _ _ _ _ R0.out rfl rfl rfl rfl rfl rfl ?_)
    refine bodyPost_ret (res_row_slot Try.results185 (Row.put R0.out (m4 nilS nilS nilS nilS)) rfl rfl Try.underlying34 rfl info_marking) rfl (endM_none (below_setRow L.out (by omega) _) (by rw [HE.out]; rfl) (by rw [HE.out]; rfl) HE.out)
  have HE : Hid (ok = true) := by unfold Hid; rw [← HK.out]; rfl
  obtain ⟨hi, href⟩ := HOKK.out rfl
  clear HOKK HK
  obtain ⟨i0, i1, i2, i3⟩ := hi
  obtain ⟨k, rfl⟩ : ∃ k : Nat, va = k := ⟨va.toNat, by omega⟩
  obtain ⟨m, rfl⟩ : ∃ k : Nat, vb = k := ⟨vb.toNat, by omega⟩
  simp only [Int.toNat_natCast] at i1 i3 ⊢
  have HWS : Hid (inR cs.length ((h.f.getD k []).getD m 0)) := by unfold Hid; rw [HLN.out]; exact field_in HG.out i3
  have HTS : Hid (inR cs.length vt) := by unfold Hid; rw [HLN.out]; exact ref_in HG.out href
  obtain ⟨fa, fc, hfs⟩ := A0.out.f.shape
  subst hfs
  obtain ⟨fb, fo, rfl, hcf⟩ := A0.out.f.at' (by omega)
  obtain ⟨u, qu, hu⟩ := hcf k i1
  obtain ⟨ra, rc, rfl⟩ := hu.shape
  obtain ⟨rb, ro, rfl, hcr⟩ := hu.at' (by omega)
  have qz := hcr m i3
  have j1 : (k : Int) < (h.f.length : Int) := by omega
  have j0 : (0 : Int) ≤ (k : Int) := by omega
  have j3 : (m : Int) < ((h.f.getD k []).length : Int) := by omega
  have j2 : (0 : Int) ≤ (m : Int) := by omega
  clear hcr hcf hu href i0 i1 i2 i3
  generalize hzz : (h.f.getD k []).getD m 0 = z at *
  have HZZ : Hid ((h.f.getD (k : Int).toNat []).getD (m : Int).toNat 0 = z) := by unfold Hid; rw [Int.toNat_natCast, Int.toNat_natCast]; exact hzz
  clear hzz
  generalize (h.f.getD k []).length = nrr at *
  generalize h.f.length = nff at *
  have QZ := Lib.hid qz; clear qz
  have QU := Lib.hid qu; clear qu
  go_wp2_with fail
  have hb := below_drew (Below.refl (w2.alloc (.cells (c3 (.slice pa nf qa) (.slice pb nl qb) (.slice pc nr qc)) 32)).heap.size (w2.alloc (.cells (c3 (.slice pa nf qa) (.slice pb nl qb) (.slice pc nr qc)) 32)))
  replace QZ := Lib.hid (cellBelow hb (Nat.le_refl _) QZ.out)
  replace QU := Lib.hid (cellBelow hb (Nat.le_refl _) QU.out)
  replace OH2 := Lib.hid (OH2.out.below hb)
  replace A0 := Lib.hid (A0.out.below hb)
  replace Z0 := Lib.hid (Z0.out.below hb)
  replace Q0 := Lib.hid (Q0.out.below hb)
  replace U0 := Lib.hid (Row.below U0.out hb)
  replace V0 := Lib.hid (Row.below V0.out hb)
  replace R0 := Lib.hid (Row.below R0.out hb)
  replace HH := Lib.hid (Row.below HH.out hb)
  replace L := Lib.hid (bst L.out hb L.out.size)
  clear hb
  refine wp_region_held_drew (S := (fun w' => w'.cell? ⟨w.heap.size, 0, none⟩ = some (.slice (some ⟨fb, fo, none⟩) nff fc) ∧ w'.cell? ⟨(w.heap.size + 1), 1, none⟩ = some (.int .i64 (k : Int)) ∧ w'.cell? ⟨(w.heap.size + 1), 2, none⟩ = some (.int .i64 (m : Int)) ∧ w'.cell? ⟨(w.heap.size + 1), 3, none⟩ = some (.int .i64 vt) ∧ w'.cell? ⟨fb, fo + k, none⟩ = some (.slice (some ⟨rb, ro, none⟩) nrr rc) ∧ w'.cell? ⟨rb, ro + m, none⟩ = some (.int .i64 z))) (by kernel_rfl) (⟨U0.out.cell 0, V0.out.cell 1, V0.out.cell 2, V0.out.cell 3, QU.out, QZ.out⟩) (fun hHeld => ?_)
  generalize (w2.alloc (.cells (c3 (.slice pa nf qa) (.slice pb nl qb) (.slice pc nr qc)) 32)).drew = x0 at *
  refine wpAnyH_take (i := 0) (v := ?va0x37) rfl (by kernel_rfl) (by kernel_rfl) (by kernel_rfl) (fun _ _ _ h => h) (Or.inl ⟨by rfl, ?hy0x37⟩) (by assumption) ?rest0x37
  case hy0x37 => (intro w hSw; (try dsimp only at hSw); go_simp; try with_reducible rfl)
  (try simp only [Act.put, List.getElem_toArray, List.getElem_cons_zero, List.setIfInBounds_toArray, List.set_cons_zero, List.set_cons_succ])
  refine wpAnyH_take (i := 1) (v := ?va1x38) rfl (by kernel_rfl) (by kernel_rfl) (by kernel_rfl) (fun _ _ _ h => h) (Or.inl ⟨by rfl, ?hy1x38⟩) (by assumption) ?rest1x38
  case hy1x38 => (intro w hSw; (try dsimp only at hSw); go_simp; try with_reducible rfl)
  (try simp only [Act.put, List.getElem_toArray, List.getElem_cons_zero, List.getElem_cons_succ, List.setIfInBounds_toArray, List.set_cons_zero, List.set_cons_succ])
  refine wpAnyH_take (i := 2) (v := ?va2x39) rfl (by kernel_rfl) (by kernel_rfl) (by kernel_rfl) (fun _ _ _ h => h) (Or.inl ⟨by rfl, ?hy2x39⟩) (by assumption) ?rest2x39
  case hy2x39 => (intro w hSw; (try dsimp only at hSw); go_simp; try with_reducible rfl)
  (try simp only [Act.put, List.getElem_toArray, List.getElem_cons_zero, List.getElem_cons_succ, List.setIfInBounds_toArray, List.set_cons_zero, List.set_cons_succ])
  refine wpAnyH_take (i := 3) (v := ?va3x40) rfl (by kernel_rfl) (by kernel_rfl) (by kernel_rfl) (fun _ _ _ h => h) (Or.inl ⟨by rfl, ?hy3x40⟩) (by assumption) ?rest3x40
  case hy3x40 => (intro w hSw; (try dsimp only at hSw); go_simp; try with_reducible rfl)
  (try simp only [Act.put, List.getElem_toArray, List.getElem_cons_zero, List.getElem_cons_succ, List.setIfInBounds_toArray, List.set_cons_zero, List.set_cons_succ])
  refine wpAnyH_take (i := 4) (v := ?va4x41) rfl (by kernel_rfl) (by kernel_rfl) (by kernel_rfl) (fun _ _ _ h => h) (Or.inl ⟨by rfl, ?hy4x41⟩) (by assumption) ?rest4x41
  case hy4x41 => (intro w hSw; (try dsimp only at hSw); go_simp; try with_reducible rfl)
  (try simp only [Act.put, List.getElem_toArray, List.getElem_cons_zero, List.getElem_cons_succ, List.setIfInBounds_toArray, List.set_cons_zero, List.set_cons_succ])
  refine wpAnyH_take (i := 5) (v := ?va5x42) rfl (by kernel_rfl) (by kernel_rfl) (by kernel_rfl) (fun _ _ _ h => h) (Or.inl ⟨by rfl, ?hy5x42⟩) (by assumption) ?rest5x42
  case hy5x42 => (intro w hSw; (try dsimp only at hSw); go_simp; try with_reducible rfl)
  (try simp only [Act.put, List.getElem_toArray, List.getElem_cons_zero, List.getElem_cons_succ, List.setIfInBounds_toArray, List.set_cons_zero, List.set_cons_succ])
  refine wpAnyH_take (i := 6) (v := ?va6x43) rfl (by kernel_rfl) (by kernel_rfl) (by kernel_rfl) (fun _ _ _ h => h) (Or.inl ⟨by rfl, ?hy6x43⟩) (by assumption) ?rest6x43
  case hy6x43 => (intro w hSw; (try dsimp only at hSw); go_simp; try with_reducible rfl)
  (try simp only [Act.put, List.getElem_toArray, List.getElem_cons_zero, List.getElem_cons_succ, List.setIfInBounds_toArray, List.set_cons_zero, List.set_cons_succ])
  refine wpAnyH_take (i := 7) (v := ?va7x44) rfl (by kernel_rfl) (by kernel_rfl) (by kernel_rfl) (fun _ _ _ h => h) (Or.inl ⟨by rfl, ?hy7x44⟩) (by assumption) ?rest7x44
  case hy7x44 => (intro w hSw; (try dsimp only at hSw); go_simp; try with_reducible rfl)
  (try simp only [Act.put, List.getElem_toArray, List.getElem_cons_zero, List.getElem_cons_succ, List.setIfInBounds_toArray, List.set_cons_zero, List.set_cons_succ])
  refine wpAnyH_take (i := 8) (v := ?va8x45) rfl (by kernel_rfl) (by kernel_rfl) (by kernel_rfl) (fun _ _ _ h => h) (Or.inl ⟨by rfl, ?hy8x45⟩) (by assumption) ?rest8x45
  case hy8x45 => (intro w hSw; (try dsimp only at hSw); go_simp; try with_reducible rfl)
  (try simp only [Act.put, List.getElem_toArray, List.getElem_cons_zero, List.getElem_cons_succ, List.setIfInBounds_toArray, List.set_cons_zero, List.set_cons_succ])
  refine wpAnyH_take (i := 9) (v := ?va9x46) rfl (by kernel_rfl) (by kernel_rfl) (by kernel_rfl) (fun _ _ _ h => h) (Or.inl ⟨by rfl, ?hy9x46⟩) (by assumption) ?rest9x46
  case hy9x46 => (intro w hSw; (try dsimp only at hSw); go_simp; try with_reducible rfl)
  (try simp only [Act.put, List.getElem_toArray, List.getElem_cons_zero, List.getElem_cons_succ, List.setIfInBounds_toArray, List.set_cons_zero, List.set_cons_succ])
  refine wpAnyH_take (i := 10) (v := ?va10x47) rfl (by kernel_rfl) (by kernel_rfl) (by kernel_rfl) (fun _ _ _ h => h) (Or.inl ⟨by rfl, ?hy10x47⟩) (by assumption) ?rest10x47
  case hy10x47 => (intro w hSw; (try dsimp only at hSw); go_simp; try with_reducible rfl)
  (try simp only [Act.put, List.getElem_toArray, List.getElem_cons_zero, List.getElem_cons_succ, List.setIfInBounds_toArray, List.set_cons_zero, List.set_cons_succ])
  refine wpAnyH_take (i := 11) (v := ?va11x48) rfl (by kernel_rfl) (by kernel_rfl) (by kernel_rfl) (fun _ _ _ h => h) (Or.inl ⟨by rfl, ?hy11x48⟩) (by assumption) ?rest11x48
  case hy11x48 => (intro w hSw; (try dsimp only at hSw); go_simp; try with_reducible rfl)
  (try simp only [Act.put, List.getElem_toArray, List.getElem_cons_zero, List.getElem_cons_succ, List.setIfInBounds_toArray, List.set_cons_zero, List.set_cons_succ])
  refine wpAnyH_take (i := 12) (v := ?va12x49) rfl (by kernel_rfl) (by kernel_rfl) (by kernel_rfl) (fun _ _ _ h => h) (Or.inl ⟨by rfl, ?hy12x49⟩) (by assumption) ?rest12x49
  case hy12x49 => (intro w hSw; (try dsimp only at hSw); go_simp; try with_reducible rfl)
  (try simp only [Act.put, List.getElem_toArray, List.getElem_cons_zero, List.getElem_cons_succ, List.setIfInBounds_toArray, List.set_cons_zero, List.set_cons_succ])
  refine wpAnyH_take (i := 13) (v := ?va13x50) rfl (by kernel_rfl) (by kernel_rfl) (by kernel_rfl) (fun _ _ _ h => h) (Or.inl ⟨by rfl, ?hy13x50⟩) (by assumption) ?rest13x50
  case hy13x50 => (intro w hSw; (try dsimp only at hSw); go_simp; try with_reducible rfl)
  (try simp only [Act.put, List.getElem_toArray, List.getElem_cons_zero, List.getElem_cons_succ, List.setIfInBounds_toArray, List.set_cons_zero, List.set_cons_succ])
  refine wpAnyH_take (i := 14) (v := ?va14x51) rfl (by kernel_rfl) (by kernel_rfl) (by kernel_rfl) (fun _ _ _ h => h) (Or.inl ⟨by rfl, ?hy14x51⟩) (by assumption) ?rest14x51
  case hy14x51 => (intro w hSw; (try dsimp only at hSw); go_simp; try with_reducible rfl)
  (try simp only [Act.put, List.getElem_toArray, List.getElem_cons_zero, List.getElem_cons_succ, List.setIfInBounds_toArray, List.set_cons_zero, List.set_cons_succ])
  refine wpAnyH_ready (rs := [15]) (by kernel_rfl) (by simp) ?_
  refine AllReadyH.cons rfl (fun K hK => ?_) AllReadyH.nil
  have hbA := below1 x0 (.cells #[.int .i64 0, .int .i64 0] 116)
  have hbS := below_setRow (g := x0.heap.size) hbA (Nat.le_refl _) #[.int .i64 z, .int .i64 vt]
  have XW := Lib.hid (Nat.le_of_lt (Row.lt HH.out))
  have W1 := Lib.hid (Row.new x0 116 #[.int .i64 0, .int .i64 0])
  have U1 := Lib.hid (Row.below U0.out hbA); have V1 := Lib.hid (Row.below V0.out hbA)
  have QZ1 := Lib.hid (cellBelow hbA (Nat.le_refl _) QZ.out)
  have QU1 := Lib.hid (cellBelow hbA (Nat.le_refl _) QU.out)
  go_simp
  refine hK.out _ _ ⟨U1.out.cell 0, V1.out.cell 1, V1.out.cell 2, V1.out.cell 3, QU1.out, QZ1.out⟩ (fun hHeld => ?_)
  clear hK K U1 V1 QZ1 QU1
  (try simp only [Act.put, List.getElem_toArray, List.getElem_cons_zero, List.getElem_cons_succ, List.setIfInBounds_toArray, List.set_cons_zero, List.set_cons_succ])
  refine wpAnyH_ready (rs := [16]) (by kernel_rfl) (by simp) ?_
  refine AllReadyH.cons rfl (fun K hK => ?_) AllReadyH.nil
  have W2 := Lib.hid (Row.put W1.out #[.int .i64 z, .int .i64 vt])
  replace QZ := Lib.hid (cellBelow hbS (Nat.le_refl _) QZ.out)
  replace QU := Lib.hid (cellBelow hbS (Nat.le_refl _) QU.out)
  replace OH2 := Lib.hid (OH2.out.below hbS)
  replace A0 := Lib.hid (A0.out.below hbS)
  replace Z0 := Lib.hid (Z0.out.below hbS)
  replace Q0 := Lib.hid (Q0.out.below hbS)
  replace U0 := Lib.hid (Row.below U0.out hbS)
  replace V0 := Lib.hid (Row.below V0.out hbS)
  replace R0 := Lib.hid (Row.below R0.out hbS)
  replace HH := Lib.hid (Row.below HH.out hbS)
  replace L := Lib.hid (bst L.out hbS L.out.size)
  refine wp_store_row 116 _ _ rfl x0.heap.size #[.int .i64 z, .int .i64 vt] rfl rfl 116 _ W1.out info_write rfl (by simp [Value.oneCell']) ?_
  refine hK.out _ _ ⟨U0.out.cell 0, V0.out.cell 1, V0.out.cell 2, V0.out.cell 3, QU.out, QZ.out⟩ (fun hHeld => ?_)
  clear hK K W1 hbA hbS QZ QU
  (try simp only [Act.put, List.getElem_toArray, List.getElem_cons_zero, List.getElem_cons_succ])
  refine wpAnyH_done (by kernel_rfl) ?_ _
  clear hHeld
  generalize x0.heap.size = gw at *
  generalize (x0.alloc (.cells #[.int .i64 0, .int .i64 0] 116)).setRow gw #[.int .i64 z, .int .i64 vt] = x1 at *
  go_wp2_with fail
  have hb := below_drew (Below.refl x1.heap.size x1)
  replace OH2 := Lib.hid (OH2.out.below hb)
  replace A0 := Lib.hid (A0.out.below hb)
  replace Z0 := Lib.hid (Z0.out.below hb)
  replace Q0 := Lib.hid (Q0.out.below hb)
  replace U0 := Lib.hid (Row.below U0.out hb)
  replace V0 := Lib.hid (Row.below V0.out hb)
  replace R0 := Lib.hid (Row.below R0.out hb)
  replace HH := Lib.hid (Row.below HH.out hb)
  replace W2 := Lib.hid (Row.below W2.out hb)
  replace L := Lib.hid (bst L.out hb L.out.size)
  clear hb
  refine wp_region_held_drew (S := (fun w' => w'.cell? ⟨w.heap.size, 0, none⟩ = some (.slice (some ⟨fb, fo, none⟩) nff fc) ∧ w'.cell? ⟨w.heap.size, 1, none⟩ = some b ∧ w'.cell? ⟨w.heap.size, 2, none⟩ = some c ∧ w'.cell? ⟨w.heap.size, 3, none⟩ = some d ∧ w'.cell? ⟨w.heap.size, 4, none⟩ = some f ∧ w'.cell? ⟨w.heap.size, 5, none⟩ = some x ∧ w'.cell? ⟨w.heap.size, 6, none⟩ = some r ∧ w'.cell? ⟨w2.heap.size, 0, none⟩ = some (.slice pa nf qa) ∧ w'.cell? ⟨w2.heap.size, 1, none⟩ = some (.slice pb nl qb) ∧ w'.cell? ⟨w2.heap.size, 2, none⟩ = some (.slice pc nr qc) ∧ w'.cell? ⟨gw, 0, none⟩ = some (.int .i64 z) ∧ w'.cell? ⟨gw, 1, none⟩ = some (.int .i64 vt))) (by kernel_rfl) (⟨U0.out.cell 0, U0.out.cell 1, U0.out.cell 2, U0.out.cell 3, U0.out.cell 4, U0.out.cell 5, U0.out.cell 6, HH.out.cell 0, HH.out.cell 1, HH.out.cell 2, W2.out.cell 0, W2.out.cell 1⟩) (fun hHeld => ?_)
  generalize x1.drew = x2 at *
  refine wpAnyH_take (i := 0) (v := ?va0x52) rfl (by kernel_rfl) (by kernel_rfl) (by kernel_rfl) (fun _ _ _ h => h) (Or.inl ⟨by rfl, ?hy0x52⟩) (by assumption) ?rest0x52
  case hy0x52 => (intro w hSw; (try dsimp only at hSw); go_simp; try with_reducible rfl)
  (try simp only [Act.put, List.getElem_toArray, List.getElem_cons_zero, List.setIfInBounds_toArray, List.set_cons_zero, List.set_cons_succ])
  refine wpAnyH_take (i := 1) (v := ?va1x53) rfl (by kernel_rfl) (by kernel_rfl) (by kernel_rfl) (fun _ _ _ h => h) (Or.inl ⟨by rfl, ?hy1x53⟩) (by assumption) ?rest1x53
  case hy1x53 => (intro w hSw; (try dsimp only at hSw); go_simp; try with_reducible rfl)
  (try simp only [Act.put, List.getElem_toArray, List.getElem_cons_zero, List.getElem_cons_succ, List.setIfInBounds_toArray, List.set_cons_zero, List.set_cons_succ])
  refine wpAnyH_take (i := 2) (v := ?va2x54) rfl (by kernel_rfl) (by kernel_rfl) (by kernel_rfl) (fun _ _ _ h => h) (Or.inl ⟨by rfl, ?hy2x54⟩) (by assumption) ?rest2x54
  case hy2x54 => (intro w hSw; (try dsimp only at hSw); go_simp; try with_reducible rfl)
  (try simp only [Act.put, List.getElem_toArray, List.getElem_cons_zero, List.getElem_cons_succ, List.setIfInBounds_toArray, List.set_cons_zero, List.set_cons_succ])
  refine wpAnyH_take (i := 3) (v := ?va3x55) rfl (by kernel_rfl) (by kernel_rfl) (by kernel_rfl) (fun _ _ _ h => h) (Or.inl ⟨by rfl, ?hy3x55⟩) (by assumption) ?rest3x55
  case hy3x55 => (intro w hSw; (try dsimp only at hSw); go_simp; try with_reducible rfl)
  (try simp only [Act.put, List.getElem_toArray, List.getElem_cons_zero, List.getElem_cons_succ, List.setIfInBounds_toArray, List.set_cons_zero, List.set_cons_succ])
  refine wpAnyH_take (i := 4) (v := ?va4x56) rfl (by kernel_rfl) (by kernel_rfl) (by kernel_rfl) (fun _ _ _ h => h) (Or.inl ⟨by rfl, ?hy4x56⟩) (by assumption) ?rest4x56
  case hy4x56 => (intro w hSw; (try dsimp only at hSw); go_simp; try with_reducible rfl)
  (try simp only [Act.put, List.getElem_toArray, List.getElem_cons_zero, List.getElem_cons_succ, List.setIfInBounds_toArray, List.set_cons_zero, List.set_cons_succ])
  refine wpAnyH_take (i := 6) (v := ?va6x57) rfl (by kernel_rfl) (by kernel_rfl) (by kernel_rfl) (fun _ _ _ h => h) (Or.inl ⟨by rfl, ?hy6x57⟩) (by assumption) ?rest6x57
  case hy6x57 => (intro w hSw; (try dsimp only at hSw); go_simp; try with_reducible rfl)
  (try simp only [Act.put, List.getElem_toArray, List.getElem_cons_zero, List.getElem_cons_succ, List.setIfInBounds_toArray, List.set_cons_zero, List.set_cons_succ])
  refine wpAnyH_ready (rs := [5]) (by kernel_rfl) (by simp) ?_
  refine AllReadyH.cons rfl (fun K hK => ?_) AllReadyH.nil
  go_simp
  refine (c_copyInts d cs _ Z0.out (by have := HC12.out; omega)).mono ?_
  rintro e w5 ⟨d5, rfl, ho5, hb⟩
  obtain ⟨pd, qd, e4⟩ := ho5.ints.shape
  subst e4
  have XW2 : Hid (w2.heap.size ≤ x2.heap.size) := Nat.le_of_lt (Row.lt HH.out)
  have OC := Lib.hid (Own.mono ho5 XW2.out)
  clear ho5
  replace OH2 := Lib.hid (OH2.out.below hb)
  replace A0 := Lib.hid (A0.out.below hb)
  replace Z0 := Lib.hid (Z0.out.below hb)
  replace Q0 := Lib.hid (Q0.out.below hb)
  replace U0 := Lib.hid (Row.below U0.out hb)
  replace V0 := Lib.hid (Row.below V0.out hb)
  replace R0 := Lib.hid (Row.below R0.out hb)
  replace HH := Lib.hid (Row.below HH.out hb)
  replace W2 := Lib.hid (Row.below W2.out hb)
  replace L := Lib.hid (bst L.out hb L.out.size)
  clear hb
  refine hK.out _ _ ⟨U0.out.cell 0, U0.out.cell 1, U0.out.cell 2, U0.out.cell 3, U0.out.cell 4, U0.out.cell 5, U0.out.cell 6, HH.out.cell 0, HH.out.cell 1, HH.out.cell 2, W2.out.cell 0, W2.out.cell 1⟩ (fun hHeld => ?_)
  clear hK K
  (try simp only [Act.put, List.getElem_toArray, List.getElem_cons_zero, List.getElem_cons_succ, List.setIfInBounds_toArray, List.set_cons_zero, List.set_cons_succ])
  refine wpAnyH_ready (rs := [7]) (by kernel_rfl) (by simp) ?_
  refine AllReadyH.cons rfl (fun K hK => ?_) AllReadyH.nil
  go_simp
  rw [hf.out]
  refine (c_written_false w2.heap.size _ _ _ _ _ _ (.slice pa nf qa) (.slice pb nl qb) (.slice pc nr qc) (.slice pd cs.length qd) cs z vt _ OC.out HCOL.out HWS.out ⟨rfl, rfl, rfl⟩).mono ?_
  rw [← hf.out]
  rintro e w6 ⟨rfl, ho6, hg6⟩
  have U6 := Lib.hid (Row.grownBy U0.out hg6 (ne_row OC.out U0.out (by decide))); have H6 := Lib.hid (Row.grownBy HH.out hg6 (ne_row OC.out HH.out (by decide))); have W6 := Lib.hid (Row.grownBy W2.out hg6 (ne_row OC.out W2.out (by decide))); have R6 := Lib.hid (show RowM _ _ _ _ _ _ from Row.grownBy R0.out hg6 (ne_row OC.out R0.out (by decide)))
  have O6 := Lib.hid (OH2.out.chg (Chg.of_grown (lo := w2.heap.size) (hi := w5.heap.size) hg6 (fun g' e => owns_lt OC.out e)) (.inl (Nat.le_refl _)))
  have L6 := Lib.hid (L.out.grown hg6 L.out.size (fun g' e => by have := (owns_lt OC.out e).1; have := SZ1.out; have := SZ2.out; omega))
  have C6 := Lib.hid ho6
  have SW6 : Hid (w2.heap.size ≤ w6.heap.size) := (by unfold Hid; have := hg6.size; have := Row.lt HH.out; omega)
  clear ho6 hg6
  refine hK.out _ _ ⟨U6.out.cell 0, U6.out.cell 1, U6.out.cell 2, U6.out.cell 3, U6.out.cell 4, U6.out.cell 5, U6.out.cell 6, H6.out.cell 0, H6.out.cell 1, H6.out.cell 2, W6.out.cell 0, W6.out.cell 1⟩ (fun hHeld => ?_)
  clear hK K
  (try simp only [Act.put, List.getElem_toArray, List.getElem_cons_zero, List.getElem_cons_succ, List.setIfInBounds_toArray, List.set_cons_zero, List.set_cons_succ])
  refine wpAnyH_ready (rs := [8]) (by kernel_rfl) (by simp) ?_
  refine AllReadyH.cons rfl (fun K hK => ?_) AllReadyH.nil
  have nU : w.heap.size ≠ w.heap.size + 1 + 1 := by omega
  have nH : w2.heap.size ≠ w.heap.size + 1 + 1 := rows_ne H6.out R6.out (by decide)
  have nW : gw ≠ w.heap.size + 1 + 1 := rows_ne W6.out R6.out (by decide)
  have U8 := Lib.hid (Row.putOther U6.out (m4 (.slice pa nf qa) (.slice pb nl qb) (.slice pc nr qc) (.slice pd cs.length qd)) nU); have H8 := Lib.hid (Row.putOther H6.out (m4 (.slice pa nf qa) (.slice pb nl qb) (.slice pc nr qc) (.slice pd cs.length qd)) nH); have W8 := Lib.hid (Row.putOther W6.out (m4 (.slice pa nf qa) (.slice pb nl qb) (.slice pc nr qc) (.slice pd cs.length qd)) nW)
  refine wp_store_row 34 _ _ rfl (w.heap.size + 1 + 1) (m4 (.slice pa nf qa) (.slice pb nl qb) (.slice pc nr qc) (.slice pd cs.length qd)) rfl rfl 34 _ R6.out info_marking rfl (by simp [Value.oneCell']) ?_
  refine hK.out _ _ ⟨U8.out.cell 0, U8.out.cell 1, U8.out.cell 2, U8.out.cell 3, U8.out.cell 4, U8.out.cell 5, U8.out.cell 6, H8.out.cell 0, H8.out.cell 1, H8.out.cell 2, W8.out.cell 0, W8.out.cell 1⟩ (fun hHeld => ?_)
  clear hK K
  (try simp only [Act.put, List.getElem_toArray, List.getElem_cons_zero, List.getElem_cons_succ])
  refine wpAnyH_take (i := 9) (v := ?va9x58) rfl (by kernel_rfl) (by kernel_rfl) (by kernel_rfl) (fun _ _ _ h => h) (Or.inl ⟨by rfl, ?hy9x58⟩) (by assumption) ?rest9x58
  case hy9x58 => (intro w hSw; (try dsimp only at hSw); go_simp; try with_reducible rfl)
  (try simp only [Act.put, List.getElem_toArray, List.getElem_cons_zero, List.getElem_cons_succ, List.setIfInBounds_toArray, List.set_cons_zero, List.set_cons_succ])
  refine wpAnyH_done (by kernel_rfl) ?_ _
  clear hHeld
  go_wp2_with fail
  refine bodyPost_ret (res_row_slot Try.results185 (Row.put R6.out (m4 (.slice pa nf qa) (.slice pb nl qb) (.slice pc nr qc) (.slice pd cs.length qd))) rfl rfl Try.underlying34 rfl info_marking) rfl (endM_yes (below_setRow L6.out (by omega) _) ((OwnM.hc O6.out (OwnC.ofOwn C6.out SW6.out) SZ2.out SW6.out).whole (w.heap.size + 1 + 1) SZ1.out _) (by have := SZ1.out; omega) (by rw [size_setRow]; exact Nat.le_refl _) (by rw [HE.out]; rfl) (by rw [HE.out, HZZ.out]; rfl) HE.out)
set_option maxHeartbeats 6400000 in
set_option maxRecDepth 100000 in
theorem c_msetField_true (a b c d x r : Value) (h : H) (cs : List Int) (rs : List Bool) (v : Mv) (w : World) (hA : HeapAt w a b c h) (hC : IntsAt w d cs) (hQ : BoolsAt w r rs) (hB : bothB h cs = true) : Calls Try.prog 185 #[mu a b c d (.func (.func 94) #[] #[]) x r, mo v] w (EndM (outH (liveB rs v.a && refB rs v.t && setFOk h v.a v.b v.t) (setF h v.a v.b v.t)) (outC (liveB rs v.a && refB rs v.t && setFOk h v.a v.b v.t) (shade cs (barZ true ((h.f.getD v.a.toNat []).getD v.b.toNat 0) v.t))) (liveB rs v.a && refB rs v.t && setFOk h v.a v.b v.t) w) := by
  have HF : ∃ f : Value, Hid (f = .func (.func 94) #[] #[]) := ⟨_, rfl⟩
  obtain ⟨f, hf⟩ := HF
  rw [← hf.out]
  have b0 := ((below1 w (.cells (mu7 a b c d f x r) 164)).alloc (by simp) (.cells (mo4 v) 38)).alloc (by simp; omega) (.cells (m4 nilS nilS nilS nilS) 34)
  have A0 := Lib.hid (hA.below b0); have Z0 := Lib.hid (hC.below b0); have Q0 := Lib.hid (hQ.below b0)
  have L := Lib.hid b0
  have U0 := Lib.hid (show Row _ w.heap.size 164 (mu7 a b c d f x r) from ((Row.new w 164 (mu7 a b c d f x r)).alloc (.cells (mo4 v) 38)).alloc (.cells (m4 nilS nilS nilS nilS) 34))
  have V0 := Lib.hid (show Row _ (w.heap.size + 1) 38 (mo4 v) from (Row.new1 w (.cells (mu7 a b c d f x r) 164) 38 (mo4 v)).alloc (.cells (m4 nilS nilS nilS nilS) 34))
  have R0 := Lib.hid (show RowM _ (w.heap.size + 1 + 1) nilS nilS nilS nilS from Row.new2 w (.cells (mu7 a b c d f x r) 164) (.cells (mo4 v) 38) 34 (m4 nilS nilS nilS nilS))
  obtain ⟨hG, hl, hcol⟩ := bothB_iff.1 hB
  have HG := Lib.hid hG; have HLN := Lib.hid hl; have HCOL := Lib.hid hcol
  have HC12 : Hid (cs.length ≤ 12) := by unfold Hid; rw [hl]; exact hG.n
  clear hA hC hQ hB b0 hG hl hcol
  obtain ⟨vk, va, vb, vt⟩ := v
  simp only
  have HM1 := Lib.hid (fun w' q => c_mayStore a b c d f x r rs vt w' q)
  have HI1 := Lib.hid (fun w' q => c_isReached a b c d f x r rs va w' q)
  have HS1 := Lib.hid (fun w' q => c_SetField a b c h va vb vt w' q)
  have HOKK : Hid (setFOk h va vb vt = true → (0 ≤ va ∧ va.toNat < h.f.length ∧ 0 ≤ vb ∧ vb.toNat < (h.f.getD va.toNat []).length) ∧ refB h.l vt = true) := fun q => by
    obtain ⟨tn, fn, e1, e2, q1, q2, _⟩ := setF_facts q
    unfold setFOk at q
    simp only [Bool.and_eq_true] at q
    subst e1; subst e2; simp only [Int.toNat_natCast]; exact ⟨⟨by omega, q1, by omega, q2⟩, q.2⟩
  generalize hkk : (liveB rs va && refB rs vt && setFOk h va vb vt) = ok at *
  have HK := Lib.hid hkk; clear hkk
  generalize setF h va vb vt = hX at *
  generalize refB rs vt = k1 at *
  generalize liveB rs va = k2 at *
  generalize setFOk h va vb vt = k3 at *
  have qU00 := U0.out.cell 0
  have qU01 := U0.out.cell 1
  have qU02 := U0.out.cell 2
  have qU03 := U0.out.cell 3
  have qU04 := U0.out.cell 4
  have qU05 := U0.out.cell 5
  have qU06 := U0.out.cell 6
  have qV00 := V0.out.cell 0
  have qV01 := V0.out.cell 1
  have qV02 := V0.out.cell 2
  have qV03 := V0.out.cell 3
  go_enter Try.func185, Try.ntmps185
  go_wp2_with fail
  clear qU00 qU01 qU02 qU03 qU04 qU05 qU06 qV00 qV01 qV02 qV03
  refine (HI1.out _ Q0.out).mono ?_
  rintro e w0 ⟨rfl, hb⟩
  replace A0 := Lib.hid (A0.out.below hb)
  replace Z0 := Lib.hid (Z0.out.below hb)
  replace Q0 := Lib.hid (Q0.out.below hb)
  replace U0 := Lib.hid (Row.below U0.out hb)
  replace V0 := Lib.hid (Row.below V0.out hb)
  replace R0 := Lib.hid (Row.below R0.out hb)
  replace L := Lib.hid (bst L.out hb L.out.size)
  clear hb
  cases k2
  · have HE : Hid (ok = false) := by unfold Hid; rw [← HK.out]; rfl
    go_wp2_with (refine wl_storeM rfl _ _ rfl (w.heap.size + 1 + 1) nilS nilS nilS nilS _ _ _ _ R0.out rfl rfl rfl rfl rfl rfl ?_)
    refine bodyPost_ret (res_row_slot Try.results185 (Row.put R0.out (m4 nilS nilS nilS nilS)) rfl rfl Try.underlying34 rfl info_marking) rfl (endM_none (below_setRow L.out (by omega) _) (by rw [HE.out]; rfl) (by rw [HE.out]; rfl) HE.out)
  have qU00 := U0.out.cell 0
  have qU01 := U0.out.cell 1
  have qU02 := U0.out.cell 2
  have qU03 := U0.out.cell 3
  have qU04 := U0.out.cell 4
  have qU05 := U0.out.cell 5
  have qU06 := U0.out.cell 6
  have qV00 := V0.out.cell 0
  have qV01 := V0.out.cell 1
  have qV02 := V0.out.cell 2
  have qV03 := V0.out.cell 3
  go_wp2_with fail
  clear qU00 qU01 qU02 qU03 qU04 qU05 qU06 qV00 qV01 qV02 qV03
  refine (HM1.out _ Q0.out).mono ?_
  rintro e w1 ⟨rfl, hb⟩
  replace A0 := Lib.hid (A0.out.below hb)
  replace Z0 := Lib.hid (Z0.out.below hb)
  replace Q0 := Lib.hid (Q0.out.below hb)
  replace U0 := Lib.hid (Row.below U0.out hb)
  replace V0 := Lib.hid (Row.below V0.out hb)
  replace R0 := Lib.hid (Row.below R0.out hb)
  replace L := Lib.hid (bst L.out hb L.out.size)
  clear hb
  cases k1
  · have HE : Hid (ok = false) := by unfold Hid; rw [← HK.out]; rfl
    go_wp2_with (refine wl_storeM rfl _ _ rfl (w.heap.size + 1 + 1) nilS nilS nilS nilS _ _ _ _ R0.out rfl rfl rfl rfl rfl rfl ?_)
    refine bodyPost_ret (res_row_slot Try.results185 (Row.put R0.out (m4 nilS nilS nilS nilS)) rfl rfl Try.underlying34 rfl info_marking) rfl (endM_none (below_setRow L.out (by omega) _) (by rw [HE.out]; rfl) (by rw [HE.out]; rfl) HE.out)
  have qU00 := U0.out.cell 0
  have qU01 := U0.out.cell 1
  have qU02 := U0.out.cell 2
  have qV00 := V0.out.cell 0
  have qV01 := V0.out.cell 1
  have qV02 := V0.out.cell 2
  have qV03 := V0.out.cell 3
  go_wp2_with fail
  clear qU00 qU01 qU02 qV00 qV01 qV02 qV03
  have SZ1 : Hid (w.heap.size + 1 + 1 < w1.heap.size) := Row.lt R0.out
  refine (HS1.out _ A0.out).mono ?_
  intro e w2 hend
  obtain ⟨a2, b2, c2, rfl, ho, hb⟩ := hend
  obtain ⟨⟨pa, qa, e1⟩, ⟨pb, qb, e2⟩, ⟨pc, qc, e3⟩⟩ := ho.shapes
  subst e1 e2 e3
  replace A0 := Lib.hid (A0.out.below hb)
  replace Z0 := Lib.hid (Z0.out.below hb)
  replace Q0 := Lib.hid (Q0.out.below hb)
  replace U0 := Lib.hid (Row.below U0.out hb)
  replace V0 := Lib.hid (Row.below V0.out hb)
  replace R0 := Lib.hid (Row.below R0.out hb)
  replace L := Lib.hid (bst L.out hb L.out.size)
  have SZ2 : Hid (w1.heap.size ≤ w2.heap.size) := hb.size
  have OH := Lib.hid ho
  clear hb ho
  generalize hX.f.length = nf at *
  generalize hX.l.length = nl at *
  generalize hX.r.length = nr at *
  have hb := below1 w2 (.cells (c3 (.slice pa nf qa) (.slice pb nl qb) (.slice pc nr qc)) 32)
  have HH := Lib.hid (show RowH _ w2.heap.size (.slice pa nf qa) (.slice pb nl qb) (.slice pc nr qc) from Row.new w2 32 (c3 (.slice pa nf qa) (.slice pb nl qb) (.slice pc nr qc)))
  have OH2 := Lib.hid (OH.out.below hb)
  clear OH
  replace A0 := Lib.hid (A0.out.below hb)
  replace Z0 := Lib.hid (Z0.out.below hb)
  replace Q0 := Lib.hid (Q0.out.below hb)
  replace U0 := Lib.hid (Row.below U0.out hb)
  replace V0 := Lib.hid (Row.below V0.out hb)
  replace R0 := Lib.hid (Row.below R0.out hb)
  replace L := Lib.hid (bst L.out hb L.out.size)
  clear hb
  cases k3
  · have HE : Hid (ok = false) := by unfold Hid; rw [← HK.out]; rfl
    go_wp2_with (refine wl_storeM rfl _ _ rfl (w.heap.size + 1 + 1) nilS nilS nilS nilS _ _ _ _ R0.out rfl rfl rfl rfl rfl rfl ?_)
    refine bodyPost_ret (res_row_slot Try.results185 (Row.put R0.out (m4 nilS nilS nilS nilS)) rfl rfl Try.underlying34 rfl info_marking) rfl (endM_none (below_setRow L.out (by omega) _) (by rw [HE.out]; rfl) (by rw [HE.out]; rfl) HE.out)
  have HE : Hid (ok = true) := by unfold Hid; rw [← HK.out]; rfl
  obtain ⟨hi, href⟩ := HOKK.out rfl
  clear HOKK HK
  obtain ⟨i0, i1, i2, i3⟩ := hi
  obtain ⟨k, rfl⟩ : ∃ k : Nat, va = k := ⟨va.toNat, by omega⟩
  obtain ⟨m, rfl⟩ : ∃ k : Nat, vb = k := ⟨vb.toNat, by omega⟩
  simp only [Int.toNat_natCast] at i1 i3 ⊢
  have HWS : Hid (inR cs.length ((h.f.getD k []).getD m 0)) := by unfold Hid; rw [HLN.out]; exact field_in HG.out i3
  have HTS : Hid (inR cs.length vt) := by unfold Hid; rw [HLN.out]; exact ref_in HG.out href
  obtain ⟨fa, fc, hfs⟩ := A0.out.f.shape
  subst hfs
  obtain ⟨fb, fo, rfl, hcf⟩ := A0.out.f.at' (by omega)
  obtain ⟨u, qu, hu⟩ := hcf k i1
  obtain ⟨ra, rc, rfl⟩ := hu.shape
  obtain ⟨rb, ro, rfl, hcr⟩ := hu.at' (by omega)
  have qz := hcr m i3
  have j1 : (k : Int) < (h.f.length : Int) := by omega
  have j0 : (0 : Int) ≤ (k : Int) := by omega
  have j3 : (m : Int) < ((h.f.getD k []).length : Int) := by omega
  have j2 : (0 : Int) ≤ (m : Int) := by omega
  clear hcr hcf hu href i0 i1 i2 i3
  generalize hzz : (h.f.getD k []).getD m 0 = z at *
  have HZZ : Hid ((h.f.getD (k : Int).toNat []).getD (m : Int).toNat 0 = z) := by unfold Hid; rw [Int.toNat_natCast, Int.toNat_natCast]; exact hzz
  clear hzz
  generalize (h.f.getD k []).length = nrr at *
  generalize h.f.length = nff at *
  have QZ := Lib.hid qz; clear qz
  have QU := Lib.hid qu; clear qu
  go_wp2_with fail
  have hb := below_drew (Below.refl (w2.alloc (.cells (c3 (.slice pa nf qa) (.slice pb nl qb) (.slice pc nr qc)) 32)).heap.size (w2.alloc (.cells (c3 (.slice pa nf qa) (.slice pb nl qb) (.slice pc nr qc)) 32)))
  replace QZ := Lib.hid (cellBelow hb (Nat.le_refl _) QZ.out)
  replace QU := Lib.hid (cellBelow hb (Nat.le_refl _) QU.out)
  replace OH2 := Lib.hid (OH2.out.below hb)
  replace A0 := Lib.hid (A0.out.below hb)
  replace Z0 := Lib.hid (Z0.out.below hb)
  replace Q0 := Lib.hid (Q0.out.below hb)
  replace U0 := Lib.hid (Row.below U0.out hb)
  replace V0 := Lib.hid (Row.below V0.out hb)
  replace R0 := Lib.hid (Row.below R0.out hb)
  replace HH := Lib.hid (Row.below HH.out hb)
  replace L := Lib.hid (bst L.out hb L.out.size)
  clear hb
  refine wp_region_held_drew (S := (fun w' => w'.cell? ⟨w.heap.size, 0, none⟩ = some (.slice (some ⟨fb, fo, none⟩) nff fc) ∧ w'.cell? ⟨(w.heap.size + 1), 1, none⟩ = some (.int .i64 (k : Int)) ∧ w'.cell? ⟨(w.heap.size + 1), 2, none⟩ = some (.int .i64 (m : Int)) ∧ w'.cell? ⟨(w.heap.size + 1), 3, none⟩ = some (.int .i64 vt) ∧ w'.cell? ⟨fb, fo + k, none⟩ = some (.slice (some ⟨rb, ro, none⟩) nrr rc) ∧ w'.cell? ⟨rb, ro + m, none⟩ = some (.int .i64 z))) (by kernel_rfl) (⟨U0.out.cell 0, V0.out.cell 1, V0.out.cell 2, V0.out.cell 3, QU.out, QZ.out⟩) (fun hHeld => ?_)
  generalize (w2.alloc (.cells (c3 (.slice pa nf qa) (.slice pb nl qb) (.slice pc nr qc)) 32)).drew = x0 at *
  refine wpAnyH_take (i := 0) (v := ?va0x59) rfl (by kernel_rfl) (by kernel_rfl) (by kernel_rfl) (fun _ _ _ h => h) (Or.inl ⟨by rfl, ?hy0x59⟩) (by assumption) ?rest0x59
  case hy0x59 => (intro w hSw; (try dsimp only at hSw); go_simp; try with_reducible rfl)
  (try simp only [Act.put, List.getElem_toArray, List.getElem_cons_zero, List.setIfInBounds_toArray, List.set_cons_zero, List.set_cons_succ])
  refine wpAnyH_take (i := 1) (v := ?va1x60) rfl (by kernel_rfl) (by kernel_rfl) (by kernel_rfl) (fun _ _ _ h => h) (Or.inl ⟨by rfl, ?hy1x60⟩) (by assumption) ?rest1x60
  case hy1x60 => (intro w hSw; (try dsimp only at hSw); go_simp; try with_reducible rfl)
  (try simp only [Act.put, List.getElem_toArray, List.getElem_cons_zero, List.getElem_cons_succ, List.setIfInBounds_toArray, List.set_cons_zero, List.set_cons_succ])
  refine wpAnyH_take (i := 2) (v := ?va2x61) rfl (by kernel_rfl) (by kernel_rfl) (by kernel_rfl) (fun _ _ _ h => h) (Or.inl ⟨by rfl, ?hy2x61⟩) (by assumption) ?rest2x61
  case hy2x61 => (intro w hSw; (try dsimp only at hSw); go_simp; try with_reducible rfl)
  (try simp only [Act.put, List.getElem_toArray, List.getElem_cons_zero, List.getElem_cons_succ, List.setIfInBounds_toArray, List.set_cons_zero, List.set_cons_succ])
  refine wpAnyH_take (i := 3) (v := ?va3x62) rfl (by kernel_rfl) (by kernel_rfl) (by kernel_rfl) (fun _ _ _ h => h) (Or.inl ⟨by rfl, ?hy3x62⟩) (by assumption) ?rest3x62
  case hy3x62 => (intro w hSw; (try dsimp only at hSw); go_simp; try with_reducible rfl)
  (try simp only [Act.put, List.getElem_toArray, List.getElem_cons_zero, List.getElem_cons_succ, List.setIfInBounds_toArray, List.set_cons_zero, List.set_cons_succ])
  refine wpAnyH_take (i := 4) (v := ?va4x63) rfl (by kernel_rfl) (by kernel_rfl) (by kernel_rfl) (fun _ _ _ h => h) (Or.inl ⟨by rfl, ?hy4x63⟩) (by assumption) ?rest4x63
  case hy4x63 => (intro w hSw; (try dsimp only at hSw); go_simp; try with_reducible rfl)
  (try simp only [Act.put, List.getElem_toArray, List.getElem_cons_zero, List.getElem_cons_succ, List.setIfInBounds_toArray, List.set_cons_zero, List.set_cons_succ])
  refine wpAnyH_take (i := 5) (v := ?va5x64) rfl (by kernel_rfl) (by kernel_rfl) (by kernel_rfl) (fun _ _ _ h => h) (Or.inl ⟨by rfl, ?hy5x64⟩) (by assumption) ?rest5x64
  case hy5x64 => (intro w hSw; (try dsimp only at hSw); go_simp; try with_reducible rfl)
  (try simp only [Act.put, List.getElem_toArray, List.getElem_cons_zero, List.getElem_cons_succ, List.setIfInBounds_toArray, List.set_cons_zero, List.set_cons_succ])
  refine wpAnyH_take (i := 6) (v := ?va6x65) rfl (by kernel_rfl) (by kernel_rfl) (by kernel_rfl) (fun _ _ _ h => h) (Or.inl ⟨by rfl, ?hy6x65⟩) (by assumption) ?rest6x65
  case hy6x65 => (intro w hSw; (try dsimp only at hSw); go_simp; try with_reducible rfl)
  (try simp only [Act.put, List.getElem_toArray, List.getElem_cons_zero, List.getElem_cons_succ, List.setIfInBounds_toArray, List.set_cons_zero, List.set_cons_succ])
  refine wpAnyH_take (i := 7) (v := ?va7x66) rfl (by kernel_rfl) (by kernel_rfl) (by kernel_rfl) (fun _ _ _ h => h) (Or.inl ⟨by rfl, ?hy7x66⟩) (by assumption) ?rest7x66
  case hy7x66 => (intro w hSw; (try dsimp only at hSw); go_simp; try with_reducible rfl)
  (try simp only [Act.put, List.getElem_toArray, List.getElem_cons_zero, List.getElem_cons_succ, List.setIfInBounds_toArray, List.set_cons_zero, List.set_cons_succ])
  refine wpAnyH_take (i := 8) (v := ?va8x67) rfl (by kernel_rfl) (by kernel_rfl) (by kernel_rfl) (fun _ _ _ h => h) (Or.inl ⟨by rfl, ?hy8x67⟩) (by assumption) ?rest8x67
  case hy8x67 => (intro w hSw; (try dsimp only at hSw); go_simp; try with_reducible rfl)
  (try simp only [Act.put, List.getElem_toArray, List.getElem_cons_zero, List.getElem_cons_succ, List.setIfInBounds_toArray, List.set_cons_zero, List.set_cons_succ])
  refine wpAnyH_take (i := 9) (v := ?va9x68) rfl (by kernel_rfl) (by kernel_rfl) (by kernel_rfl) (fun _ _ _ h => h) (Or.inl ⟨by rfl, ?hy9x68⟩) (by assumption) ?rest9x68
  case hy9x68 => (intro w hSw; (try dsimp only at hSw); go_simp; try with_reducible rfl)
  (try simp only [Act.put, List.getElem_toArray, List.getElem_cons_zero, List.getElem_cons_succ, List.setIfInBounds_toArray, List.set_cons_zero, List.set_cons_succ])
  refine wpAnyH_take (i := 10) (v := ?va10x69) rfl (by kernel_rfl) (by kernel_rfl) (by kernel_rfl) (fun _ _ _ h => h) (Or.inl ⟨by rfl, ?hy10x69⟩) (by assumption) ?rest10x69
  case hy10x69 => (intro w hSw; (try dsimp only at hSw); go_simp; try with_reducible rfl)
  (try simp only [Act.put, List.getElem_toArray, List.getElem_cons_zero, List.getElem_cons_succ, List.setIfInBounds_toArray, List.set_cons_zero, List.set_cons_succ])
  refine wpAnyH_take (i := 11) (v := ?va11x70) rfl (by kernel_rfl) (by kernel_rfl) (by kernel_rfl) (fun _ _ _ h => h) (Or.inl ⟨by rfl, ?hy11x70⟩) (by assumption) ?rest11x70
  case hy11x70 => (intro w hSw; (try dsimp only at hSw); go_simp; try with_reducible rfl)
  (try simp only [Act.put, List.getElem_toArray, List.getElem_cons_zero, List.getElem_cons_succ, List.setIfInBounds_toArray, List.set_cons_zero, List.set_cons_succ])
  refine wpAnyH_take (i := 12) (v := ?va12x71) rfl (by kernel_rfl) (by kernel_rfl) (by kernel_rfl) (fun _ _ _ h => h) (Or.inl ⟨by rfl, ?hy12x71⟩) (by assumption) ?rest12x71
  case hy12x71 => (intro w hSw; (try dsimp only at hSw); go_simp; try with_reducible rfl)
  (try simp only [Act.put, List.getElem_toArray, List.getElem_cons_zero, List.getElem_cons_succ, List.setIfInBounds_toArray, List.set_cons_zero, List.set_cons_succ])
  refine wpAnyH_take (i := 13) (v := ?va13x72) rfl (by kernel_rfl) (by kernel_rfl) (by kernel_rfl) (fun _ _ _ h => h) (Or.inl ⟨by rfl, ?hy13x72⟩) (by assumption) ?rest13x72
  case hy13x72 => (intro w hSw; (try dsimp only at hSw); go_simp; try with_reducible rfl)
  (try simp only [Act.put, List.getElem_toArray, List.getElem_cons_zero, List.getElem_cons_succ, List.setIfInBounds_toArray, List.set_cons_zero, List.set_cons_succ])
  refine wpAnyH_take (i := 14) (v := ?va14x73) rfl (by kernel_rfl) (by kernel_rfl) (by kernel_rfl) (fun _ _ _ h => h) (Or.inl ⟨by rfl, ?hy14x73⟩) (by assumption) ?rest14x73
  case hy14x73 => (intro w hSw; (try dsimp only at hSw); go_simp; try with_reducible rfl)
  (try simp only [Act.put, List.getElem_toArray, List.getElem_cons_zero, List.getElem_cons_succ, List.setIfInBounds_toArray, List.set_cons_zero, List.set_cons_succ])
  refine wpAnyH_ready (rs := [15]) (by kernel_rfl) (by simp) ?_
  refine AllReadyH.cons rfl (fun K hK => ?_) AllReadyH.nil
  have hbA := below1 x0 (.cells #[.int .i64 0, .int .i64 0] 116)
  have hbS := below_setRow (g := x0.heap.size) hbA (Nat.le_refl _) #[.int .i64 z, .int .i64 vt]
  have XW := Lib.hid (Nat.le_of_lt (Row.lt HH.out))
  have W1 := Lib.hid (Row.new x0 116 #[.int .i64 0, .int .i64 0])
  have U1 := Lib.hid (Row.below U0.out hbA); have V1 := Lib.hid (Row.below V0.out hbA)
  have QZ1 := Lib.hid (cellBelow hbA (Nat.le_refl _) QZ.out)
  have QU1 := Lib.hid (cellBelow hbA (Nat.le_refl _) QU.out)
  go_simp
  refine hK.out _ _ ⟨U1.out.cell 0, V1.out.cell 1, V1.out.cell 2, V1.out.cell 3, QU1.out, QZ1.out⟩ (fun hHeld => ?_)
  clear hK K U1 V1 QZ1 QU1
  (try simp only [Act.put, List.getElem_toArray, List.getElem_cons_zero, List.getElem_cons_succ, List.setIfInBounds_toArray, List.set_cons_zero, List.set_cons_succ])
  refine wpAnyH_ready (rs := [16]) (by kernel_rfl) (by simp) ?_
  refine AllReadyH.cons rfl (fun K hK => ?_) AllReadyH.nil
  have W2 := Lib.hid (Row.put W1.out #[.int .i64 z, .int .i64 vt])
  replace QZ := Lib.hid (cellBelow hbS (Nat.le_refl _) QZ.out)
  replace QU := Lib.hid (cellBelow hbS (Nat.le_refl _) QU.out)
  replace OH2 := Lib.hid (OH2.out.below hbS)
  replace A0 := Lib.hid (A0.out.below hbS)
  replace Z0 := Lib.hid (Z0.out.below hbS)
  replace Q0 := Lib.hid (Q0.out.below hbS)
  replace U0 := Lib.hid (Row.below U0.out hbS)
  replace V0 := Lib.hid (Row.below V0.out hbS)
  replace R0 := Lib.hid (Row.below R0.out hbS)
  replace HH := Lib.hid (Row.below HH.out hbS)
  replace L := Lib.hid (bst L.out hbS L.out.size)
  refine wp_store_row 116 _ _ rfl x0.heap.size #[.int .i64 z, .int .i64 vt] rfl rfl 116 _ W1.out info_write rfl (by simp [Value.oneCell']) ?_
  refine hK.out _ _ ⟨U0.out.cell 0, V0.out.cell 1, V0.out.cell 2, V0.out.cell 3, QU.out, QZ.out⟩ (fun hHeld => ?_)
  clear hK K W1 hbA hbS QZ QU
  (try simp only [Act.put, List.getElem_toArray, List.getElem_cons_zero, List.getElem_cons_succ])
  refine wpAnyH_done (by kernel_rfl) ?_ _
  clear hHeld
  generalize x0.heap.size = gw at *
  generalize (x0.alloc (.cells #[.int .i64 0, .int .i64 0] 116)).setRow gw #[.int .i64 z, .int .i64 vt] = x1 at *
  go_wp2_with fail
  have hb := below_drew (Below.refl x1.heap.size x1)
  replace OH2 := Lib.hid (OH2.out.below hb)
  replace A0 := Lib.hid (A0.out.below hb)
  replace Z0 := Lib.hid (Z0.out.below hb)
  replace Q0 := Lib.hid (Q0.out.below hb)
  replace U0 := Lib.hid (Row.below U0.out hb)
  replace V0 := Lib.hid (Row.below V0.out hb)
  replace R0 := Lib.hid (Row.below R0.out hb)
  replace HH := Lib.hid (Row.below HH.out hb)
  replace W2 := Lib.hid (Row.below W2.out hb)
  replace L := Lib.hid (bst L.out hb L.out.size)
  clear hb
  refine wp_region_held_drew (S := (fun w' => w'.cell? ⟨w.heap.size, 0, none⟩ = some (.slice (some ⟨fb, fo, none⟩) nff fc) ∧ w'.cell? ⟨w.heap.size, 1, none⟩ = some b ∧ w'.cell? ⟨w.heap.size, 2, none⟩ = some c ∧ w'.cell? ⟨w.heap.size, 3, none⟩ = some d ∧ w'.cell? ⟨w.heap.size, 4, none⟩ = some f ∧ w'.cell? ⟨w.heap.size, 5, none⟩ = some x ∧ w'.cell? ⟨w.heap.size, 6, none⟩ = some r ∧ w'.cell? ⟨w2.heap.size, 0, none⟩ = some (.slice pa nf qa) ∧ w'.cell? ⟨w2.heap.size, 1, none⟩ = some (.slice pb nl qb) ∧ w'.cell? ⟨w2.heap.size, 2, none⟩ = some (.slice pc nr qc) ∧ w'.cell? ⟨gw, 0, none⟩ = some (.int .i64 z) ∧ w'.cell? ⟨gw, 1, none⟩ = some (.int .i64 vt))) (by kernel_rfl) (⟨U0.out.cell 0, U0.out.cell 1, U0.out.cell 2, U0.out.cell 3, U0.out.cell 4, U0.out.cell 5, U0.out.cell 6, HH.out.cell 0, HH.out.cell 1, HH.out.cell 2, W2.out.cell 0, W2.out.cell 1⟩) (fun hHeld => ?_)
  generalize x1.drew = x2 at *
  refine wpAnyH_take (i := 0) (v := ?va0x74) rfl (by kernel_rfl) (by kernel_rfl) (by kernel_rfl) (fun _ _ _ h => h) (Or.inl ⟨by rfl, ?hy0x74⟩) (by assumption) ?rest0x74
  case hy0x74 => (intro w hSw; (try dsimp only at hSw); go_simp; try with_reducible rfl)
  (try simp only [Act.put, List.getElem_toArray, List.getElem_cons_zero, List.setIfInBounds_toArray, List.set_cons_zero, List.set_cons_succ])
  refine wpAnyH_take (i := 1) (v := ?va1x75) rfl (by kernel_rfl) (by kernel_rfl) (by kernel_rfl) (fun _ _ _ h => h) (Or.inl ⟨by rfl, ?hy1x75⟩) (by assumption) ?rest1x75
  case hy1x75 => (intro w hSw; (try dsimp only at hSw); go_simp; try with_reducible rfl)
  (try simp only [Act.put, List.getElem_toArray, List.getElem_cons_zero, List.getElem_cons_succ, List.setIfInBounds_toArray, List.set_cons_zero, List.set_cons_succ])
  refine wpAnyH_take (i := 2) (v := ?va2x76) rfl (by kernel_rfl) (by kernel_rfl) (by kernel_rfl) (fun _ _ _ h => h) (Or.inl ⟨by rfl, ?hy2x76⟩) (by assumption) ?rest2x76
  case hy2x76 => (intro w hSw; (try dsimp only at hSw); go_simp; try with_reducible rfl)
  (try simp only [Act.put, List.getElem_toArray, List.getElem_cons_zero, List.getElem_cons_succ, List.setIfInBounds_toArray, List.set_cons_zero, List.set_cons_succ])
  refine wpAnyH_take (i := 3) (v := ?va3x77) rfl (by kernel_rfl) (by kernel_rfl) (by kernel_rfl) (fun _ _ _ h => h) (Or.inl ⟨by rfl, ?hy3x77⟩) (by assumption) ?rest3x77
  case hy3x77 => (intro w hSw; (try dsimp only at hSw); go_simp; try with_reducible rfl)
  (try simp only [Act.put, List.getElem_toArray, List.getElem_cons_zero, List.getElem_cons_succ, List.setIfInBounds_toArray, List.set_cons_zero, List.set_cons_succ])
  refine wpAnyH_take (i := 4) (v := ?va4x78) rfl (by kernel_rfl) (by kernel_rfl) (by kernel_rfl) (fun _ _ _ h => h) (Or.inl ⟨by rfl, ?hy4x78⟩) (by assumption) ?rest4x78
  case hy4x78 => (intro w hSw; (try dsimp only at hSw); go_simp; try with_reducible rfl)
  (try simp only [Act.put, List.getElem_toArray, List.getElem_cons_zero, List.getElem_cons_succ, List.setIfInBounds_toArray, List.set_cons_zero, List.set_cons_succ])
  refine wpAnyH_take (i := 6) (v := ?va6x79) rfl (by kernel_rfl) (by kernel_rfl) (by kernel_rfl) (fun _ _ _ h => h) (Or.inl ⟨by rfl, ?hy6x79⟩) (by assumption) ?rest6x79
  case hy6x79 => (intro w hSw; (try dsimp only at hSw); go_simp; try with_reducible rfl)
  (try simp only [Act.put, List.getElem_toArray, List.getElem_cons_zero, List.getElem_cons_succ, List.setIfInBounds_toArray, List.set_cons_zero, List.set_cons_succ])
  refine wpAnyH_ready (rs := [5]) (by kernel_rfl) (by simp) ?_
  refine AllReadyH.cons rfl (fun K hK => ?_) AllReadyH.nil
  go_simp
  refine (c_copyInts d cs _ Z0.out (by have := HC12.out; omega)).mono ?_
  rintro e w5 ⟨d5, rfl, ho5, hb⟩
  obtain ⟨pd, qd, e4⟩ := ho5.ints.shape
  subst e4
  have XW2 : Hid (w2.heap.size ≤ x2.heap.size) := Nat.le_of_lt (Row.lt HH.out)
  have OC := Lib.hid (Own.mono ho5 XW2.out)
  clear ho5
  replace OH2 := Lib.hid (OH2.out.below hb)
  replace A0 := Lib.hid (A0.out.below hb)
  replace Z0 := Lib.hid (Z0.out.below hb)
  replace Q0 := Lib.hid (Q0.out.below hb)
  replace U0 := Lib.hid (Row.below U0.out hb)
  replace V0 := Lib.hid (Row.below V0.out hb)
  replace R0 := Lib.hid (Row.below R0.out hb)
  replace HH := Lib.hid (Row.below HH.out hb)
  replace W2 := Lib.hid (Row.below W2.out hb)
  replace L := Lib.hid (bst L.out hb L.out.size)
  clear hb
  refine hK.out _ _ ⟨U0.out.cell 0, U0.out.cell 1, U0.out.cell 2, U0.out.cell 3, U0.out.cell 4, U0.out.cell 5, U0.out.cell 6, HH.out.cell 0, HH.out.cell 1, HH.out.cell 2, W2.out.cell 0, W2.out.cell 1⟩ (fun hHeld => ?_)
  clear hK K
  (try simp only [Act.put, List.getElem_toArray, List.getElem_cons_zero, List.getElem_cons_succ, List.setIfInBounds_toArray, List.set_cons_zero, List.set_cons_succ])
  refine wpAnyH_ready (rs := [7]) (by kernel_rfl) (by simp) ?_
  refine AllReadyH.cons rfl (fun K hK => ?_) AllReadyH.nil
  go_simp
  rw [hf.out]
  refine (c_written_true w2.heap.size _ _ _ _ _ _ (.slice pa nf qa) (.slice pb nl qb) (.slice pc nr qc) (.slice pd cs.length qd) cs z vt _ OC.out HCOL.out HTS.out ⟨rfl, rfl, rfl⟩).mono ?_
  rw [← hf.out]
  rintro e w6 ⟨rfl, ho6, hg6⟩
  have U6 := Lib.hid (Row.grownBy U0.out hg6 (ne_row OC.out U0.out (by decide))); have H6 := Lib.hid (Row.grownBy HH.out hg6 (ne_row OC.out HH.out (by decide))); have W6 := Lib.hid (Row.grownBy W2.out hg6 (ne_row OC.out W2.out (by decide))); have R6 := Lib.hid (show RowM _ _ _ _ _ _ from Row.grownBy R0.out hg6 (ne_row OC.out R0.out (by decide)))
  have O6 := Lib.hid (OH2.out.chg (Chg.of_grown (lo := w2.heap.size) (hi := w5.heap.size) hg6 (fun g' e => owns_lt OC.out e)) (.inl (Nat.le_refl _)))
  have L6 := Lib.hid (L.out.grown hg6 L.out.size (fun g' e => by have := (owns_lt OC.out e).1; have := SZ1.out; have := SZ2.out; omega))
  have C6 := Lib.hid ho6
  have SW6 : Hid (w2.heap.size ≤ w6.heap.size) := (by unfold Hid; have := hg6.size; have := Row.lt HH.out; omega)
  clear ho6 hg6
  refine hK.out _ _ ⟨U6.out.cell 0, U6.out.cell 1, U6.out.cell 2, U6.out.cell 3, U6.out.cell 4, U6.out.cell 5, U6.out.cell 6, H6.out.cell 0, H6.out.cell 1, H6.out.cell 2, W6.out.cell 0, W6.out.cell 1⟩ (fun hHeld => ?_)
  clear hK K
  (try simp only [Act.put, List.getElem_toArray, List.getElem_cons_zero, List.getElem_cons_succ, List.setIfInBounds_toArray, List.set_cons_zero, List.set_cons_succ])
  refine wpAnyH_ready (rs := [8]) (by kernel_rfl) (by simp) ?_
  refine AllReadyH.cons rfl (fun K hK => ?_) AllReadyH.nil
  have nU : w.heap.size ≠ w.heap.size + 1 + 1 := by omega
  have nH : w2.heap.size ≠ w.heap.size + 1 + 1 := rows_ne H6.out R6.out (by decide)
  have nW : gw ≠ w.heap.size + 1 + 1 := rows_ne W6.out R6.out (by decide)
  have U8 := Lib.hid (Row.putOther U6.out (m4 (.slice pa nf qa) (.slice pb nl qb) (.slice pc nr qc) (.slice pd cs.length qd)) nU); have H8 := Lib.hid (Row.putOther H6.out (m4 (.slice pa nf qa) (.slice pb nl qb) (.slice pc nr qc) (.slice pd cs.length qd)) nH); have W8 := Lib.hid (Row.putOther W6.out (m4 (.slice pa nf qa) (.slice pb nl qb) (.slice pc nr qc) (.slice pd cs.length qd)) nW)
  refine wp_store_row 34 _ _ rfl (w.heap.size + 1 + 1) (m4 (.slice pa nf qa) (.slice pb nl qb) (.slice pc nr qc) (.slice pd cs.length qd)) rfl rfl 34 _ R6.out info_marking rfl (by simp [Value.oneCell']) ?_
  refine hK.out _ _ ⟨U8.out.cell 0, U8.out.cell 1, U8.out.cell 2, U8.out.cell 3, U8.out.cell 4, U8.out.cell 5, U8.out.cell 6, H8.out.cell 0, H8.out.cell 1, H8.out.cell 2, W8.out.cell 0, W8.out.cell 1⟩ (fun hHeld => ?_)
  clear hK K
  (try simp only [Act.put, List.getElem_toArray, List.getElem_cons_zero, List.getElem_cons_succ])
  refine wpAnyH_take (i := 9) (v := ?va9x80) rfl (by kernel_rfl) (by kernel_rfl) (by kernel_rfl) (fun _ _ _ h => h) (Or.inl ⟨by rfl, ?hy9x80⟩) (by assumption) ?rest9x80
  case hy9x80 => (intro w hSw; (try dsimp only at hSw); go_simp; try with_reducible rfl)
  (try simp only [Act.put, List.getElem_toArray, List.getElem_cons_zero, List.getElem_cons_succ, List.setIfInBounds_toArray, List.set_cons_zero, List.set_cons_succ])
  refine wpAnyH_done (by kernel_rfl) ?_ _
  clear hHeld
  go_wp2_with fail
  refine bodyPost_ret (res_row_slot Try.results185 (Row.put R6.out (m4 (.slice pa nf qa) (.slice pb nl qb) (.slice pc nr qc) (.slice pd cs.length qd))) rfl rfl Try.underlying34 rfl info_marking) rfl (endM_yes (below_setRow L6.out (by omega) _) ((OwnM.hc O6.out (OwnC.ofOwn C6.out SW6.out) SZ2.out SW6.out).whole (w.heap.size + 1 + 1) SZ1.out _) (by have := SZ1.out; omega) (by rw [size_setRow]; exact Nat.le_refl _) (by rw [HE.out]; rfl) (by rw [HE.out, HZZ.out]; rfl) HE.out)
end Go.Proofs.Ytbmfkgfmibpkjaa
namespace Go.Proofs.Ytbmfkgfmibpkjaa.Ph
def newK (h : H) (v : Mv) : Bool := hasRB h v.b && newOk h v.a
end Go.Proofs.Ytbmfkgfmibpkjaa.Ph
namespace Go.Proofs.Ytbmfkgfmibpkjaa
open Go.RowKit Ph
theorem putRootB {w : World} {lo hi : Nat} {a b c : Value} {h : H} (k : OwnH w lo hi a b c h) {j : Nat} (hj : j < h.r.length) (x : Int) : ∃ gc cc, c = .slice (some ⟨gc, 0, none⟩) h.r.length cc ∧ w.cell? ⟨gc, j, none⟩ = some (.int .i64 (h.r.getD j 0)) ∧ w.frozen? ⟨gc, j, none⟩ = false ∧ OwnH (w.setCell ⟨gc, j, none⟩ (.int .i64 x)) lo hi a b c ⟨h.f, h.l, h.r.set j x⟩ ∧ w.grownBy (w.setCell ⟨gc, j, none⟩ (.int .i64 x)) (some gc) ∧ (∀ g T ds, Row w g T ds → T ≠ 3 → (some gc : Option Nat) ≠ some g) ∧ lo ≤ gc := by
  obtain ⟨us, hf⟩ := k
  have hl := hf.roots
  rcases hl.shape' with ⟨_, h0⟩ | ⟨gc, cc, hc⟩
  · rw [h0] at hj; simp at hj
  have hl2 := hl
  rw [hc] at hl2
  obtain ⟨s1, s2, s3, s4⟩ := hl2.store1 rfl hj x
  exact ⟨gc, cc, hc, s3, s4, ⟨us, hf.setRoots (by rw [hc]; exact s2) (by rw [hc]; exact s1)⟩, s2, fun g T ds hr hT => ne_row hl2 hr hT, (owns_lt hl2 rfl).1⟩
end Go.Proofs.Ytbmfkgfmibpkjaa
namespace Go.Proofs.Ytbmfkgfmibpkjaa.Ph
def nrK (h : H) (m j : Int) : Bool := hasRB h j && newOk h m
theorem nrK_l {h : H} {m j : Int} (q : nrK h m j = true) : hasRB h j = true ∧ newOk h m = true := by
  unfold nrK at q
  simpa using q
def nrN (h : H) (m j : Int) : Int := if nrK h m j = true then ((newP h m).2 : Int) else 0
end Go.Proofs.Ytbmfkgfmibpkjaa.Ph
namespace Go.Proofs.Ytbmfkgfmibpkjaa
open Go.RowKit Ph
set_option maxHeartbeats 6400000 in
set_option maxRecDepth 100000 in
theorem c_newAtRoot (a b c : Value) (h : H) (m j : Int) (w : World) (hA : HeapAt w a b c h) : Calls Try.prog 169 #[hv a b c, .int .i64 m, .int .i64 j] w (EndHI (outH (nrK h m j) (newH h m j)) (nrN h m j) (nrK h m j) w) := by
  have hb0 := (below1 w (.cells (c3 a b c) 32)).alloc (by simp) (.cells (c3 (.slice none 0 0) (.slice none 0 0) (.slice none 0 0)) 32)
  have A0 := Lib.hid (hA.below hb0)
  have L := Lib.hid hb0
  have P0 := Lib.hid (show RowH _ _ a b c from (Row.new w 32 (c3 a b c)).alloc (.cells (c3 (.slice none 0 0) (.slice none 0 0) (.slice none 0 0)) 32))
  have R0 := Lib.hid (show RowH _ (w.heap.size + 1) (.slice none 0 0) (.slice none 0 0) (.slice none 0 0) from Row.new1 w (.cells (c3 a b c) 32) 32 (c3 (.slice none 0 0) (.slice none 0 0) (.slice none 0 0)))
  clear hA hb0
  have HPL := Lib.hid (fun q : newOk h m = true => And.intro (New.of q).r (newP_place q))
  have HRB := Lib.hid (hasRB_iff (h := h) (t := j))
  have HNH : Hid (newH h m j = ⟨(newP h m).1.f, (newP h m).1.l, (newP h m).1.r.set j.toNat ((newP h m).2 : Int)⟩) := rfl
  have HH1 := Lib.hid (fun w' q => c_hasRoot a b c h j w' q)
  have HN1 := Lib.hid (fun w' q => c_NewThing a b c h m w' q)
  have HK : Hid (nrK h m j = (hasRB h j && newOk h m)) := rfl
  have HNN : Hid (nrN h m j = if nrK h m j = true then ((newP h m).2 : Int) else 0) := rfl
  generalize nrN h m j = nn at *
  generalize nrK h m j = ok at *
  generalize newH h m j = hY at *
  generalize (newP h m).2 = p at *
  generalize (newP h m).1 = hX at *
  generalize newOk h m = k2 at *
  generalize hasRB h j = k1 at *
  have p0 := P0.out.c0
  have p1 := P0.out.c1
  have p2 := P0.out.c2
  go_enter Try.func169, Try.ntmps169
  go_wp2_with fail
  clear p0 p1 p2
  refine (HH1.out _ A0.out).mono ?_
  rintro e w1 ⟨rfl, hb⟩
  replace A0 := Lib.hid (A0.out.below hb)
  replace P0 := Lib.hid (show RowH _ _ _ _ _ from Row.below P0.out hb)
  replace R0 := Lib.hid (show RowH _ _ _ _ _ from Row.below R0.out hb)
  replace L := Lib.hid (bst L.out hb L.out.size)
  clear hb
  cases k1
  · have HE : Hid (ok = false) := by unfold Hid; rw [HK.out]; rfl
    have HE0 : Hid (nn = 0) := by unfold Hid; rw [HNN.out, HE.out]; rfl
    go_wp2_with (refine wl_storeH rfl _ _ rfl (w.heap.size + 1) (.slice none 0 0) (.slice none 0 0) (.slice none 0 0) _ _ _ R0.out rfl rfl rfl rfl rfl ?_)
    refine bodyPost_ret (res_row_slot2 Try.results169 (Row.put R0.out (c3 (.slice none 0 0) (.slice none 0 0) (.slice none 0 0))) rfl rfl rfl Try.underlying32 rfl info_heap) rfl (endHI_no (below_setRow L.out (by omega) _) (by rw [HE.out]; rfl) HE0.out HE.out)
  replace HRB := Lib.hid (HRB.out rfl)
  have p0 := P0.out.c0
  have p1 := P0.out.c1
  have p2 := P0.out.c2
  go_wp2_with fail
  clear p0 p1 p2
  have SZ1 : Hid (w.heap.size + 1 < w1.heap.size) := Row.lt R0.out
  refine (HN1.out _ A0.out).mono ?_
  intro e w2 hend
  obtain ⟨a2, b2, c2, rfl, ho, hb⟩ := hend
  have SZ2 : Hid (w1.heap.size ≤ w2.heap.size) := hb.size
  replace R0 := Lib.hid (show RowH _ _ _ _ _ from Row.below R0.out hb)
  replace L := Lib.hid (bst L.out hb L.out.size)
  clear hb A0 P0
  cases k2
  · have HE : Hid (ok = false) := by unfold Hid; rw [HK.out]; rfl
    have HE0 : Hid (nn = 0) := by unfold Hid; rw [HNN.out, HE.out]; rfl
    obtain ⟨⟨pa, qa, e1⟩, ⟨pb, qb, e2⟩, ⟨pc, qc, e3⟩⟩ := ho.shapes
    subst e1 e2 e3
    clear ho
    generalize hX.f.length = nf at *
    generalize hX.l.length = nl at *
    generalize hX.r.length = nr at *
    have hb := below1 w2 (.cells (c3 (.slice pa nf qa) (.slice pb nl qb) (.slice pc nr qc)) 32)
    replace R0 := Lib.hid (show RowH _ _ _ _ _ from Row.below R0.out hb)
    replace L := Lib.hid (bst L.out hb L.out.size)
    clear hb
    go_wp2_with (refine wl_storeH rfl _ _ rfl (w.heap.size + 1) (.slice none 0 0) (.slice none 0 0) (.slice none 0 0) _ _ _ R0.out rfl rfl rfl rfl rfl ?_)
    refine bodyPost_ret (res_row_slot2 Try.results169 (Row.put R0.out (c3 (.slice none 0 0) (.slice none 0 0) (.slice none 0 0))) rfl rfl rfl Try.underlying32 rfl info_heap) rfl (endHI_no (below_setRow L.out (by omega) _) (by rw [HE.out]; rfl) HE0.out HE.out)
  have HE : Hid (ok = true) := by unfold Hid; rw [HK.out]; rfl
  have HE0 : Hid (nn = (p : Int)) := by unfold Hid; rw [HNN.out, HE.out]; rfl
  obtain ⟨hr, hp1, hp2⟩ := HPL.out rfl
  obtain ⟨k, rfl, hk⟩ := HRB.out
  have hkX : k < hX.r.length := by rw [hr]; exact hk
  obtain ⟨gc, qc, e3, qz, _, _, _, _, _⟩ := putRootB ho hkX (p : Int)
  obtain ⟨⟨pa, qa, e1⟩, ⟨pb, qb, e2⟩, _⟩ := ho.shapes
  subst e1 e2 e3
  have HY : Hid (hY = ⟨hX.f, hX.l, hX.r.set k (p : Int)⟩) := by unfold Hid; rw [HNH.out, Int.toNat_natCast]
  have j1 : (k : Int) < (hX.r.length : Int) := by omega
  have j0 : (0 : Int) ≤ (k : Int) := by omega
  have OH0 := Lib.hid ho
  clear ho HPL HRB HK HNH HNN hk hkX hp1 hp2 hr HN1 HH1
  generalize hX.f.length = nf at *
  generalize hX.l.length = nl at *
  generalize hnr : hX.r.length = nr at *
  have HNR := Lib.hid hnr; clear hnr
  generalize hX.r.getD k 0 = z at *
  have hb := below1 w2 (.cells (c3 (.slice pa nf qa) (.slice pb nl qb) (.slice (some ⟨gc, 0, none⟩) nr qc)) 32)
  have z1 := cellBelow hb (Nat.le_refl _) qz
  have HH := Lib.hid (show RowH (w2.alloc (.cells (c3 (.slice pa nf qa) (.slice pb nl qb) (.slice (some ⟨gc, 0, none⟩) nr qc)) 32)) w2.heap.size (.slice pa nf qa) (.slice pb nl qb) (.slice (some ⟨gc, 0, none⟩) nr qc) from Row.new w2 32 (c3 (.slice pa nf qa) (.slice pb nl qb) (.slice (some ⟨gc, 0, none⟩) nr qc)))
  have OH1 := Lib.hid (OH0.out.below hb)
  have S2W : Hid (w2.heap.size ≤ (w2.alloc (.cells (c3 (.slice pa nf qa) (.slice pb nl qb) (.slice (some ⟨gc, 0, none⟩) nr qc)) 32)).heap.size) := hb.size
  replace R0 := Lib.hid (show RowH _ _ _ _ _ from Row.below R0.out hb)
  replace L := Lib.hid (bst L.out hb L.out.size)
  clear hb qz
  obtain ⟨gc', qc', e3, z2, fz2, oR, gR, hne, hlo⟩ := putRootB OH1.out (j := k) (by rw [HNR.out]; omega) (p : Int)
  rw [HNR.out] at e3
  cases e3
  have h0 := HH.out.c0
  have h1 := HH.out.c1
  have h2 := HH.out.c2
  have bS := gR
  have OH2 := Lib.hid oR
  have R3 := Lib.hid (show RowH _ _ _ _ _ from Row.grownBy R0.out bS (hne _ _ _ R0.out (by decide)))
  have H3 := Lib.hid (show RowH _ _ _ _ _ from Row.grownBy HH.out bS (hne _ _ _ HH.out (by decide)))
  have LGC : Hid (w1.heap.size ≤ gc) := hlo
  have L3 := Lib.hid (L.out.grown bS L.out.size (fun g' e => by cases e; have := LGC.out; have := SZ1.out; omega))
  have q0 := H3.out.c0
  have q1 := H3.out.c1
  have q2 := H3.out.c2
  have OF := Lib.hid (OH2.out.whole (w.heap.size + 1) SZ1.out (c3 (.slice pa nf qa) (.slice pb nl qb) (.slice (some ⟨gc, 0, none⟩) nr qc)))
  clear oR gR bS hne hlo
  go_wp2_with (refine wl_storeH rfl _ _ rfl (w.heap.size + 1) (.slice pa nf qa) (.slice pb nl qb) (.slice (some ⟨gc, 0, none⟩) nr qc) _ _ _ R3.out rfl rfl rfl rfl rfl ?_)
  refine bodyPost_ret (res_row_slot2 Try.results169 (Row.put R3.out (c3 (.slice pa nf qa) (.slice pb nl qb) (.slice (some ⟨gc, 0, none⟩) nr qc))) rfl rfl rfl Try.underlying32 rfl info_heap) rfl (endHI_yes (below_setRow L3.out (by omega) _) OF.out (by have := SZ1.out; omega) (by rw [size_setRow, World.size_setCell]; exact S2W.out) (by rw [HE.out]; exact HY.out) HE0.out HE.out)
end Go.Proofs.Ytbmfkgfmibpkjaa
