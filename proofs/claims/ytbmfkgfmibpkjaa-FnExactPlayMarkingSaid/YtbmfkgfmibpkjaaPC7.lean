/- What the laws rest on, part 7. -/
import Derived.Test.YtbmfkgfmibpkjaaPC6
import Derived.Shelf.Abstract
namespace Go.Proofs.Ytbmfkgfmibpkjaa
open Go.RowKit Ph

set_option maxHeartbeats 6400000 in
set_option maxRecDepth 100000 in
theorem c_mallocate_false (a b c d r : Value) (h : H) (cs : List Int) (v : Mv) (w : World) (hA : HeapAt w a b c h) (hC : IntsAt w d cs) (hB : bothB h cs = true) : Calls Try.prog 187 #[mu a b c d (.func (.func 92) #[] #[]) (.int .i64 2) r, mo v] w (EndM (outH (newK h v) (newH h v.a v.b)) (outC (newK h v) (shade (newC cs (newP h v.a).2 2) (barZ false (h.r.getD v.b.toNat 0) ((newP h v.a).2 : Int)))) (newK h v) w) := by
  obtain ⟨i0, hi, hz0, hz1, hz2⟩ := info_parts info_int
  have HF : ∃ f : Value, Hid (f = .func (.func 92) #[] #[]) := ⟨_, rfl⟩
  obtain ⟨f, hf⟩ := HF
  rw [← hf.out]
  have b0 := ((below1 w (.cells (mu7 a b c d f (.int .i64 2) r) 164)).alloc (by simp) (.cells (mo4 v) 38)).alloc (by simp; omega) (.cells (m4 nilS nilS nilS nilS) 34)
  have A0 := Lib.hid (hA.below b0); have Z0 := Lib.hid (hC.below b0); have ZW := Lib.hid hC
  have L := Lib.hid b0
  have U0 := Lib.hid (show Row _ w.heap.size 164 (mu7 a b c d f (.int .i64 2) r) from ((Row.new w 164 (mu7 a b c d f (.int .i64 2) r)).alloc (.cells (mo4 v) 38)).alloc (.cells (m4 nilS nilS nilS nilS) 34))
  have V0 := Lib.hid (show Row _ (w.heap.size + 1) 38 (mo4 v) from (Row.new1 w (.cells (mu7 a b c d f (.int .i64 2) r) 164) 38 (mo4 v)).alloc (.cells (m4 nilS nilS nilS nilS) 34))
  have R0 := Lib.hid (show RowM _ (w.heap.size + 1 + 1) nilS nilS nilS nilS from Row.new2 w (.cells (mu7 a b c d f (.int .i64 2) r) 164) (.cells (mo4 v) 38) 34 (m4 nilS nilS nilS nilS))
  obtain ⟨hG, hl, hcol⟩ := bothB_iff.1 hB
  have HG := Lib.hid hG; have HLN := Lib.hid hl
  have HC12 : Hid (cs.length ≤ 12) := by unfold Hid; rw [hl]; exact hG.n
  have HCOL : Hid (∀ p, p ≤ cs.length → Col (newC cs p 2)) := fun p q => hcol.newC q (by omega) (by omega)
  obtain ⟨vk, va, vb, vt⟩ := v
  have HPL := Lib.hid (fun q : nrK h va vb = true => And.intro (hasRB_iff (nrK_l q).1) (newP_place (nrK_l q).2))
  clear hA hC hB b0 hG hl hcol
  have HN1 := Lib.hid (fun w' q => c_newAtRoot a b c h va vb w' q)
  have HP0 : Hid (nrN h va vb = if nrK h va vb = true then ((newP h va).2 : Int) else 0) := rfl
  have HK : Hid (newK h ⟨vk, va, vb, vt⟩ = nrK h va vb) := rfl
  simp only
  rw [HK.out]
  generalize nrN h va vb = nn at *
  generalize nrK h va vb = ok at *
  generalize newH h va vb = hY at *
  generalize (newP h va).2 = p at *
  have qU00 := U0.out.cell 0
  have qU01 := U0.out.cell 1
  have qU02 := U0.out.cell 2
  have qV00 := V0.out.cell 0
  have qV01 := V0.out.cell 1
  have qV02 := V0.out.cell 2
  have qV03 := V0.out.cell 3
  go_enter Try.func187, Try.ntmps187
  go_wp2_with fail
  clear qU00 qU01 qU02 qV00 qV01 qV02 qV03
  have SZ1 : Hid (w.heap.size + 1 + 1 < (((w.alloc (.cells (mu7 a b c d f (.int .i64 2) r) 164)).alloc (.cells (mo4 ⟨vk, va, vb, vt⟩) 38)).alloc (.cells (m4 nilS nilS nilS nilS) 34)).heap.size) := Row.lt R0.out
  refine (HN1.out _ A0.out).mono ?_
  intro e w2 hend
  obtain ⟨a2, b2, c2, rfl, ho, hb⟩ := hend
  have SZ2 : Hid ((((w.alloc (.cells (mu7 a b c d f (.int .i64 2) r) 164)).alloc (.cells (mo4 ⟨vk, va, vb, vt⟩) 38)).alloc (.cells (m4 nilS nilS nilS nilS) 34)).heap.size ≤ w2.heap.size) := hb.size
  replace A0 := Lib.hid (A0.out.below hb)
  replace Z0 := Lib.hid (Z0.out.below hb)
  replace U0 := Lib.hid (Row.below U0.out hb)
  replace V0 := Lib.hid (Row.below V0.out hb)
  replace R0 := Lib.hid (Row.below R0.out hb)
  replace L := Lib.hid (bst L.out hb L.out.size)
  clear hb
  cases ok
  · have HE : Hid (nn = 0) := by unfold Hid; rw [HP0.out]; rfl
    obtain ⟨⟨pa, qa, e1⟩, ⟨pb, qb, e2⟩, ⟨pc, qc, e3⟩⟩ := ho.shapes
    subst e1 e2 e3
    clear ho
    generalize (outH false hY).f.length = nf at *
    generalize (outH false hY).l.length = nl at *
    generalize (outH false hY).r.length = nr at *
    have hb := below1 w2 (.cells (c3 (.slice pa nf qa) (.slice pb nl qb) (.slice pc nr qc)) 32)
    replace A0 := Lib.hid (A0.out.below hb)
    replace Z0 := Lib.hid (Z0.out.below hb)
    replace U0 := Lib.hid (Row.below U0.out hb)
    replace V0 := Lib.hid (Row.below V0.out hb)
    replace R0 := Lib.hid (Row.below R0.out hb)
    replace L := Lib.hid (bst L.out hb L.out.size)
    clear hb
    go_wp2_with (refine wl_storeM rfl _ _ rfl (w.heap.size + 1 + 1) nilS nilS nilS nilS _ _ _ _ R0.out rfl rfl rfl rfl rfl rfl ?_)
    refine bodyPost_ret (res_row_slot Try.results187 (Row.put R0.out (m4 nilS nilS nilS nilS)) rfl rfl Try.underlying34 rfl info_marking) rfl (endM_none (below_setRow L.out (by omega) _) (by rfl) (by rfl) rfl)
  obtain ⟨⟨k, rfl, hk⟩, hp1, hp2⟩ := HPL.out rfl
  have HNN : Hid (nn = (p : Int)) := by unfold Hid; rw [HP0.out]; rfl
  have hnn := HNN.out
  clear HP0 HNN
  subst hnn
  have ho2 : OwnH w2 _ w2.heap.size a2 b2 c2 hY := ho
  clear ho
  obtain ⟨⟨pa, qa, e1⟩, ⟨pb, qb, e2⟩, ⟨pc, qc, e3⟩⟩ := ho2.shapes
  subst e1 e2 e3
  have hzz : Hid (h.r.getD ((k : Nat) : Int).toNat 0 = h.r.getD k 0) := by unfold Hid; rw [Int.toNat_natCast]
  have WIN : Hid (h.r.getD k 0 = -1 ∨ (0 ≤ h.r.getD k 0 ∧ h.r.getD k 0 < (cs.length : Int))) := by unfold Hid; rw [HLN.out]; exact root_in HG.out hk
  have HP : Hid (p ≤ cs.length) := by unfold Hid; rw [HLN.out]; exact hp1
  have HCOL1 := Lib.hid (HCOL.out p HP.out)
  have OH0 := Lib.hid ho2
  obtain ⟨ca, cc, rfl⟩ := A0.out.r.shape
  obtain ⟨zb, zo, rfl, hcz⟩ := A0.out.r.at' (by omega)
  have qz := hcz k hk
  have j1 : (k : Int) < (h.r.length : Int) := by omega
  have j0 : (0 : Int) ≤ (k : Int) := by omega
  clear ho2 HPL HK hk hp1 hp2 HCOL hcz HN1
  generalize hY.f.length = nf at *
  generalize hY.l.length = nl at *
  generalize hY.r.length = nr at *
  generalize h.r.getD k 0 = z at *
  generalize hnh : h.r.length = nh at *
  clear hnh
  have hb1 := below1 w2 (.cells (c3 (.slice pa nf qa) (.slice pb nl qb) (.slice pc nr qc)) 32)
  have hb := hb1.alloc (by simp) (.cells #[.int .i64 z, .int .i64 (p : Int)] 116)
  have v1 := (Row.below V0.out hb1).cell 2
  have u1 := (Row.below U0.out hb1).cell 2
  have z1 := cellBelow hb1 (Nat.le_refl _) qz
  have H3 := Lib.hid (show RowH ((w2.alloc (.cells (c3 (.slice pa nf qa) (.slice pb nl qb) (.slice pc nr qc)) 32)).alloc (.cells #[.int .i64 z, .int .i64 (p : Int)] 116)) w2.heap.size (.slice pa nf qa) (.slice pb nl qb) (.slice pc nr qc) from (Row.new w2 32 (c3 (.slice pa nf qa) (.slice pb nl qb) (.slice pc nr qc))).alloc (.cells #[.int .i64 z, .int .i64 (p : Int)] 116))
  have W3 := Lib.hid (show Row ((w2.alloc (.cells (c3 (.slice pa nf qa) (.slice pb nl qb) (.slice pc nr qc)) 32)).alloc (.cells #[.int .i64 z, .int .i64 (p : Int)] 116)) (w2.heap.size + 1) 116 #[.int .i64 z, .int .i64 (p : Int)] from Row.new1 w2 (.cells (c3 (.slice pa nf qa) (.slice pb nl qb) (.slice pc nr qc)) 32) 116 #[.int .i64 z, .int .i64 (p : Int)])
  have OH2 := Lib.hid (OH0.out.below hb)
  have S3W : Hid (w2.heap.size ≤ ((w2.alloc (.cells (c3 (.slice pa nf qa) (.slice pb nl qb) (.slice pc nr qc)) 32)).alloc (.cells #[.int .i64 z, .int .i64 (p : Int)] 116)).heap.size) := hb.size
  clear hb1 qz
  replace A0 := Lib.hid (A0.out.below hb)
  replace Z0 := Lib.hid (Z0.out.below hb)
  replace U0 := Lib.hid (Row.below U0.out hb)
  replace V0 := Lib.hid (Row.below V0.out hb)
  replace R0 := Lib.hid (Row.below R0.out hb)
  replace L := Lib.hid (bst L.out hb L.out.size)
  clear hb
  have U3 := Lib.hid U0.out; have V3 := Lib.hid V0.out; have R3 := Lib.hid (show RowM _ _ _ _ _ _ from R0.out)
  have L3 := Lib.hid L.out
  have Z3 : Hid (IntsAt ((w2.alloc (.cells (c3 (.slice pa nf qa) (.slice pb nl qb) (.slice pc nr qc)) 32)).alloc (.cells #[.int .i64 z, .int .i64 (p : Int)] 116)) d cs) := ZW.out.below L3.out
  have u3 := U3.out.cell 3
  go_wp2_with fail
  clear v1 u1 z1 u3
  refine (c_copyInts d cs _ Z3.out (by have := HC12.out; omega)).mono ?_
  rintro e w5 ⟨d5, rfl, ho5, hb⟩
  obtain ⟨pd, qd, e4⟩ := ho5.ints.shape
  subst e4
  have OC := Lib.hid (Own.mono ho5 S3W.out)
  replace OH2 := Lib.hid (OH2.out.below hb)
  clear OH0 U0 V0 R0 Z0 A0 ho5
  replace L3 := Lib.hid (bst L3.out hb L3.out.size)
  replace U3 := Lib.hid (Row.below U3.out hb)
  replace V3 := Lib.hid (Row.below V3.out hb)
  replace R3 := Lib.hid (Row.below R3.out hb)
  replace H3 := Lib.hid (Row.below H3.out hb)
  replace W3 := Lib.hid (Row.below W3.out hb)
  clear hb Z3
  generalize hnc : cs.length = nc at *
  have HNC := Lib.hid hnc; clear hnc
  have hn12 := HC12.out
  have hp := HP.out
  by_cases hpn : p = nc
  · subst hpn
    have HNEW : Hid (newC cs p 2 = (cs ++ [0]).set p 2) := by unfold Hid newC; rw [if_pos HNC.out.symm]
    have HCX : Hid (outC true (shade (newC cs p 2) (barZ false z (p : Int))) = shade ((cs ++ [0]).set p 2) z) := by unfold Hid; rw [HNEW.out]; rfl
    have hlen : (cs ++ [(0 : Int)]).length = p + 1 := by simp [HNC.out]
    have HXX : Hid (Col ((cs ++ [0]).set p 2) ∧ inR ((cs ++ [0]).set p 2).length z) := by
      refine ⟨by rw [← HNEW.out]; exact HCOL1.out, ?_⟩
      rw [List.length_set, hlen]
      exact WIN.out.imp id (fun q => ⟨q.1, by omega⟩)
    have HLEN := Lib.hid hlen
    have u5 := U3.out.cell 5
    have hpp : ((p : Int) == (p : Int)) = true := by simp
    have HS := Lib.hid (src_int w5 0)
    have ba := below1 w5 (.cells #[.int .i64 0] 3)
    have HO1 := Lib.hid (OC.out.below ba)
    have SZ5 : Hid (w2.heap.size ≤ w5.heap.size) := (by unfold Hid; have := Row.lt H3.out; omega)
    replace OH2 := Lib.hid (OH2.out.below ba)
    replace L3 := Lib.hid (bst L3.out ba L3.out.size)
    replace U3 := Lib.hid (Row.below U3.out ba)
    replace V3 := Lib.hid (Row.below V3.out ba)
    replace R3 := Lib.hid (Row.below R3.out ba)
    replace H3 := Lib.hid (Row.below H3.out ba)
    replace W3 := Lib.hid (Row.below W3.out ba)
    clear ba hlen
    go_upto_region 8 with (at_builtin; refine wl_appOwn _ rfl _ _ 24 rfl w2.heap.size 3 i0 (.int .i64 0) 8 Try.underlying24 hi hz0 hz1 hz2 rfl (.slice pd p qd) _ _ rfl HO1.out _ _ rfl HS.out (by have := HC12.out; have := HNC.out; simp; unfold maxLen; omega) (by have := HC12.out; have := HNC.out; simp; omega) (by rw [World.size_alloc]; have := SZ5.out; omega) ?_; intro v6 w6 ho6 hg6 _; have O6 : Hid (Own w6 w2.heap.size v6 (cs ++ [0])) := (by { unfold Hid Own; rw [List.map_append, List.length_append]; exact ho6 }); have HG6 := Lib.hid hg6; clear ho6 hg6)
    have ne := fun g T ds (hr : Row (w5.alloc (.cells #[.int .i64 0] 3)) g T ds) (hT : T ≠ 3) => ne_row HO1.out hr hT
    replace OH2 := Lib.hid (OH2.out.chg (Chg.of_grown (lo := w2.heap.size) (hi := (w5.alloc (.cells #[.int .i64 0] 3)).heap.size) HG6.out (fun g' e => owns_lt HO1.out e)) (.inl (Nat.le_refl _)))
    replace L3 := Lib.hid (L3.out.grown HG6.out L3.out.size (fun g' e => by have := (owns_lt HO1.out e).1; have := SZ1.out; have := SZ2.out; omega))
    replace U3 := Lib.hid (Row.grownBy U3.out HG6.out (ne _ _ _ U3.out (by decide))); replace R3 := Lib.hid (show RowM _ _ _ _ _ _ from Row.grownBy R3.out HG6.out (ne _ _ _ R3.out (by decide))); replace H3 := Lib.hid (show RowH _ _ _ _ _ from Row.grownBy H3.out HG6.out (ne _ _ _ H3.out (by decide))); replace W3 := Lib.hid (Row.grownBy W3.out HG6.out (ne _ _ _ W3.out (by decide)))
    clear HG6 ne u5
    rcases O6.out.shape' with ⟨_, h0⟩ | ⟨g6, c6, hv6⟩
    · simp at h0
    rw [HLEN.out] at hv6
    subst hv6
    obtain ⟨s1, s2, s3, s4⟩ := O6.out.store1 HLEN.out (z := p) (by omega) 2
    have u6 := U3.out.cell 5
    have j6 : (p : Int) < ((p + 1 : Nat) : Int) := by omega
    have j60 : (0 : Int) ≤ (p : Int) := by omega
    generalize (cs ++ [(0 : Int)]).getD p 0 = z6 at *
    have ne := fun g T ds (hr : Row w6 g T ds) (hT : T ≠ 3) => ne_row O6.out hr hT
    have U6 := Lib.hid (Row.grownBy U3.out s2 (ne _ _ _ U3.out (by decide))); have R6 := Lib.hid (show RowM _ _ _ _ _ _ from Row.grownBy R3.out s2 (ne _ _ _ R3.out (by decide))); have H6 := Lib.hid (show RowH _ _ _ _ _ from Row.grownBy H3.out s2 (ne _ _ _ H3.out (by decide))); have W6 := Lib.hid (Row.grownBy W3.out s2 (ne _ _ _ W3.out (by decide)))
    have OH6 := Lib.hid (OH2.out.chg (Chg.of_grown (lo := w2.heap.size) (hi := w6.heap.size) s2 (fun g' e => by cases e; exact owns_lt O6.out rfl)) (.inl (Nat.le_refl _)))
    have L6 := Lib.hid (L3.out.grown s2 L3.out.size (fun g' e => by cases e; have := (owns_lt (g := g6) O6.out rfl).1; have := SZ1.out; have := SZ2.out; omega))
    have C6 := Lib.hid s1
    have SW6 : Hid (w2.heap.size ≤ w6.heap.size) := (by unfold Hid; have := (owns_lt (g := g6) O6.out rfl); omega)
    clear s1 s2 ne
    have qU60 := U6.out.cell 0
    have qU61 := U6.out.cell 1
    have qU62 := U6.out.cell 2
    have qU63 := U6.out.cell 3
    have qU64 := U6.out.cell 4
    have qU65 := U6.out.cell 5
    have qU66 := U6.out.cell 6
    have qH60 := H6.out.cell 0
    have qH61 := H6.out.cell 1
    have qH62 := H6.out.cell 2
    have qW60 := W6.out.cell 0
    have qW61 := W6.out.cell 1
    go_wp2_with fail
    clear qU60 qU61 qU62 qU63 qU64 qU65 qU66 qH60 qH61 qH62 qW60 qW61
    rw [hf.out]
    refine (c_written_false w2.heap.size _ _ _ _ _ _ (.slice pa nf qa) (.slice pb nl qb) (.slice pc nr qc) (.slice (some ⟨g6, 0, none⟩) (p + 1) c6) _ z (p : Int) _ C6.out HXX.out.1 HXX.out.2 ⟨rfl, rfl, rfl⟩).mono ?_
    rw [← hf.out]
    rintro e w8 ⟨rfl, ho8, hg8⟩
    have R8 := Lib.hid (show RowM _ _ _ _ _ _ from Row.grownBy R6.out hg8 (ne_row C6.out R6.out (by decide)))
    have O8 := Lib.hid (OH6.out.chg (Chg.of_grown (lo := w2.heap.size) hg8 (fun g' e => owns_lt C6.out e)) (.inl (Nat.le_refl _)))
    have L8 := Lib.hid (L6.out.grown hg8 L6.out.size (fun g' e => by have := (owns_lt C6.out e).1; have := SZ1.out; have := SZ2.out; omega))
    have SW8 : Hid (w2.heap.size ≤ w8.heap.size) := (by unfold Hid; have := hg8.size; rw [World.size_setCell] at this; have := SW6.out; omega)
    have C8 := Lib.hid ho8
    clear ho8 hg8 C6
    go_wp2_with (refine wl_storeM rfl _ _ rfl (w.heap.size + 1 + 1) (.slice pa nf qa) (.slice pb nl qb) (.slice pc nr qc) (.slice (some ⟨g6, 0, none⟩) (p + 1) c6) _ _ _ _ R8.out rfl rfl rfl rfl rfl rfl ?_)
    refine bodyPost_ret (res_row_slot Try.results187 (Row.put R8.out (m4 (.slice pa nf qa) (.slice pb nl qb) (.slice pc nr qc) (.slice (some ⟨g6, 0, none⟩) (p + 1) c6))) rfl rfl Try.underlying34 rfl info_marking) rfl (endM_yes (below_setRow L8.out (by omega) _) ((OwnM.hc O8.out (OwnC.ofOwn C8.out SW8.out) SZ2.out SW8.out).whole (w.heap.size + 1 + 1) SZ1.out _) (by have := SZ1.out; omega) (by rw [size_setRow]; exact Nat.le_refl _) (by rfl) (by rw [hzz.out]; exact HCX.out) rfl)
  have hpl : p < nc := by omega
  have HNEW : Hid (newC cs p 2 = cs.set p 2) := by unfold Hid newC; rw [if_neg (by rw [HNC.out]; exact hpn)]
  have HCX : Hid (outC true (shade (newC cs p 2) (barZ false z (p : Int))) = shade (cs.set p 2) z) := by unfold Hid; rw [HNEW.out]; rfl
  have HXX : Hid (Col (cs.set p 2) ∧ inR (cs.set p 2).length z) := by
    refine ⟨by rw [← HNEW.out]; exact HCOL1.out, ?_⟩
    rw [List.length_set, HNC.out]
    exact WIN.out
  rcases OC.out.shape' with ⟨_, h0⟩ | ⟨g6, c6, hv⟩
  · rw [h0] at HNC; have := HNC.out; simp at this; omega
  rw [HNC.out] at hv
  cases hv
  have hpp : ((p : Int) == (nc : Int)) = false := by simp; omega
  have j6 : (p : Int) < (nc : Int) := by omega
  have j60 : (0 : Int) ≤ (p : Int) := by omega
  have u6 := U3.out.cell 5
  obtain ⟨s1, s2, s3, s4⟩ := OC.out.store1 HNC.out hpl 2
  generalize cs.getD p 0 = z6 at *
  have ne := fun g T ds (hr : Row w5 g T ds) (hT : T ≠ 3) => ne_row OC.out hr hT
  have U6 := Lib.hid (Row.grownBy U3.out s2 (ne _ _ _ U3.out (by decide))); have R6 := Lib.hid (show RowM _ _ _ _ _ _ from Row.grownBy R3.out s2 (ne _ _ _ R3.out (by decide))); have H6 := Lib.hid (show RowH _ _ _ _ _ from Row.grownBy H3.out s2 (ne _ _ _ H3.out (by decide))); have W6 := Lib.hid (Row.grownBy W3.out s2 (ne _ _ _ W3.out (by decide)))
  have OH6 := Lib.hid (OH2.out.chg (Chg.of_grown (lo := w2.heap.size) (hi := w5.heap.size) s2 (fun g' e => by cases e; exact owns_lt OC.out rfl)) (.inl (Nat.le_refl _)))
  have L6 := Lib.hid (L3.out.grown s2 L3.out.size (fun g' e => by cases e; have := (owns_lt (g := g6) OC.out rfl).1; have := SZ1.out; have := SZ2.out; omega))
  have C6 := Lib.hid s1
  have SW6 : Hid (w2.heap.size ≤ w5.heap.size) := (by unfold Hid; have := (owns_lt (g := g6) OC.out rfl); omega)
  have hpq : (p == nc) = false := by simpa using hpn
  clear s1 s2 ne hpn hpl hp hn12
  have qU60 := U6.out.cell 0
  have qU61 := U6.out.cell 1
  have qU62 := U6.out.cell 2
  have qU63 := U6.out.cell 3
  have qU64 := U6.out.cell 4
  have qU65 := U6.out.cell 5
  have qU66 := U6.out.cell 6
  have qH60 := H6.out.cell 0
  have qH61 := H6.out.cell 1
  have qH62 := H6.out.cell 2
  have qW60 := W6.out.cell 0
  have qW61 := W6.out.cell 1
  go_wp2_with fail
  clear qU60 qU61 qU62 qU63 qU64 qU65 qU66 qH60 qH61 qH62 qW60 qW61
  rw [hf.out]
  refine (c_written_false w2.heap.size _ _ _ _ _ _ (.slice pa nf qa) (.slice pb nl qb) (.slice pc nr qc) (.slice (some ⟨g6, 0, none⟩) nc qd) _ z (p : Int) _ C6.out HXX.out.1 HXX.out.2 ⟨rfl, rfl, rfl⟩).mono ?_
  rw [← hf.out]
  rintro e w8 ⟨rfl, ho8, hg8⟩
  have R8 := Lib.hid (show RowM _ _ _ _ _ _ from Row.grownBy R6.out hg8 (ne_row C6.out R6.out (by decide)))
  have O8 := Lib.hid (OH6.out.chg (Chg.of_grown (lo := w2.heap.size) hg8 (fun g' e => owns_lt C6.out e)) (.inl (Nat.le_refl _)))
  have L8 := Lib.hid (L6.out.grown hg8 L6.out.size (fun g' e => by have := (owns_lt C6.out e).1; have := SZ1.out; have := SZ2.out; omega))
  have SW8 : Hid (w2.heap.size ≤ w8.heap.size) := (by unfold Hid; have := hg8.size; rw [World.size_setCell] at this; have := SW6.out; omega)
  have C8 := Lib.hid ho8
  clear ho8 hg8 C6
  go_wp2_with (refine wl_storeM rfl _ _ rfl (w.heap.size + 1 + 1) (.slice pa nf qa) (.slice pb nl qb) (.slice pc nr qc) (.slice (some ⟨g6, 0, none⟩) nc qd) _ _ _ _ R8.out rfl rfl rfl rfl rfl rfl ?_)
  refine bodyPost_ret (res_row_slot Try.results187 (Row.put R8.out (m4 (.slice pa nf qa) (.slice pb nl qb) (.slice pc nr qc) (.slice (some ⟨g6, 0, none⟩) nc qd))) rfl rfl Try.underlying34 rfl info_marking) rfl (endM_yes (below_setRow L8.out (by omega) _) ((OwnM.hc O8.out (OwnC.ofOwn C8.out SW8.out) SZ2.out SW8.out).whole (w.heap.size + 1 + 1) SZ1.out _) (by have := SZ1.out; omega) (by rw [size_setRow]; exact Nat.le_refl _) (by rfl) (by rw [hzz.out]; exact HCX.out) rfl)
set_option maxHeartbeats 6400000 in
set_option maxRecDepth 100000 in
theorem c_mallocate_true (a b c d r : Value) (h : H) (cs : List Int) (v : Mv) (w : World) (hA : HeapAt w a b c h) (hC : IntsAt w d cs) (hB : bothB h cs = true) : Calls Try.prog 187 #[mu a b c d (.func (.func 94) #[] #[]) (.int .i64 1) r, mo v] w (EndM (outH (newK h v) (newH h v.a v.b)) (outC (newK h v) (shade (newC cs (newP h v.a).2 1) (barZ true (h.r.getD v.b.toNat 0) ((newP h v.a).2 : Int)))) (newK h v) w) := by
  obtain ⟨i0, hi, hz0, hz1, hz2⟩ := info_parts info_int
  have HF : ∃ f : Value, Hid (f = .func (.func 94) #[] #[]) := ⟨_, rfl⟩
  obtain ⟨f, hf⟩ := HF
  rw [← hf.out]
  have b0 := ((below1 w (.cells (mu7 a b c d f (.int .i64 1) r) 164)).alloc (by simp) (.cells (mo4 v) 38)).alloc (by simp; omega) (.cells (m4 nilS nilS nilS nilS) 34)
  have A0 := Lib.hid (hA.below b0); have Z0 := Lib.hid (hC.below b0); have ZW := Lib.hid hC
  have L := Lib.hid b0
  have U0 := Lib.hid (show Row _ w.heap.size 164 (mu7 a b c d f (.int .i64 1) r) from ((Row.new w 164 (mu7 a b c d f (.int .i64 1) r)).alloc (.cells (mo4 v) 38)).alloc (.cells (m4 nilS nilS nilS nilS) 34))
  have V0 := Lib.hid (show Row _ (w.heap.size + 1) 38 (mo4 v) from (Row.new1 w (.cells (mu7 a b c d f (.int .i64 1) r) 164) 38 (mo4 v)).alloc (.cells (m4 nilS nilS nilS nilS) 34))
  have R0 := Lib.hid (show RowM _ (w.heap.size + 1 + 1) nilS nilS nilS nilS from Row.new2 w (.cells (mu7 a b c d f (.int .i64 1) r) 164) (.cells (mo4 v) 38) 34 (m4 nilS nilS nilS nilS))
  obtain ⟨hG, hl, hcol⟩ := bothB_iff.1 hB
  have HG := Lib.hid hG; have HLN := Lib.hid hl
  have HC12 : Hid (cs.length ≤ 12) := by unfold Hid; rw [hl]; exact hG.n
  have HCOL : Hid (∀ p, p ≤ cs.length → Col (newC cs p 1)) := fun p q => hcol.newC q (by omega) (by omega)
  obtain ⟨vk, va, vb, vt⟩ := v
  have HPL := Lib.hid (fun q : nrK h va vb = true => And.intro (hasRB_iff (nrK_l q).1) (newP_place (nrK_l q).2))
  clear hA hC hB b0 hG hl hcol
  have HN1 := Lib.hid (fun w' q => c_newAtRoot a b c h va vb w' q)
  have HP0 : Hid (nrN h va vb = if nrK h va vb = true then ((newP h va).2 : Int) else 0) := rfl
  have HK : Hid (newK h ⟨vk, va, vb, vt⟩ = nrK h va vb) := rfl
  simp only
  rw [HK.out]
  generalize nrN h va vb = nn at *
  generalize nrK h va vb = ok at *
  generalize newH h va vb = hY at *
  generalize (newP h va).2 = p at *
  have qU00 := U0.out.cell 0
  have qU01 := U0.out.cell 1
  have qU02 := U0.out.cell 2
  have qV00 := V0.out.cell 0
  have qV01 := V0.out.cell 1
  have qV02 := V0.out.cell 2
  have qV03 := V0.out.cell 3
  go_enter Try.func187, Try.ntmps187
  go_wp2_with fail
  clear qU00 qU01 qU02 qV00 qV01 qV02 qV03
  have SZ1 : Hid (w.heap.size + 1 + 1 < (((w.alloc (.cells (mu7 a b c d f (.int .i64 1) r) 164)).alloc (.cells (mo4 ⟨vk, va, vb, vt⟩) 38)).alloc (.cells (m4 nilS nilS nilS nilS) 34)).heap.size) := Row.lt R0.out
  refine (HN1.out _ A0.out).mono ?_
  intro e w2 hend
  obtain ⟨a2, b2, c2, rfl, ho, hb⟩ := hend
  have SZ2 : Hid ((((w.alloc (.cells (mu7 a b c d f (.int .i64 1) r) 164)).alloc (.cells (mo4 ⟨vk, va, vb, vt⟩) 38)).alloc (.cells (m4 nilS nilS nilS nilS) 34)).heap.size ≤ w2.heap.size) := hb.size
  replace A0 := Lib.hid (A0.out.below hb)
  replace Z0 := Lib.hid (Z0.out.below hb)
  replace U0 := Lib.hid (Row.below U0.out hb)
  replace V0 := Lib.hid (Row.below V0.out hb)
  replace R0 := Lib.hid (Row.below R0.out hb)
  replace L := Lib.hid (bst L.out hb L.out.size)
  clear hb
  cases ok
  · have HE : Hid (nn = 0) := by unfold Hid; rw [HP0.out]; rfl
    obtain ⟨⟨pa, qa, e1⟩, ⟨pb, qb, e2⟩, ⟨pc, qc, e3⟩⟩ := ho.shapes
    subst e1 e2 e3
    clear ho
    generalize (outH false hY).f.length = nf at *
    generalize (outH false hY).l.length = nl at *
    generalize (outH false hY).r.length = nr at *
    have hb := below1 w2 (.cells (c3 (.slice pa nf qa) (.slice pb nl qb) (.slice pc nr qc)) 32)
    replace A0 := Lib.hid (A0.out.below hb)
    replace Z0 := Lib.hid (Z0.out.below hb)
    replace U0 := Lib.hid (Row.below U0.out hb)
    replace V0 := Lib.hid (Row.below V0.out hb)
    replace R0 := Lib.hid (Row.below R0.out hb)
    replace L := Lib.hid (bst L.out hb L.out.size)
    clear hb
    go_wp2_with (refine wl_storeM rfl _ _ rfl (w.heap.size + 1 + 1) nilS nilS nilS nilS _ _ _ _ R0.out rfl rfl rfl rfl rfl rfl ?_)
    refine bodyPost_ret (res_row_slot Try.results187 (Row.put R0.out (m4 nilS nilS nilS nilS)) rfl rfl Try.underlying34 rfl info_marking) rfl (endM_none (below_setRow L.out (by omega) _) (by rfl) (by rfl) rfl)
  obtain ⟨⟨k, rfl, hk⟩, hp1, hp2⟩ := HPL.out rfl
  have HNN : Hid (nn = (p : Int)) := by unfold Hid; rw [HP0.out]; rfl
  have hnn := HNN.out
  clear HP0 HNN
  subst hnn
  have ho2 : OwnH w2 _ w2.heap.size a2 b2 c2 hY := ho
  clear ho
  obtain ⟨⟨pa, qa, e1⟩, ⟨pb, qb, e2⟩, ⟨pc, qc, e3⟩⟩ := ho2.shapes
  subst e1 e2 e3
  have hzz : Hid (h.r.getD ((k : Nat) : Int).toNat 0 = h.r.getD k 0) := by unfold Hid; rw [Int.toNat_natCast]
  have WIN : Hid (h.r.getD k 0 = -1 ∨ (0 ≤ h.r.getD k 0 ∧ h.r.getD k 0 < (cs.length : Int))) := by unfold Hid; rw [HLN.out]; exact root_in HG.out hk
  have HP : Hid (p ≤ cs.length) := by unfold Hid; rw [HLN.out]; exact hp1
  have HCOL1 := Lib.hid (HCOL.out p HP.out)
  have OH0 := Lib.hid ho2
  obtain ⟨ca, cc, rfl⟩ := A0.out.r.shape
  obtain ⟨zb, zo, rfl, hcz⟩ := A0.out.r.at' (by omega)
  have qz := hcz k hk
  have j1 : (k : Int) < (h.r.length : Int) := by omega
  have j0 : (0 : Int) ≤ (k : Int) := by omega
  clear ho2 HPL HK hk hp1 hp2 HCOL hcz HN1
  generalize hY.f.length = nf at *
  generalize hY.l.length = nl at *
  generalize hY.r.length = nr at *
  generalize h.r.getD k 0 = z at *
  generalize hnh : h.r.length = nh at *
  clear hnh
  have hb1 := below1 w2 (.cells (c3 (.slice pa nf qa) (.slice pb nl qb) (.slice pc nr qc)) 32)
  have hb := hb1.alloc (by simp) (.cells #[.int .i64 z, .int .i64 (p : Int)] 116)
  have v1 := (Row.below V0.out hb1).cell 2
  have u1 := (Row.below U0.out hb1).cell 2
  have z1 := cellBelow hb1 (Nat.le_refl _) qz
  have H3 := Lib.hid (show RowH ((w2.alloc (.cells (c3 (.slice pa nf qa) (.slice pb nl qb) (.slice pc nr qc)) 32)).alloc (.cells #[.int .i64 z, .int .i64 (p : Int)] 116)) w2.heap.size (.slice pa nf qa) (.slice pb nl qb) (.slice pc nr qc) from (Row.new w2 32 (c3 (.slice pa nf qa) (.slice pb nl qb) (.slice pc nr qc))).alloc (.cells #[.int .i64 z, .int .i64 (p : Int)] 116))
  have W3 := Lib.hid (show Row ((w2.alloc (.cells (c3 (.slice pa nf qa) (.slice pb nl qb) (.slice pc nr qc)) 32)).alloc (.cells #[.int .i64 z, .int .i64 (p : Int)] 116)) (w2.heap.size + 1) 116 #[.int .i64 z, .int .i64 (p : Int)] from Row.new1 w2 (.cells (c3 (.slice pa nf qa) (.slice pb nl qb) (.slice pc nr qc)) 32) 116 #[.int .i64 z, .int .i64 (p : Int)])
  have OH2 := Lib.hid (OH0.out.below hb)
  have S3W : Hid (w2.heap.size ≤ ((w2.alloc (.cells (c3 (.slice pa nf qa) (.slice pb nl qb) (.slice pc nr qc)) 32)).alloc (.cells #[.int .i64 z, .int .i64 (p : Int)] 116)).heap.size) := hb.size
  clear hb1 qz
  replace A0 := Lib.hid (A0.out.below hb)
  replace Z0 := Lib.hid (Z0.out.below hb)
  replace U0 := Lib.hid (Row.below U0.out hb)
  replace V0 := Lib.hid (Row.below V0.out hb)
  replace R0 := Lib.hid (Row.below R0.out hb)
  replace L := Lib.hid (bst L.out hb L.out.size)
  clear hb
  have U3 := Lib.hid U0.out; have V3 := Lib.hid V0.out; have R3 := Lib.hid (show RowM _ _ _ _ _ _ from R0.out)
  have L3 := Lib.hid L.out
  have Z3 : Hid (IntsAt ((w2.alloc (.cells (c3 (.slice pa nf qa) (.slice pb nl qb) (.slice pc nr qc)) 32)).alloc (.cells #[.int .i64 z, .int .i64 (p : Int)] 116)) d cs) := ZW.out.below L3.out
  have u3 := U3.out.cell 3
  go_wp2_with fail
  clear v1 u1 z1 u3
  refine (c_copyInts d cs _ Z3.out (by have := HC12.out; omega)).mono ?_
  rintro e w5 ⟨d5, rfl, ho5, hb⟩
  obtain ⟨pd, qd, e4⟩ := ho5.ints.shape
  subst e4
  have OC := Lib.hid (Own.mono ho5 S3W.out)
  replace OH2 := Lib.hid (OH2.out.below hb)
  clear OH0 U0 V0 R0 Z0 A0 ho5
  replace L3 := Lib.hid (bst L3.out hb L3.out.size)
  replace U3 := Lib.hid (Row.below U3.out hb)
  replace V3 := Lib.hid (Row.below V3.out hb)
  replace R3 := Lib.hid (Row.below R3.out hb)
  replace H3 := Lib.hid (Row.below H3.out hb)
  replace W3 := Lib.hid (Row.below W3.out hb)
  clear hb Z3
  generalize hnc : cs.length = nc at *
  have HNC := Lib.hid hnc; clear hnc
  have hn12 := HC12.out
  have hp := HP.out
  by_cases hpn : p = nc
  · subst hpn
    have HNEW : Hid (newC cs p 1 = (cs ++ [0]).set p 1) := by unfold Hid newC; rw [if_pos HNC.out.symm]
    have HCX : Hid (outC true (shade (newC cs p 1) (barZ true z (p : Int))) = shade ((cs ++ [0]).set p 1) (p : Int)) := by unfold Hid; rw [HNEW.out]; rfl
    have hlen : (cs ++ [(0 : Int)]).length = p + 1 := by simp [HNC.out]
    have HXX : Hid (Col ((cs ++ [0]).set p 1) ∧ inR ((cs ++ [0]).set p 1).length (p : Int)) := by
      refine ⟨by rw [← HNEW.out]; exact HCOL1.out, ?_⟩
      rw [List.length_set, hlen]
      exact .inr ⟨by omega, by omega⟩
    have HLEN := Lib.hid hlen
    have u5 := U3.out.cell 5
    have hpp : ((p : Int) == (p : Int)) = true := by simp
    have HS := Lib.hid (src_int w5 0)
    have ba := below1 w5 (.cells #[.int .i64 0] 3)
    have HO1 := Lib.hid (OC.out.below ba)
    have SZ5 : Hid (w2.heap.size ≤ w5.heap.size) := (by unfold Hid; have := Row.lt H3.out; omega)
    replace OH2 := Lib.hid (OH2.out.below ba)
    replace L3 := Lib.hid (bst L3.out ba L3.out.size)
    replace U3 := Lib.hid (Row.below U3.out ba)
    replace V3 := Lib.hid (Row.below V3.out ba)
    replace R3 := Lib.hid (Row.below R3.out ba)
    replace H3 := Lib.hid (Row.below H3.out ba)
    replace W3 := Lib.hid (Row.below W3.out ba)
    clear ba hlen
    go_upto_region 8 with (at_builtin; refine wl_appOwn _ rfl _ _ 24 rfl w2.heap.size 3 i0 (.int .i64 0) 8 Try.underlying24 hi hz0 hz1 hz2 rfl (.slice pd p qd) _ _ rfl HO1.out _ _ rfl HS.out (by have := HC12.out; have := HNC.out; simp; unfold maxLen; omega) (by have := HC12.out; have := HNC.out; simp; omega) (by rw [World.size_alloc]; have := SZ5.out; omega) ?_; intro v6 w6 ho6 hg6 _; have O6 : Hid (Own w6 w2.heap.size v6 (cs ++ [0])) := (by { unfold Hid Own; rw [List.map_append, List.length_append]; exact ho6 }); have HG6 := Lib.hid hg6; clear ho6 hg6)
    have ne := fun g T ds (hr : Row (w5.alloc (.cells #[.int .i64 0] 3)) g T ds) (hT : T ≠ 3) => ne_row HO1.out hr hT
    replace OH2 := Lib.hid (OH2.out.chg (Chg.of_grown (lo := w2.heap.size) (hi := (w5.alloc (.cells #[.int .i64 0] 3)).heap.size) HG6.out (fun g' e => owns_lt HO1.out e)) (.inl (Nat.le_refl _)))
    replace L3 := Lib.hid (L3.out.grown HG6.out L3.out.size (fun g' e => by have := (owns_lt HO1.out e).1; have := SZ1.out; have := SZ2.out; omega))
    replace U3 := Lib.hid (Row.grownBy U3.out HG6.out (ne _ _ _ U3.out (by decide))); replace R3 := Lib.hid (show RowM _ _ _ _ _ _ from Row.grownBy R3.out HG6.out (ne _ _ _ R3.out (by decide))); replace H3 := Lib.hid (show RowH _ _ _ _ _ from Row.grownBy H3.out HG6.out (ne _ _ _ H3.out (by decide))); replace W3 := Lib.hid (Row.grownBy W3.out HG6.out (ne _ _ _ W3.out (by decide)))
    clear HG6 ne u5
    rcases O6.out.shape' with ⟨_, h0⟩ | ⟨g6, c6, hv6⟩
    · simp at h0
    rw [HLEN.out] at hv6
    subst hv6
    obtain ⟨s1, s2, s3, s4⟩ := O6.out.store1 HLEN.out (z := p) (by omega) 1
    have u6 := U3.out.cell 5
    have j6 : (p : Int) < ((p + 1 : Nat) : Int) := by omega
    have j60 : (0 : Int) ≤ (p : Int) := by omega
    generalize (cs ++ [(0 : Int)]).getD p 0 = z6 at *
    have ne := fun g T ds (hr : Row w6 g T ds) (hT : T ≠ 3) => ne_row O6.out hr hT
    have U6 := Lib.hid (Row.grownBy U3.out s2 (ne _ _ _ U3.out (by decide))); have R6 := Lib.hid (show RowM _ _ _ _ _ _ from Row.grownBy R3.out s2 (ne _ _ _ R3.out (by decide))); have H6 := Lib.hid (show RowH _ _ _ _ _ from Row.grownBy H3.out s2 (ne _ _ _ H3.out (by decide))); have W6 := Lib.hid (Row.grownBy W3.out s2 (ne _ _ _ W3.out (by decide)))
    have OH6 := Lib.hid (OH2.out.chg (Chg.of_grown (lo := w2.heap.size) (hi := w6.heap.size) s2 (fun g' e => by cases e; exact owns_lt O6.out rfl)) (.inl (Nat.le_refl _)))
    have L6 := Lib.hid (L3.out.grown s2 L3.out.size (fun g' e => by cases e; have := (owns_lt (g := g6) O6.out rfl).1; have := SZ1.out; have := SZ2.out; omega))
    have C6 := Lib.hid s1
    have SW6 : Hid (w2.heap.size ≤ w6.heap.size) := (by unfold Hid; have := (owns_lt (g := g6) O6.out rfl); omega)
    clear s1 s2 ne
    have qU60 := U6.out.cell 0
    have qU61 := U6.out.cell 1
    have qU62 := U6.out.cell 2
    have qU63 := U6.out.cell 3
    have qU64 := U6.out.cell 4
    have qU65 := U6.out.cell 5
    have qU66 := U6.out.cell 6
    have qH60 := H6.out.cell 0
    have qH61 := H6.out.cell 1
    have qH62 := H6.out.cell 2
    have qW60 := W6.out.cell 0
    have qW61 := W6.out.cell 1
    go_wp2_with fail
    clear qU60 qU61 qU62 qU63 qU64 qU65 qU66 qH60 qH61 qH62 qW60 qW61
    rw [hf.out]
    refine (c_written_true w2.heap.size _ _ _ _ _ _ (.slice pa nf qa) (.slice pb nl qb) (.slice pc nr qc) (.slice (some ⟨g6, 0, none⟩) (p + 1) c6) _ z (p : Int) _ C6.out HXX.out.1 HXX.out.2 ⟨rfl, rfl, rfl⟩).mono ?_
    rw [← hf.out]
    rintro e w8 ⟨rfl, ho8, hg8⟩
    have R8 := Lib.hid (show RowM _ _ _ _ _ _ from Row.grownBy R6.out hg8 (ne_row C6.out R6.out (by decide)))
    have O8 := Lib.hid (OH6.out.chg (Chg.of_grown (lo := w2.heap.size) hg8 (fun g' e => owns_lt C6.out e)) (.inl (Nat.le_refl _)))
    have L8 := Lib.hid (L6.out.grown hg8 L6.out.size (fun g' e => by have := (owns_lt C6.out e).1; have := SZ1.out; have := SZ2.out; omega))
    have SW8 : Hid (w2.heap.size ≤ w8.heap.size) := (by unfold Hid; have := hg8.size; rw [World.size_setCell] at this; have := SW6.out; omega)
    have C8 := Lib.hid ho8
    clear ho8 hg8 C6
    go_wp2_with (refine wl_storeM rfl _ _ rfl (w.heap.size + 1 + 1) (.slice pa nf qa) (.slice pb nl qb) (.slice pc nr qc) (.slice (some ⟨g6, 0, none⟩) (p + 1) c6) _ _ _ _ R8.out rfl rfl rfl rfl rfl rfl ?_)
    refine bodyPost_ret (res_row_slot Try.results187 (Row.put R8.out (m4 (.slice pa nf qa) (.slice pb nl qb) (.slice pc nr qc) (.slice (some ⟨g6, 0, none⟩) (p + 1) c6))) rfl rfl Try.underlying34 rfl info_marking) rfl (endM_yes (below_setRow L8.out (by omega) _) ((OwnM.hc O8.out (OwnC.ofOwn C8.out SW8.out) SZ2.out SW8.out).whole (w.heap.size + 1 + 1) SZ1.out _) (by have := SZ1.out; omega) (by rw [size_setRow]; exact Nat.le_refl _) (by rfl) (by rw [hzz.out]; exact HCX.out) rfl)
  have hpl : p < nc := by omega
  have HNEW : Hid (newC cs p 1 = cs.set p 1) := by unfold Hid newC; rw [if_neg (by rw [HNC.out]; exact hpn)]
  have HCX : Hid (outC true (shade (newC cs p 1) (barZ true z (p : Int))) = shade (cs.set p 1) (p : Int)) := by unfold Hid; rw [HNEW.out]; rfl
  have HXX : Hid (Col (cs.set p 1) ∧ inR (cs.set p 1).length (p : Int)) := by
    refine ⟨by rw [← HNEW.out]; exact HCOL1.out, ?_⟩
    rw [List.length_set, HNC.out]
    exact .inr ⟨by omega, by omega⟩
  rcases OC.out.shape' with ⟨_, h0⟩ | ⟨g6, c6, hv⟩
  · rw [h0] at HNC; have := HNC.out; simp at this; omega
  rw [HNC.out] at hv
  cases hv
  have hpp : ((p : Int) == (nc : Int)) = false := by simp; omega
  have j6 : (p : Int) < (nc : Int) := by omega
  have j60 : (0 : Int) ≤ (p : Int) := by omega
  have u6 := U3.out.cell 5
  obtain ⟨s1, s2, s3, s4⟩ := OC.out.store1 HNC.out hpl 1
  generalize cs.getD p 0 = z6 at *
  have ne := fun g T ds (hr : Row w5 g T ds) (hT : T ≠ 3) => ne_row OC.out hr hT
  have U6 := Lib.hid (Row.grownBy U3.out s2 (ne _ _ _ U3.out (by decide))); have R6 := Lib.hid (show RowM _ _ _ _ _ _ from Row.grownBy R3.out s2 (ne _ _ _ R3.out (by decide))); have H6 := Lib.hid (show RowH _ _ _ _ _ from Row.grownBy H3.out s2 (ne _ _ _ H3.out (by decide))); have W6 := Lib.hid (Row.grownBy W3.out s2 (ne _ _ _ W3.out (by decide)))
  have OH6 := Lib.hid (OH2.out.chg (Chg.of_grown (lo := w2.heap.size) (hi := w5.heap.size) s2 (fun g' e => by cases e; exact owns_lt OC.out rfl)) (.inl (Nat.le_refl _)))
  have L6 := Lib.hid (L3.out.grown s2 L3.out.size (fun g' e => by cases e; have := (owns_lt (g := g6) OC.out rfl).1; have := SZ1.out; have := SZ2.out; omega))
  have C6 := Lib.hid s1
  have SW6 : Hid (w2.heap.size ≤ w5.heap.size) := (by unfold Hid; have := (owns_lt (g := g6) OC.out rfl); omega)
  have hpq : (p == nc) = false := by simpa using hpn
  clear s1 s2 ne hpn hpl hp hn12
  have qU60 := U6.out.cell 0
  have qU61 := U6.out.cell 1
  have qU62 := U6.out.cell 2
  have qU63 := U6.out.cell 3
  have qU64 := U6.out.cell 4
  have qU65 := U6.out.cell 5
  have qU66 := U6.out.cell 6
  have qH60 := H6.out.cell 0
  have qH61 := H6.out.cell 1
  have qH62 := H6.out.cell 2
  have qW60 := W6.out.cell 0
  have qW61 := W6.out.cell 1
  go_wp2_with fail
  clear qU60 qU61 qU62 qU63 qU64 qU65 qU66 qH60 qH61 qH62 qW60 qW61
  rw [hf.out]
  refine (c_written_true w2.heap.size _ _ _ _ _ _ (.slice pa nf qa) (.slice pb nl qb) (.slice pc nr qc) (.slice (some ⟨g6, 0, none⟩) nc qd) _ z (p : Int) _ C6.out HXX.out.1 HXX.out.2 ⟨rfl, rfl, rfl⟩).mono ?_
  rw [← hf.out]
  rintro e w8 ⟨rfl, ho8, hg8⟩
  have R8 := Lib.hid (show RowM _ _ _ _ _ _ from Row.grownBy R6.out hg8 (ne_row C6.out R6.out (by decide)))
  have O8 := Lib.hid (OH6.out.chg (Chg.of_grown (lo := w2.heap.size) hg8 (fun g' e => owns_lt C6.out e)) (.inl (Nat.le_refl _)))
  have L8 := Lib.hid (L6.out.grown hg8 L6.out.size (fun g' e => by have := (owns_lt C6.out e).1; have := SZ1.out; have := SZ2.out; omega))
  have SW8 : Hid (w2.heap.size ≤ w8.heap.size) := (by unfold Hid; have := hg8.size; rw [World.size_setCell] at this; have := SW6.out; omega)
  have C8 := Lib.hid ho8
  clear ho8 hg8 C6
  go_wp2_with (refine wl_storeM rfl _ _ rfl (w.heap.size + 1 + 1) (.slice pa nf qa) (.slice pb nl qb) (.slice pc nr qc) (.slice (some ⟨g6, 0, none⟩) nc qd) _ _ _ _ R8.out rfl rfl rfl rfl rfl rfl ?_)
  refine bodyPost_ret (res_row_slot Try.results187 (Row.put R8.out (m4 (.slice pa nf qa) (.slice pb nl qb) (.slice pc nr qc) (.slice (some ⟨g6, 0, none⟩) nc qd))) rfl rfl Try.underlying34 rfl info_marking) rfl (endM_yes (below_setRow L8.out (by omega) _) ((OwnM.hc O8.out (OwnC.ofOwn C8.out SW8.out) SZ2.out SW8.out).whole (w.heap.size + 1 + 1) SZ1.out _) (by have := SZ1.out; omega) (by rw [size_setRow]; exact Nat.le_refl _) (by rfl) (by rw [hzz.out]; exact HCX.out) rfl)
end Go.Proofs.Ytbmfkgfmibpkjaa
namespace Go.Proofs.Ytbmfkgfmibpkjaa
open Go.RowKit Ph
theorem info_rule : (Try.prog.info? 167).map (·.size) = some 3 := by kernel_rfl
abbrev ru (p : Value) (ub ut : Bool) : Value := .agg #[p, .bool ub, .bool ut]
abbrev ru3 (p : Value) (ub ut : Bool) : Array Value := #[p, .bool ub, .bool ut]
theorem wl_storeRu {ops : Array Oper} {rest : List Oper} {o : Oper} {q : Act} {w : World} {Q : Exit → Act → World → Prop} (hgd : o.guard = none) (x y : Operand) (ho : o.op = .store 167 x y) (g : Nat) (p : Value) (ub ut : Bool) (c0 : Array Value) (hg : Row w g 167 c0)
    (hx : q.eval x = .pointer (some ⟨g, 0, none⟩)) (hy : q.eval y = ru p ub ut) (hs : (ru3 p ub ut).size = c0.size) (h1 : p.oneCell' = true) (h : wpList Try.prog ops Q rest (q.put o.dst undef) (w.setRow g (ru3 p ub ut))) : wpList Try.prog ops Q (o :: rest) q w :=
  wpList_store_row hgd 167 x y ho g (ru3 p ub ut) hx hy 167 c0 hg info_rule hs.symm (by simp [Value.oneCell']; exact h1) h
def ruleP (u : Value) (k : Int) : Value := if k = 1 then .func (.func 184) #[u] #[] else if k = 2 then .func (.func 185) #[u] #[] else if k = 3 then .func (.func 186) #[u] #[] else if k = 4 then .func (.func 187) #[u] #[] else .nilFunc
def ruleB (k : Int) : Bool := decide (k = 2) || decide (k = 4)
def ruleT (k : Int) : Bool := decide (k = 2) || decide (k = 3)
def ruleK (k : Int) : Bool := decide (1 ≤ k) && decide (k ≤ 4)

set_option maxHeartbeats 3200000 in
set_option maxRecDepth 100000 in
theorem c_ruleOf (a b c d f x r : Value) (k : Int) (w : World) : Calls Try.prog 147 #[mu a b c d f x r, .int .i64 k] w fun e w' => e = .returned (.tuple #[ru (ruleP (mu a b c d f x r) k) (ruleB k) (ruleT k), .bool (ruleK k)]) ∧ Below w.heap.size w w' := by
  have b0 := (below1 w (.cells (mu7 a b c d f x r) 164)).alloc (by simp) (.cells (ru3 .nilFunc false false) 167)
  have L := Lib.hid b0
  have U0 := Lib.hid (show Row _ w.heap.size 164 (mu7 a b c d f x r) from (Row.new w 164 (mu7 a b c d f x r)).alloc (.cells (ru3 .nilFunc false false) 167))
  have R0 := Lib.hid (Row.new1 w (.cells (mu7 a b c d f x r) 164) 167 (ru3 .nilFunc false false))
  clear b0
  have q0 := U0.out.cell 0
  have q1 := U0.out.cell 1
  have q2 := U0.out.cell 2
  have q3 := U0.out.cell 3
  have q4 := U0.out.cell 4
  have q5 := U0.out.cell 5
  have q6 := U0.out.cell 6
  by_cases h1 : k = 1
  · subst h1
    go_enter Try.func147, Try.ntmps147
    go_wp2_with (refine wl_storeRu rfl _ _ rfl (w.heap.size + 1) (.func (.func 184) #[mu a b c d f x r] #[]) false false _ R0.out rfl rfl rfl rfl ?_)
    refine bodyPost_ret (res_row_slot Try.results147 (Row.put R0.out (ru3 (.func (.func 184) #[mu a b c d f x r] #[]) false false)) rfl rfl Try.underlying167 rfl info_rule) rfl ⟨?_, below_setRow L.out (by omega) _⟩
    rfl
  by_cases h2 : k = 2
  · subst h2
    go_enter Try.func147, Try.ntmps147
    go_wp2_with (refine wl_storeRu rfl _ _ rfl (w.heap.size + 1) (.func (.func 185) #[mu a b c d f x r] #[]) true true _ R0.out rfl rfl rfl rfl ?_)
    refine bodyPost_ret (res_row_slot Try.results147 (Row.put R0.out (ru3 (.func (.func 185) #[mu a b c d f x r] #[]) true true)) rfl rfl Try.underlying167 rfl info_rule) rfl ⟨?_, below_setRow L.out (by omega) _⟩
    rfl
  by_cases h3 : k = 3
  · subst h3
    go_enter Try.func147, Try.ntmps147
    go_wp2_with (refine wl_storeRu rfl _ _ rfl (w.heap.size + 1) (.func (.func 186) #[mu a b c d f x r] #[]) false true _ R0.out rfl rfl rfl rfl ?_)
    refine bodyPost_ret (res_row_slot Try.results147 (Row.put R0.out (ru3 (.func (.func 186) #[mu a b c d f x r] #[]) false true)) rfl rfl Try.underlying167 rfl info_rule) rfl ⟨?_, below_setRow L.out (by omega) _⟩
    rfl
  by_cases h4 : k = 4
  · subst h4
    go_enter Try.func147, Try.ntmps147
    go_wp2_with (refine wl_storeRu rfl _ _ rfl (w.heap.size + 1) (.func (.func 187) #[mu a b c d f x r] #[]) true false _ R0.out rfl rfl rfl rfl ?_)
    refine bodyPost_ret (res_row_slot Try.results147 (Row.put R0.out (ru3 (.func (.func 187) #[mu a b c d f x r] #[]) true false)) rfl rfl Try.underlying167 rfl info_rule) rfl ⟨?_, below_setRow L.out (by omega) _⟩
    rfl
  have e1 : (k == 1) = false := by simpa using h1
  have e2 : (k == 2) = false := by simpa using h2
  have e3 : (k == 3) = false := by simpa using h3
  have e4 : (k == 4) = false := by simpa using h4
  have HX : Hid (Value.tuple #[ru .nilFunc false false, .bool false] = .tuple #[ru (ruleP (mu a b c d f x r) k) (ruleB k) (ruleT k), .bool (ruleK k)]) := by
    have hk : ruleK k = false := by unfold ruleK; rw [← Bool.decide_and]; exact decide_eq_false (by omega)
    unfold Hid ruleP ruleB ruleT
    rw [hk]
    simp [h1, h2, h3, h4]
  clear h1 h2 h3 h4
  go_enter Try.func147, Try.ntmps147
  go_wp2_with (refine wl_storeRu rfl _ _ rfl (w.heap.size + 1) .nilFunc false false _ R0.out rfl rfl rfl rfl ?_)
  refine bodyPost_ret (res_row_slot Try.results147 (Row.put R0.out (ru3 .nilFunc false false)) rfl rfl Try.underlying167 rfl info_rule) rfl ⟨?_, below_setRow L.out (by omega) _⟩
  exact congrArg Ending.returned HX.out
end Go.Proofs.Ytbmfkgfmibpkjaa
namespace Go.Proofs.Ytbmfkgfmibpkjaa
open Go.RowKit Ph
theorem ne_rowB {w : World} {B g : Nat} {T : TypeId} {v : Value} {cs : List Bool} {ds : Array Value} (ho : OwnBs w B v cs) (hr : Row w g T ds) (hT : T ≠ 4) : v.ownBlock ≠ some g := by
  intro hg
  rcases ho.2 with ⟨rfl, _⟩ | ⟨g2, cap, cur, rfl, _, h2, _⟩
  · cases hg
  · cases hg
    unfold Row at hr
    rw [h2] at hr
    cases hr
    exact hT rfl
theorem ruleP_one (u : Value) (k : Int) : (ruleP u k).oneCell' = true := by
  unfold ruleP
  split
  · rfl
  · split
    · rfl
    · split
      · rfl
      · split <;> rfl
/-- Behind the laying of the mutator. -/
def MidS (put : Bool) (a b c d : Value) (h : H) (cs : List Int) (v : Mv) (w : World) (wk : World) (gU : Nat) (r : Value) : Prop :=
  Row wk gU 164 (mu7 a b c d (fnB put) (.int .i64 (fresh put)) r) ∧ BoolsAt wk r (reachL h.f h.r) ∧ HeapAt wk a b c h ∧ IntsAt wk d cs ∧ Row wk (w.heap.size + 1) 38 (mo4 v) ∧ RowM wk (w.heap.size + 1 + 1 + 1) nilS nilS nilS nilS ∧ Below w.heap.size w wk ∧ w.heap.size + 1 + 1 + 1 < gU

end Go.Proofs.Ytbmfkgfmibpkjaa
namespace Go.Proofs.Ytbmfkgfmibpkjaa
open Go.RowKit Ph

set_option maxHeartbeats 6400000 in
set_option maxRecDepth 100000 in
theorem c_lay_false (OK : Bool) (HH : H) (CC : List Int) (a b c d : Value) (h : H) (cs : List Int) (v : Mv) (w : World) (hA : HeapAt w a b c h) (hC : IntsAt w d cs)
    (hno : (bothB h cs && (ruleK v.k && (decide (v.b = 0) || ruleB v.k) && (decide (v.t = 0) || ruleT v.k))) = false → OK = false)
    (hgo : bothB h cs = true → (ruleK v.k && (decide (v.b = 0) || ruleB v.k) && (decide (v.t = 0) || ruleT v.k)) = true → ∀ (r : Value) (w' : World), HeapAt w' a b c h → IntsAt w' d cs → BoolsAt w' r (reachL h.f h.r) → ∃ N, ruleP (mu a b c d (.func (.func 92) #[] #[]) (.int .i64 2) r) v.k = .func (.func N) #[mu a b c d (.func (.func 92) #[] #[]) (.int .i64 2) r] #[] ∧ (∀ args w'', (callFunc N args).run Try.prog w'' = .ok (.enter N args) w'') ∧ Calls Try.prog N #[mu a b c d (.func (.func 92) #[] #[]) (.int .i64 2) r, mo v] w' (EndM HH CC OK w')) (hH : OK = false → HH = ⟨[], [], []⟩) (hCC : OK = false → CC = []) : Calls Try.prog 91 #[mv a b c d, mo v, .agg #[(.func (.func 92) #[] #[]), (.int .i64 2)]] w (EndM HH CC OK w) := by
  obtain ⟨pa, qa, rfl⟩ := hA.f.shape
  obtain ⟨pb, qb, rfl⟩ := hA.l.shape
  obtain ⟨pc, qc, rfl⟩ := hA.r.shape
  obtain ⟨pd, qd, rfl⟩ := hC.shape
  generalize hnf : h.f.length = nf at *
  have HF := Lib.hid hnf; clear hnf
  generalize hnl : h.l.length = nl at *
  have HL := Lib.hid hnl; clear hnl
  generalize hnr : h.r.length = nr at *
  have HR := Lib.hid hnr; clear hnr
  generalize hnc : cs.length = nc at *
  have HNC := Lib.hid hnc; clear hnc
  have b0 := (((below1 w (.cells (m4 (.slice pa nf qa) (.slice pb nl qb) (.slice pc nr qc) (.slice pd nc qd)) 34)).alloc (by simp) (.cells (mo4 v) 38)).alloc (by simp; omega) (.cells #[(.func (.func 92) #[] #[]), (.int .i64 2)] 118)).alloc (by simp; omega) (.cells (m4 nilS nilS nilS nilS) 34)
  have AW := Lib.hid hA; have CW := Lib.hid hC
  have A0 := Lib.hid (hA.below b0); have Z0 := Lib.hid (hC.below b0)
  have L := Lib.hid b0
  have M0 := Lib.hid (show RowM _ w.heap.size (.slice pa nf qa) (.slice pb nl qb) (.slice pc nr qc) (.slice pd nc qd) from (((Row.new w 34 (m4 (.slice pa nf qa) (.slice pb nl qb) (.slice pc nr qc) (.slice pd nc qd))).alloc (.cells (mo4 v) 38)).alloc (.cells #[(.func (.func 92) #[] #[]), (.int .i64 2)] 118)).alloc (.cells (m4 nilS nilS nilS nilS) 34))
  have V0 := Lib.hid (show Row _ (w.heap.size + 1) 38 (mo4 v) from ((Row.new1 w (.cells (m4 (.slice pa nf qa) (.slice pb nl qb) (.slice pc nr qc) (.slice pd nc qd)) 34) 38 (mo4 v)).alloc (.cells #[(.func (.func 92) #[] #[]), (.int .i64 2)] 118)).alloc (.cells (m4 nilS nilS nilS nilS) 34))
  have B0 := Lib.hid (show Row _ (w.heap.size + 1 + 1) 118 #[(.func (.func 92) #[] #[]), (.int .i64 2)] from (Row.new2 w (.cells (m4 (.slice pa nf qa) (.slice pb nl qb) (.slice pc nr qc) (.slice pd nc qd)) 34) (.cells (mo4 v) 38) 118 #[(.func (.func 92) #[] #[]), (.int .i64 2)]).alloc (.cells (m4 nilS nilS nilS nilS) 34))
  have R0 := Lib.hid (show RowM _ (w.heap.size + 1 + 1 + 1) nilS nilS nilS nilS from Row.new3 w (.cells (m4 (.slice pa nf qa) (.slice pb nl qb) (.slice pc nr qc) (.slice pd nc qd)) 34) (.cells (mo4 v) 38) (.cells #[(.func (.func 92) #[] #[]), (.int .i64 2)] 118) 34 (m4 nilS nilS nilS nilS))
  clear hA hC b0
  have HG1 := Lib.hid (fun w' q1 q2 => c_GoodMarking (.slice pa nf qa) (.slice pb nl qb) (.slice pc nr qc) (.slice pd nc qd) h cs w' q1 q2)
  have HGQ := Lib.hid hgo; have HNO0 := Lib.hid hno; have HH0 := Lib.hid hH; have HC0 := Lib.hid hCC
  clear hno hgo hH hCC
  have HBB : Hid (bothB h cs = true → Ph.Good h) := fun q => (bothB_iff.1 q).1
  obtain ⟨vk, va, vb, vt⟩ := v
  try simp only at HNO0
  try simp only at HGQ
  try simp only
  generalize bothB h cs = bo at *
  have c0 := M0.out.cell 0
  have c1 := M0.out.cell 1
  have c2 := M0.out.cell 2
  have c3' := M0.out.cell 3
  go_enter Try.func91, Try.ntmps91
  go_wp2_with fail
  clear c0 c1 c2 c3'
  refine (HG1.out _ A0.out Z0.out).mono ?_
  rintro e w1 ⟨rfl, hb⟩
  replace A0 := Lib.hid (A0.out.below hb); replace Z0 := Lib.hid (Z0.out.below hb); replace L := Lib.hid (bst L.out hb L.out.size)
  replace M0 := Lib.hid (show RowM _ _ _ _ _ _ from Row.below M0.out hb); replace V0 := Lib.hid (Row.below V0.out hb); replace B0 := Lib.hid (Row.below B0.out hb); replace R0 := Lib.hid (show RowM _ _ _ _ _ _ from Row.below R0.out hb)
  clear hb HG1
  cases bo
  · have HE : Hid (OK = false) := HNO0.out (Bool.false_and _)
    go_wp2_with (refine wl_storeM rfl _ _ rfl (w.heap.size + 1 + 1 + 1) nilS nilS nilS nilS _ _ _ _ R0.out rfl rfl rfl rfl rfl rfl ?_)
    refine bodyPost_ret (res_row_slot Try.results91 (Row.put R0.out (m4 nilS nilS nilS nilS)) rfl rfl Try.underlying34 rfl info_marking) rfl (endM_none (below_setRow L.out (by omega) _) (HH0.out HE.out) (HC0.out HE.out) HE.out)
  have HG := Lib.hid (HBB.out rfl)
  have HGO := Lib.hid (HGQ.out rfl)
  have HNO := Lib.hid (fun q => HNO0.out ((Bool.true_and _).trans q))
  clear HGQ HNO0
  clear HBB
  have A2 : Hid (HeapAt w1.drew (.slice pa nf qa) (.slice pb nl qb) (.slice pc nr qc) h) := A0.out.below (below_drew (Below.refl _ _))
  have Z2 : Hid (IntsAt w1.drew (.slice pd nc qd) cs) := Z0.out.below (below_drew (Below.refl _ _))
  have M2 : Hid (RowM w1.drew w.heap.size (.slice pa nf qa) (.slice pb nl qb) (.slice pc nr qc) (.slice pd nc qd)) := M0.out
  have V2 : Hid (Row w1.drew (w.heap.size + 1) 38 (mo4 ⟨vk, va, vb, vt⟩)) := V0.out
  have B2 : Hid (Row w1.drew (w.heap.size + 1 + 1) 118 #[(.func (.func 92) #[] #[]), (.int .i64 2)]) := B0.out
  have R2 : Hid (RowM w1.drew (w.heap.size + 1 + 1 + 1) nilS nilS nilS nilS) := R0.out
  have L2 := Lib.hid (below_drew L.out)
  clear A0 Z0 M0 V0 B0 R0 L
  go_upto_region 3 with fail
  go_cut [8] from 15 (fun p wk => ∃ gU r, p = .pointer (some ⟨gU, 0, none⟩) ∧ Hid (MidS false (.slice pa nf qa) (.slice pb nl qb) (.slice pc nr qc) (.slice pd nc qd) h cs ⟨vk, va, vb, vt⟩ w wk gU r))
  case first =>
    refine wp_region_held_drew (S := (fun w' => w'.cell? ⟨w.heap.size, 0, none⟩ = some (.slice pa nf qa) ∧ w'.cell? ⟨w.heap.size, 1, none⟩ = some (.slice pb nl qb) ∧ w'.cell? ⟨w.heap.size, 2, none⟩ = some (.slice pc nr qc) ∧ w'.cell? ⟨w.heap.size, 3, none⟩ = some (.slice pd nc qd) ∧ w'.cell? ⟨w.heap.size + 1 + 1, 0, none⟩ = some (.func (.func 92) #[] #[]) ∧ w'.cell? ⟨w.heap.size + 1 + 1, 1, none⟩ = some (.int .i64 2))) (by kernel_rfl) (⟨M2.out.cell 0, M2.out.cell 1, M2.out.cell 2, M2.out.cell 3, B2.out.cell 0, B2.out.cell 1⟩) (fun hHeld => ?_)
    generalize w1.drew = x1 at *
    refine wpAnyH_take (i := 0) (v := ?va0x1) rfl (by kernel_rfl) (by kernel_rfl) (by kernel_rfl) (fun _ _ _ h => h) (Or.inl ⟨by rfl, ?hy0x1⟩) (by assumption) ?rest0x1
    case hy0x1 => (intro w hSw; (try dsimp only at hSw); go_simp; try with_reducible rfl)
    (try simp only [Act.put, List.getElem_toArray, List.getElem_cons_zero, List.setIfInBounds_toArray, List.set_cons_zero, List.set_cons_succ])
    refine wpAnyH_take (i := 1) (v := ?va1x2) rfl (by kernel_rfl) (by kernel_rfl) (by kernel_rfl) (fun _ _ _ h => h) (Or.inl ⟨by rfl, ?hy1x2⟩) (by assumption) ?rest1x2
    case hy1x2 => (intro w hSw; (try dsimp only at hSw); go_simp; try with_reducible rfl)
    (try simp only [Act.put, List.getElem_toArray, List.getElem_cons_zero, List.getElem_cons_succ, List.setIfInBounds_toArray, List.set_cons_zero, List.set_cons_succ])
    refine wpAnyH_take (i := 2) (v := ?va2x3) rfl (by kernel_rfl) (by kernel_rfl) (by kernel_rfl) (fun _ _ _ h => h) (Or.inl ⟨by rfl, ?hy2x3⟩) (by assumption) ?rest2x3
    case hy2x3 => (intro w hSw; (try dsimp only at hSw); go_simp; try with_reducible rfl)
    (try simp only [Act.put, List.getElem_toArray, List.getElem_cons_zero, List.getElem_cons_succ, List.setIfInBounds_toArray, List.set_cons_zero, List.set_cons_succ])
    refine wpAnyH_take (i := 3) (v := ?va3x4) rfl (by kernel_rfl) (by kernel_rfl) (by kernel_rfl) (fun _ _ _ h => h) (Or.inl ⟨by rfl, ?hy3x4⟩) (by assumption) ?rest3x4
    case hy3x4 => (intro w hSw; (try dsimp only at hSw); go_simp; try with_reducible rfl)
    (try simp only [Act.put, List.getElem_toArray, List.getElem_cons_zero, List.getElem_cons_succ, List.setIfInBounds_toArray, List.set_cons_zero, List.set_cons_succ])
    refine wpAnyH_take (i := 4) (v := ?va4x5) rfl (by kernel_rfl) (by kernel_rfl) (by kernel_rfl) (fun _ _ _ h => h) (Or.inl ⟨by rfl, ?hy4x5⟩) (by assumption) ?rest4x5
    case hy4x5 => (intro w hSw; (try dsimp only at hSw); go_simp; try with_reducible rfl)
    (try simp only [Act.put, List.getElem_toArray, List.getElem_cons_zero, List.getElem_cons_succ, List.setIfInBounds_toArray, List.set_cons_zero, List.set_cons_succ])
    refine wpAnyH_take (i := 5) (v := ?va5x6) rfl (by kernel_rfl) (by kernel_rfl) (by kernel_rfl) (fun _ _ _ h => h) (Or.inl ⟨by rfl, ?hy5x6⟩) (by assumption) ?rest5x6
    case hy5x6 => (intro w hSw; (try dsimp only at hSw); go_simp; try with_reducible rfl)
    (try simp only [Act.put, List.getElem_toArray, List.getElem_cons_zero, List.getElem_cons_succ, List.setIfInBounds_toArray, List.set_cons_zero, List.set_cons_succ])
    refine wpAnyH_take (i := 6) (v := ?va6x7) rfl (by kernel_rfl) (by kernel_rfl) (by kernel_rfl) (fun _ _ _ h => h) (Or.inl ⟨by rfl, ?hy6x7⟩) (by assumption) ?rest6x7
    case hy6x7 => (intro w hSw; (try dsimp only at hSw); go_simp; try with_reducible rfl)
    (try simp only [Act.put, List.getElem_toArray, List.getElem_cons_zero, List.getElem_cons_succ, List.setIfInBounds_toArray, List.set_cons_zero, List.set_cons_succ])
    refine wpAnyH_ready (rs := [7, 9]) (by kernel_rfl) (by simp) ?_
    refine AllReadyH.cons rfl (fun K hK => ?_) (AllReadyH.cons rfl (fun K hK => ?_) AllReadyH.nil)
    · skip
      go_simp
      refine (c_reachedOver (.slice pa nf qa) (.slice pb nl qb) (.slice pc nr qc) (.slice pc nr qc) h h.r _ A2.out HG.out A2.out.r (by have := HG.out.rn; omega) (fun z hz => (refs_bound HG.out HG.out.rr z hz).imp id (fun q => ⟨q.1, q.2.1⟩))).mono ?_
      rintro e y1 ⟨r1, rfl, ho1, hb1⟩
      obtain ⟨pr, nr1, qr, rfl⟩ : ∃ p n q, r1 = .slice p n q := by rcases ho1.shape with ⟨q1, _⟩ | ⟨g1, q1, q2⟩; exact ⟨_, _, _, q1⟩; exact ⟨_, _, _, q2⟩
      have Q2 := Lib.hid ho1
      replace A2 := Lib.hid (A2.out.below hb1); replace Z2 := Lib.hid (Z2.out.below hb1); replace L2 := Lib.hid (bst L2.out hb1 L2.out.size)
      replace M2 := Lib.hid (show RowM _ _ _ _ _ _ from Row.below M2.out hb1); replace V2 := Lib.hid (Row.below V2.out hb1); replace B2 := Lib.hid (Row.below B2.out hb1); replace R2 := Lib.hid (show RowM _ _ _ _ _ _ from Row.below R2.out hb1)
      refine hK.out _ _ ⟨M2.out.cell 0, M2.out.cell 1, M2.out.cell 2, M2.out.cell 3, B2.out.cell 0, B2.out.cell 1⟩ (fun hHeld => ?_)
      clear hK K hb1 ho1
      (try simp only [Act.put, List.getElem_toArray, List.getElem_cons_zero, List.getElem_cons_succ, List.setIfInBounds_toArray, List.set_cons_zero, List.set_cons_succ])
      refine wpAnyH_take (i := 8) (v := ?va8x8) rfl (by kernel_rfl) (by kernel_rfl) (by kernel_rfl) (fun _ _ _ h => h) (Or.inl ⟨by rfl, ?hy8x8⟩) (by assumption) ?rest8x8
      case hy8x8 => (intro w hSw; (try dsimp only at hSw); go_simp; try with_reducible rfl)
      (try simp only [Act.put, List.getElem_toArray, List.getElem_cons_zero, List.getElem_cons_succ, List.setIfInBounds_toArray, List.set_cons_zero, List.set_cons_succ])
      refine wpAnyH_ready (rs := [9]) (by kernel_rfl) (by simp) ?_
      refine AllReadyH.cons rfl (fun K hK => ?_) AllReadyH.nil
      have GL : Hid (w.heap.size + 1 + 1 + 1 < y1.heap.size) := Row.lt R2.out
      have ba := below1 y1 (.cells #[nilS, nilS, nilS, nilS, .nilFunc, .int .i64 0, nilS] 164)
      have K2 := Lib.hid (Row.new y1 164 #[nilS, nilS, nilS, nilS, .nilFunc, .int .i64 0, nilS])
      replace A2 := Lib.hid (A2.out.below ba); replace Z2 := Lib.hid (Z2.out.below ba); replace L2 := Lib.hid (bst L2.out ba L2.out.size)
      replace M2 := Lib.hid (show RowM _ _ _ _ _ _ from Row.below M2.out ba); replace V2 := Lib.hid (Row.below V2.out ba); replace B2 := Lib.hid (Row.below B2.out ba); replace R2 := Lib.hid (show RowM _ _ _ _ _ _ from Row.below R2.out ba)
      replace Q2 := Lib.hid (Q2.out.below ba)
      go_simp
      refine hK.out _ _ ⟨M2.out.cell 0, M2.out.cell 1, M2.out.cell 2, M2.out.cell 3, B2.out.cell 0, B2.out.cell 1⟩ (fun hHeld => ?_)
      clear hK K ba
      (try simp only [Act.put, List.getElem_toArray, List.getElem_cons_zero, List.getElem_cons_succ, List.setIfInBounds_toArray, List.set_cons_zero, List.set_cons_succ])
      generalize y1.heap.size = gU at *
      generalize y1.alloc (.cells #[nilS, nilS, nilS, nilS, .nilFunc, .int .i64 0, nilS] 164) = x2 at *
      have n1 : gU ≠ w.heap.size := rows_ne K2.out M2.out (by decide)
      have n2 : gU ≠ w.heap.size + 1 := rows_ne K2.out V2.out (by decide)
      have n3 : gU ≠ w.heap.size + 1 + 1 + 1 := rows_ne K2.out R2.out (by decide)
      have n4 : gU ≠ w.heap.size + 1 + 1 := rows_ne K2.out B2.out (by decide)
      have GN := GL.out
      have M5 := Lib.hid (show RowM _ _ _ _ _ _ from Row.putOther M2.out (mu7 (.slice pa nf qa) (.slice pb nl qb) (.slice pc nr qc) (.slice pd nc qd) (.func (.func 92) #[] #[]) (.int .i64 2) (.slice pr nr1 qr)) (Ne.symm n1))
      have B5 := Lib.hid (Row.putOther B2.out (mu7 (.slice pa nf qa) (.slice pb nl qb) (.slice pc nr qc) (.slice pd nc qd) (.func (.func 92) #[] #[]) (.int .i64 2) (.slice pr nr1 qr)) (Ne.symm n4))
      have V5 := Lib.hid (Row.putOther V2.out (mu7 (.slice pa nf qa) (.slice pb nl qb) (.slice pc nr qc) (.slice pd nc qd) (.func (.func 92) #[] #[]) (.int .i64 2) (.slice pr nr1 qr)) (Ne.symm n2)); have R5 := Lib.hid (show RowM _ _ _ _ _ _ from Row.putOther R2.out (mu7 (.slice pa nf qa) (.slice pb nl qb) (.slice pc nr qc) (.slice pd nc qd) (.func (.func 92) #[] #[]) (.int .i64 2) (.slice pr nr1 qr)) (Ne.symm n3))
      have U5 := Lib.hid (Row.put K2.out (mu7 (.slice pa nf qa) (.slice pb nl qb) (.slice pc nr qc) (.slice pd nc qd) (.func (.func 92) #[] #[]) (.int .i64 2) (.slice pr nr1 qr)))
      have L5 := Lib.hid (below_setRow L2.out (by omega : w.heap.size ≤ gU) (mu7 (.slice pa nf qa) (.slice pb nl qb) (.slice pc nr qc) (.slice pd nc qd) (.func (.func 92) #[] #[]) (.int .i64 2) (.slice pr nr1 qr)))
      have A5 := Lib.hid (AW.out.below L5.out); have Z5 := Lib.hid (CW.out.below L5.out); have Q5 := Lib.hid (owns_bools (owns_block Q2.out fun g hg => setRow_other _ gU g (mu7 (.slice pa nf qa) (.slice pb nl qb) (.slice pc nr qc) (.slice pd nc qd) (.func (.func 92) #[] #[]) (.int .i64 2) (.slice pr nr1 qr)) (fun q => ne_rowB Q2.out K2.out (by decide) (by rw [hg, q]))))
      refine wpAnyH_ready (rs := [10]) (by kernel_rfl) (by simp) ?_
      refine AllReadyH.cons rfl (fun K hK => ?_) AllReadyH.nil
      refine wp_store_row 164 _ _ rfl gU (mu7 (.slice pa nf qa) (.slice pb nl qb) (.slice pc nr qc) (.slice pd nc qd) (.func (.func 92) #[] #[]) (.int .i64 2) (.slice pr nr1 qr)) rfl rfl 164 _ K2.out info_mutator rfl (by simp [Value.oneCell']) ?_
      refine hK.out _ _ ⟨M5.out.cell 0, M5.out.cell 1, M5.out.cell 2, M5.out.cell 3, B5.out.cell 0, B5.out.cell 1⟩ (fun hHeld => ?_)
      clear hK K
      (try simp only [Act.put, List.getElem_toArray, List.getElem_cons_zero, List.getElem_cons_succ])
      refine wpAnyH_done (by kernel_rfl) ?_ _
      go_wp2_with fail
      go_meet
      case rel => exact ⟨gU, .slice pr nr1 qr, rfl, U5.out, Q5.out, A5.out, Z5.out, V5.out, R5.out, L5.out, by omega⟩
    · skip
      have GL : Hid (w.heap.size + 1 + 1 + 1 < x1.heap.size) := Row.lt R2.out
      have ba := below1 x1 (.cells #[nilS, nilS, nilS, nilS, .nilFunc, .int .i64 0, nilS] 164)
      have K2 := Lib.hid (Row.new x1 164 #[nilS, nilS, nilS, nilS, .nilFunc, .int .i64 0, nilS])
      replace A2 := Lib.hid (A2.out.below ba); replace Z2 := Lib.hid (Z2.out.below ba); replace L2 := Lib.hid (bst L2.out ba L2.out.size)
      replace M2 := Lib.hid (show RowM _ _ _ _ _ _ from Row.below M2.out ba); replace V2 := Lib.hid (Row.below V2.out ba); replace B2 := Lib.hid (Row.below B2.out ba); replace R2 := Lib.hid (show RowM _ _ _ _ _ _ from Row.below R2.out ba)
      go_simp
      refine hK.out _ _ ⟨M2.out.cell 0, M2.out.cell 1, M2.out.cell 2, M2.out.cell 3, B2.out.cell 0, B2.out.cell 1⟩ (fun hHeld => ?_)
      clear hK K ba
      (try simp only [Act.put, List.getElem_toArray, List.getElem_cons_zero, List.getElem_cons_succ, List.setIfInBounds_toArray, List.set_cons_zero, List.set_cons_succ])
      generalize x1.heap.size = gU at *
      generalize x1.alloc (.cells #[nilS, nilS, nilS, nilS, .nilFunc, .int .i64 0, nilS] 164) = x2 at *
      refine wpAnyH_ready (rs := [7]) (by kernel_rfl) (by simp) ?_
      refine AllReadyH.cons rfl (fun K hK => ?_) AllReadyH.nil
      go_simp
      refine (c_reachedOver (.slice pa nf qa) (.slice pb nl qb) (.slice pc nr qc) (.slice pc nr qc) h h.r _ A2.out HG.out A2.out.r (by have := HG.out.rn; omega) (fun z hz => (refs_bound HG.out HG.out.rr z hz).imp id (fun q => ⟨q.1, q.2.1⟩))).mono ?_
      rintro e y1 ⟨r1, rfl, ho1, hb1⟩
      obtain ⟨pr, nr1, qr, rfl⟩ : ∃ p n q, r1 = .slice p n q := by rcases ho1.shape with ⟨q1, _⟩ | ⟨g1, q1, q2⟩; exact ⟨_, _, _, q1⟩; exact ⟨_, _, _, q2⟩
      have Q2 := Lib.hid ho1
      replace A2 := Lib.hid (A2.out.below hb1); replace Z2 := Lib.hid (Z2.out.below hb1); replace L2 := Lib.hid (bst L2.out hb1 L2.out.size)
      replace M2 := Lib.hid (show RowM _ _ _ _ _ _ from Row.below M2.out hb1); replace V2 := Lib.hid (Row.below V2.out hb1); replace B2 := Lib.hid (Row.below B2.out hb1); replace R2 := Lib.hid (show RowM _ _ _ _ _ _ from Row.below R2.out hb1)
      replace K2 := Lib.hid (Row.below K2.out hb1)
      refine hK.out _ _ ⟨M2.out.cell 0, M2.out.cell 1, M2.out.cell 2, M2.out.cell 3, B2.out.cell 0, B2.out.cell 1⟩ (fun hHeld => ?_)
      clear hK K hb1 ho1
      (try simp only [Act.put, List.getElem_toArray, List.getElem_cons_zero, List.getElem_cons_succ, List.setIfInBounds_toArray, List.set_cons_zero, List.set_cons_succ])
      refine wpAnyH_take (i := 8) (v := ?va8x9) rfl (by kernel_rfl) (by kernel_rfl) (by kernel_rfl) (fun _ _ _ h => h) (Or.inl ⟨by rfl, ?hy8x9⟩) (by assumption) ?rest8x9
      case hy8x9 => (intro w hSw; (try dsimp only at hSw); go_simp; try with_reducible rfl)
      (try simp only [Act.put, List.getElem_toArray, List.getElem_cons_zero, List.getElem_cons_succ, List.setIfInBounds_toArray, List.set_cons_zero, List.set_cons_succ])
      have n1 : gU ≠ w.heap.size := rows_ne K2.out M2.out (by decide)
      have n2 : gU ≠ w.heap.size + 1 := rows_ne K2.out V2.out (by decide)
      have n3 : gU ≠ w.heap.size + 1 + 1 + 1 := rows_ne K2.out R2.out (by decide)
      have n4 : gU ≠ w.heap.size + 1 + 1 := rows_ne K2.out B2.out (by decide)
      have GN := GL.out
      have M5 := Lib.hid (show RowM _ _ _ _ _ _ from Row.putOther M2.out (mu7 (.slice pa nf qa) (.slice pb nl qb) (.slice pc nr qc) (.slice pd nc qd) (.func (.func 92) #[] #[]) (.int .i64 2) (.slice pr nr1 qr)) (Ne.symm n1))
      have B5 := Lib.hid (Row.putOther B2.out (mu7 (.slice pa nf qa) (.slice pb nl qb) (.slice pc nr qc) (.slice pd nc qd) (.func (.func 92) #[] #[]) (.int .i64 2) (.slice pr nr1 qr)) (Ne.symm n4))
      have V5 := Lib.hid (Row.putOther V2.out (mu7 (.slice pa nf qa) (.slice pb nl qb) (.slice pc nr qc) (.slice pd nc qd) (.func (.func 92) #[] #[]) (.int .i64 2) (.slice pr nr1 qr)) (Ne.symm n2)); have R5 := Lib.hid (show RowM _ _ _ _ _ _ from Row.putOther R2.out (mu7 (.slice pa nf qa) (.slice pb nl qb) (.slice pc nr qc) (.slice pd nc qd) (.func (.func 92) #[] #[]) (.int .i64 2) (.slice pr nr1 qr)) (Ne.symm n3))
      have U5 := Lib.hid (Row.put K2.out (mu7 (.slice pa nf qa) (.slice pb nl qb) (.slice pc nr qc) (.slice pd nc qd) (.func (.func 92) #[] #[]) (.int .i64 2) (.slice pr nr1 qr)))
      have L5 := Lib.hid (below_setRow L2.out (by omega : w.heap.size ≤ gU) (mu7 (.slice pa nf qa) (.slice pb nl qb) (.slice pc nr qc) (.slice pd nc qd) (.func (.func 92) #[] #[]) (.int .i64 2) (.slice pr nr1 qr)))
      have A5 := Lib.hid (AW.out.below L5.out); have Z5 := Lib.hid (CW.out.below L5.out); have Q5 := Lib.hid (owns_bools (owns_block Q2.out fun g hg => setRow_other _ gU g (mu7 (.slice pa nf qa) (.slice pb nl qb) (.slice pc nr qc) (.slice pd nc qd) (.func (.func 92) #[] #[]) (.int .i64 2) (.slice pr nr1 qr)) (fun q => ne_rowB Q2.out K2.out (by decide) (by rw [hg, q]))))
      refine wpAnyH_ready (rs := [10]) (by kernel_rfl) (by simp) ?_
      refine AllReadyH.cons rfl (fun K hK => ?_) AllReadyH.nil
      refine wp_store_row 164 _ _ rfl gU (mu7 (.slice pa nf qa) (.slice pb nl qb) (.slice pc nr qc) (.slice pd nc qd) (.func (.func 92) #[] #[]) (.int .i64 2) (.slice pr nr1 qr)) rfl rfl 164 _ K2.out info_mutator rfl (by simp [Value.oneCell']) ?_
      refine hK.out _ _ ⟨M5.out.cell 0, M5.out.cell 1, M5.out.cell 2, M5.out.cell 3, B5.out.cell 0, B5.out.cell 1⟩ (fun hHeld => ?_)
      clear hK K
      (try simp only [Act.put, List.getElem_toArray, List.getElem_cons_zero, List.getElem_cons_succ])
      refine wpAnyH_done (by kernel_rfl) ?_ _
      go_wp2_with fail
      go_meet
      case rel => exact ⟨gU, .slice pr nr1 qr, rfl, U5.out, Q5.out, A5.out, Z5.out, V5.out, R5.out, L5.out, by omega⟩
  case rest =>
    obtain ⟨gU, r, rfl, HM⟩ := hcut
    obtain ⟨y1, y2, y3, y4, y5, y6, y7, GU⟩ := HM.out
    have U1 := Lib.hid y1; have Q1 := Lib.hid y2; have A1 := Lib.hid y3; have Z1 := Lib.hid y4; have V1 := Lib.hid y5; have R1 := Lib.hid y6; have L1 := Lib.hid y7
    clear y1 y2 y3 y4 y5 y6 y7
    clear A2 Z2 M2 V2 B2 R2 L2 HM GU AW CW
    have u0 := U1.out.cell 0
    have u1 := U1.out.cell 1
    have u2 := U1.out.cell 2
    have u3 := U1.out.cell 3
    have u4 := U1.out.cell 4
    have u5 := U1.out.cell 5
    have u6 := U1.out.cell 6
    have v0 : (_ : World).cell? ⟨w.heap.size + 1, 0, none⟩ = some (.int .i64 vk) := V1.out.cell 0
    go_wp2_with fail
    clear u0 u1 u2 u3 u4 u5 u6 v0
    refine (c_ruleOf (.slice pa nf qa) (.slice pb nl qb) (.slice pc nr qc) (.slice pd nc qd) (.func (.func 92) #[] #[]) (.int .i64 2) r vk _).mono ?_
    rintro e w5 ⟨rfl, hb⟩
    have ba := hb.alloc hb.size (.cells (ru3 .nilFunc false false) 167)
    have K5 := Lib.hid (Row.new w5 167 (ru3 .nilFunc false false))
    have HP1 := Lib.hid (ruleP_one (mu (.slice pa nf qa) (.slice pb nl qb) (.slice pc nr qc) (.slice pd nc qd) (.func (.func 92) #[] #[]) (.int .i64 2) r) vk)
    have SZ5 : Hid (w.heap.size + 1 + 1 + 1 < w5.heap.size) := (by unfold Hid; have := Row.lt R1.out; have := hb.size; omega)
    generalize hpf : ruleP (mu (.slice pa nf qa) (.slice pb nl qb) (.slice pc nr qc) (.slice pd nc qd) (.func (.func 92) #[] #[]) (.int .i64 2) r) vk = pf at *
    have HPF := Lib.hid hpf; clear hpf
    generalize ruleB vk = ub at *
    generalize ruleT vk = ut at *
    generalize ruleK vk = kk at *
    have b6 := below_setRow ba hb.size (ru3 pf ub ut)
    have A6 := Lib.hid (A1.out.below b6); have Z6 := Lib.hid (Z1.out.below b6); have Q6 := Lib.hid (Q1.out.below b6); have L6 := Lib.hid (bst L1.out b6 L1.out.size)
    have V6 := Lib.hid (Row.below V1.out b6); have R6 := Lib.hid (show RowM _ _ _ _ _ _ from Row.below R1.out b6)
    have K6 := Lib.hid (Row.put K5.out (ru3 pf ub ut))
    have HFN := Lib.hid (fun q => HGO.out q r _ A6.out Z6.out Q6.out)
    clear hb ba b6 A1 Z1 Q1 L1 V1 R1 U1 HGO A6 Z6 Q6
    go_upto_region 5 with (refine wl_storeRu rfl _ _ rfl w5.heap.size pf ub ut _ K5.out rfl rfl rfl HP1.out ?_)
    have SZ6 : Hid (w.heap.size + 1 + 1 + 1 < ((w5.alloc (.cells (ru3 .nilFunc false false) 167)).setRow w5.heap.size (ru3 pf ub ut)).heap.size) := (by unfold Hid; rw [size_setRow, World.size_alloc]; have := SZ5.out; omega)
    clear K5 HP1 SZ5
    generalize (w5.alloc (.cells (ru3 .nilFunc false false) 167)).setRow w5.heap.size (ru3 pf ub ut) = w6 at *
    generalize w5.heap.size = gK at *
    cases kk
    · skip
      have v0 : w6.cell? ⟨w.heap.size + 1, 0, none⟩ = some (.int .i64 _) := V6.out.cell 0
      have v1 : w6.cell? ⟨w.heap.size + 1, 1, none⟩ = some (.int .i64 _) := V6.out.cell 1
      have v2 : w6.cell? ⟨w.heap.size + 1, 2, none⟩ = some (.int .i64 _) := V6.out.cell 2
      have v3 : w6.cell? ⟨w.heap.size + 1, 3, none⟩ = some (.int .i64 _) := V6.out.cell 3
      have k0 := K6.out.cell 0
      have k1 := K6.out.cell 1
      have k2 := K6.out.cell 2
      have HE : Hid (OK = false) := HNO.out (by simp)
      clear HNO HFN
      go_upto_region 6 with fail
      go_wp2_with (refine wl_storeM rfl _ _ rfl (w.heap.size + 1 + 1 + 1) nilS nilS nilS nilS _ _ _ _ R6.out rfl rfl rfl rfl rfl rfl ?_)
      refine bodyPost_ret (res_row_slot Try.results91 (Row.put R6.out (m4 nilS nilS nilS nilS)) rfl rfl Try.underlying34 rfl info_marking) rfl (endM_none (below_setRow L6.out (by omega) _) (HH0.out HE.out) (HC0.out HE.out) HE.out)
    by_cases hb : vb = 0
    · subst hb
      by_cases ht : vt = 0
      · subst ht
        obtain ⟨N, hN, hEn, HC⟩ := HFN.out (by simp)
        have HC7 := Lib.hid HC
        have HEN := Lib.hid hEn
        have hpf : pf = .func (.func N) #[(mu (.slice pa nf qa) (.slice pb nl qb) (.slice pc nr qc) (.slice pd nc qd) (.func (.func 92) #[] #[]) (.int .i64 2) r)] #[] := HPF.out.symm.trans hN
        clear HNO HFN HPF hN HC hEn
        subst hpf
        have v0 : w6.cell? ⟨w.heap.size + 1, 0, none⟩ = some (.int .i64 _) := V6.out.cell 0
        have v1 : w6.cell? ⟨w.heap.size + 1, 1, none⟩ = some (.int .i64 _) := V6.out.cell 1
        have v2 : w6.cell? ⟨w.heap.size + 1, 2, none⟩ = some (.int .i64 _) := V6.out.cell 2
        have v3 : w6.cell? ⟨w.heap.size + 1, 3, none⟩ = some (.int .i64 _) := V6.out.cell 3
        have k0 := K6.out.cell 0
        have k1 := K6.out.cell 1
        have k2 := K6.out.cell 2
        go_wp2_with fail
        clear v0 v1 v2 v3 k0 k1 k2
        rw [HEN.out]
        go_simp
        refine HC7.out.mono ?_
        rintro e w7 ⟨a7, b7, c7, d7, rfl, om, hb7⟩
        obtain ⟨⟨p1, q1, e1⟩, ⟨p2, q2, e2⟩, ⟨p3, q3, e3⟩, ⟨p4, q4, e4⟩⟩ := om.shapes
        have OM := Lib.hid (om.whole (w.heap.size + 1 + 1 + 1) SZ6.out (m4 a7 b7 c7 d7))
        have L7 := Lib.hid (bst L6.out hb7 L6.out.size)
        have R7 := Lib.hid (show RowM _ _ _ _ _ _ from Row.below R6.out hb7)
        subst e1 e2 e3 e4
        clear om hb7 HC7
        generalize HH.f.length = n1 at *
        generalize HH.l.length = n2 at *
        generalize HH.r.length = n3 at *
        generalize CC.length = n4 at *
        go_wp2_with (refine wl_storeM rfl _ _ rfl (w.heap.size + 1 + 1 + 1) (.slice p1 n1 q1) (.slice p2 n2 q2) (.slice p3 n3 q3) (.slice p4 n4 q4) _ _ _ _ R7.out rfl rfl rfl rfl rfl rfl ?_)
        refine bodyPost_ret (res_row_slot Try.results91 (Row.put R7.out (m4 (.slice p1 n1 q1) (.slice p2 n2 q2) (.slice p3 n3 q3) (.slice p4 n4 q4))) rfl rfl Try.underlying34 rfl info_marking) rfl ⟨_, _, _, _, rfl, OM.out.wide (by have := SZ6.out; omega) (by rw [size_setRow]; exact Nat.le_refl _), below_setRow L7.out (by omega) _⟩
      have et : (vt == 0) = false := by simpa using ht
      have et2 : (vt != 0) = true := by simpa using ht
      cases ut
      · skip
        have HNO : Hid (True → OK = false) := fun _ => HNO.out (by simp [ht])
        clear ht
        have v0 : w6.cell? ⟨w.heap.size + 1, 0, none⟩ = some (.int .i64 _) := V6.out.cell 0
        have v1 : w6.cell? ⟨w.heap.size + 1, 1, none⟩ = some (.int .i64 _) := V6.out.cell 1
        have v2 : w6.cell? ⟨w.heap.size + 1, 2, none⟩ = some (.int .i64 _) := V6.out.cell 2
        have v3 : w6.cell? ⟨w.heap.size + 1, 3, none⟩ = some (.int .i64 _) := V6.out.cell 3
        have k0 := K6.out.cell 0
        have k1 := K6.out.cell 1
        have k2 := K6.out.cell 2
        have HE : Hid (OK = false) := HNO.out (by simp)
        clear HNO HFN
        go_upto_region 6 with fail
        go_wp2_with (refine wl_storeM rfl _ _ rfl (w.heap.size + 1 + 1 + 1) nilS nilS nilS nilS _ _ _ _ R6.out rfl rfl rfl rfl rfl rfl ?_)
        refine bodyPost_ret (res_row_slot Try.results91 (Row.put R6.out (m4 nilS nilS nilS nilS)) rfl rfl Try.underlying34 rfl info_marking) rfl (endM_none (below_setRow L6.out (by omega) _) (HH0.out HE.out) (HC0.out HE.out) HE.out)
      clear ht
      obtain ⟨N, hN, hEn, HC⟩ := HFN.out (by simp)
      have HC7 := Lib.hid HC
      have HEN := Lib.hid hEn
      have hpf : pf = .func (.func N) #[(mu (.slice pa nf qa) (.slice pb nl qb) (.slice pc nr qc) (.slice pd nc qd) (.func (.func 92) #[] #[]) (.int .i64 2) r)] #[] := HPF.out.symm.trans hN
      clear HNO HFN HPF hN HC hEn
      subst hpf
      have v0 : w6.cell? ⟨w.heap.size + 1, 0, none⟩ = some (.int .i64 _) := V6.out.cell 0
      have v1 : w6.cell? ⟨w.heap.size + 1, 1, none⟩ = some (.int .i64 _) := V6.out.cell 1
      have v2 : w6.cell? ⟨w.heap.size + 1, 2, none⟩ = some (.int .i64 _) := V6.out.cell 2
      have v3 : w6.cell? ⟨w.heap.size + 1, 3, none⟩ = some (.int .i64 _) := V6.out.cell 3
      have k0 := K6.out.cell 0
      have k1 := K6.out.cell 1
      have k2 := K6.out.cell 2
      go_wp2_with fail
      clear v0 v1 v2 v3 k0 k1 k2
      rw [HEN.out]
      go_simp
      refine HC7.out.mono ?_
      rintro e w7 ⟨a7, b7, c7, d7, rfl, om, hb7⟩
      obtain ⟨⟨p1, q1, e1⟩, ⟨p2, q2, e2⟩, ⟨p3, q3, e3⟩, ⟨p4, q4, e4⟩⟩ := om.shapes
      have OM := Lib.hid (om.whole (w.heap.size + 1 + 1 + 1) SZ6.out (m4 a7 b7 c7 d7))
      have L7 := Lib.hid (bst L6.out hb7 L6.out.size)
      have R7 := Lib.hid (show RowM _ _ _ _ _ _ from Row.below R6.out hb7)
      subst e1 e2 e3 e4
      clear om hb7 HC7
      generalize HH.f.length = n1 at *
      generalize HH.l.length = n2 at *
      generalize HH.r.length = n3 at *
      generalize CC.length = n4 at *
      go_wp2_with (refine wl_storeM rfl _ _ rfl (w.heap.size + 1 + 1 + 1) (.slice p1 n1 q1) (.slice p2 n2 q2) (.slice p3 n3 q3) (.slice p4 n4 q4) _ _ _ _ R7.out rfl rfl rfl rfl rfl rfl ?_)
      refine bodyPost_ret (res_row_slot Try.results91 (Row.put R7.out (m4 (.slice p1 n1 q1) (.slice p2 n2 q2) (.slice p3 n3 q3) (.slice p4 n4 q4))) rfl rfl Try.underlying34 rfl info_marking) rfl ⟨_, _, _, _, rfl, OM.out.wide (by have := SZ6.out; omega) (by rw [size_setRow]; exact Nat.le_refl _), below_setRow L7.out (by omega) _⟩
    have eb : (vb == 0) = false := by simpa using hb
    have eb2 : (vb != 0) = true := by simpa using hb
    cases ub
    · skip
      have HNO : Hid (True → OK = false) := fun _ => HNO.out (by simp [hb])
      clear hb
      have v0 : w6.cell? ⟨w.heap.size + 1, 0, none⟩ = some (.int .i64 _) := V6.out.cell 0
      have v1 : w6.cell? ⟨w.heap.size + 1, 1, none⟩ = some (.int .i64 _) := V6.out.cell 1
      have v2 : w6.cell? ⟨w.heap.size + 1, 2, none⟩ = some (.int .i64 _) := V6.out.cell 2
      have v3 : w6.cell? ⟨w.heap.size + 1, 3, none⟩ = some (.int .i64 _) := V6.out.cell 3
      have k0 := K6.out.cell 0
      have k1 := K6.out.cell 1
      have k2 := K6.out.cell 2
      have HE : Hid (OK = false) := HNO.out (by simp)
      clear HNO HFN
      go_upto_region 6 with fail
      go_wp2_with (refine wl_storeM rfl _ _ rfl (w.heap.size + 1 + 1 + 1) nilS nilS nilS nilS _ _ _ _ R6.out rfl rfl rfl rfl rfl rfl ?_)
      refine bodyPost_ret (res_row_slot Try.results91 (Row.put R6.out (m4 nilS nilS nilS nilS)) rfl rfl Try.underlying34 rfl info_marking) rfl (endM_none (below_setRow L6.out (by omega) _) (HH0.out HE.out) (HC0.out HE.out) HE.out)
    clear hb
    by_cases ht : vt = 0
    · subst ht
      obtain ⟨N, hN, hEn, HC⟩ := HFN.out (by simp)
      have HC7 := Lib.hid HC
      have HEN := Lib.hid hEn
      have hpf : pf = .func (.func N) #[(mu (.slice pa nf qa) (.slice pb nl qb) (.slice pc nr qc) (.slice pd nc qd) (.func (.func 92) #[] #[]) (.int .i64 2) r)] #[] := HPF.out.symm.trans hN
      clear HNO HFN HPF hN HC hEn
      subst hpf
      have v0 : w6.cell? ⟨w.heap.size + 1, 0, none⟩ = some (.int .i64 _) := V6.out.cell 0
      have v1 : w6.cell? ⟨w.heap.size + 1, 1, none⟩ = some (.int .i64 _) := V6.out.cell 1
      have v2 : w6.cell? ⟨w.heap.size + 1, 2, none⟩ = some (.int .i64 _) := V6.out.cell 2
      have v3 : w6.cell? ⟨w.heap.size + 1, 3, none⟩ = some (.int .i64 _) := V6.out.cell 3
      have k0 := K6.out.cell 0
      have k1 := K6.out.cell 1
      have k2 := K6.out.cell 2
      go_wp2_with fail
      clear v0 v1 v2 v3 k0 k1 k2
      rw [HEN.out]
      go_simp
      refine HC7.out.mono ?_
      rintro e w7 ⟨a7, b7, c7, d7, rfl, om, hb7⟩
      obtain ⟨⟨p1, q1, e1⟩, ⟨p2, q2, e2⟩, ⟨p3, q3, e3⟩, ⟨p4, q4, e4⟩⟩ := om.shapes
      have OM := Lib.hid (om.whole (w.heap.size + 1 + 1 + 1) SZ6.out (m4 a7 b7 c7 d7))
      have L7 := Lib.hid (bst L6.out hb7 L6.out.size)
      have R7 := Lib.hid (show RowM _ _ _ _ _ _ from Row.below R6.out hb7)
      subst e1 e2 e3 e4
      clear om hb7 HC7
      generalize HH.f.length = n1 at *
      generalize HH.l.length = n2 at *
      generalize HH.r.length = n3 at *
      generalize CC.length = n4 at *
      go_wp2_with (refine wl_storeM rfl _ _ rfl (w.heap.size + 1 + 1 + 1) (.slice p1 n1 q1) (.slice p2 n2 q2) (.slice p3 n3 q3) (.slice p4 n4 q4) _ _ _ _ R7.out rfl rfl rfl rfl rfl rfl ?_)
      refine bodyPost_ret (res_row_slot Try.results91 (Row.put R7.out (m4 (.slice p1 n1 q1) (.slice p2 n2 q2) (.slice p3 n3 q3) (.slice p4 n4 q4))) rfl rfl Try.underlying34 rfl info_marking) rfl ⟨_, _, _, _, rfl, OM.out.wide (by have := SZ6.out; omega) (by rw [size_setRow]; exact Nat.le_refl _), below_setRow L7.out (by omega) _⟩
    have et : (vt == 0) = false := by simpa using ht
    have et2 : (vt != 0) = true := by simpa using ht
    cases ut
    · skip
      have HNO : Hid (True → OK = false) := fun _ => HNO.out (by simp [ht])
      clear ht
      have v0 : w6.cell? ⟨w.heap.size + 1, 0, none⟩ = some (.int .i64 _) := V6.out.cell 0
      have v1 : w6.cell? ⟨w.heap.size + 1, 1, none⟩ = some (.int .i64 _) := V6.out.cell 1
      have v2 : w6.cell? ⟨w.heap.size + 1, 2, none⟩ = some (.int .i64 _) := V6.out.cell 2
      have v3 : w6.cell? ⟨w.heap.size + 1, 3, none⟩ = some (.int .i64 _) := V6.out.cell 3
      have k0 := K6.out.cell 0
      have k1 := K6.out.cell 1
      have k2 := K6.out.cell 2
      have HE : Hid (OK = false) := HNO.out (by simp)
      clear HNO HFN
      go_upto_region 6 with fail
      go_wp2_with (refine wl_storeM rfl _ _ rfl (w.heap.size + 1 + 1 + 1) nilS nilS nilS nilS _ _ _ _ R6.out rfl rfl rfl rfl rfl rfl ?_)
      refine bodyPost_ret (res_row_slot Try.results91 (Row.put R6.out (m4 nilS nilS nilS nilS)) rfl rfl Try.underlying34 rfl info_marking) rfl (endM_none (below_setRow L6.out (by omega) _) (HH0.out HE.out) (HC0.out HE.out) HE.out)
    clear ht
    obtain ⟨N, hN, hEn, HC⟩ := HFN.out (by simp)
    have HC7 := Lib.hid HC
    have HEN := Lib.hid hEn
    have hpf : pf = .func (.func N) #[(mu (.slice pa nf qa) (.slice pb nl qb) (.slice pc nr qc) (.slice pd nc qd) (.func (.func 92) #[] #[]) (.int .i64 2) r)] #[] := HPF.out.symm.trans hN
    clear HNO HFN HPF hN HC hEn
    subst hpf
    have v0 : w6.cell? ⟨w.heap.size + 1, 0, none⟩ = some (.int .i64 _) := V6.out.cell 0
    have v1 : w6.cell? ⟨w.heap.size + 1, 1, none⟩ = some (.int .i64 _) := V6.out.cell 1
    have v2 : w6.cell? ⟨w.heap.size + 1, 2, none⟩ = some (.int .i64 _) := V6.out.cell 2
    have v3 : w6.cell? ⟨w.heap.size + 1, 3, none⟩ = some (.int .i64 _) := V6.out.cell 3
    have k0 := K6.out.cell 0
    have k1 := K6.out.cell 1
    have k2 := K6.out.cell 2
    go_wp2_with fail
    clear v0 v1 v2 v3 k0 k1 k2
    rw [HEN.out]
    go_simp
    refine HC7.out.mono ?_
    rintro e w7 ⟨a7, b7, c7, d7, rfl, om, hb7⟩
    obtain ⟨⟨p1, q1, e1⟩, ⟨p2, q2, e2⟩, ⟨p3, q3, e3⟩, ⟨p4, q4, e4⟩⟩ := om.shapes
    have OM := Lib.hid (om.whole (w.heap.size + 1 + 1 + 1) SZ6.out (m4 a7 b7 c7 d7))
    have L7 := Lib.hid (bst L6.out hb7 L6.out.size)
    have R7 := Lib.hid (show RowM _ _ _ _ _ _ from Row.below R6.out hb7)
    subst e1 e2 e3 e4
    clear om hb7 HC7
    generalize HH.f.length = n1 at *
    generalize HH.l.length = n2 at *
    generalize HH.r.length = n3 at *
    generalize CC.length = n4 at *
    go_wp2_with (refine wl_storeM rfl _ _ rfl (w.heap.size + 1 + 1 + 1) (.slice p1 n1 q1) (.slice p2 n2 q2) (.slice p3 n3 q3) (.slice p4 n4 q4) _ _ _ _ R7.out rfl rfl rfl rfl rfl rfl ?_)
    refine bodyPost_ret (res_row_slot Try.results91 (Row.put R7.out (m4 (.slice p1 n1 q1) (.slice p2 n2 q2) (.slice p3 n3 q3) (.slice p4 n4 q4))) rfl rfl Try.underlying34 rfl info_marking) rfl ⟨_, _, _, _, rfl, OM.out.wide (by have := SZ6.out; omega) (by rw [size_setRow]; exact Nat.le_refl _), below_setRow L7.out (by omega) _⟩
set_option maxHeartbeats 6400000 in
set_option maxRecDepth 100000 in
theorem c_lay_true (OK : Bool) (HH : H) (CC : List Int) (a b c d : Value) (h : H) (cs : List Int) (v : Mv) (w : World) (hA : HeapAt w a b c h) (hC : IntsAt w d cs)
    (hno : (bothB h cs && (ruleK v.k && (decide (v.b = 0) || ruleB v.k) && (decide (v.t = 0) || ruleT v.k))) = false → OK = false)
    (hgo : bothB h cs = true → (ruleK v.k && (decide (v.b = 0) || ruleB v.k) && (decide (v.t = 0) || ruleT v.k)) = true → ∀ (r : Value) (w' : World), HeapAt w' a b c h → IntsAt w' d cs → BoolsAt w' r (reachL h.f h.r) → ∃ N, ruleP (mu a b c d (.func (.func 94) #[] #[]) (.int .i64 1) r) v.k = .func (.func N) #[mu a b c d (.func (.func 94) #[] #[]) (.int .i64 1) r] #[] ∧ (∀ args w'', (callFunc N args).run Try.prog w'' = .ok (.enter N args) w'') ∧ Calls Try.prog N #[mu a b c d (.func (.func 94) #[] #[]) (.int .i64 1) r, mo v] w' (EndM HH CC OK w')) (hH : OK = false → HH = ⟨[], [], []⟩) (hCC : OK = false → CC = []) : Calls Try.prog 91 #[mv a b c d, mo v, .agg #[(.func (.func 94) #[] #[]), (.int .i64 1)]] w (EndM HH CC OK w) := by
  obtain ⟨pa, qa, rfl⟩ := hA.f.shape
  obtain ⟨pb, qb, rfl⟩ := hA.l.shape
  obtain ⟨pc, qc, rfl⟩ := hA.r.shape
  obtain ⟨pd, qd, rfl⟩ := hC.shape
  generalize hnf : h.f.length = nf at *
  have HF := Lib.hid hnf; clear hnf
  generalize hnl : h.l.length = nl at *
  have HL := Lib.hid hnl; clear hnl
  generalize hnr : h.r.length = nr at *
  have HR := Lib.hid hnr; clear hnr
  generalize hnc : cs.length = nc at *
  have HNC := Lib.hid hnc; clear hnc
  have b0 := (((below1 w (.cells (m4 (.slice pa nf qa) (.slice pb nl qb) (.slice pc nr qc) (.slice pd nc qd)) 34)).alloc (by simp) (.cells (mo4 v) 38)).alloc (by simp; omega) (.cells #[(.func (.func 94) #[] #[]), (.int .i64 1)] 118)).alloc (by simp; omega) (.cells (m4 nilS nilS nilS nilS) 34)
  have AW := Lib.hid hA; have CW := Lib.hid hC
  have A0 := Lib.hid (hA.below b0); have Z0 := Lib.hid (hC.below b0)
  have L := Lib.hid b0
  have M0 := Lib.hid (show RowM _ w.heap.size (.slice pa nf qa) (.slice pb nl qb) (.slice pc nr qc) (.slice pd nc qd) from (((Row.new w 34 (m4 (.slice pa nf qa) (.slice pb nl qb) (.slice pc nr qc) (.slice pd nc qd))).alloc (.cells (mo4 v) 38)).alloc (.cells #[(.func (.func 94) #[] #[]), (.int .i64 1)] 118)).alloc (.cells (m4 nilS nilS nilS nilS) 34))
  have V0 := Lib.hid (show Row _ (w.heap.size + 1) 38 (mo4 v) from ((Row.new1 w (.cells (m4 (.slice pa nf qa) (.slice pb nl qb) (.slice pc nr qc) (.slice pd nc qd)) 34) 38 (mo4 v)).alloc (.cells #[(.func (.func 94) #[] #[]), (.int .i64 1)] 118)).alloc (.cells (m4 nilS nilS nilS nilS) 34))
  have B0 := Lib.hid (show Row _ (w.heap.size + 1 + 1) 118 #[(.func (.func 94) #[] #[]), (.int .i64 1)] from (Row.new2 w (.cells (m4 (.slice pa nf qa) (.slice pb nl qb) (.slice pc nr qc) (.slice pd nc qd)) 34) (.cells (mo4 v) 38) 118 #[(.func (.func 94) #[] #[]), (.int .i64 1)]).alloc (.cells (m4 nilS nilS nilS nilS) 34))
  have R0 := Lib.hid (show RowM _ (w.heap.size + 1 + 1 + 1) nilS nilS nilS nilS from Row.new3 w (.cells (m4 (.slice pa nf qa) (.slice pb nl qb) (.slice pc nr qc) (.slice pd nc qd)) 34) (.cells (mo4 v) 38) (.cells #[(.func (.func 94) #[] #[]), (.int .i64 1)] 118) 34 (m4 nilS nilS nilS nilS))
  clear hA hC b0
  have HG1 := Lib.hid (fun w' q1 q2 => c_GoodMarking (.slice pa nf qa) (.slice pb nl qb) (.slice pc nr qc) (.slice pd nc qd) h cs w' q1 q2)
  have HGQ := Lib.hid hgo; have HNO0 := Lib.hid hno; have HH0 := Lib.hid hH; have HC0 := Lib.hid hCC
  clear hno hgo hH hCC
  have HBB : Hid (bothB h cs = true → Ph.Good h) := fun q => (bothB_iff.1 q).1
  obtain ⟨vk, va, vb, vt⟩ := v
  try simp only at HNO0
  try simp only at HGQ
  try simp only
  generalize bothB h cs = bo at *
  have c0 := M0.out.cell 0
  have c1 := M0.out.cell 1
  have c2 := M0.out.cell 2
  have c3' := M0.out.cell 3
  go_enter Try.func91, Try.ntmps91
  go_wp2_with fail
  clear c0 c1 c2 c3'
  refine (HG1.out _ A0.out Z0.out).mono ?_
  rintro e w1 ⟨rfl, hb⟩
  replace A0 := Lib.hid (A0.out.below hb); replace Z0 := Lib.hid (Z0.out.below hb); replace L := Lib.hid (bst L.out hb L.out.size)
  replace M0 := Lib.hid (show RowM _ _ _ _ _ _ from Row.below M0.out hb); replace V0 := Lib.hid (Row.below V0.out hb); replace B0 := Lib.hid (Row.below B0.out hb); replace R0 := Lib.hid (show RowM _ _ _ _ _ _ from Row.below R0.out hb)
  clear hb HG1
  cases bo
  · have HE : Hid (OK = false) := HNO0.out (Bool.false_and _)
    go_wp2_with (refine wl_storeM rfl _ _ rfl (w.heap.size + 1 + 1 + 1) nilS nilS nilS nilS _ _ _ _ R0.out rfl rfl rfl rfl rfl rfl ?_)
    refine bodyPost_ret (res_row_slot Try.results91 (Row.put R0.out (m4 nilS nilS nilS nilS)) rfl rfl Try.underlying34 rfl info_marking) rfl (endM_none (below_setRow L.out (by omega) _) (HH0.out HE.out) (HC0.out HE.out) HE.out)
  have HG := Lib.hid (HBB.out rfl)
  have HGO := Lib.hid (HGQ.out rfl)
  have HNO := Lib.hid (fun q => HNO0.out ((Bool.true_and _).trans q))
  clear HGQ HNO0
  clear HBB
  have A2 : Hid (HeapAt w1.drew (.slice pa nf qa) (.slice pb nl qb) (.slice pc nr qc) h) := A0.out.below (below_drew (Below.refl _ _))
  have Z2 : Hid (IntsAt w1.drew (.slice pd nc qd) cs) := Z0.out.below (below_drew (Below.refl _ _))
  have M2 : Hid (RowM w1.drew w.heap.size (.slice pa nf qa) (.slice pb nl qb) (.slice pc nr qc) (.slice pd nc qd)) := M0.out
  have V2 : Hid (Row w1.drew (w.heap.size + 1) 38 (mo4 ⟨vk, va, vb, vt⟩)) := V0.out
  have B2 : Hid (Row w1.drew (w.heap.size + 1 + 1) 118 #[(.func (.func 94) #[] #[]), (.int .i64 1)]) := B0.out
  have R2 : Hid (RowM w1.drew (w.heap.size + 1 + 1 + 1) nilS nilS nilS nilS) := R0.out
  have L2 := Lib.hid (below_drew L.out)
  clear A0 Z0 M0 V0 B0 R0 L
  go_upto_region 3 with fail
  go_cut [8] from 15 (fun p wk => ∃ gU r, p = .pointer (some ⟨gU, 0, none⟩) ∧ Hid (MidS true (.slice pa nf qa) (.slice pb nl qb) (.slice pc nr qc) (.slice pd nc qd) h cs ⟨vk, va, vb, vt⟩ w wk gU r))
  case first =>
    refine wp_region_held_drew (S := (fun w' => w'.cell? ⟨w.heap.size, 0, none⟩ = some (.slice pa nf qa) ∧ w'.cell? ⟨w.heap.size, 1, none⟩ = some (.slice pb nl qb) ∧ w'.cell? ⟨w.heap.size, 2, none⟩ = some (.slice pc nr qc) ∧ w'.cell? ⟨w.heap.size, 3, none⟩ = some (.slice pd nc qd) ∧ w'.cell? ⟨w.heap.size + 1 + 1, 0, none⟩ = some (.func (.func 94) #[] #[]) ∧ w'.cell? ⟨w.heap.size + 1 + 1, 1, none⟩ = some (.int .i64 1))) (by kernel_rfl) (⟨M2.out.cell 0, M2.out.cell 1, M2.out.cell 2, M2.out.cell 3, B2.out.cell 0, B2.out.cell 1⟩) (fun hHeld => ?_)
    generalize w1.drew = x1 at *
    refine wpAnyH_take (i := 0) (v := ?va0x10) rfl (by kernel_rfl) (by kernel_rfl) (by kernel_rfl) (fun _ _ _ h => h) (Or.inl ⟨by rfl, ?hy0x10⟩) (by assumption) ?rest0x10
    case hy0x10 => (intro w hSw; (try dsimp only at hSw); go_simp; try with_reducible rfl)
    (try simp only [Act.put, List.getElem_toArray, List.getElem_cons_zero, List.setIfInBounds_toArray, List.set_cons_zero, List.set_cons_succ])
    refine wpAnyH_take (i := 1) (v := ?va1x11) rfl (by kernel_rfl) (by kernel_rfl) (by kernel_rfl) (fun _ _ _ h => h) (Or.inl ⟨by rfl, ?hy1x11⟩) (by assumption) ?rest1x11
    case hy1x11 => (intro w hSw; (try dsimp only at hSw); go_simp; try with_reducible rfl)
    (try simp only [Act.put, List.getElem_toArray, List.getElem_cons_zero, List.getElem_cons_succ, List.setIfInBounds_toArray, List.set_cons_zero, List.set_cons_succ])
    refine wpAnyH_take (i := 2) (v := ?va2x12) rfl (by kernel_rfl) (by kernel_rfl) (by kernel_rfl) (fun _ _ _ h => h) (Or.inl ⟨by rfl, ?hy2x12⟩) (by assumption) ?rest2x12
    case hy2x12 => (intro w hSw; (try dsimp only at hSw); go_simp; try with_reducible rfl)
    (try simp only [Act.put, List.getElem_toArray, List.getElem_cons_zero, List.getElem_cons_succ, List.setIfInBounds_toArray, List.set_cons_zero, List.set_cons_succ])
    refine wpAnyH_take (i := 3) (v := ?va3x13) rfl (by kernel_rfl) (by kernel_rfl) (by kernel_rfl) (fun _ _ _ h => h) (Or.inl ⟨by rfl, ?hy3x13⟩) (by assumption) ?rest3x13
    case hy3x13 => (intro w hSw; (try dsimp only at hSw); go_simp; try with_reducible rfl)
    (try simp only [Act.put, List.getElem_toArray, List.getElem_cons_zero, List.getElem_cons_succ, List.setIfInBounds_toArray, List.set_cons_zero, List.set_cons_succ])
    refine wpAnyH_take (i := 4) (v := ?va4x14) rfl (by kernel_rfl) (by kernel_rfl) (by kernel_rfl) (fun _ _ _ h => h) (Or.inl ⟨by rfl, ?hy4x14⟩) (by assumption) ?rest4x14
    case hy4x14 => (intro w hSw; (try dsimp only at hSw); go_simp; try with_reducible rfl)
    (try simp only [Act.put, List.getElem_toArray, List.getElem_cons_zero, List.getElem_cons_succ, List.setIfInBounds_toArray, List.set_cons_zero, List.set_cons_succ])
    refine wpAnyH_take (i := 5) (v := ?va5x15) rfl (by kernel_rfl) (by kernel_rfl) (by kernel_rfl) (fun _ _ _ h => h) (Or.inl ⟨by rfl, ?hy5x15⟩) (by assumption) ?rest5x15
    case hy5x15 => (intro w hSw; (try dsimp only at hSw); go_simp; try with_reducible rfl)
    (try simp only [Act.put, List.getElem_toArray, List.getElem_cons_zero, List.getElem_cons_succ, List.setIfInBounds_toArray, List.set_cons_zero, List.set_cons_succ])
    refine wpAnyH_take (i := 6) (v := ?va6x16) rfl (by kernel_rfl) (by kernel_rfl) (by kernel_rfl) (fun _ _ _ h => h) (Or.inl ⟨by rfl, ?hy6x16⟩) (by assumption) ?rest6x16
    case hy6x16 => (intro w hSw; (try dsimp only at hSw); go_simp; try with_reducible rfl)
    (try simp only [Act.put, List.getElem_toArray, List.getElem_cons_zero, List.getElem_cons_succ, List.setIfInBounds_toArray, List.set_cons_zero, List.set_cons_succ])
    refine wpAnyH_ready (rs := [7, 9]) (by kernel_rfl) (by simp) ?_
    refine AllReadyH.cons rfl (fun K hK => ?_) (AllReadyH.cons rfl (fun K hK => ?_) AllReadyH.nil)
    · skip
      go_simp
      refine (c_reachedOver (.slice pa nf qa) (.slice pb nl qb) (.slice pc nr qc) (.slice pc nr qc) h h.r _ A2.out HG.out A2.out.r (by have := HG.out.rn; omega) (fun z hz => (refs_bound HG.out HG.out.rr z hz).imp id (fun q => ⟨q.1, q.2.1⟩))).mono ?_
      rintro e y1 ⟨r1, rfl, ho1, hb1⟩
      obtain ⟨pr, nr1, qr, rfl⟩ : ∃ p n q, r1 = .slice p n q := by rcases ho1.shape with ⟨q1, _⟩ | ⟨g1, q1, q2⟩; exact ⟨_, _, _, q1⟩; exact ⟨_, _, _, q2⟩
      have Q2 := Lib.hid ho1
      replace A2 := Lib.hid (A2.out.below hb1); replace Z2 := Lib.hid (Z2.out.below hb1); replace L2 := Lib.hid (bst L2.out hb1 L2.out.size)
      replace M2 := Lib.hid (show RowM _ _ _ _ _ _ from Row.below M2.out hb1); replace V2 := Lib.hid (Row.below V2.out hb1); replace B2 := Lib.hid (Row.below B2.out hb1); replace R2 := Lib.hid (show RowM _ _ _ _ _ _ from Row.below R2.out hb1)
      refine hK.out _ _ ⟨M2.out.cell 0, M2.out.cell 1, M2.out.cell 2, M2.out.cell 3, B2.out.cell 0, B2.out.cell 1⟩ (fun hHeld => ?_)
      clear hK K hb1 ho1
      (try simp only [Act.put, List.getElem_toArray, List.getElem_cons_zero, List.getElem_cons_succ, List.setIfInBounds_toArray, List.set_cons_zero, List.set_cons_succ])
      refine wpAnyH_take (i := 8) (v := ?va8x17) rfl (by kernel_rfl) (by kernel_rfl) (by kernel_rfl) (fun _ _ _ h => h) (Or.inl ⟨by rfl, ?hy8x17⟩) (by assumption) ?rest8x17
      case hy8x17 => (intro w hSw; (try dsimp only at hSw); go_simp; try with_reducible rfl)
      (try simp only [Act.put, List.getElem_toArray, List.getElem_cons_zero, List.getElem_cons_succ, List.setIfInBounds_toArray, List.set_cons_zero, List.set_cons_succ])
      refine wpAnyH_ready (rs := [9]) (by kernel_rfl) (by simp) ?_
      refine AllReadyH.cons rfl (fun K hK => ?_) AllReadyH.nil
      have GL : Hid (w.heap.size + 1 + 1 + 1 < y1.heap.size) := Row.lt R2.out
      have ba := below1 y1 (.cells #[nilS, nilS, nilS, nilS, .nilFunc, .int .i64 0, nilS] 164)
      have K2 := Lib.hid (Row.new y1 164 #[nilS, nilS, nilS, nilS, .nilFunc, .int .i64 0, nilS])
      replace A2 := Lib.hid (A2.out.below ba); replace Z2 := Lib.hid (Z2.out.below ba); replace L2 := Lib.hid (bst L2.out ba L2.out.size)
      replace M2 := Lib.hid (show RowM _ _ _ _ _ _ from Row.below M2.out ba); replace V2 := Lib.hid (Row.below V2.out ba); replace B2 := Lib.hid (Row.below B2.out ba); replace R2 := Lib.hid (show RowM _ _ _ _ _ _ from Row.below R2.out ba)
      replace Q2 := Lib.hid (Q2.out.below ba)
      go_simp
      refine hK.out _ _ ⟨M2.out.cell 0, M2.out.cell 1, M2.out.cell 2, M2.out.cell 3, B2.out.cell 0, B2.out.cell 1⟩ (fun hHeld => ?_)
      clear hK K ba
      (try simp only [Act.put, List.getElem_toArray, List.getElem_cons_zero, List.getElem_cons_succ, List.setIfInBounds_toArray, List.set_cons_zero, List.set_cons_succ])
      generalize y1.heap.size = gU at *
      generalize y1.alloc (.cells #[nilS, nilS, nilS, nilS, .nilFunc, .int .i64 0, nilS] 164) = x2 at *
      have n1 : gU ≠ w.heap.size := rows_ne K2.out M2.out (by decide)
      have n2 : gU ≠ w.heap.size + 1 := rows_ne K2.out V2.out (by decide)
      have n3 : gU ≠ w.heap.size + 1 + 1 + 1 := rows_ne K2.out R2.out (by decide)
      have n4 : gU ≠ w.heap.size + 1 + 1 := rows_ne K2.out B2.out (by decide)
      have GN := GL.out
      have M5 := Lib.hid (show RowM _ _ _ _ _ _ from Row.putOther M2.out (mu7 (.slice pa nf qa) (.slice pb nl qb) (.slice pc nr qc) (.slice pd nc qd) (.func (.func 94) #[] #[]) (.int .i64 1) (.slice pr nr1 qr)) (Ne.symm n1))
      have B5 := Lib.hid (Row.putOther B2.out (mu7 (.slice pa nf qa) (.slice pb nl qb) (.slice pc nr qc) (.slice pd nc qd) (.func (.func 94) #[] #[]) (.int .i64 1) (.slice pr nr1 qr)) (Ne.symm n4))
      have V5 := Lib.hid (Row.putOther V2.out (mu7 (.slice pa nf qa) (.slice pb nl qb) (.slice pc nr qc) (.slice pd nc qd) (.func (.func 94) #[] #[]) (.int .i64 1) (.slice pr nr1 qr)) (Ne.symm n2)); have R5 := Lib.hid (show RowM _ _ _ _ _ _ from Row.putOther R2.out (mu7 (.slice pa nf qa) (.slice pb nl qb) (.slice pc nr qc) (.slice pd nc qd) (.func (.func 94) #[] #[]) (.int .i64 1) (.slice pr nr1 qr)) (Ne.symm n3))
      have U5 := Lib.hid (Row.put K2.out (mu7 (.slice pa nf qa) (.slice pb nl qb) (.slice pc nr qc) (.slice pd nc qd) (.func (.func 94) #[] #[]) (.int .i64 1) (.slice pr nr1 qr)))
      have L5 := Lib.hid (below_setRow L2.out (by omega : w.heap.size ≤ gU) (mu7 (.slice pa nf qa) (.slice pb nl qb) (.slice pc nr qc) (.slice pd nc qd) (.func (.func 94) #[] #[]) (.int .i64 1) (.slice pr nr1 qr)))
      have A5 := Lib.hid (AW.out.below L5.out); have Z5 := Lib.hid (CW.out.below L5.out); have Q5 := Lib.hid (owns_bools (owns_block Q2.out fun g hg => setRow_other _ gU g (mu7 (.slice pa nf qa) (.slice pb nl qb) (.slice pc nr qc) (.slice pd nc qd) (.func (.func 94) #[] #[]) (.int .i64 1) (.slice pr nr1 qr)) (fun q => ne_rowB Q2.out K2.out (by decide) (by rw [hg, q]))))
      refine wpAnyH_ready (rs := [10]) (by kernel_rfl) (by simp) ?_
      refine AllReadyH.cons rfl (fun K hK => ?_) AllReadyH.nil
      refine wp_store_row 164 _ _ rfl gU (mu7 (.slice pa nf qa) (.slice pb nl qb) (.slice pc nr qc) (.slice pd nc qd) (.func (.func 94) #[] #[]) (.int .i64 1) (.slice pr nr1 qr)) rfl rfl 164 _ K2.out info_mutator rfl (by simp [Value.oneCell']) ?_
      refine hK.out _ _ ⟨M5.out.cell 0, M5.out.cell 1, M5.out.cell 2, M5.out.cell 3, B5.out.cell 0, B5.out.cell 1⟩ (fun hHeld => ?_)
      clear hK K
      (try simp only [Act.put, List.getElem_toArray, List.getElem_cons_zero, List.getElem_cons_succ])
      refine wpAnyH_done (by kernel_rfl) ?_ _
      go_wp2_with fail
      go_meet
      case rel => exact ⟨gU, .slice pr nr1 qr, rfl, U5.out, Q5.out, A5.out, Z5.out, V5.out, R5.out, L5.out, by omega⟩
    · skip
      have GL : Hid (w.heap.size + 1 + 1 + 1 < x1.heap.size) := Row.lt R2.out
      have ba := below1 x1 (.cells #[nilS, nilS, nilS, nilS, .nilFunc, .int .i64 0, nilS] 164)
      have K2 := Lib.hid (Row.new x1 164 #[nilS, nilS, nilS, nilS, .nilFunc, .int .i64 0, nilS])
      replace A2 := Lib.hid (A2.out.below ba); replace Z2 := Lib.hid (Z2.out.below ba); replace L2 := Lib.hid (bst L2.out ba L2.out.size)
      replace M2 := Lib.hid (show RowM _ _ _ _ _ _ from Row.below M2.out ba); replace V2 := Lib.hid (Row.below V2.out ba); replace B2 := Lib.hid (Row.below B2.out ba); replace R2 := Lib.hid (show RowM _ _ _ _ _ _ from Row.below R2.out ba)
      go_simp
      refine hK.out _ _ ⟨M2.out.cell 0, M2.out.cell 1, M2.out.cell 2, M2.out.cell 3, B2.out.cell 0, B2.out.cell 1⟩ (fun hHeld => ?_)
      clear hK K ba
      (try simp only [Act.put, List.getElem_toArray, List.getElem_cons_zero, List.getElem_cons_succ, List.setIfInBounds_toArray, List.set_cons_zero, List.set_cons_succ])
      generalize x1.heap.size = gU at *
      generalize x1.alloc (.cells #[nilS, nilS, nilS, nilS, .nilFunc, .int .i64 0, nilS] 164) = x2 at *
      refine wpAnyH_ready (rs := [7]) (by kernel_rfl) (by simp) ?_
      refine AllReadyH.cons rfl (fun K hK => ?_) AllReadyH.nil
      go_simp
      refine (c_reachedOver (.slice pa nf qa) (.slice pb nl qb) (.slice pc nr qc) (.slice pc nr qc) h h.r _ A2.out HG.out A2.out.r (by have := HG.out.rn; omega) (fun z hz => (refs_bound HG.out HG.out.rr z hz).imp id (fun q => ⟨q.1, q.2.1⟩))).mono ?_
      rintro e y1 ⟨r1, rfl, ho1, hb1⟩
      obtain ⟨pr, nr1, qr, rfl⟩ : ∃ p n q, r1 = .slice p n q := by rcases ho1.shape with ⟨q1, _⟩ | ⟨g1, q1, q2⟩; exact ⟨_, _, _, q1⟩; exact ⟨_, _, _, q2⟩
      have Q2 := Lib.hid ho1
      replace A2 := Lib.hid (A2.out.below hb1); replace Z2 := Lib.hid (Z2.out.below hb1); replace L2 := Lib.hid (bst L2.out hb1 L2.out.size)
      replace M2 := Lib.hid (show RowM _ _ _ _ _ _ from Row.below M2.out hb1); replace V2 := Lib.hid (Row.below V2.out hb1); replace B2 := Lib.hid (Row.below B2.out hb1); replace R2 := Lib.hid (show RowM _ _ _ _ _ _ from Row.below R2.out hb1)
      replace K2 := Lib.hid (Row.below K2.out hb1)
      refine hK.out _ _ ⟨M2.out.cell 0, M2.out.cell 1, M2.out.cell 2, M2.out.cell 3, B2.out.cell 0, B2.out.cell 1⟩ (fun hHeld => ?_)
      clear hK K hb1 ho1
      (try simp only [Act.put, List.getElem_toArray, List.getElem_cons_zero, List.getElem_cons_succ, List.setIfInBounds_toArray, List.set_cons_zero, List.set_cons_succ])
      refine wpAnyH_take (i := 8) (v := ?va8x18) rfl (by kernel_rfl) (by kernel_rfl) (by kernel_rfl) (fun _ _ _ h => h) (Or.inl ⟨by rfl, ?hy8x18⟩) (by assumption) ?rest8x18
      case hy8x18 => (intro w hSw; (try dsimp only at hSw); go_simp; try with_reducible rfl)
      (try simp only [Act.put, List.getElem_toArray, List.getElem_cons_zero, List.getElem_cons_succ, List.setIfInBounds_toArray, List.set_cons_zero, List.set_cons_succ])
      have n1 : gU ≠ w.heap.size := rows_ne K2.out M2.out (by decide)
      have n2 : gU ≠ w.heap.size + 1 := rows_ne K2.out V2.out (by decide)
      have n3 : gU ≠ w.heap.size + 1 + 1 + 1 := rows_ne K2.out R2.out (by decide)
      have n4 : gU ≠ w.heap.size + 1 + 1 := rows_ne K2.out B2.out (by decide)
      have GN := GL.out
      have M5 := Lib.hid (show RowM _ _ _ _ _ _ from Row.putOther M2.out (mu7 (.slice pa nf qa) (.slice pb nl qb) (.slice pc nr qc) (.slice pd nc qd) (.func (.func 94) #[] #[]) (.int .i64 1) (.slice pr nr1 qr)) (Ne.symm n1))
      have B5 := Lib.hid (Row.putOther B2.out (mu7 (.slice pa nf qa) (.slice pb nl qb) (.slice pc nr qc) (.slice pd nc qd) (.func (.func 94) #[] #[]) (.int .i64 1) (.slice pr nr1 qr)) (Ne.symm n4))
      have V5 := Lib.hid (Row.putOther V2.out (mu7 (.slice pa nf qa) (.slice pb nl qb) (.slice pc nr qc) (.slice pd nc qd) (.func (.func 94) #[] #[]) (.int .i64 1) (.slice pr nr1 qr)) (Ne.symm n2)); have R5 := Lib.hid (show RowM _ _ _ _ _ _ from Row.putOther R2.out (mu7 (.slice pa nf qa) (.slice pb nl qb) (.slice pc nr qc) (.slice pd nc qd) (.func (.func 94) #[] #[]) (.int .i64 1) (.slice pr nr1 qr)) (Ne.symm n3))
      have U5 := Lib.hid (Row.put K2.out (mu7 (.slice pa nf qa) (.slice pb nl qb) (.slice pc nr qc) (.slice pd nc qd) (.func (.func 94) #[] #[]) (.int .i64 1) (.slice pr nr1 qr)))
      have L5 := Lib.hid (below_setRow L2.out (by omega : w.heap.size ≤ gU) (mu7 (.slice pa nf qa) (.slice pb nl qb) (.slice pc nr qc) (.slice pd nc qd) (.func (.func 94) #[] #[]) (.int .i64 1) (.slice pr nr1 qr)))
      have A5 := Lib.hid (AW.out.below L5.out); have Z5 := Lib.hid (CW.out.below L5.out); have Q5 := Lib.hid (owns_bools (owns_block Q2.out fun g hg => setRow_other _ gU g (mu7 (.slice pa nf qa) (.slice pb nl qb) (.slice pc nr qc) (.slice pd nc qd) (.func (.func 94) #[] #[]) (.int .i64 1) (.slice pr nr1 qr)) (fun q => ne_rowB Q2.out K2.out (by decide) (by rw [hg, q]))))
      refine wpAnyH_ready (rs := [10]) (by kernel_rfl) (by simp) ?_
      refine AllReadyH.cons rfl (fun K hK => ?_) AllReadyH.nil
      refine wp_store_row 164 _ _ rfl gU (mu7 (.slice pa nf qa) (.slice pb nl qb) (.slice pc nr qc) (.slice pd nc qd) (.func (.func 94) #[] #[]) (.int .i64 1) (.slice pr nr1 qr)) rfl rfl 164 _ K2.out info_mutator rfl (by simp [Value.oneCell']) ?_
      refine hK.out _ _ ⟨M5.out.cell 0, M5.out.cell 1, M5.out.cell 2, M5.out.cell 3, B5.out.cell 0, B5.out.cell 1⟩ (fun hHeld => ?_)
      clear hK K
      (try simp only [Act.put, List.getElem_toArray, List.getElem_cons_zero, List.getElem_cons_succ])
      refine wpAnyH_done (by kernel_rfl) ?_ _
      go_wp2_with fail
      go_meet
      case rel => exact ⟨gU, .slice pr nr1 qr, rfl, U5.out, Q5.out, A5.out, Z5.out, V5.out, R5.out, L5.out, by omega⟩
  case rest =>
    obtain ⟨gU, r, rfl, HM⟩ := hcut
    obtain ⟨y1, y2, y3, y4, y5, y6, y7, GU⟩ := HM.out
    have U1 := Lib.hid y1; have Q1 := Lib.hid y2; have A1 := Lib.hid y3; have Z1 := Lib.hid y4; have V1 := Lib.hid y5; have R1 := Lib.hid y6; have L1 := Lib.hid y7
    clear y1 y2 y3 y4 y5 y6 y7
    clear A2 Z2 M2 V2 B2 R2 L2 HM GU AW CW
    have u0 := U1.out.cell 0
    have u1 := U1.out.cell 1
    have u2 := U1.out.cell 2
    have u3 := U1.out.cell 3
    have u4 := U1.out.cell 4
    have u5 := U1.out.cell 5
    have u6 := U1.out.cell 6
    have v0 : (_ : World).cell? ⟨w.heap.size + 1, 0, none⟩ = some (.int .i64 vk) := V1.out.cell 0
    go_wp2_with fail
    clear u0 u1 u2 u3 u4 u5 u6 v0
    refine (c_ruleOf (.slice pa nf qa) (.slice pb nl qb) (.slice pc nr qc) (.slice pd nc qd) (.func (.func 94) #[] #[]) (.int .i64 1) r vk _).mono ?_
    rintro e w5 ⟨rfl, hb⟩
    have ba := hb.alloc hb.size (.cells (ru3 .nilFunc false false) 167)
    have K5 := Lib.hid (Row.new w5 167 (ru3 .nilFunc false false))
    have HP1 := Lib.hid (ruleP_one (mu (.slice pa nf qa) (.slice pb nl qb) (.slice pc nr qc) (.slice pd nc qd) (.func (.func 94) #[] #[]) (.int .i64 1) r) vk)
    have SZ5 : Hid (w.heap.size + 1 + 1 + 1 < w5.heap.size) := (by unfold Hid; have := Row.lt R1.out; have := hb.size; omega)
    generalize hpf : ruleP (mu (.slice pa nf qa) (.slice pb nl qb) (.slice pc nr qc) (.slice pd nc qd) (.func (.func 94) #[] #[]) (.int .i64 1) r) vk = pf at *
    have HPF := Lib.hid hpf; clear hpf
    generalize ruleB vk = ub at *
    generalize ruleT vk = ut at *
    generalize ruleK vk = kk at *
    have b6 := below_setRow ba hb.size (ru3 pf ub ut)
    have A6 := Lib.hid (A1.out.below b6); have Z6 := Lib.hid (Z1.out.below b6); have Q6 := Lib.hid (Q1.out.below b6); have L6 := Lib.hid (bst L1.out b6 L1.out.size)
    have V6 := Lib.hid (Row.below V1.out b6); have R6 := Lib.hid (show RowM _ _ _ _ _ _ from Row.below R1.out b6)
    have K6 := Lib.hid (Row.put K5.out (ru3 pf ub ut))
    have HFN := Lib.hid (fun q => HGO.out q r _ A6.out Z6.out Q6.out)
    clear hb ba b6 A1 Z1 Q1 L1 V1 R1 U1 HGO A6 Z6 Q6
    go_upto_region 5 with (refine wl_storeRu rfl _ _ rfl w5.heap.size pf ub ut _ K5.out rfl rfl rfl HP1.out ?_)
    have SZ6 : Hid (w.heap.size + 1 + 1 + 1 < ((w5.alloc (.cells (ru3 .nilFunc false false) 167)).setRow w5.heap.size (ru3 pf ub ut)).heap.size) := (by unfold Hid; rw [size_setRow, World.size_alloc]; have := SZ5.out; omega)
    clear K5 HP1 SZ5
    generalize (w5.alloc (.cells (ru3 .nilFunc false false) 167)).setRow w5.heap.size (ru3 pf ub ut) = w6 at *
    generalize w5.heap.size = gK at *
    cases kk
    · skip
      have v0 : w6.cell? ⟨w.heap.size + 1, 0, none⟩ = some (.int .i64 _) := V6.out.cell 0
      have v1 : w6.cell? ⟨w.heap.size + 1, 1, none⟩ = some (.int .i64 _) := V6.out.cell 1
      have v2 : w6.cell? ⟨w.heap.size + 1, 2, none⟩ = some (.int .i64 _) := V6.out.cell 2
      have v3 : w6.cell? ⟨w.heap.size + 1, 3, none⟩ = some (.int .i64 _) := V6.out.cell 3
      have k0 := K6.out.cell 0
      have k1 := K6.out.cell 1
      have k2 := K6.out.cell 2
      have HE : Hid (OK = false) := HNO.out (by simp)
      clear HNO HFN
      go_upto_region 6 with fail
      go_wp2_with (refine wl_storeM rfl _ _ rfl (w.heap.size + 1 + 1 + 1) nilS nilS nilS nilS _ _ _ _ R6.out rfl rfl rfl rfl rfl rfl ?_)
      refine bodyPost_ret (res_row_slot Try.results91 (Row.put R6.out (m4 nilS nilS nilS nilS)) rfl rfl Try.underlying34 rfl info_marking) rfl (endM_none (below_setRow L6.out (by omega) _) (HH0.out HE.out) (HC0.out HE.out) HE.out)
    by_cases hb : vb = 0
    · subst hb
      by_cases ht : vt = 0
      · subst ht
        obtain ⟨N, hN, hEn, HC⟩ := HFN.out (by simp)
        have HC7 := Lib.hid HC
        have HEN := Lib.hid hEn
        have hpf : pf = .func (.func N) #[(mu (.slice pa nf qa) (.slice pb nl qb) (.slice pc nr qc) (.slice pd nc qd) (.func (.func 94) #[] #[]) (.int .i64 1) r)] #[] := HPF.out.symm.trans hN
        clear HNO HFN HPF hN HC hEn
        subst hpf
        have v0 : w6.cell? ⟨w.heap.size + 1, 0, none⟩ = some (.int .i64 _) := V6.out.cell 0
        have v1 : w6.cell? ⟨w.heap.size + 1, 1, none⟩ = some (.int .i64 _) := V6.out.cell 1
        have v2 : w6.cell? ⟨w.heap.size + 1, 2, none⟩ = some (.int .i64 _) := V6.out.cell 2
        have v3 : w6.cell? ⟨w.heap.size + 1, 3, none⟩ = some (.int .i64 _) := V6.out.cell 3
        have k0 := K6.out.cell 0
        have k1 := K6.out.cell 1
        have k2 := K6.out.cell 2
        go_wp2_with fail
        clear v0 v1 v2 v3 k0 k1 k2
        rw [HEN.out]
        go_simp
        refine HC7.out.mono ?_
        rintro e w7 ⟨a7, b7, c7, d7, rfl, om, hb7⟩
        obtain ⟨⟨p1, q1, e1⟩, ⟨p2, q2, e2⟩, ⟨p3, q3, e3⟩, ⟨p4, q4, e4⟩⟩ := om.shapes
        have OM := Lib.hid (om.whole (w.heap.size + 1 + 1 + 1) SZ6.out (m4 a7 b7 c7 d7))
        have L7 := Lib.hid (bst L6.out hb7 L6.out.size)
        have R7 := Lib.hid (show RowM _ _ _ _ _ _ from Row.below R6.out hb7)
        subst e1 e2 e3 e4
        clear om hb7 HC7
        generalize HH.f.length = n1 at *
        generalize HH.l.length = n2 at *
        generalize HH.r.length = n3 at *
        generalize CC.length = n4 at *
        go_wp2_with (refine wl_storeM rfl _ _ rfl (w.heap.size + 1 + 1 + 1) (.slice p1 n1 q1) (.slice p2 n2 q2) (.slice p3 n3 q3) (.slice p4 n4 q4) _ _ _ _ R7.out rfl rfl rfl rfl rfl rfl ?_)
        refine bodyPost_ret (res_row_slot Try.results91 (Row.put R7.out (m4 (.slice p1 n1 q1) (.slice p2 n2 q2) (.slice p3 n3 q3) (.slice p4 n4 q4))) rfl rfl Try.underlying34 rfl info_marking) rfl ⟨_, _, _, _, rfl, OM.out.wide (by have := SZ6.out; omega) (by rw [size_setRow]; exact Nat.le_refl _), below_setRow L7.out (by omega) _⟩
      have et : (vt == 0) = false := by simpa using ht
      have et2 : (vt != 0) = true := by simpa using ht
      cases ut
      · skip
        have HNO : Hid (True → OK = false) := fun _ => HNO.out (by simp [ht])
        clear ht
        have v0 : w6.cell? ⟨w.heap.size + 1, 0, none⟩ = some (.int .i64 _) := V6.out.cell 0
        have v1 : w6.cell? ⟨w.heap.size + 1, 1, none⟩ = some (.int .i64 _) := V6.out.cell 1
        have v2 : w6.cell? ⟨w.heap.size + 1, 2, none⟩ = some (.int .i64 _) := V6.out.cell 2
        have v3 : w6.cell? ⟨w.heap.size + 1, 3, none⟩ = some (.int .i64 _) := V6.out.cell 3
        have k0 := K6.out.cell 0
        have k1 := K6.out.cell 1
        have k2 := K6.out.cell 2
        have HE : Hid (OK = false) := HNO.out (by simp)
        clear HNO HFN
        go_upto_region 6 with fail
        go_wp2_with (refine wl_storeM rfl _ _ rfl (w.heap.size + 1 + 1 + 1) nilS nilS nilS nilS _ _ _ _ R6.out rfl rfl rfl rfl rfl rfl ?_)
        refine bodyPost_ret (res_row_slot Try.results91 (Row.put R6.out (m4 nilS nilS nilS nilS)) rfl rfl Try.underlying34 rfl info_marking) rfl (endM_none (below_setRow L6.out (by omega) _) (HH0.out HE.out) (HC0.out HE.out) HE.out)
      clear ht
      obtain ⟨N, hN, hEn, HC⟩ := HFN.out (by simp)
      have HC7 := Lib.hid HC
      have HEN := Lib.hid hEn
      have hpf : pf = .func (.func N) #[(mu (.slice pa nf qa) (.slice pb nl qb) (.slice pc nr qc) (.slice pd nc qd) (.func (.func 94) #[] #[]) (.int .i64 1) r)] #[] := HPF.out.symm.trans hN
      clear HNO HFN HPF hN HC hEn
      subst hpf
      have v0 : w6.cell? ⟨w.heap.size + 1, 0, none⟩ = some (.int .i64 _) := V6.out.cell 0
      have v1 : w6.cell? ⟨w.heap.size + 1, 1, none⟩ = some (.int .i64 _) := V6.out.cell 1
      have v2 : w6.cell? ⟨w.heap.size + 1, 2, none⟩ = some (.int .i64 _) := V6.out.cell 2
      have v3 : w6.cell? ⟨w.heap.size + 1, 3, none⟩ = some (.int .i64 _) := V6.out.cell 3
      have k0 := K6.out.cell 0
      have k1 := K6.out.cell 1
      have k2 := K6.out.cell 2
      go_wp2_with fail
      clear v0 v1 v2 v3 k0 k1 k2
      rw [HEN.out]
      go_simp
      refine HC7.out.mono ?_
      rintro e w7 ⟨a7, b7, c7, d7, rfl, om, hb7⟩
      obtain ⟨⟨p1, q1, e1⟩, ⟨p2, q2, e2⟩, ⟨p3, q3, e3⟩, ⟨p4, q4, e4⟩⟩ := om.shapes
      have OM := Lib.hid (om.whole (w.heap.size + 1 + 1 + 1) SZ6.out (m4 a7 b7 c7 d7))
      have L7 := Lib.hid (bst L6.out hb7 L6.out.size)
      have R7 := Lib.hid (show RowM _ _ _ _ _ _ from Row.below R6.out hb7)
      subst e1 e2 e3 e4
      clear om hb7 HC7
      generalize HH.f.length = n1 at *
      generalize HH.l.length = n2 at *
      generalize HH.r.length = n3 at *
      generalize CC.length = n4 at *
      go_wp2_with (refine wl_storeM rfl _ _ rfl (w.heap.size + 1 + 1 + 1) (.slice p1 n1 q1) (.slice p2 n2 q2) (.slice p3 n3 q3) (.slice p4 n4 q4) _ _ _ _ R7.out rfl rfl rfl rfl rfl rfl ?_)
      refine bodyPost_ret (res_row_slot Try.results91 (Row.put R7.out (m4 (.slice p1 n1 q1) (.slice p2 n2 q2) (.slice p3 n3 q3) (.slice p4 n4 q4))) rfl rfl Try.underlying34 rfl info_marking) rfl ⟨_, _, _, _, rfl, OM.out.wide (by have := SZ6.out; omega) (by rw [size_setRow]; exact Nat.le_refl _), below_setRow L7.out (by omega) _⟩
    have eb : (vb == 0) = false := by simpa using hb
    have eb2 : (vb != 0) = true := by simpa using hb
    cases ub
    · skip
      have HNO : Hid (True → OK = false) := fun _ => HNO.out (by simp [hb])
      clear hb
      have v0 : w6.cell? ⟨w.heap.size + 1, 0, none⟩ = some (.int .i64 _) := V6.out.cell 0
      have v1 : w6.cell? ⟨w.heap.size + 1, 1, none⟩ = some (.int .i64 _) := V6.out.cell 1
      have v2 : w6.cell? ⟨w.heap.size + 1, 2, none⟩ = some (.int .i64 _) := V6.out.cell 2
      have v3 : w6.cell? ⟨w.heap.size + 1, 3, none⟩ = some (.int .i64 _) := V6.out.cell 3
      have k0 := K6.out.cell 0
      have k1 := K6.out.cell 1
      have k2 := K6.out.cell 2
      have HE : Hid (OK = false) := HNO.out (by simp)
      clear HNO HFN
      go_upto_region 6 with fail
      go_wp2_with (refine wl_storeM rfl _ _ rfl (w.heap.size + 1 + 1 + 1) nilS nilS nilS nilS _ _ _ _ R6.out rfl rfl rfl rfl rfl rfl ?_)
      refine bodyPost_ret (res_row_slot Try.results91 (Row.put R6.out (m4 nilS nilS nilS nilS)) rfl rfl Try.underlying34 rfl info_marking) rfl (endM_none (below_setRow L6.out (by omega) _) (HH0.out HE.out) (HC0.out HE.out) HE.out)
    clear hb
    by_cases ht : vt = 0
    · subst ht
      obtain ⟨N, hN, hEn, HC⟩ := HFN.out (by simp)
      have HC7 := Lib.hid HC
      have HEN := Lib.hid hEn
      have hpf : pf = .func (.func N) #[(mu (.slice pa nf qa) (.slice pb nl qb) (.slice pc nr qc) (.slice pd nc qd) (.func (.func 94) #[] #[]) (.int .i64 1) r)] #[] := HPF.out.symm.trans hN
      clear HNO HFN HPF hN HC hEn
      subst hpf
      have v0 : w6.cell? ⟨w.heap.size + 1, 0, none⟩ = some (.int .i64 _) := V6.out.cell 0
      have v1 : w6.cell? ⟨w.heap.size + 1, 1, none⟩ = some (.int .i64 _) := V6.out.cell 1
      have v2 : w6.cell? ⟨w.heap.size + 1, 2, none⟩ = some (.int .i64 _) := V6.out.cell 2
      have v3 : w6.cell? ⟨w.heap.size + 1, 3, none⟩ = some (.int .i64 _) := V6.out.cell 3
      have k0 := K6.out.cell 0
      have k1 := K6.out.cell 1
      have k2 := K6.out.cell 2
      go_wp2_with fail
      clear v0 v1 v2 v3 k0 k1 k2
      rw [HEN.out]
      go_simp
      refine HC7.out.mono ?_
      rintro e w7 ⟨a7, b7, c7, d7, rfl, om, hb7⟩
      obtain ⟨⟨p1, q1, e1⟩, ⟨p2, q2, e2⟩, ⟨p3, q3, e3⟩, ⟨p4, q4, e4⟩⟩ := om.shapes
      have OM := Lib.hid (om.whole (w.heap.size + 1 + 1 + 1) SZ6.out (m4 a7 b7 c7 d7))
      have L7 := Lib.hid (bst L6.out hb7 L6.out.size)
      have R7 := Lib.hid (show RowM _ _ _ _ _ _ from Row.below R6.out hb7)
      subst e1 e2 e3 e4
      clear om hb7 HC7
      generalize HH.f.length = n1 at *
      generalize HH.l.length = n2 at *
      generalize HH.r.length = n3 at *
      generalize CC.length = n4 at *
      go_wp2_with (refine wl_storeM rfl _ _ rfl (w.heap.size + 1 + 1 + 1) (.slice p1 n1 q1) (.slice p2 n2 q2) (.slice p3 n3 q3) (.slice p4 n4 q4) _ _ _ _ R7.out rfl rfl rfl rfl rfl rfl ?_)
      refine bodyPost_ret (res_row_slot Try.results91 (Row.put R7.out (m4 (.slice p1 n1 q1) (.slice p2 n2 q2) (.slice p3 n3 q3) (.slice p4 n4 q4))) rfl rfl Try.underlying34 rfl info_marking) rfl ⟨_, _, _, _, rfl, OM.out.wide (by have := SZ6.out; omega) (by rw [size_setRow]; exact Nat.le_refl _), below_setRow L7.out (by omega) _⟩
    have et : (vt == 0) = false := by simpa using ht
    have et2 : (vt != 0) = true := by simpa using ht
    cases ut
    · skip
      have HNO : Hid (True → OK = false) := fun _ => HNO.out (by simp [ht])
      clear ht
      have v0 : w6.cell? ⟨w.heap.size + 1, 0, none⟩ = some (.int .i64 _) := V6.out.cell 0
      have v1 : w6.cell? ⟨w.heap.size + 1, 1, none⟩ = some (.int .i64 _) := V6.out.cell 1
      have v2 : w6.cell? ⟨w.heap.size + 1, 2, none⟩ = some (.int .i64 _) := V6.out.cell 2
      have v3 : w6.cell? ⟨w.heap.size + 1, 3, none⟩ = some (.int .i64 _) := V6.out.cell 3
      have k0 := K6.out.cell 0
      have k1 := K6.out.cell 1
      have k2 := K6.out.cell 2
      have HE : Hid (OK = false) := HNO.out (by simp)
      clear HNO HFN
      go_upto_region 6 with fail
      go_wp2_with (refine wl_storeM rfl _ _ rfl (w.heap.size + 1 + 1 + 1) nilS nilS nilS nilS _ _ _ _ R6.out rfl rfl rfl rfl rfl rfl ?_)
      refine bodyPost_ret (res_row_slot Try.results91 (Row.put R6.out (m4 nilS nilS nilS nilS)) rfl rfl Try.underlying34 rfl info_marking) rfl (endM_none (below_setRow L6.out (by omega) _) (HH0.out HE.out) (HC0.out HE.out) HE.out)
    clear ht
    obtain ⟨N, hN, hEn, HC⟩ := HFN.out (by simp)
    have HC7 := Lib.hid HC
    have HEN := Lib.hid hEn
    have hpf : pf = .func (.func N) #[(mu (.slice pa nf qa) (.slice pb nl qb) (.slice pc nr qc) (.slice pd nc qd) (.func (.func 94) #[] #[]) (.int .i64 1) r)] #[] := HPF.out.symm.trans hN
    clear HNO HFN HPF hN HC hEn
    subst hpf
    have v0 : w6.cell? ⟨w.heap.size + 1, 0, none⟩ = some (.int .i64 _) := V6.out.cell 0
    have v1 : w6.cell? ⟨w.heap.size + 1, 1, none⟩ = some (.int .i64 _) := V6.out.cell 1
    have v2 : w6.cell? ⟨w.heap.size + 1, 2, none⟩ = some (.int .i64 _) := V6.out.cell 2
    have v3 : w6.cell? ⟨w.heap.size + 1, 3, none⟩ = some (.int .i64 _) := V6.out.cell 3
    have k0 := K6.out.cell 0
    have k1 := K6.out.cell 1
    have k2 := K6.out.cell 2
    go_wp2_with fail
    clear v0 v1 v2 v3 k0 k1 k2
    rw [HEN.out]
    go_simp
    refine HC7.out.mono ?_
    rintro e w7 ⟨a7, b7, c7, d7, rfl, om, hb7⟩
    obtain ⟨⟨p1, q1, e1⟩, ⟨p2, q2, e2⟩, ⟨p3, q3, e3⟩, ⟨p4, q4, e4⟩⟩ := om.shapes
    have OM := Lib.hid (om.whole (w.heap.size + 1 + 1 + 1) SZ6.out (m4 a7 b7 c7 d7))
    have L7 := Lib.hid (bst L6.out hb7 L6.out.size)
    have R7 := Lib.hid (show RowM _ _ _ _ _ _ from Row.below R6.out hb7)
    subst e1 e2 e3 e4
    clear om hb7 HC7
    generalize HH.f.length = n1 at *
    generalize HH.l.length = n2 at *
    generalize HH.r.length = n3 at *
    generalize CC.length = n4 at *
    go_wp2_with (refine wl_storeM rfl _ _ rfl (w.heap.size + 1 + 1 + 1) (.slice p1 n1 q1) (.slice p2 n2 q2) (.slice p3 n3 q3) (.slice p4 n4 q4) _ _ _ _ R7.out rfl rfl rfl rfl rfl rfl ?_)
    refine bodyPost_ret (res_row_slot Try.results91 (Row.put R7.out (m4 (.slice p1 n1 q1) (.slice p2 n2 q2) (.slice p3 n3 q3) (.slice p4 n4 q4))) rfl rfl Try.underlying34 rfl info_marking) rfl ⟨_, _, _, _, rfl, OM.out.wide (by have := SZ6.out; omega) (by rw [size_setRow]; exact Nat.le_refl _), below_setRow L7.out (by omega) _⟩
end Go.Proofs.Ytbmfkgfmibpkjaa
namespace Go.Proofs.Ytbmfkgfmibpkjaa.Ph
noncomputable def stepA (h : H) (cs : List Int) (v : Mv) : Bool := bothB h cs && stepOk h cs v
theorem shade_new {cs : List Int} {p : Nat} (hp : p ≤ cs.length) : shade (newC cs p 1) (p : Int) = newC cs p 1 := by
  rw [shade_nat, if_neg]
  rw [newC_get hp, if_pos rfl]; decide
end Go.Proofs.Ytbmfkgfmibpkjaa.Ph
namespace Go.Proofs.Ytbmfkgfmibpkjaa
open Go.RowKit Ph
theorem rule_of {h : H} {cs : List Int} {v : Mv} (k : stepOk h cs v = true) : (ruleK v.k && (decide (v.b = 0) || ruleB v.k) && (decide (v.t = 0) || ruleT v.k)) = true := by
  rcases step_cases k with ⟨e, hb, ht, _⟩ | ⟨e, _⟩ | ⟨e, hb, _⟩ | ⟨e, ht, _⟩
  · rw [e, hb, ht]; rfl
  · rw [e]; simp [ruleK, ruleB, ruleT]
  · rw [e, hb]; simp [ruleK, ruleT]
  · rw [e, ht]; simp [ruleK, ruleB]
theorem rule_kind {k : Int} (h : ruleK k = true) : k = 1 ∨ k = 2 ∨ k = 3 ∨ k = 4 := by
  unfold ruleK at h
  simp only [Bool.and_eq_true, decide_eq_true_eq] at h
  omega
theorem stepOk1 {h : H} {cs : List Int} {v : Mv} (e : v.k = 1) (hb : v.b = 0) (ht : v.t = 0) : stepOk h cs v = scanK cs v.a := by
  unfold stepOk scanK
  rw [if_pos e, decide_eq_true hb, decide_eq_true ht]; rfl
theorem stepOk2 {h : H} {cs : List Int} {v : Mv} (e : v.k = 2) : stepOk h cs v = (liveB (reachL h.f h.r) v.a && refB (reachL h.f h.r) v.t && setFOk h v.a v.b v.t) := by
  unfold stepOk
  rw [if_neg (by omega), if_pos e]
theorem stepOk3 {h : H} {cs : List Int} {v : Mv} (e : v.k = 3) (hb : v.b = 0) : stepOk h cs v = (refB (reachL h.f h.r) v.t && setROk h v.a v.t) := by
  unfold stepOk
  rw [if_neg (by omega), if_neg (by omega), if_pos e, decide_eq_true hb]; rfl
theorem stepOk4 {h : H} {cs : List Int} {v : Mv} (e : v.k = 4) (ht : v.t = 0) : stepOk h cs v = newK h v := by
  unfold stepOk newK
  rw [if_neg (by omega), if_neg (by omega), if_neg (by omega), if_pos e, decide_eq_true ht]; rfl
theorem wasOf2 {h : H} {v : Mv} (e : v.k = 2) : wasOf h v = (h.f.getD v.a.toNat []).getD v.b.toNat 0 := by unfold wasOf; rw [if_pos e]
theorem wasOf3 {h : H} {v : Mv} (e : v.k = 3) : wasOf h v = h.r.getD v.a.toNat 0 := by unfold wasOf; rw [if_neg (by omega), if_pos e]
theorem wasOf4 {h : H} {v : Mv} (e : v.k = 4) : wasOf h v = h.r.getD v.b.toNat 0 := by unfold wasOf; rw [if_neg (by omega), if_neg (by omega)]
theorem outH_eq {k k' : Bool} {h h' : H} (e : k = k') (f : k = true → h = h') : outH k h = outH k' h' := by
  subst e
  cases k with
  | false => rfl
  | true => rw [f rfl]
theorem outC_eq {k k' : Bool} {h h' : List Int} (e : k = k') (f : k = true → h = h') : outC k h = outC k' h' := by
  subst e
  cases k with
  | false => rfl
  | true => rw [f rfl]
theorem endM_eq {h h' : H} {cs cs' : List Int} {ok ok' : Bool} {w : World} (e1 : h = h') (e2 : cs = cs') (e3 : ok = ok') : EndM h cs ok w = EndM h' cs' ok' w := by rw [e1, e2, e3]
set_option maxHeartbeats 3200000 in
theorem c_stepWith_false (a b c d : Value) (h : H) (cs : List Int) (v : Mv) (w : World) (hA : HeapAt w a b c h) (hC : IntsAt w d cs) : Calls Try.prog 91 #[mv a b c d, mo v, .agg #[(.func (.func 92) #[] #[]), (.int .i64 2)]] w (EndM (outH (stepA h cs v) (stepH h v)) (outC (stepA h cs v) (stepC h cs v false)) (stepA h cs v) w) := by
  refine c_lay_false (stepA h cs v) _ _ a b c d h cs v w hA hC (fun q => ?_) (fun hb hr r w' hA' hC' hQ' => ?_) (fun q => by rw [q]; rfl) (fun q => by rw [q]; rfl)
  · unfold stepA
    cases e : bothB h cs with
    | false => rfl
    | true =>
      rw [e] at q
      cases e2 : stepOk h cs v with
      | false => rfl
      | true => rw [rule_of e2] at q; cases q
  · have hs : stepA h cs v = stepOk h cs v := by unfold stepA; rw [hb]; rfl
    simp only [Bool.and_eq_true, Bool.or_eq_true, decide_eq_true_eq] at hr
    obtain ⟨⟨hk, hrb⟩, hrt⟩ := hr
    rcases rule_kind hk with e | e | e | e
    · have vb : v.b = 0 := hrb.resolve_right (by rw [e]; decide)
      have vt : v.t = 0 := hrt.resolve_right (by rw [e]; decide)
      refine ⟨184, by unfold ruleP; rw [if_pos e], enters_of Try.func184 (by kernel_rfl) rfl, ?_⟩
      have hc := c_mscan a b c d (.func (.func 92) #[] #[]) (.int .i64 2) r h cs v w' hA' hC' hb
      rw [endM_eq (outH_eq (hs.trans (stepOk1 e vb vt)) (fun _ => stepH1 e)) (outC_eq (hs.trans (stepOk1 e vb vt)) (fun _ => stepC1 e)) (hs.trans (stepOk1 e vb vt))]
      exact hc
    · refine ⟨185, by unfold ruleP; rw [if_neg (by omega), if_pos e], enters_of Try.func185 (by kernel_rfl) rfl, ?_⟩
      have hc := c_msetField_false a b c d (.int .i64 2) r h cs (reachL h.f h.r) v w' hA' hC' hQ' hb
      rw [endM_eq (outH_eq (hs.trans (stepOk2 e)) (fun _ => stepH2 e)) (outC_eq (hs.trans (stepOk2 e)) (fun _ => (stepC23 (.inl e)).trans (by rw [wasOf2 e]))) (hs.trans (stepOk2 e))]
      exact hc
    · have vb : v.b = 0 := hrb.resolve_right (by rw [e]; decide)
      refine ⟨186, by unfold ruleP; rw [if_neg (by omega), if_neg (by omega), if_pos e], enters_of Try.func186 (by kernel_rfl) rfl, ?_⟩
      have hc := c_msetRoot_false a b c d (.int .i64 2) r h cs (reachL h.f h.r) v w' hA' hC' hQ' hb
      rw [endM_eq (outH_eq (hs.trans (stepOk3 e vb)) (fun _ => stepH3 e)) (outC_eq (hs.trans (stepOk3 e vb)) (fun _ => (stepC23 (.inr e)).trans (by rw [wasOf3 e]))) (hs.trans (stepOk3 e vb))]
      exact hc
    · have vt : v.t = 0 := hrt.resolve_right (by rw [e]; decide)
      refine ⟨187, by unfold ruleP; rw [if_neg (by omega), if_neg (by omega), if_neg (by omega), if_pos e], enters_of Try.func187 (by kernel_rfl) rfl, ?_⟩
      have hc := c_mallocate_false a b c d r h cs v w' hA' hC' hb
      rw [endM_eq (outH_eq (hs.trans (stepOk4 e vt)) (fun _ => stepH4 e)) (outC_eq (hs.trans (stepOk4 e vt)) (fun q => (stepC4 e).trans ?_)) (hs.trans (stepOk4 e vt))]
      · exact hc
      · rw [wasOf4 e]; rfl
set_option maxHeartbeats 3200000 in
theorem c_stepWith_true (a b c d : Value) (h : H) (cs : List Int) (v : Mv) (w : World) (hA : HeapAt w a b c h) (hC : IntsAt w d cs) : Calls Try.prog 91 #[mv a b c d, mo v, .agg #[(.func (.func 94) #[] #[]), (.int .i64 1)]] w (EndM (outH (stepA h cs v) (stepH h v)) (outC (stepA h cs v) (stepC h cs v true)) (stepA h cs v) w) := by
  refine c_lay_true (stepA h cs v) _ _ a b c d h cs v w hA hC (fun q => ?_) (fun hb hr r w' hA' hC' hQ' => ?_) (fun q => by rw [q]; rfl) (fun q => by rw [q]; rfl)
  · unfold stepA
    cases e : bothB h cs with
    | false => rfl
    | true =>
      rw [e] at q
      cases e2 : stepOk h cs v with
      | false => rfl
      | true => rw [rule_of e2] at q; cases q
  · have hs : stepA h cs v = stepOk h cs v := by unfold stepA; rw [hb]; rfl
    simp only [Bool.and_eq_true, Bool.or_eq_true, decide_eq_true_eq] at hr
    obtain ⟨⟨hk, hrb⟩, hrt⟩ := hr
    rcases rule_kind hk with e | e | e | e
    · have vb : v.b = 0 := hrb.resolve_right (by rw [e]; decide)
      have vt : v.t = 0 := hrt.resolve_right (by rw [e]; decide)
      refine ⟨184, by unfold ruleP; rw [if_pos e], enters_of Try.func184 (by kernel_rfl) rfl, ?_⟩
      have hc := c_mscan a b c d (.func (.func 94) #[] #[]) (.int .i64 1) r h cs v w' hA' hC' hb
      rw [endM_eq (outH_eq (hs.trans (stepOk1 e vb vt)) (fun _ => stepH1 e)) (outC_eq (hs.trans (stepOk1 e vb vt)) (fun _ => stepC1 e)) (hs.trans (stepOk1 e vb vt))]
      exact hc
    · refine ⟨185, by unfold ruleP; rw [if_neg (by omega), if_pos e], enters_of Try.func185 (by kernel_rfl) rfl, ?_⟩
      have hc := c_msetField_true a b c d (.int .i64 1) r h cs (reachL h.f h.r) v w' hA' hC' hQ' hb
      rw [endM_eq (outH_eq (hs.trans (stepOk2 e)) (fun _ => stepH2 e)) (outC_eq (hs.trans (stepOk2 e)) (fun _ => (stepC23 (.inl e)).trans (by rw [wasOf2 e]))) (hs.trans (stepOk2 e))]
      exact hc
    · have vb : v.b = 0 := hrb.resolve_right (by rw [e]; decide)
      refine ⟨186, by unfold ruleP; rw [if_neg (by omega), if_neg (by omega), if_pos e], enters_of Try.func186 (by kernel_rfl) rfl, ?_⟩
      have hc := c_msetRoot_true a b c d (.int .i64 1) r h cs (reachL h.f h.r) v w' hA' hC' hQ' hb
      rw [endM_eq (outH_eq (hs.trans (stepOk3 e vb)) (fun _ => stepH3 e)) (outC_eq (hs.trans (stepOk3 e vb)) (fun _ => (stepC23 (.inr e)).trans (by rw [wasOf3 e]))) (hs.trans (stepOk3 e vb))]
      exact hc
    · have vt : v.t = 0 := hrt.resolve_right (by rw [e]; decide)
      refine ⟨187, by unfold ruleP; rw [if_neg (by omega), if_neg (by omega), if_neg (by omega), if_pos e], enters_of Try.func187 (by kernel_rfl) rfl, ?_⟩
      have hc := c_mallocate_true a b c d r h cs v w' hA' hC' hb
      rw [endM_eq (outH_eq (hs.trans (stepOk4 e vt)) (fun _ => stepH4 e)) (outC_eq (hs.trans (stepOk4 e vt)) (fun q => (stepC4 e).trans ?_)) (hs.trans (stepOk4 e vt))]
      · exact hc
      · have k : newOk h v.a = true := by rw [hs, stepOk4 e vt] at q; unfold newK at q; simp only [Bool.and_eq_true] at q; exact q.2
        have hp := (newP_place k).1
        rw [if_pos rfl]
        exact (shade_new (by have := (bothB_iff.1 hb).2.1; omega)).symm
set_option maxHeartbeats 3200000 in
set_option maxRecDepth 100000 in
theorem c_StepBySnapshot (a b c d : Value) (h : H) (cs : List Int) (v : Mv) (w : World) (hA : HeapAt w a b c h) (hC : IntsAt w d cs) : Calls Try.prog 19 #[mv a b c d, mo v] w (EndM (outH (stepA h cs v) (stepH h v)) (outC (stepA h cs v) (stepC h cs v false)) (stepA h cs v) w) := by
  obtain ⟨vk, va, vb, vt⟩ := v
  generalize hok : stepA h cs ⟨vk, va, vb, vt⟩ = ok at *
  have HOK := Lib.hid hok; clear hok
  generalize hHH : outH ok (stepH h ⟨vk, va, vb, vt⟩) = HH at *
  have H1 := Lib.hid hHH; clear hHH
  generalize hCC : outC ok (stepC h cs ⟨vk, va, vb, vt⟩ false) = CC at *
  have H2 := Lib.hid hCC; clear hCC
  have b0 := ((below1 w (.cells (m4 a b c d) 34)).alloc (by simp) (.cells (mo4 ⟨vk, va, vb, vt⟩) 38)).alloc (by simp; omega) (.cells (m4 nilS nilS nilS nilS) 34)
  have A0 := Lib.hid (hA.below b0); have Z0 := Lib.hid (hC.below b0)
  have L := Lib.hid b0
  have M0 := Lib.hid (show RowM _ w.heap.size a b c d from ((Row.new w 34 (m4 a b c d)).alloc (.cells (mo4 ⟨vk, va, vb, vt⟩) 38)).alloc (.cells (m4 nilS nilS nilS nilS) 34))
  have V0 := Lib.hid (show Row _ (w.heap.size + 1) 38 (mo4 ⟨vk, va, vb, vt⟩) from (Row.new1 w (.cells (m4 a b c d) 34) 38 (mo4 ⟨vk, va, vb, vt⟩)).alloc (.cells (m4 nilS nilS nilS nilS) 34))
  have R0 := Lib.hid (show RowM _ (w.heap.size + 1 + 1) nilS nilS nilS nilS from Row.new2 w (.cells (m4 a b c d) 34) (.cells (mo4 ⟨vk, va, vb, vt⟩) 38) 34 (m4 nilS nilS nilS nilS))
  clear hA hC b0
  have c0 := M0.out.cell 0
  have c1 := M0.out.cell 1
  have c2 := M0.out.cell 2
  have c3' := M0.out.cell 3
  have v0 : (_ : World).cell? ⟨w.heap.size + 1, 0, none⟩ = some (.int .i64 vk) := V0.out.cell 0
  have v1 : (_ : World).cell? ⟨w.heap.size + 1, 1, none⟩ = some (.int .i64 va) := V0.out.cell 1
  have v2 : (_ : World).cell? ⟨w.heap.size + 1, 2, none⟩ = some (.int .i64 vb) := V0.out.cell 2
  have v3 : (_ : World).cell? ⟨w.heap.size + 1, 3, none⟩ = some (.int .i64 vt) := V0.out.cell 3
  go_enter Try.func19, Try.ntmps19
  go_wp2_with fail
  refine (c_stepWith_false a b c d h cs ⟨vk, va, vb, vt⟩ _ A0.out Z0.out).mono ?_
  rw [HOK.out, H1.out, H2.out]
  rintro e w7 ⟨a7, b7, c7, d7, rfl, om, hb7⟩
  obtain ⟨⟨p1, q1, e1⟩, ⟨p2, q2, e2⟩, ⟨p3, q3, e3⟩, ⟨p4, q4, e4⟩⟩ := om.shapes
  have SZ : Hid (w.heap.size + 1 + 1 < (((w.alloc (.cells (m4 a b c d) 34)).alloc (.cells (mo4 ⟨vk, va, vb, vt⟩) 38)).alloc (.cells (m4 nilS nilS nilS nilS) 34)).heap.size) := Row.lt R0.out
  have OM := Lib.hid (om.whole (w.heap.size + 1 + 1) SZ.out (m4 a7 b7 c7 d7))
  have L7 := Lib.hid (bst L.out hb7 L.out.size)
  have R7 := Lib.hid (show RowM _ _ _ _ _ _ from Row.below R0.out hb7)
  subst e1 e2 e3 e4
  clear om hb7 c0 c1 c2 c3' v0 v1 v2 v3
  generalize HH.f.length = n1 at *
  generalize HH.l.length = n2 at *
  generalize HH.r.length = n3 at *
  generalize CC.length = n4 at *
  go_wp2_with (refine wl_storeM rfl _ _ rfl (w.heap.size + 1 + 1) (.slice p1 n1 q1) (.slice p2 n2 q2) (.slice p3 n3 q3) (.slice p4 n4 q4) _ _ _ _ R7.out rfl rfl rfl rfl rfl rfl ?_)
  refine bodyPost_ret (res_row_slot Try.results19 (Row.put R7.out (m4 (.slice p1 n1 q1) (.slice p2 n2 q2) (.slice p3 n3 q3) (.slice p4 n4 q4))) rfl rfl Try.underlying34 rfl info_marking) rfl ⟨_, _, _, _, rfl, OM.out.wide (by have := SZ.out; omega) (by rw [size_setRow]; exact Nat.le_refl _), below_setRow L7.out (by omega) _⟩
set_option maxHeartbeats 3200000 in
set_option maxRecDepth 100000 in
theorem c_StepByPut (a b c d : Value) (h : H) (cs : List Int) (v : Mv) (w : World) (hA : HeapAt w a b c h) (hC : IntsAt w d cs) : Calls Try.prog 24 #[mv a b c d, mo v] w (EndM (outH (stepA h cs v) (stepH h v)) (outC (stepA h cs v) (stepC h cs v true)) (stepA h cs v) w) := by
  obtain ⟨vk, va, vb, vt⟩ := v
  generalize hok : stepA h cs ⟨vk, va, vb, vt⟩ = ok at *
  have HOK := Lib.hid hok; clear hok
  generalize hHH : outH ok (stepH h ⟨vk, va, vb, vt⟩) = HH at *
  have H1 := Lib.hid hHH; clear hHH
  generalize hCC : outC ok (stepC h cs ⟨vk, va, vb, vt⟩ true) = CC at *
  have H2 := Lib.hid hCC; clear hCC
  have b0 := ((below1 w (.cells (m4 a b c d) 34)).alloc (by simp) (.cells (mo4 ⟨vk, va, vb, vt⟩) 38)).alloc (by simp; omega) (.cells (m4 nilS nilS nilS nilS) 34)
  have A0 := Lib.hid (hA.below b0); have Z0 := Lib.hid (hC.below b0)
  have L := Lib.hid b0
  have M0 := Lib.hid (show RowM _ w.heap.size a b c d from ((Row.new w 34 (m4 a b c d)).alloc (.cells (mo4 ⟨vk, va, vb, vt⟩) 38)).alloc (.cells (m4 nilS nilS nilS nilS) 34))
  have V0 := Lib.hid (show Row _ (w.heap.size + 1) 38 (mo4 ⟨vk, va, vb, vt⟩) from (Row.new1 w (.cells (m4 a b c d) 34) 38 (mo4 ⟨vk, va, vb, vt⟩)).alloc (.cells (m4 nilS nilS nilS nilS) 34))
  have R0 := Lib.hid (show RowM _ (w.heap.size + 1 + 1) nilS nilS nilS nilS from Row.new2 w (.cells (m4 a b c d) 34) (.cells (mo4 ⟨vk, va, vb, vt⟩) 38) 34 (m4 nilS nilS nilS nilS))
  clear hA hC b0
  have c0 := M0.out.cell 0
  have c1 := M0.out.cell 1
  have c2 := M0.out.cell 2
  have c3' := M0.out.cell 3
  have v0 : (_ : World).cell? ⟨w.heap.size + 1, 0, none⟩ = some (.int .i64 vk) := V0.out.cell 0
  have v1 : (_ : World).cell? ⟨w.heap.size + 1, 1, none⟩ = some (.int .i64 va) := V0.out.cell 1
  have v2 : (_ : World).cell? ⟨w.heap.size + 1, 2, none⟩ = some (.int .i64 vb) := V0.out.cell 2
  have v3 : (_ : World).cell? ⟨w.heap.size + 1, 3, none⟩ = some (.int .i64 vt) := V0.out.cell 3
  go_enter Try.func24, Try.ntmps24
  go_wp2_with fail
  refine (c_stepWith_true a b c d h cs ⟨vk, va, vb, vt⟩ _ A0.out Z0.out).mono ?_
  rw [HOK.out, H1.out, H2.out]
  rintro e w7 ⟨a7, b7, c7, d7, rfl, om, hb7⟩
  obtain ⟨⟨p1, q1, e1⟩, ⟨p2, q2, e2⟩, ⟨p3, q3, e3⟩, ⟨p4, q4, e4⟩⟩ := om.shapes
  have SZ : Hid (w.heap.size + 1 + 1 < (((w.alloc (.cells (m4 a b c d) 34)).alloc (.cells (mo4 ⟨vk, va, vb, vt⟩) 38)).alloc (.cells (m4 nilS nilS nilS nilS) 34)).heap.size) := Row.lt R0.out
  have OM := Lib.hid (om.whole (w.heap.size + 1 + 1) SZ.out (m4 a7 b7 c7 d7))
  have L7 := Lib.hid (bst L.out hb7 L.out.size)
  have R7 := Lib.hid (show RowM _ _ _ _ _ _ from Row.below R0.out hb7)
  subst e1 e2 e3 e4
  clear om hb7 c0 c1 c2 c3' v0 v1 v2 v3
  generalize HH.f.length = n1 at *
  generalize HH.l.length = n2 at *
  generalize HH.r.length = n3 at *
  generalize CC.length = n4 at *
  go_wp2_with (refine wl_storeM rfl _ _ rfl (w.heap.size + 1 + 1) (.slice p1 n1 q1) (.slice p2 n2 q2) (.slice p3 n3 q3) (.slice p4 n4 q4) _ _ _ _ R7.out rfl rfl rfl rfl rfl rfl ?_)
  refine bodyPost_ret (res_row_slot Try.results24 (Row.put R7.out (m4 (.slice p1 n1 q1) (.slice p2 n2 q2) (.slice p3 n3 q3) (.slice p4 n4 q4))) rfl rfl Try.underlying34 rfl info_marking) rfl ⟨_, _, _, _, rfl, OM.out.wide (by have := SZ.out; omega) (by rw [size_setRow]; exact Nat.le_refl _), below_setRow L7.out (by omega) _⟩
end Go.Proofs.Ytbmfkgfmibpkjaa
namespace Go.Proofs.Ytbmfkgfmibpkjaa
open Go.RowKit Ph
theorem c_toMove (v : Mv) (w : World) : Calls Try.prog 18 #[mo v] w fun e w' => e = .returned (mo v) ∧ Below w.heap.size w w' := by
  obtain ⟨vk, va, vb, vt⟩ := v
  go_enter Try.func18, Try.ntmps18
  go_wp2
  refine bodyPost_ret (res_row Try.results18 (Row.alloc (Row.new1 w _ 38 (mo4 ⟨vk, va, vb, vt⟩)) _) rfl Try.underlying38 rfl info_move) rfl ⟨rfl, ?_⟩
  exact ((((Below.refl _ _).alloc (Nat.le_refl _) _).alloc (by simp) _).alloc (by simp; omega) _)
end Go.Proofs.Ytbmfkgfmibpkjaa
namespace Go.Proofs.Ytbmfkgfmibpkjaa
open Go.RowKit Ph
abbrev zM : Mv := ⟨0, 0, 0, 0⟩
def mvc (r : Mv) : Nat → Int
  | 0 => r.k
  | 1 => r.a
  | 2 => r.b
  | _ => r.t
/-- The cells of a list of moves. -/
def flatM (ms : List Mv) : List Value := ms.flatMap fun r => [.int .i64 r.k, .int .i64 r.a, .int .i64 r.b, .int .i64 r.t]
theorem flatM_cons (r : Mv) (rs : List Mv) : flatM (r :: rs) = .int .i64 r.k :: .int .i64 r.a :: .int .i64 r.b :: .int .i64 r.t :: flatM rs := rfl
theorem flatM_length (rs : List Mv) : (flatM rs).length = rs.length * 4 := by
  induction rs with
  | nil => rfl
  | cons r rs ih => rw [flatM_cons]; simp [ih]; omega
theorem flatM_get : ∀ (rs : List Mv) (i j : Nat), i < rs.length → j < 4 → (flatM rs)[i * 4 + j]? = some (.int .i64 (mvc (rs.getD i zM) j))
  | [], i, j, h, _ => by simp at h
  | r :: rs, 0, j, _, hj => by
    have hc : j = 0 ∨ j = 1 ∨ j = 2 ∨ j = 3 := by omega
    rcases hc with rfl | rfl | rfl | rfl <;> simp [flatM_cons, mvc]
  | r :: rs, i + 1, j, h, hj => by
    have := flatM_get rs i j (by simpa using h) hj
    rw [flatM_cons, show (i + 1) * 4 + j = (i * 4 + j) + 1 + 1 + 1 + 1 by omega]
    simpa using this
theorem flatM_set : ∀ (rs : List Mv) (i : Nat) (m : Mv), i < rs.length → ((((flatM rs).set (i * 4) (.int .i64 m.k)).set (i * 4 + 1) (.int .i64 m.a)).set (i * 4 + 2) (.int .i64 m.b)).set (i * 4 + 3) (.int .i64 m.t) = flatM (rs.set i m)
  | [], i, m, h => by simp at h
  | r :: rs, 0, m, _ => by simp [flatM_cons]
  | r :: rs, i + 1, m, h => by
    have := flatM_set rs i m (by simpa using h)
    rw [flatM_cons, show (i + 1) * 4 = i * 4 + 1 + 1 + 1 + 1 by omega, show i * 4 + 1 + 1 + 1 + 1 + 1 = (i * 4 + 1) + 1 + 1 + 1 + 1 by omega, show i * 4 + 1 + 1 + 1 + 1 + 2 = (i * 4 + 2) + 1 + 1 + 1 + 1 by omega, show i * 4 + 1 + 1 + 1 + 1 + 3 = (i * 4 + 3) + 1 + 1 + 1 + 1 by omega]
    simp only [List.set_cons_succ, flatM_cons, this]
theorem MovesAt.below {w w' : World} {v : Value} {ms : List Mv} (h : MovesAt w v ms) (hb : Below w.heap.size w w') : MovesAt w' v ms := by
  obtain ⟨a, cap, hv, hc⟩ := h
  refine ⟨a, cap, hv, fun h0 => ?_⟩
  obtain ⟨b, off, ha, hc⟩ := hc h0
  refine ⟨b, off, ha, fun i hi => ?_⟩
  obtain ⟨h1, h2, h3, h4⟩ := hc i hi
  rw [hb.cell (block_lt_of_cell h1), hb.cell (block_lt_of_cell h2), hb.cell (block_lt_of_cell h3), hb.cell (block_lt_of_cell h4)]
  exact ⟨h1, h2, h3, h4⟩
theorem MovesAt.shape {w : World} {v : Value} {ms : List Mv} (h : MovesAt w v ms) : ∃ p q, v = .slice p ms.length q := by obtain ⟨a, c, h, _⟩ := h; exact ⟨a, c, h⟩
/-- A row of moves that the call itself has made. -/
def OwnV (w : World) (B : Nat) (v : Value) (ms : List Mv) : Prop := w.ownsRow B 38 4 v ms.length (flatM ms)
theorem OwnV.reads {w : World} {B : Nat} {v : Value} {ms : List Mv} (h : OwnV w B v ms) : MovesAt w v ms := by
  have h' := h
  obtain ⟨h1, h2⟩ := h
  rcases h2 with ⟨rfl, h2⟩ | ⟨g, cap, cur, rfl, hg, hh, _⟩
  · exact ⟨none, 0, by rw [h2], fun h => by omega⟩
  · refine ⟨_, cap, rfl, fun _ => ⟨g, 0, rfl, fun i hi => ?_⟩⟩
    rw [Nat.zero_add, World.ownsRow.cellAt h' _ (by omega), World.ownsRow.cellAt h' _ (by omega), World.ownsRow.cellAt h' _ (by omega), World.ownsRow.cellAt h' _ (by omega)]
    exact ⟨flatM_get ms i 0 hi (by omega), flatM_get ms i 1 hi (by omega), flatM_get ms i 2 hi (by omega), flatM_get ms i 3 hi (by omega)⟩
theorem ownsRow_block {w w' : World} {B : Nat} {T : TypeId} {z : Nat} {v : Value} {n : Nat} {xs : List Value} (h : w.ownsRow B T z v n xs) (hb : ∀ g, v.ownBlock = some g → w'.heap[g]? = w.heap[g]?) : w'.ownsRow B T z v n xs := by
  refine ⟨h.1, ?_⟩
  rcases h.2 with h2 | ⟨g, cap, cur, hv, hg, hh, r⟩
  · exact .inl h2
  · exact .inr ⟨g, cap, cur, hv, hg, by rw [hb g (by rw [hv]; rfl)]; exact hh, r⟩
theorem ownsRow_lt {w : World} {B : Nat} {T : TypeId} {z : Nat} {v : Value} {n : Nat} {xs : List Value} (h : w.ownsRow B T z v n xs) {g : Nat} (hg : v.ownBlock = some g) : B ≤ g ∧ g < w.heap.size := by
  rcases h.2 with ⟨rfl, _⟩ | ⟨g', cap, cur, rfl, h1, h2, _⟩
  · cases hg
  · cases hg
    refine ⟨h1, ?_⟩
    by_cases e : g' < w.heap.size
    · exact e
    · have hn : w.heap[g']? = none := by simp; omega
      rw [hn] at h2; cases h2
theorem OwnV.below {w w' : World} {B : Nat} {v : Value} {ms : List Mv} (h : OwnV w B v ms) (hb : Below w.heap.size w w') : OwnV w' B v ms := ownsRow_block h fun g hg => hb.block g (ownsRow_lt h hg).2
theorem OwnV.shape {w : World} {B : Nat} {v : Value} {ms : List Mv} (h : OwnV w B v ms) : ∃ p q, v = .slice p ms.length q := h.reads.shape
theorem info_mvs : (Try.prog.info? 38).map (fun i => (i.zero, i.size, i.bytes)) = some (some (.agg #[.int .i64 0, .int .i64 0, .int .i64 0, .int .i64 0]), 4, 32) := by kernel_rfl

theorem c_szMoveS_yes (a : Option Addr) (n c : Nat) (left : Int) (w : World) (h1 : left ≤ 1048576) (h : (n : Int) ≤ left) : Calls Try.prog 26 #[.slice a n c, .int .i64 left] w fun e w' => e = .returned (.int .i64 (left - n)) ∧ w = w' := by
  have h2 : ¬ left - (n : Int) < 0 := by omega
  go_enter Try.func26, Try.ntmps26
  go_wp2
  go_ret
  exact ⟨rfl, rfl⟩
theorem c_szMoveS_no (a : Option Addr) (n c : Nat) (left : Int) (w : World) (h0 : 0 ≤ left) (h1 : left ≤ 1048576) (hn : n ≤ 9223372036854775807) (h : left < (n : Int)) : Calls Try.prog 26 #[.slice a n c, .int .i64 left] w fun e w' => e = .returned (.int .i64 (-1)) ∧ w = w' := by
  have h2 : left - (n : Int) < 0 := by omega
  go_enter Try.func26, Try.ntmps26
  go_wp2
  go_ret
  exact ⟨rfl, rfl⟩

set_option maxHeartbeats 800000 in
theorem c_eqMove (m : Mv) (w : World) : Calls Try.prog 102 #[mo m, mo m] w fun e w' => e = .returned (.bool true) ∧ Below w.heap.size w w' := by
  obtain ⟨k, a, b, t⟩ := m
  have HB := Lib.hid (((Below.refl w.heap.size w).alloc (Nat.le_refl _) (.cells (mo4 ⟨k, a, b, t⟩) 38)).alloc (by simp) (.cells (mo4 ⟨k, a, b, t⟩) 38))
  have e1 : (k != k) = false := by simp
  have e2 : (a != a) = false := by simp
  have e3 : (b != b) = false := by simp
  have e4 : (t != t) = false := by simp
  go_enter Try.func102, Try.ntmps102
  go_wp2
  go_ret
  exact ⟨rfl, HB.out⟩
set_option maxHeartbeats 1600000 in
theorem c_eqMoveS (va vb : Value) (ms : List Mv) (w : World) (hA : MovesAt w va ms) (hB : MovesAt w vb ms) (hm : ms.length ≤ 1048576) :
    Calls Try.prog 33 #[va, vb] w fun e w' => e = .returned (.bool true) ∧ Below w.heap.size w w' := by
  obtain ⟨a, ca, rfl, hA⟩ := hA
  obtain ⟨b, cb, rfl, hB⟩ := hB
  generalize hn : ms.length = n at *
  clear hn
  have hbq : ((n : Int) != (n : Int)) = false := by simp
  by_cases h0 : n = 0
  · subst h0
    clear hA hB
    go_enter Try.func33, Try.ntmps33
    go_wp2
    refine wp_loop_rounds 1 ?_
    rw [rounds_succ]
    go_wp2
    go_ret
    exact ⟨rfl, Below.refl _ _⟩
  · obtain ⟨ba, oa, rfl, hca⟩ := hA (by omega)
    obtain ⟨bb, ob, rfl, hcb⟩ := hB (by omega)
    clear hA hB
    have HCA := Lib.hid hca; have HCB := Lib.hid hcb; clear hca hcb
    go_enter Try.func33, Try.ntmps33
    go_wp2
    go_loopw [5] (fun i wr => ∃ k : Nat, k ≤ n ∧ i = .int .i64 k ∧ Below w.heap.size w wr) (fun i _ => n - (intOf i).toNat)
    case atStart => exact ⟨0, Nat.zero_le _, rfl, Below.refl _ _⟩
    case round =>
      obtain ⟨k, hk, rfl, hbr⟩ := hrel
      by_cases hlt : k < n
      · obtain ⟨p1, p2, p3, p4⟩ := HCA.out k hlt
        obtain ⟨p5, p6, p7, p8⟩ := HCB.out k hlt
        replace p1 := cellBelow hbr (Nat.le_refl _) p1
        replace p2 := cellBelow hbr (Nat.le_refl _) p2
        replace p3 := cellBelow hbr (Nat.le_refl _) p3
        replace p4 := cellBelow hbr (Nat.le_refl _) p4
        replace p5 := cellBelow hbr (Nat.le_refl _) p5
        replace p6 := cellBelow hbr (Nat.le_refl _) p6
        replace p7 := cellBelow hbr (Nat.le_refl _) p7
        replace p8 := cellBelow hbr (Nat.le_refl _) p8
        have i1 : (k : Int) < (n : Int) := by omega
        generalize ms.getD k ⟨0, 0, 0, 0⟩ = m at *
        obtain ⟨mk, ma, mb, mt⟩ := m
        have HBR := Lib.hid hbr; clear hbr
        go_wp2_with fail
        replace p1 : wr.drew.cell? ⟨ba, oa + k * 4, none⟩ = some (.int .i64 mk) := p1
        replace p2 : wr.drew.cell? ⟨ba, oa + k * 4 + 1, none⟩ = some (.int .i64 ma) := p2
        replace p3 : wr.drew.cell? ⟨ba, oa + k * 4 + 2, none⟩ = some (.int .i64 mb) := p3
        replace p4 : wr.drew.cell? ⟨ba, oa + k * 4 + 3, none⟩ = some (.int .i64 mt) := p4
        replace p5 : wr.drew.cell? ⟨bb, ob + k * 4, none⟩ = some (.int .i64 mk) := p5
        replace p6 : wr.drew.cell? ⟨bb, ob + k * 4 + 1, none⟩ = some (.int .i64 ma) := p6
        replace p7 : wr.drew.cell? ⟨bb, ob + k * 4 + 2, none⟩ = some (.int .i64 mb) := p7
        replace p8 : wr.drew.cell? ⟨bb, ob + k * 4 + 3, none⟩ = some (.int .i64 mt) := p8
        have L5 : Below w.heap.size w wr.drew := below_drew HBR.out
        go_region_held3 (fun w' => w'.cell? ⟨ba, oa + k * 4, none⟩ = some (.int .i64 mk) ∧ w'.cell? ⟨ba, oa + k * 4 + 1, none⟩ = some (.int .i64 ma) ∧ w'.cell? ⟨ba, oa + k * 4 + 2, none⟩ = some (.int .i64 mb) ∧ w'.cell? ⟨ba, oa + k * 4 + 3, none⟩ = some (.int .i64 mt) ∧ w'.cell? ⟨bb, ob + k * 4, none⟩ = some (.int .i64 mk) ∧ w'.cell? ⟨bb, ob + k * 4 + 1, none⟩ = some (.int .i64 ma) ∧ w'.cell? ⟨bb, ob + k * 4 + 2, none⟩ = some (.int .i64 mb) ∧ w'.cell? ⟨bb, ob + k * 4 + 3, none⟩ = some (.int .i64 mt) ∧ Below w.heap.size w w')
          (first
            | (with_reducible exact ⟨p1, p2, p3, p4, p5, p6, p7, p8, L5⟩)
            | (go_split_ands
               exact ⟨cellBelow hbk (Nat.le_refl _) (by assumption), cellBelow hbk (Nat.le_refl _) (by assumption), cellBelow hbk (Nat.le_refl _) (by assumption), cellBelow hbk (Nat.le_refl _) (by assumption), cellBelow hbk (Nat.le_refl _) (by assumption), cellBelow hbk (Nat.le_refl _) (by assumption), cellBelow hbk (Nat.le_refl _) (by assumption), cellBelow hbk (Nat.le_refl _) (by assumption), bst (by assumption) hbk (Below.size (by assumption))⟩)
            | (go_split_ands; refine ⟨?_, ?_, ?_, ?_, ?_, ?_, ?_, ?_, ?_⟩ <;> assumption))
          (first
            | (go_at_call 102; refine (c_eqMove ⟨mk, ma, mb, mt⟩ _).mono ?_; rintro e w6 ⟨rfl, hbk⟩))
        go_split_ands
        go_wp2
        go_roundw
        case rel => exact ⟨k + 1, by omega, by go_num, by assumption⟩
        case measure => simp [intOf]; omega
      · go_wp2
        go_ret
        exact ⟨rfl, hbr⟩
end Go.Proofs.Ytbmfkgfmibpkjaa
