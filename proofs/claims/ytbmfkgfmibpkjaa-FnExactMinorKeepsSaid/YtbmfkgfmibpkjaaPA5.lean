/- What the laws rest on, part 5. -/
import Derived.Test.YtbmfkgfmibpkjaaPA4
namespace Go.Proofs.Ytbmfkgfmibpkjaa.Ph
theorem flatTo_len {fs : List (List Int)} {bk : List Int} (h : ∀ i, (fs.getD i []).length ≤ 3) : ∀ n, n ≤ bk.length → (flatTo fs bk n).length ≤ 3 * n
  | 0, _ => by rw [flatTo_zero]; simp
  | n + 1, hn => by
    rw [flatTo_succ (show n < bk.length by omega), List.length_append]
    have := flatTo_len (bk := bk) h n (by omega)
    have := h (bk.getD n 0).toNat
    omega
theorem left_le (S : List Bool) : left S ≤ S.length := by unfold left; exact List.count_le_length
end Go.Proofs.Ytbmfkgfmibpkjaa.Ph
namespace Go.Proofs.Ytbmfkgfmibpkjaa
open Go.RowKit Ph
set_option maxRecDepth 100000 in
set_option maxHeartbeats 12800000 in
theorem s_l9Keeps (a b' c o k : Value) (h : H) (os : List Bool) (bk : List Int) (w : World) (hA : HeapAt w a b' c h) (hO : BoolsAt w o os) (hK : IntsAt w k bk) (hQ : AG h os bk) : Calls Try.prog 125 #[av a b' c o k] w fun e w' => ∃ v', e = .returned v' ∧ OwnBs w' w.heap.size v' (keptA h os bk) ∧ Below w.heap.size w w' := by
  obtain ⟨ib, hib, hbz0, hbz1, hbz2⟩ := info_parts info_boolz
  have hrow : ∀ i, i < h.f.length → ∀ z ∈ h.f.getD i [], inR h.f.length z := fun i _ z hz => (hQ.g.field hz).imp id (fun h => ⟨h.1, h.2.1⟩)
  have hrl : ∀ i, i < h.f.length → (h.f.getD i []).length ≤ 3 := fun i hi => (hQ.g.row i hi).1
  have hrl3 : ∀ i, (h.f.getD i []).length ≤ 3 := fun i => by
    by_cases e : i < h.f.length
    · exact hrl i e
    · rw [List.getD, List.getElem?_eq_none (by omega)]; simp
  have hrr : ∀ z ∈ h.r, inR h.f.length z := fun z hz => (refs_bound hQ.g hQ.g.rr z hz).imp id (fun q => ⟨q.1, q.2.1⟩)
  have hfl : ∀ j, j ≤ bk.length → ∀ z ∈ h.r ++ flatTo h.f bk j, inR h.f.length z := fun j hj z hz => by
    rcases List.mem_append.1 hz with q | q
    · exact hrr z q
    · unfold flatTo at q
      simp only [List.mem_flatten, List.mem_map] at q
      obtain ⟨l, ⟨y, _, rfl⟩, hzl⟩ := q
      exact (hQ.g.field hzl).imp id (fun h => ⟨h.1, h.2.1⟩)
  have hFLN : ∀ j, j ≤ bk.length → (h.r ++ flatTo h.f bk j).length ≤ 4 + 3 * j := fun j hj => by
    rw [List.length_append]; have := flatTo_len (bk := bk) hrl3 j hj; have := hQ.g.rn; omega
  have hn1 := hQ.g.n
  have HZF := Lib.hid hfl; have HFLN := Lib.hid hFLN
  have HRN : Hid (h.r.length ≤ 4) := hQ.g.rn
  have HBI : Hid (∀ z ∈ bk, 0 ≤ z ∧ z < h.f.length) := hQ.bin
  have HM12 : Hid (bk.length ≤ 12) := hQ.bl
  have HOL : Hid (os.length = h.f.length) := hQ.ol
  have HLEFT : Hid (left os ≤ 12) := by unfold Hid; have := left_le os; have := hQ.olN; omega
  have HF := Lib.hid hA.f; have HR := Lib.hid hrow; have HRL := Lib.hid hrl; have HROOT := Lib.hid hA.r; have HK := Lib.hid hK
  have HRES0 : Hid (keptA h os bk = keepS h.f os (h.r ++ flatTo h.f bk bk.length)) := rfl
  obtain ⟨fa, fc, rfl⟩ := hA.f.shape
  obtain ⟨ka, kc, rfl⟩ := hK.shape
  have hZR := Lib.hid hrr
  have HOB := Lib.hid hO
  clear hA hK hO hQ hrow hrl hrr hfl hFLN hrl3
  generalize keptA h os bk = res at *
  generalize hn : h.f.length = n at *
  have HN := Lib.hid hn; clear hn
  generalize hm : bk.length = m at *
  have HM := Lib.hid hm; clear hm
  have hm12 : m ≤ 12 := HM12.out
  have B0 := Lib.hid (below1 w (.cells (a5 (.slice fa n fc) b' c o (.slice ka m kc)) 59))
  have BE := Lib.hid (B0.out.alloc B0.out.size (.cells #[] 4))
  have RE := Lib.hid (Row.alloc (Row.new w 59 (a5 (.slice fa n fc) b' c o (.slice ka m kc))) (.cells #[] 4))
  have hE := own_empty (w.alloc (.cells (a5 (.slice fa n fc) b' c o (.slice ka m kc)) 59)) 4
  simp only [World.size_alloc] at hE
  have HOE := Lib.hid (owns_mono (B' := w.heap.size) hE (fun g hg => by cases hg; exact Nat.le_succ _))
  have HOS := Lib.hid (HOB.out.below BE.out).src
  clear hE
  go_enter Try.func125, Try.ntmps125
  go_upto_region 2 with (at_builtin; refine wl_appOwn _ rfl _ _ 23 rfl w.heap.size 4 ib (.bool false) 1 Try.underlying23 hib hbz0 hbz1 hbz2 rfl (.slice (some ⟨w.heap.size + 1, 0, none⟩) 0 0) _ _ rfl HOE.out _ _ rfl HOS.out (by have := HOL.out; simp; unfold maxLen; omega) (by have := HOL.out; simp; omega) BE.out.size ?_; intro v1 w1 ho1 hg1 hbl; rw [List.nil_append, Nat.zero_add, List.length_map] at ho1; have O1 : Hid (OwnBs w1 w.heap.size v1 os) := ho1; have B1 := Lib.hid (BE.out.grown hg1 BE.out.size (fun g' hg' => by cases hg'; exact Nat.le_succ _)); have R1 := Lib.hid (Row.grownBy RE.out hg1 (by intro q; injection q with q; exact absurd q (Nat.succ_ne_self _))); clear ho1 hg1 hbl)
  have HV1 : Hid (0 < n → ∃ g0 cp0, v1 = .slice (some ⟨g0, 0, none⟩) n cp0 ∧ g0 < w1.heap.size ∧ g0 ≠ w.heap.size) := fun hn0 => by
    rcases OwnBs.shape O1.out with ⟨_, h0⟩ | ⟨g0, cp0, hv⟩
    · have := HOL.out; rw [h0] at this; simp at this; omega
    · rw [HOL.out] at hv
      exact ⟨g0, cp0, hv, (owns_lt (g := g0) O1.out (by rw [hv]; rfl)).2, owns_ne_rowA (by rw [← hv]; exact O1.out) R1.out⟩
  have LTW1 : Hid (w.heap.size < w1.heap.size) := Row.lt R1.out
  clear RE BE HOE HOS B0
  have c2 := (Row.alloc R1.out (.cells #[] 3)).cell 2
  have hql := que_nil w1 w1.heap.size (Nat.le_refl _)
  have HQN := Lib.hid hql
  have BQ1 := Lib.hid (bst B1.out (below1 w1 (.cells #[] 3)) B1.out.size)
  have HRO := Lib.hid (HROOT.out.below BQ1.out)
  have HSZQ : Hid (w1.heap.size ≤ (w1.alloc (.cells #[] 3)).heap.size) := (below1 w1 (.cells #[] 3)).size
  have HRM : Hid (([] : List Int).length + h.r.length ≤ 1000000) := by unfold Hid; have := HRN.out; simp; omega
  clear hql
  go_upto_region 3 with (at_builtin; refine wl_appQ _ rfl _ _ rfl w1.heap.size w1.heap.size 0 0 [] rfl HQN.out c h.r rfl HRO.out HSZQ.out HRM.out ?_; intro b2 o2 k2 w2 hq2 hg2; have Q2 := Lib.hid hq2; have G2 := Lib.hid hg2; clear hq2 hg2)
  have hg2 := G2.out
  have B2 : Hid (Below w.heap.size w w2) := BQ1.out.grown hg2 BQ1.out.size (fun k hk => by cases hk; have := LTW1.out; exact Nat.le_of_lt this)
  have O2 : Hid (OwnBs w2 w.heap.size v1 os) := owns_block (OwnBs.below O1.out (below1 w1 (.cells #[] 3))) (fun g hg => hg2.block g (by have := (owns_lt O1.out hg).2; have := HSZQ.out; omega) (by have := (owns_lt O1.out hg).2; intro q; injection q with q; omega))
  have R2 := Lib.hid (Row.grownBy (R1.out.alloc (.cells #[] 3)) hg2 (by have := LTW1.out; intro q; injection q with q; omega))
  have L2 : Hid (w1.heap.size ≤ w2.heap.size) := Nat.le_trans HSZQ.out hg2.size
  clear hg2 G2 HQN BQ1 HRO HSZQ HRM
  rw [List.nil_append] at Q2
  clear c2 O1 B1 R1
  generalize w1.heap.size = lq at *
  have HLW : Hid (w.heap.size < lq) := LTW1.out
  have c4 := R2.out.cell 4
  go_wp2_with fail
  clear c4
  go_loopw [4, 20] (fun q i wr => ∃ j : Nat, j ≤ m ∧ i = .int .i64 j ∧ ∃ (b off cap : Nat) (zq : List Int), q = .slice (some ⟨b, off, none⟩) zq.length cap ∧ Hid (zq = h.r ++ flatTo h.f bk j) ∧ Hid (Que wr lq b off cap zq) ∧ Hid (OwnBs wr w.heap.size v1 os) ∧ Hid (Row wr w.heap.size 59 (a5 (.slice fa n fc) b' c o (.slice ka m kc))) ∧ Hid (Below w.heap.size w wr) ∧ Hid (lq ≤ wr.heap.size)) (fun _ i _ => m - (intOf i).toNat)
  case atStart => exact ⟨0, Nat.zero_le _, rfl, b2, o2, k2, h.r, rfl, by unfold Hid; rw [flatTo_zero, List.append_nil], Q2, O2, R2, B2, L2⟩
  case round =>
    obtain ⟨j, hj, rfl, b, off, cap, zs, rfl, hzq, hq, ho, hr, hb, hl⟩ := hrel
    by_cases hlt : j < m
    · obtain ⟨kb, ko, rfl, hck⟩ := (HK.out.below hb.out).at' (by omega)
      have q := hck j hlt
      have hjl : j < bk.length := by rw [HM.out]; exact hlt
      obtain ⟨hz0, hz1⟩ := HBI.out (bk.getD j 0) (mem_getD.2 ⟨j, hjl, rfl⟩)
      obtain ⟨t, htz⟩ : ∃ t : Nat, bk.getD j 0 = t := ⟨(bk.getD j 0).toNat, by omega⟩
      have htn : t < n := by omega
      have HFS : Hid (flatTo h.f bk (j + 1) = flatTo h.f bk j ++ h.f.getD t []) := by unfold Hid; rw [flatTo_succ hjl, htz]; simp
      rw [htz] at q
      obtain ⟨fb, fo, rfl, hcf⟩ := HF.out.at' (by omega)
      obtain ⟨u, quf, huf⟩ := hcf t htn
      have qu := cellBelow hb.out (Nat.le_refl _) quf
      have HU := Lib.hid (huf.below hb.out)
      have HUL := HRL.out t htn
      have HLZ := Lib.hid (HFLN.out j hj)
      obtain ⟨ua, uc, rfl⟩ := huf.shape
      have c0 := hr.out.cell 0
      have i1 : (j : Int) < (m : Int) := by omega
      have t1 : (t : Int) < (n : Int) := by omega
      have t0 : (0 : Int) ≤ (t : Int) := by omega
      clear hck hcf quf huf hz0 hz1 htz hjl
      generalize hfs : h.f.getD t [] = fs at *
      have HFS2 := Lib.hid hfs; clear hfs
      generalize hul : fs.length = ul at *
      have HULL := Lib.hid hul; clear hul
      have HZL : Hid (zs.length ≤ 40) := by unfold Hid; rw [hzq.out]; have := HLZ.out; omega
      generalize hzl : zs.length = zl at *
      have HZLL := Lib.hid hzl; clear hzl
      go_wp2_with (at_builtin; refine wl_appQ _ rfl _ _ rfl lq b off cap zs (by first | (rw [HZLL.out]; rfl) | (simp [HZLL.out])) hq.out _ fs rfl HU.out hl.out (by rw [HZLL.out, HULL.out]; have := HZL.out; omega) ?_
                   intro b3 o3 k3 w3 hq3 hg3
                   have Q4 := Lib.hid hq3; have G4 := Lib.hid hg3; clear hq3 hg3)
      have hg3 := G4.out
      have f1 := Q4
      have f2 := Lib.hid (hb.out.grown hg3 hb.out.size (fun k hk => by cases hk; have := HLW.out; have := hq.out.lo; omega))
      have f3 : Hid (OwnBs w3 w.heap.size v1 os) := owns_block ho.out (fun g hg => hg3.block g (owns_lt ho.out hg).2 (by
        intro e
        have hqlo := hq.out.lo
        obtain ⟨g0, cp0, hv, hg0, _⟩ := HV1.out (by omega)
        rw [hv] at hg
        cases hg
        injection e with e
        have e2 : g0 = b := e
        omega))
      have f4 := Lib.hid (Row.grownBy hr.out hg3 (by have := HLW.out; have := hq.out.lo; intro e; injection e with e; omega))
      have f5 : Hid (lq ≤ w3.heap.size) := Nat.le_trans hl.out hg3.size
      clear hg3 G4
      go_roundw
      case rel => exact ⟨j + 1, by omega, by go_num, b3, o3, k3, zs ++ fs, by rw [List.length_append], by unfold Hid; rw [HFS.out, ← List.append_assoc, ← hzq.out], f1, f3, f4, f2, f5⟩
      case measure => simp [intOf]; omega
    · obtain rfl : m = j := by omega
      have HZR : Hid (∀ z ∈ zs, inR n z) := fun z hz => HZF.out m (Nat.le_refl _) z (by rw [← hzq.out]; exact hz)
      have HST := Lib.hid (BfsS.start h.f os zs (by rw [HOL.out, HN.out]))
      have HRES : Hid (res = keepS h.f os zs) := by unfold Hid; rw [HRES0.out, hzq.out]; first | done | rw [HM.out]
      have HK0 : Hid (4 * left os + zs.length ≤ 100) := by unfold Hid; rw [hzq.out]; have := HFLN.out m (Nat.le_refl _); have := HLEFT.out; omega
      have hk0 := HK0.out
      have Q3 := hq; have O3 := ho; have R3 := hr; have B3 := hb; have L3 := hl
      clear hzq hq ho hr hb hl HRES0
      go_wp2_with fail
      go_loopg [4] (4 * left os + zs.length) (fun k q wr => ∃ (b off cap : Nat) (zq : List Int) (S : List Bool), q = .slice (some ⟨b, off, none⟩) zq.length cap ∧ Hid (k = 4 * left S + zq.length) ∧ k ≤ 100 ∧ Hid (Que wr lq b off cap zq) ∧ Hid (BfsS h.f os zs zq S) ∧ Hid (∀ z ∈ zq, inR n z) ∧ Hid (OwnBs wr w.heap.size v1 S) ∧ Hid (Row wr w.heap.size 59 (a5 (.slice fa n fc) b' c o (.slice ka m kc))) ∧ Hid (Below w.heap.size w wr) ∧ Hid (lq ≤ wr.heap.size))
      case atStart => exact ⟨b, off, cap, zs, os, rfl, rfl, HK0.out, Q3, HST, HZR, O3, R3, B3, L3⟩
      case round =>
        obtain ⟨b, off, cap, zq, S, rfl, hgk, hg60, hq, hbf, hzq, hos, hrw, hbw, hlw⟩ := hrel
        have hSl : S.length = n := by rw [hbf.out.len, HN.out]
        cases zq with
        | nil =>
          have HE := Lib.hid hbf.out.done
          simp only [List.length_nil]
          go_wp2_with fail
          go_ret
          exact ⟨_, rfl, by rw [HRES.out, ← HE.out]; exact hos.out, hbw.out⟩
        | cons z zq =>
          have q0 := hq.out.at' 0 (by simp)
          have hin := hzq.out z (by simp)
          have hcap := hq.out.le
          have HQ0 : Hid (cap = 1 → Que wr lq b off (cap - 1) zq) := hq.out.tail0
          have HQ1 := Lib.hid hq.out.tail
          have HZT : Hid (∀ y ∈ zq, inR n y) := fun y hy => hzq.out y (List.mem_cons_of_mem _ hy)
          simp only [List.getD_cons_zero, Nat.add_zero] at q0
          simp only [List.length_cons] at hgk hcap ⊢
          generalize hql : zq.length = ql at *
          have HQL := Lib.hid hql
          have ipos : (0 : Int) < ((ql + 1 : Nat) : Int) := by omega
          clear hql hzq
          by_cases hc1 : cap = 1
          · subst hc1
            obtain rfl : ql = 0 := by omega
            obtain rfl : zq = [] := List.eq_nil_of_length_eq_zero HQL.out
            have HQT : Hid (Que wr lq b off 0 []) := HQ0.out rfl
            clear HQ0 HQ1
            by_cases z0 : z < 0
            · have HS1 : Hid (BfsS h.f os zs [] S) := hbf.out.skip (.inl z0)
              clear hin
              go_wp2_with fail
              go_roundg (4 * left S)
              case measure => have := hgk.out; omega
              case rel => exact ⟨b, off, 0, [], S, rfl, rfl, by have := hgk.out; omega, HQT, HS1, HZT, hos, hrw, hbw, hlw⟩
            · obtain ⟨t, rfl⟩ : ∃ t : Nat, z = t := ⟨z.toNat, by omega⟩
              have htn : t < n := by unfold inR at hin; omega
              obtain ⟨g0, cp0, hv1, hg0, hgw⟩ := HV1.out (by omega)
              subst hv1
              obtain ⟨s1, s2, s3, s4⟩ := OwnBs.stored hos.out hSl htn true
              have HG0 := Lib.hid hg0; have HGW := Lib.hid hgw; have HOLD := Lib.hid (owns_lt (g := g0) hos.out rfl).1
              clear hg0 hgw
              have i2 : ¬ (t : Int) < 0 := by omega
              have i3 : (t : Int) < (n : Int) := by omega
              have i4 : (0 : Int) ≤ (t : Int) := by omega
              generalize hx : S.getD t false = x at *
              have HX := Lib.hid hx
              clear hin z0 hx
              cases x
              · have hls := left_set (S := S) (z := t) (by omega) HX.out
                obtain ⟨fb, fo, rfl, hcf⟩ := HF.out.at' (by omega)
                obtain ⟨u, quf, huf⟩ := hcf t htn
                have B1 : Below w.heap.size w (wr.setCell ⟨g0, t, none⟩ (.bool true)) := hbw.out.setCell (p := ⟨g0, t, none⟩) HOLD.out (.bool true)
                have qu := cellBelow B1 (Nat.le_refl _) quf
                have U1 := Lib.hid (huf.below B1)
                have hqb := hq.out.lo
                have Q1 : Hid (Que (wr.setCell ⟨g0, t, none⟩ (.bool true)) lq b off 0 []) := HQT.out.kept s2.size (s2.block b HQT.out.lt (by have := HG0.out; intro e; injection e with e; omega))
                have R1 : Row (wr.setCell ⟨g0, t, none⟩ (.bool true)) w.heap.size 59 (a5 (.slice (some ⟨fb, fo, none⟩) n fc) b' c o (.slice ka m kc)) := Row.grownBy hrw.out s2 (by have := HGW.out; intro e; injection e with e; omega)
                have d0 := R1.cell 0
                have TK := Lib.hid (by have := hbf.out.take (z := t) (by rw [HN.out]; exact htn) HX.out; rwa [List.nil_append] at this : BfsS h.f os zs (h.f.getD t []) (S.set t true))
                have hrt := HR.out t htn
                have hlt3 := HRL.out t htn
                have HZA : Hid (∀ y ∈ h.f.getD t [], inR n y) := hrt
                have RR1 := Lib.hid R1; have BB1 := Lib.hid B1; have SS1 := Lib.hid s1; have HLS := Lib.hid hls
                have LL1 : Hid (lq ≤ (wr.setCell ⟨g0, t, none⟩ (.bool true)).heap.size) := by unfold Hid; rw [World.size_setCell]; exact hlw.out
                obtain ⟨ua, uc, hu⟩ := huf.shape
                subst hu
                clear hls hcf huf quf B1 R1 s1 s2 hrt
                have HL3 := Lib.hid hlt3
                have HGT := Lib.hid (show (h.f.getD t []).length ≤ 1000000 by have := hgk.out; omega)
                generalize hrr : h.f.getD t [] = row at *
                have HRR := Lib.hid hrr
                clear hrr hlt3
                generalize hrl' : row.length = rl at *
                have HRLN := Lib.hid hrl'
                clear hrl'
                go_wp2_with (at_builtin; refine wl_appQ _ rfl _ _ rfl lq b off 0 [] rfl Q1.out _ row rfl U1.out LL1.out (by have := HGT.out; simp only [List.length_nil, Nat.zero_add, HRLN.out]; exact this) ?_
                             intro b3 o3 k3 w3 hq3 hg3
                             have Q4 := Lib.hid hq3; have G4 := Lib.hid hg3; clear hq3 hg3)
                have hq3 := Q4.out; have hg3 := G4.out
                have f1 : Hid (Que w3 lq b3 o3 k3 row) := (by rw [List.nil_append] at hq3; exact hq3)
                have f2 := Lib.hid (BB1.out.grown hg3 BB1.out.size (fun k hk => by cases hk; have := HLW.out; omega))
                have f3 : Hid (OwnBs w3 w.heap.size (.slice (some ⟨g0, 0, none⟩) n cp0) (S.set t true)) := owns_block SS1.out (fun g hg => hg3.block g (owns_lt SS1.out hg).2 (by cases hg; have h0 := HG0.out; intro e; injection e with e; have e2 : g0 = b := e; omega))
                have f4 : Hid (Row w3 w.heap.size 59 (a5 (.slice (some ⟨fb, fo, none⟩) n fc) b' c o (.slice ka m kc))) := Row.grownBy RR1.out hg3 (by have := HLW.out; intro e; injection e with e; omega)
                have f5 : Hid (lq ≤ w3.heap.size) := Nat.le_trans LL1.out hg3.size
                clear hq3 hg3 Q4 G4
                go_roundg (4 * left (S.set t true) + (row).length)
                case measure => rw [HRLN.out]; have := hgk.out; have := HLS.out; have := HL3.out; omega
                case rel => exact ⟨b3, o3, k3, row, S.set t true, rfl, rfl, by rw [HRLN.out]; have := hgk.out; have := HLS.out; have := HL3.out; omega, f1, TK, HZA, f3, f4, f2, f5⟩
              · have HS1 : Hid (BfsS h.f os zs [] S) := hbf.out.skip (.inr (by simpa using HX.out))
                go_wp2_with fail
                go_roundg (4 * left S)
                case measure => have := hgk.out; omega
                case rel => exact ⟨b, off, 0, [], S, rfl, rfl, by have := hgk.out; omega, HQT, HS1, HZT, hos, hrw, hbw, hlw⟩
          · have HQT := HQ1
            clear HQ0 HQ1
            by_cases z0 : z < 0
            · have HS1 : Hid (BfsS h.f os zs zq S) := hbf.out.skip (.inl z0)
              clear hin
              go_wp2_with fail
              go_roundg (4 * left S + ql)
              case measure => have := hgk.out; omega
              case rel => exact ⟨b, off + 1, cap - 1, zq, S, by simp [HQL.out], by rw [HQL.out]; exact rfl, by have := hgk.out; omega, HQT, HS1, HZT, hos, hrw, hbw, hlw⟩
            · obtain ⟨t, rfl⟩ : ∃ t : Nat, z = t := ⟨z.toNat, by omega⟩
              have htn : t < n := by unfold inR at hin; omega
              obtain ⟨g0, cp0, hv1, hg0, hgw⟩ := HV1.out (by omega)
              subst hv1
              obtain ⟨s1, s2, s3, s4⟩ := OwnBs.stored hos.out hSl htn true
              have HG0 := Lib.hid hg0; have HGW := Lib.hid hgw; have HOLD := Lib.hid (owns_lt (g := g0) hos.out rfl).1
              clear hg0 hgw
              have i2 : ¬ (t : Int) < 0 := by omega
              have i3 : (t : Int) < (n : Int) := by omega
              have i4 : (0 : Int) ≤ (t : Int) := by omega
              generalize hx : S.getD t false = x at *
              have HX := Lib.hid hx
              clear hin z0 hx
              cases x
              · have hls := left_set (S := S) (z := t) (by omega) HX.out
                obtain ⟨fb, fo, rfl, hcf⟩ := HF.out.at' (by omega)
                obtain ⟨u, quf, huf⟩ := hcf t htn
                have B1 : Below w.heap.size w (wr.setCell ⟨g0, t, none⟩ (.bool true)) := hbw.out.setCell (p := ⟨g0, t, none⟩) HOLD.out (.bool true)
                have qu := cellBelow B1 (Nat.le_refl _) quf
                have U1 := Lib.hid (huf.below B1)
                have hqb := hq.out.lo
                have Q1 : Hid (Que (wr.setCell ⟨g0, t, none⟩ (.bool true)) lq b (off + 1) (cap - 1) zq) := HQT.out.kept s2.size (s2.block b HQT.out.lt (by have := HG0.out; intro e; injection e with e; omega))
                have R1 : Row (wr.setCell ⟨g0, t, none⟩ (.bool true)) w.heap.size 59 (a5 (.slice (some ⟨fb, fo, none⟩) n fc) b' c o (.slice ka m kc)) := Row.grownBy hrw.out s2 (by have := HGW.out; intro e; injection e with e; omega)
                have d0 := R1.cell 0
                have TK := Lib.hid (hbf.out.take (z := t) (by rw [HN.out]; exact htn) HX.out)
                have hrt := HR.out t htn
                have hlt3 := HRL.out t htn
                have HZA : Hid (∀ y ∈ zq ++ h.f.getD t [], inR n y) := fun y hy => (List.mem_append.1 hy).elim (HZT.out y) (hrt y)
                have RR1 := Lib.hid R1; have BB1 := Lib.hid B1; have SS1 := Lib.hid s1; have HLS := Lib.hid hls
                have LL1 : Hid (lq ≤ (wr.setCell ⟨g0, t, none⟩ (.bool true)).heap.size) := by unfold Hid; rw [World.size_setCell]; exact hlw.out
                obtain ⟨ua, uc, hu⟩ := huf.shape
                subst hu
                clear hls hcf huf quf B1 R1 s1 s2 hrt
                have HL3 := Lib.hid hlt3
                have HGT := Lib.hid (show zq.length + (h.f.getD t []).length ≤ 1000000 by rw [HQL.out]; have := hgk.out; omega)
                generalize hrr : h.f.getD t [] = row at *
                have HRR := Lib.hid hrr
                clear hrr hlt3
                generalize hrl' : row.length = rl at *
                have HRLN := Lib.hid hrl'
                clear hrl'
                go_wp2_with (at_builtin; refine wl_appQ _ rfl _ _ rfl lq b (off + 1) (cap - 1) zq (by first | (rw [HQL.out]; rfl) | (simp [HQL.out])) Q1.out _ row rfl U1.out LL1.out (by rw [HRLN.out]; exact HGT.out) ?_
                             intro b3 o3 k3 w3 hq3 hg3
                             have Q4 := Lib.hid hq3; have G4 := Lib.hid hg3; clear hq3 hg3)
                have hq3 := Q4.out; have hg3 := G4.out
                have f1 := Lib.hid hq3; have f2 := Lib.hid (BB1.out.grown hg3 BB1.out.size (fun k hk => by cases hk; have := HLW.out; omega))
                have f3 : Hid (OwnBs w3 w.heap.size (.slice (some ⟨g0, 0, none⟩) n cp0) (S.set t true)) := owns_block SS1.out (fun g hg => hg3.block g (owns_lt SS1.out hg).2 (by cases hg; have h0 := HG0.out; intro e; injection e with e; have e2 : g0 = b := e; omega))
                have f4 : Hid (Row w3 w.heap.size 59 (a5 (.slice (some ⟨fb, fo, none⟩) n fc) b' c o (.slice ka m kc))) := Row.grownBy RR1.out hg3 (by have := HLW.out; intro e; injection e with e; omega)
                have f5 : Hid (lq ≤ w3.heap.size) := Nat.le_trans LL1.out hg3.size
                clear hq3 hg3 Q4 G4
                go_roundg (4 * left (S.set t true) + (zq ++ row).length)
                case measure => rw [List.length_append, HQL.out, HRLN.out]; have := hgk.out; have := HLS.out; have := HL3.out; omega
                case rel => exact ⟨b3, o3, k3, zq ++ row, S.set t true, by rw [List.length_append], rfl, by rw [List.length_append, HQL.out, HRLN.out]; have := hgk.out; have := HLS.out; have := HL3.out; omega, f1, TK, HZA, f3, f4, f2, f5⟩
              · have HS1 : Hid (BfsS h.f os zs zq S) := hbf.out.skip (.inr (by simpa using HX.out))
                go_wp2_with fail
                go_roundg (4 * left S + ql)
                case measure => have := hgk.out; omega
                case rel => exact ⟨b, off + 1, cap - 1, zq, S, by simp [HQL.out], by rw [HQL.out]; exact rfl, by have := hgk.out; omega, HQT, HS1, HZT, hos, hrw, hbw, hlw⟩
end Go.Proofs.Ytbmfkgfmibpkjaa
namespace Go.Proofs.Ytbmfkgfmibpkjaa
open Go.RowKit Ph
set_option maxHeartbeats 3200000 in
set_option maxRecDepth 100000 in
theorem s_MinorKeeps (a b c o k : Value) (h : H) (os : List Bool) (bk : List Int) (w : World) (hA : HeapAt w a b c h) (hO : BoolsAt w o os) (hK : IntsAt w k bk) (hkm : bk.length ≤ 1048576) : Calls Try.prog 63 #[av a b c o k] w (EndB (keptR9 h os bk) (agesB h os bk) w) := by
  have b0 := below1 w (.cells (a5 a b c o k) 59)
  have A0 := Lib.hid (hA.below b0); have O0 := Lib.hid (hO.below b0); have K0 := Lib.hid (hK.below b0)
  have B0 := Lib.hid b0
  have R0 := Lib.hid (Row.new w 59 (a5 a b c o k))
  have HC := Lib.hid (s_GoodAges a b c o k h os bk _ A0.out O0.out K0.out hkm)
  have GG := Lib.hid (agesB_iff (h := h) (os := os) (bk := bk)).1
  have HR : Hid (keptR9 h os bk = if agesB h os bk = true then keptA h os bk else []) := rfl
  clear hA hO hK b0 hkm
  generalize keptR9 h os bk = res at *
  generalize hag : agesB h os bk = ag at *
  clear hag
  go_enter Try.func63, Try.ntmps63
  go_wp2_with fail
  refine HC.out.mono ?_
  rintro e w1 ⟨rfl, hb⟩
  replace A0 := Lib.hid (A0.out.below hb); replace O0 := Lib.hid (O0.out.below hb); replace K0 := Lib.hid (K0.out.below hb)
  replace R0 := Lib.hid (Row.below R0.out hb); replace B0 := Lib.hid (bst B0.out hb B0.out.size)
  clear hb HC
  cases ag
  · have HE : Hid (res = []) := by unfold Hid; rw [HR.out]; rfl
    go_wp2_with fail
    go_ret2
    exact endB_no9 B0.out HE.out rfl
  have Q := Lib.hid (GG.out rfl)
  have HE : Hid (res = keptA h os bk) := by unfold Hid; rw [HR.out]; rfl
  have c0 := R0.out.cell 0
  have c1 := R0.out.cell 1
  have c2 := R0.out.cell 2
  have c3' := R0.out.cell 3
  have c4 := R0.out.cell 4
  go_wp2_with fail
  refine (s_l9Keeps _ _ _ _ _ h os bk _ A0.out O0.out K0.out Q.out).mono ?_
  rintro e w2 ⟨v, rfl, ho, hb⟩
  have O2 := Lib.hid (ownBs_mono ho B0.out.size); have B2 := Lib.hid (bst B0.out hb B0.out.size)
  clear ho hb c0 c1 c2 c3' c4
  go_wp2_with fail
  go_ret2
  exact endB_yes9 B2.out O2.out HE.out rfl
end Go.Proofs.Ytbmfkgfmibpkjaa
namespace Go.Proofs.Ytbmfkgfmibpkjaa
open Go.RowKit Ph
theorem chg_setRow (w : World) (g : Nat) (xs : Array Value) : Chg g (g + 1) w (w.setRow g xs) := ⟨rfl, rfl, rfl, by rw [size_setRow]; exact Nat.le_refl _, fun i _ hr => setRow_other w g i xs (by omega)⟩
theorem OwnA.rowOut {w : World} {lo hi : Nat} {a b c o x : Value} {h : H} {os : List Bool} {cs : List Int} (k : OwnA w lo hi a b c o x h os cs) (g : Nat) (xs : Array Value) (hg : g < lo ∨ hi ≤ g) : OwnA (w.setRow g xs) lo hi a b c o x h os cs := k.chg (chg_setRow w g xs) (by omega)
end Go.Proofs.Ytbmfkgfmibpkjaa
namespace Go.Proofs.Ytbmfkgfmibpkjaa
open Go.RowKit Ph
def EndA (h : H) (os : List Bool) (bk : List Int) (ok : Bool) (w : World) (e : Ending) (w' : World) : Prop := ∃ a b c o k, e = .returned (.tuple #[av a b c o k, .bool ok]) ∧ OwnA w' w.heap.size w'.heap.size a b c o k h os bk ∧ Below w.heap.size w w'
theorem endA_none {w w' : World} {h : H} {os : List Bool} {bk : List Int} {ok : Bool} (hb : Below w.heap.size w w') (h1 : h = ⟨[], [], []⟩) (h2 : os = []) (h4 : bk = []) (h3 : ok = false) : EndA h os bk ok w (.returned (.tuple #[nA, .bool false])) w' := by
  subst h1; subst h2; subst h3; subst h4
  exact ⟨_, _, _, _, _, rfl, OwnA.nil w' _ _ hb.size, hb⟩
theorem endA_yes {w w' : World} {h h' : H} {os os' : List Bool} {bk bk' : List Int} {ok : Bool} {a b c o k : Value} {lo hi : Nat} (hb : Below w.heap.size w w') (ho : OwnA w' lo hi a b c o k h' os' bk') (hl : w.heap.size ≤ lo) (hh : hi ≤ w'.heap.size) (h1 : h = h') (h2 : os = os') (h4 : bk = bk') (h3 : ok = true) : EndA h os bk ok w (.returned (.tuple #[av a b c o k, .bool true])) w' := by
  subst h1; subst h2; subst h3; subst h4
  exact ⟨_, _, _, _, _, rfl, ho.wide hl hh, hb⟩
theorem op_make {P : Program} {o : Oper} {q : Act} {w : World} {K : Act → World → Prop} {Q : Exit → Act → World → Prop} (l c : Operand) (t : TypeId) (hop : o.op = Op.makeSlice t l c) (base : Nat) (e : TypeId) (i : TypeInfo) (z : Value) (size : Nat) (h1 : P.underlying t = some (.slice e)) (h2 : P.info? e = some i) (h3 : i.zero = some z) (h4 : i.size = size)
    (kl kc : IntKind) (n : Nat) (hl : q.eval l = .int kl (n : Int)) (hc : q.eval c = .int kc (n : Int)) (b2 : i.bytes * n ≤ 281474976710656) (b3 : n ≤ maxLen) (b4 : base ≤ w.heap.size)
    (hK : ∀ w', w'.ownsRow base e size (.slice (some ⟨w.heap.size, 0, none⟩) n n) n (madeCells z.cells (n * size)).toList → w.grownBy w' none → K (q.put o.dst (.slice (some ⟨w.heap.size, 0, none⟩) n n)) w') : Oper.wp P o q w K Q := by
  obtain ⟨w', hrun, r1, r2⟩ := run_make_full (P := P) w base t e i z size h1 h2 h3 h4 kl kc n b2 b3 b4
  unfold Oper.wp
  simp [execOp, hop, hl, hc, hrun, Result.andThen]
  exact hK w' r1 r2
set_option maxHeartbeats 6400000 in
set_option maxRecDepth 100000 in
theorem c_NewAges (a b c : Value) (h : H) (w : World) (hA : HeapAt w a b c h) : Calls Try.prog 39 #[hv a b c] w (EndA (newAH h) (newAO h) [] (good h) w) := by
  obtain ⟨ib, hib, hbz0, hbz1, hbz2⟩ := info_parts info_boolz
  have b0 := (below1 w (.cells (c3 a b c) 32)).alloc (by simp) (.cells nA5 59)
  have A0 := Lib.hid (hA.below b0)
  have B0 := Lib.hid b0
  have H0 := Lib.hid (show RowH _ w.heap.size a b c from (Row.new w 32 (c3 a b c)).alloc (.cells nA5 59))
  have R0 := Lib.hid (show RowA _ (w.heap.size + 1) nilS nilS nilS nilS nilS from Row.new1 w (.cells (c3 a b c) 32) 59 nA5)
  have HC := Lib.hid (c_GoodHeap a b c h _ A0.out)
  have GG := Lib.hid (good_iff (h := h)).1
  have H1 : Hid (newAH h = if good h = true then h else ⟨[], [], []⟩) := rfl
  have H2 : Hid (newAO h = if good h = true then List.replicate h.f.length false else []) := rfl
  obtain ⟨fa, fc, rfl⟩ := hA.f.shape
  obtain ⟨la, lc, rfl⟩ := hA.l.shape
  clear hA b0
  generalize newAH h = hh at *
  generalize newAO h = oo at *
  generalize hgd : good h = gd at *
  have HGD := Lib.hid hgd; clear hgd
  go_enter Try.func39, Try.ntmps39
  go_wp2_with fail
  refine HC.out.mono ?_
  rintro e w1 ⟨rfl, hb⟩
  replace A0 := Lib.hid (A0.out.below hb); replace B0 := Lib.hid (bst B0.out hb B0.out.size)
  replace H0 := Lib.hid (show RowH _ _ _ _ _ from Row.below H0.out hb); replace R0 := Lib.hid (show RowA _ _ _ _ _ _ _ from Row.below R0.out hb)
  clear hb HC
  cases gd
  · have E1 : Hid (hh = ⟨[], [], []⟩) := by unfold Hid; rw [H1.out]; rfl
    have E2 : Hid (oo = []) := by unfold Hid; rw [H2.out]; rfl
    go_wp2_with (refine wl_storeA rfl _ _ rfl (w.heap.size + 1) nilS nilS nilS nilS nilS _ _ _ _ _ R0.out rfl rfl rfl rfl rfl rfl rfl ?_)
    refine bodyPost_ret (res_row_slot Try.results39 (Row.put R0.out nA5) rfl rfl Try.underlying59 rfl info_ages) rfl (endA_none (below_setRow B0.out (by omega) _) E1.out E2.out rfl rfl)
  have G := Lib.hid (GG.out rfl)
  have E1 : Hid (hh = h) := by unfold Hid; rw [H1.out]; rfl
  have E2 : Hid (oo = List.replicate h.f.length false) := by unfold Hid; rw [H2.out]; rfl
  have hll := G.out.ll
  have hn12 := G.out.n
  generalize hnl : h.l.length = nl at *
  generalize hn : h.f.length = n at *
  subst hll
  have HN := Lib.hid hn; clear hn
  have HLL := Lib.hid hnl; clear hnl
  have bd := below_drew (Below.refl w1.heap.size w1)
  have A1 := Lib.hid (A0.out.below bd); have B1 := Lib.hid (bst B0.out bd B0.out.size)
  have P1 := Lib.hid (show RowH _ _ _ _ _ from Row.below H0.out bd); have R1 := Lib.hid (show RowA _ _ _ _ _ _ _ from Row.below R0.out bd)
  have SZ1 : Hid (w.heap.size + 1 < w1.drew.heap.size) := Row.lt R1.out
  clear bd A0 B0 H0 R0 GG H1 H2
  go_wp2_with fail
  refine wp_region_held_drew (S := (fun w' => w'.cell? ⟨w.heap.size, 0, none⟩ = some (.slice fa nl fc) ∧ w'.cell? ⟨w.heap.size, 1, none⟩ = some (.slice la nl lc) ∧ w'.cell? ⟨w.heap.size, 2, none⟩ = some c)) (by kernel_rfl) (⟨P1.out.c0, P1.out.c1, P1.out.c2⟩) (fun hHeld => ?_)
  generalize w1.drew = x1 at *
  refine wpAnyH_take (i := 0) (v := ?va0x1) rfl (by kernel_rfl) (by kernel_rfl) (by kernel_rfl) (fun _ _ _ h => h) (Or.inl ⟨by rfl, ?hy0x1⟩) (by assumption) ?rest0x1
  case hy0x1 => (intro w hSw; (try dsimp only at hSw); go_simp; try with_reducible rfl)
  (try simp only [Act.put, List.getElem_toArray, List.getElem_cons_zero, List.setIfInBounds_toArray, List.set_cons_zero, List.set_cons_succ])
  refine wpAnyH_take (i := 2) (v := ?va2x2) rfl (by kernel_rfl) (by kernel_rfl) (by kernel_rfl) (fun _ _ _ h => h) (Or.inl ⟨by rfl, ?hy2x2⟩) (by assumption) ?rest2x2
  case hy2x2 => (intro w hSw; (try dsimp only at hSw); go_simp; try with_reducible rfl)
  (try simp only [Act.put, List.getElem_toArray, List.getElem_cons_zero, List.getElem_cons_succ, List.setIfInBounds_toArray, List.set_cons_zero, List.set_cons_succ])
  refine wpAnyH_take (i := 3) (v := ?va3x3) rfl (by kernel_rfl) (by kernel_rfl) (by kernel_rfl) (fun _ _ _ h => h) (Or.inl ⟨by rfl, ?hy3x3⟩) (by assumption) ?rest3x3
  case hy3x3 => (intro w hSw; (try dsimp only at hSw); go_simp; try with_reducible rfl)
  (try simp only [Act.put, List.getElem_toArray, List.getElem_cons_zero, List.getElem_cons_succ, List.setIfInBounds_toArray, List.set_cons_zero, List.set_cons_succ])
  refine wpAnyH_take (i := 4) (v := ?va4x4) rfl (by kernel_rfl) (by kernel_rfl) (by kernel_rfl) (fun _ _ _ h => h) (Or.inl ⟨by rfl, ?hy4x4⟩) (by assumption) ?rest4x4
  case hy4x4 => (intro w hSw; (try dsimp only at hSw); go_simp; try with_reducible rfl)
  (try simp only [Act.put, List.getElem_toArray, List.getElem_cons_zero, List.getElem_cons_succ, List.setIfInBounds_toArray, List.set_cons_zero, List.set_cons_succ])
  refine wpAnyH_ready (rs := [1, 5]) (by kernel_rfl) (by simp) ?_
  refine AllReadyH.cons rfl (fun K hK => ?_) (AllReadyH.cons rfl (fun K hK => ?_) AllReadyH.nil)
  · skip
    go_simp
    refine (c_copyHeap _ _ _ h _ A1.out G.out).mono ?_
    rintro e x2 ⟨a2, b2, c2, rfl, ho, hb⟩
    have hsh := ho.shapes
    rw [HLL.out, HN.out] at hsh
    obtain ⟨⟨pa, qa, rfl⟩, ⟨pb, qb, rfl⟩, ⟨pc, qc, rfl⟩⟩ := hsh
    have O1 : Hid (OwnH x2 x1.heap.size x2.heap.size _ _ _ h) := ho
    have S2 : Hid (x1.heap.size ≤ x2.heap.size) := hb.size
    replace B1 := Lib.hid (bst B1.out hb B1.out.size)
    replace P1 := Lib.hid (show RowH _ _ _ _ _ from Row.below P1.out hb); replace R1 := Lib.hid (show RowA _ _ _ _ _ _ _ from Row.below R1.out hb)
    clear hb ho
    refine hK.out _ _ ⟨P1.out.c0, P1.out.c1, P1.out.c2⟩ (fun hHeld => ?_)
    clear hK K
    (try simp only [Act.put, List.getElem_toArray, List.getElem_cons_zero, List.getElem_cons_succ, List.setIfInBounds_toArray, List.set_cons_zero, List.set_cons_succ])
    refine wpAnyH_ready (rs := [5]) (by kernel_rfl) (by simp) ?_
    refine AllReadyH.cons rfl (fun K hK => ?_) AllReadyH.nil
    rw [if_pos (by rfl)]
    refine op_make _ _ 23 rfl x2.heap.size 4 ib (.bool false) 1 Try.underlying23 hib hbz0 hbz1 .i64 .i64 nl rfl rfl (by rw [hbz2]; omega) (by unfold maxLen; omega) (Nat.le_refl _) ?_
    intro x3 hown hgr
    rw [rep_bools] at hown
    have M1 : Hid (OwnBs x3 x2.heap.size (.slice (some ⟨x2.heap.size, 0, none⟩) nl nl) (List.replicate nl false)) := (by unfold Hid OwnBs; rw [List.length_replicate]; exact hown)
    have hb : Below x2.heap.size x2 x3 := (Below.refl x2.heap.size x2).grown hgr (Nat.le_refl _) (fun k hk => by cases hk)
    have S3 : Hid (x2.heap.size ≤ x3.heap.size) := hb.size
    replace B1 := Lib.hid (bst B1.out hb B1.out.size)
    replace P1 := Lib.hid (show RowH _ _ _ _ _ from Row.below P1.out hb); replace R1 := Lib.hid (show RowA _ _ _ _ _ _ _ from Row.below R1.out hb)
    replace O1 := Lib.hid (OwnH.below O1.out hb)
    clear hb hown hgr
    refine hK.out _ _ ⟨P1.out.c0, P1.out.c1, P1.out.c2⟩ (fun hHeld => ?_)
    clear hK K
    (try simp only [Act.put, List.getElem_toArray, List.getElem_cons_zero, List.getElem_cons_succ, List.setIfInBounds_toArray, List.set_cons_zero, List.set_cons_succ])
    refine wpAnyH_take (i := 6) (v := ?va6x5) rfl (by kernel_rfl) (by kernel_rfl) (by kernel_rfl) (fun _ _ _ h => h) (Or.inl ⟨by rfl, ?hy6x5⟩) (by assumption) ?rest6x5
    case hy6x5 => (intro w hSw; (try dsimp only at hSw); go_simp; try with_reducible rfl)
    (try simp only [Act.put, List.getElem_toArray, List.getElem_cons_zero, List.getElem_cons_succ, List.setIfInBounds_toArray, List.set_cons_zero, List.set_cons_succ])
    generalize hnr : h.r.length = nr at *
    clear hnr
    have OA := Lib.hid (OwnA.hp O1.out (OwnP.oldOnly M1.out S3.out) S2.out S3.out)
    have OB := Lib.hid (OA.out.rowOut (w.heap.size + 1) (a5 (.slice pa nl qa) (.slice pb nl qb) (.slice pc nr qc) (.slice (some ⟨x2.heap.size, 0, none⟩) nl nl) nilS) (.inl SZ1.out))
    have B2 := Lib.hid (below_setRow B1.out (show w.heap.size ≤ w.heap.size + 1 by omega) (a5 (.slice pa nl qa) (.slice pb nl qb) (.slice pc nr qc) (.slice (some ⟨x2.heap.size, 0, none⟩) nl nl) nilS))
    have P2 := Lib.hid (show RowH _ _ _ _ _ from Row.putOther P1.out (a5 (.slice pa nl qa) (.slice pb nl qb) (.slice pc nr qc) (.slice (some ⟨x2.heap.size, 0, none⟩) nl nl) nilS) (show w.heap.size ≠ w.heap.size + 1 by omega))
    have RN := Lib.hid (Row.put R1.out (a5 (.slice pa nl qa) (.slice pb nl qb) (.slice pc nr qc) (.slice (some ⟨x2.heap.size, 0, none⟩) nl nl) nilS))
    refine wpAnyH_ready (rs := [7]) (by kernel_rfl) (by simp) ?_
    refine AllReadyH.cons rfl (fun K hK => ?_) AllReadyH.nil
    refine wp_store_row 59 _ _ rfl (w.heap.size + 1) (a5 (.slice pa nl qa) (.slice pb nl qb) (.slice pc nr qc) (.slice (some ⟨x2.heap.size, 0, none⟩) nl nl) nilS) rfl rfl 59 _ R1.out info_ages rfl (by simp [Value.oneCell']) ?_
    refine hK.out _ _ ⟨P2.out.c0, P2.out.c1, P2.out.c2⟩ (fun hHeld => ?_)
    clear hK K
    (try simp only [Act.put, List.getElem_toArray, List.getElem_cons_zero, List.getElem_cons_succ])
    refine wpAnyH_take (i := 8) (v := ?va8x6) rfl (by kernel_rfl) (by kernel_rfl) (by kernel_rfl) (fun _ _ _ h => h) (Or.inl ⟨by rfl, ?hy8x6⟩) (by assumption) ?rest8x6
    case hy8x6 => (intro w hSw; (try dsimp only at hSw); go_simp; try with_reducible rfl)
    (try simp only [Act.put, List.getElem_toArray, List.getElem_cons_zero, List.getElem_cons_succ, List.setIfInBounds_toArray, List.set_cons_zero, List.set_cons_succ])
    refine wpAnyH_done (by kernel_rfl) ?_ _
    go_wp2_with fail
    refine bodyPost_ret (res_row_slot Try.results39 RN.out rfl rfl Try.underlying59 rfl info_ages) rfl (endA_yes B2.out OB.out (by have := SZ1.out; omega) (by rw [size_setRow]; exact Nat.le_refl _) E1.out E2.out rfl rfl)
  · skip
    rw [if_pos (by rfl)]
    refine op_make _ _ 23 rfl x1.heap.size 4 ib (.bool false) 1 Try.underlying23 hib hbz0 hbz1 .i64 .i64 nl rfl rfl (by rw [hbz2]; omega) (by unfold maxLen; omega) (Nat.le_refl _) ?_
    intro x2 hown hgr
    rw [rep_bools] at hown
    have M1 : Hid (OwnBs x2 x1.heap.size (.slice (some ⟨x1.heap.size, 0, none⟩) nl nl) (List.replicate nl false)) := (by unfold Hid OwnBs; rw [List.length_replicate]; exact hown)
    have hb : Below x1.heap.size x1 x2 := (Below.refl x1.heap.size x1).grown hgr (Nat.le_refl _) (fun k hk => by cases hk)
    have S3 : Hid (x1.heap.size ≤ x2.heap.size) := hb.size
    replace B1 := Lib.hid (bst B1.out hb B1.out.size)
    replace P1 := Lib.hid (show RowH _ _ _ _ _ from Row.below P1.out hb); replace R1 := Lib.hid (show RowA _ _ _ _ _ _ _ from Row.below R1.out hb)
    replace A1 := Lib.hid (A1.out.below hb)
    clear hb hown hgr
    refine hK.out _ _ ⟨P1.out.c0, P1.out.c1, P1.out.c2⟩ (fun hHeld => ?_)
    clear hK K
    (try simp only [Act.put, List.getElem_toArray, List.getElem_cons_zero, List.getElem_cons_succ, List.setIfInBounds_toArray, List.set_cons_zero, List.set_cons_succ])
    refine wpAnyH_ready (rs := [1]) (by kernel_rfl) (by simp) ?_
    refine AllReadyH.cons rfl (fun K hK => ?_) AllReadyH.nil
    have OP := Lib.hid (OwnP.oldOnly M1.out S3.out)
    go_simp
    refine (c_copyHeap _ _ _ h _ A1.out G.out).mono ?_
    rintro e x3 ⟨a2, b2, c2, rfl, ho, hb⟩
    have hsh := ho.shapes
    rw [HLL.out, HN.out] at hsh
    obtain ⟨⟨pa, qa, rfl⟩, ⟨pb, qb, rfl⟩, ⟨pc, qc, rfl⟩⟩ := hsh
    have O1 : Hid (OwnH x3 x2.heap.size x3.heap.size _ _ _ h) := ho
    have S2 : Hid (x2.heap.size ≤ x3.heap.size) := hb.size
    replace B1 := Lib.hid (bst B1.out hb B1.out.size)
    replace P1 := Lib.hid (show RowH _ _ _ _ _ from Row.below P1.out hb); replace R1 := Lib.hid (show RowA _ _ _ _ _ _ _ from Row.below R1.out hb)
    have OPX := Lib.hid (show OwnP _ _ _ _ _ _ _ from OwnH.below OP.out hb)
    clear hb ho
    refine hK.out _ _ ⟨P1.out.c0, P1.out.c1, P1.out.c2⟩ (fun hHeld => ?_)
    clear hK K
    (try simp only [Act.put, List.getElem_toArray, List.getElem_cons_zero, List.getElem_cons_succ, List.setIfInBounds_toArray, List.set_cons_zero, List.set_cons_succ])
    refine wpAnyH_take (i := 6) (v := ?va6x7) rfl (by kernel_rfl) (by kernel_rfl) (by kernel_rfl) (fun _ _ _ h => h) (Or.inl ⟨by rfl, ?hy6x7⟩) (by assumption) ?rest6x7
    case hy6x7 => (intro w hSw; (try dsimp only at hSw); go_simp; try with_reducible rfl)
    (try simp only [Act.put, List.getElem_toArray, List.getElem_cons_zero, List.getElem_cons_succ, List.setIfInBounds_toArray, List.set_cons_zero, List.set_cons_succ])
    generalize hnr : h.r.length = nr at *
    clear hnr
    have OA := Lib.hid (OwnA.ph O1.out OPX.out S3.out S2.out)
    have OB := Lib.hid (OA.out.rowOut (w.heap.size + 1) (a5 (.slice pa nl qa) (.slice pb nl qb) (.slice pc nr qc) (.slice (some ⟨x1.heap.size, 0, none⟩) nl nl) nilS) (.inl SZ1.out))
    have B2 := Lib.hid (below_setRow B1.out (show w.heap.size ≤ w.heap.size + 1 by omega) (a5 (.slice pa nl qa) (.slice pb nl qb) (.slice pc nr qc) (.slice (some ⟨x1.heap.size, 0, none⟩) nl nl) nilS))
    have P2 := Lib.hid (show RowH _ _ _ _ _ from Row.putOther P1.out (a5 (.slice pa nl qa) (.slice pb nl qb) (.slice pc nr qc) (.slice (some ⟨x1.heap.size, 0, none⟩) nl nl) nilS) (show w.heap.size ≠ w.heap.size + 1 by omega))
    have RN := Lib.hid (Row.put R1.out (a5 (.slice pa nl qa) (.slice pb nl qb) (.slice pc nr qc) (.slice (some ⟨x1.heap.size, 0, none⟩) nl nl) nilS))
    refine wpAnyH_ready (rs := [7]) (by kernel_rfl) (by simp) ?_
    refine AllReadyH.cons rfl (fun K hK => ?_) AllReadyH.nil
    refine wp_store_row 59 _ _ rfl (w.heap.size + 1) (a5 (.slice pa nl qa) (.slice pb nl qb) (.slice pc nr qc) (.slice (some ⟨x1.heap.size, 0, none⟩) nl nl) nilS) rfl rfl 59 _ R1.out info_ages rfl (by simp [Value.oneCell']) ?_
    refine hK.out _ _ ⟨P2.out.c0, P2.out.c1, P2.out.c2⟩ (fun hHeld => ?_)
    clear hK K
    (try simp only [Act.put, List.getElem_toArray, List.getElem_cons_zero, List.getElem_cons_succ])
    refine wpAnyH_take (i := 8) (v := ?va8x8) rfl (by kernel_rfl) (by kernel_rfl) (by kernel_rfl) (fun _ _ _ h => h) (Or.inl ⟨by rfl, ?hy8x8⟩) (by assumption) ?rest8x8
    case hy8x8 => (intro w hSw; (try dsimp only at hSw); go_simp; try with_reducible rfl)
    (try simp only [Act.put, List.getElem_toArray, List.getElem_cons_zero, List.getElem_cons_succ, List.setIfInBounds_toArray, List.set_cons_zero, List.set_cons_succ])
    refine wpAnyH_done (by kernel_rfl) ?_ _
    go_wp2_with fail
    refine bodyPost_ret (res_row_slot Try.results39 RN.out rfl rfl Try.underlying59 rfl info_ages) rfl (endA_yes B2.out OB.out (by have := SZ1.out; omega) (by rw [size_setRow]; exact Nat.le_refl _) E1.out E2.out rfl rfl)
set_option maxHeartbeats 6400000 in
set_option maxRecDepth 100000 in
theorem s_NewAges (a b c : Value) (h : H) (w : World) (hA : HeapAt w a b c h) : Calls Try.prog 38 #[hv a b c] w (EndA (newAH h) (newAO h) [] (good h) w) := by
  obtain ⟨ib, hib, hbz0, hbz1, hbz2⟩ := info_parts info_boolz
  have b0 := (below1 w (.cells (c3 a b c) 32)).alloc (by simp) (.cells nA5 59)
  have A0 := Lib.hid (hA.below b0)
  have B0 := Lib.hid b0
  have H0 := Lib.hid (show RowH _ w.heap.size a b c from (Row.new w 32 (c3 a b c)).alloc (.cells nA5 59))
  have R0 := Lib.hid (show RowA _ (w.heap.size + 1) nilS nilS nilS nilS nilS from Row.new1 w (.cells (c3 a b c) 32) 59 nA5)
  have HC := Lib.hid (s_GoodHeap a b c h _ A0.out)
  have GG := Lib.hid (good_iff (h := h)).1
  have H1 : Hid (newAH h = if good h = true then h else ⟨[], [], []⟩) := rfl
  have H2 : Hid (newAO h = if good h = true then List.replicate h.f.length false else []) := rfl
  obtain ⟨fa, fc, rfl⟩ := hA.f.shape
  obtain ⟨la, lc, rfl⟩ := hA.l.shape
  clear hA b0
  generalize newAH h = hh at *
  generalize newAO h = oo at *
  generalize hgd : good h = gd at *
  have HGD := Lib.hid hgd; clear hgd
  go_enter Try.func38, Try.ntmps38
  go_wp2_with fail
  refine HC.out.mono ?_
  rintro e w1 ⟨rfl, hb⟩
  replace A0 := Lib.hid (A0.out.below hb); replace B0 := Lib.hid (bst B0.out hb B0.out.size)
  replace H0 := Lib.hid (show RowH _ _ _ _ _ from Row.below H0.out hb); replace R0 := Lib.hid (show RowA _ _ _ _ _ _ _ from Row.below R0.out hb)
  clear hb HC
  cases gd
  · have E1 : Hid (hh = ⟨[], [], []⟩) := by unfold Hid; rw [H1.out]; rfl
    have E2 : Hid (oo = []) := by unfold Hid; rw [H2.out]; rfl
    go_wp2_with (refine wl_storeA rfl _ _ rfl (w.heap.size + 1) nilS nilS nilS nilS nilS _ _ _ _ _ R0.out rfl rfl rfl rfl rfl rfl rfl ?_)
    refine bodyPost_ret (res_row_slot Try.results38 (Row.put R0.out nA5) rfl rfl Try.underlying59 rfl info_ages) rfl (endA_none (below_setRow B0.out (by omega) _) E1.out E2.out rfl rfl)
  have G := Lib.hid (GG.out rfl)
  have E1 : Hid (hh = h) := by unfold Hid; rw [H1.out]; rfl
  have E2 : Hid (oo = List.replicate h.f.length false) := by unfold Hid; rw [H2.out]; rfl
  have hll := G.out.ll
  have hn12 := G.out.n
  generalize hnl : h.l.length = nl at *
  generalize hn : h.f.length = n at *
  subst hll
  have HN := Lib.hid hn; clear hn
  have HLL := Lib.hid hnl; clear hnl
  have bd := below_drew (Below.refl w1.heap.size w1)
  have A1 := Lib.hid (A0.out.below bd); have B1 := Lib.hid (bst B0.out bd B0.out.size)
  have P1 := Lib.hid (show RowH _ _ _ _ _ from Row.below H0.out bd); have R1 := Lib.hid (show RowA _ _ _ _ _ _ _ from Row.below R0.out bd)
  have SZ1 : Hid (w.heap.size + 1 < w1.drew.heap.size) := Row.lt R1.out
  clear bd A0 B0 H0 R0 GG H1 H2
  go_wp2_with fail
  refine wp_region_held_drew (S := (fun w' => w'.cell? ⟨w.heap.size, 0, none⟩ = some (.slice fa nl fc) ∧ w'.cell? ⟨w.heap.size, 1, none⟩ = some (.slice la nl lc) ∧ w'.cell? ⟨w.heap.size, 2, none⟩ = some c)) (by kernel_rfl) (⟨P1.out.c0, P1.out.c1, P1.out.c2⟩) (fun hHeld => ?_)
  generalize w1.drew = x1 at *
  refine wpAnyH_take (i := 0) (v := ?va0x9) rfl (by kernel_rfl) (by kernel_rfl) (by kernel_rfl) (fun _ _ _ h => h) (Or.inl ⟨by rfl, ?hy0x9⟩) (by assumption) ?rest0x9
  case hy0x9 => (intro w hSw; (try dsimp only at hSw); go_simp; try with_reducible rfl)
  (try simp only [Act.put, List.getElem_toArray, List.getElem_cons_zero, List.setIfInBounds_toArray, List.set_cons_zero, List.set_cons_succ])
  refine wpAnyH_take (i := 2) (v := ?va2x10) rfl (by kernel_rfl) (by kernel_rfl) (by kernel_rfl) (fun _ _ _ h => h) (Or.inl ⟨by rfl, ?hy2x10⟩) (by assumption) ?rest2x10
  case hy2x10 => (intro w hSw; (try dsimp only at hSw); go_simp; try with_reducible rfl)
  (try simp only [Act.put, List.getElem_toArray, List.getElem_cons_zero, List.getElem_cons_succ, List.setIfInBounds_toArray, List.set_cons_zero, List.set_cons_succ])
  refine wpAnyH_take (i := 3) (v := ?va3x11) rfl (by kernel_rfl) (by kernel_rfl) (by kernel_rfl) (fun _ _ _ h => h) (Or.inl ⟨by rfl, ?hy3x11⟩) (by assumption) ?rest3x11
  case hy3x11 => (intro w hSw; (try dsimp only at hSw); go_simp; try with_reducible rfl)
  (try simp only [Act.put, List.getElem_toArray, List.getElem_cons_zero, List.getElem_cons_succ, List.setIfInBounds_toArray, List.set_cons_zero, List.set_cons_succ])
  refine wpAnyH_take (i := 4) (v := ?va4x12) rfl (by kernel_rfl) (by kernel_rfl) (by kernel_rfl) (fun _ _ _ h => h) (Or.inl ⟨by rfl, ?hy4x12⟩) (by assumption) ?rest4x12
  case hy4x12 => (intro w hSw; (try dsimp only at hSw); go_simp; try with_reducible rfl)
  (try simp only [Act.put, List.getElem_toArray, List.getElem_cons_zero, List.getElem_cons_succ, List.setIfInBounds_toArray, List.set_cons_zero, List.set_cons_succ])
  refine wpAnyH_ready (rs := [1, 5]) (by kernel_rfl) (by simp) ?_
  refine AllReadyH.cons rfl (fun K hK => ?_) (AllReadyH.cons rfl (fun K hK => ?_) AllReadyH.nil)
  · skip
    go_simp
    refine (s_l5Own _ _ _ h _ A1.out G.out).mono ?_
    rintro e x2 ⟨a2, b2, c2, rfl, ho, hb⟩
    have hsh := ho.shapes
    rw [HLL.out, HN.out] at hsh
    obtain ⟨⟨pa, qa, rfl⟩, ⟨pb, qb, rfl⟩, ⟨pc, qc, rfl⟩⟩ := hsh
    have O1 : Hid (OwnH x2 x1.heap.size x2.heap.size _ _ _ h) := ho
    have S2 : Hid (x1.heap.size ≤ x2.heap.size) := hb.size
    replace B1 := Lib.hid (bst B1.out hb B1.out.size)
    replace P1 := Lib.hid (show RowH _ _ _ _ _ from Row.below P1.out hb); replace R1 := Lib.hid (show RowA _ _ _ _ _ _ _ from Row.below R1.out hb)
    clear hb ho
    refine hK.out _ _ ⟨P1.out.c0, P1.out.c1, P1.out.c2⟩ (fun hHeld => ?_)
    clear hK K
    (try simp only [Act.put, List.getElem_toArray, List.getElem_cons_zero, List.getElem_cons_succ, List.setIfInBounds_toArray, List.set_cons_zero, List.set_cons_succ])
    refine wpAnyH_ready (rs := [5]) (by kernel_rfl) (by simp) ?_
    refine AllReadyH.cons rfl (fun K hK => ?_) AllReadyH.nil
    rw [if_pos (by rfl)]
    refine op_make _ _ 23 rfl x2.heap.size 4 ib (.bool false) 1 Try.underlying23 hib hbz0 hbz1 .i64 .i64 nl rfl rfl (by rw [hbz2]; omega) (by unfold maxLen; omega) (Nat.le_refl _) ?_
    intro x3 hown hgr
    rw [rep_bools] at hown
    have M1 : Hid (OwnBs x3 x2.heap.size (.slice (some ⟨x2.heap.size, 0, none⟩) nl nl) (List.replicate nl false)) := (by unfold Hid OwnBs; rw [List.length_replicate]; exact hown)
    have hb : Below x2.heap.size x2 x3 := (Below.refl x2.heap.size x2).grown hgr (Nat.le_refl _) (fun k hk => by cases hk)
    have S3 : Hid (x2.heap.size ≤ x3.heap.size) := hb.size
    replace B1 := Lib.hid (bst B1.out hb B1.out.size)
    replace P1 := Lib.hid (show RowH _ _ _ _ _ from Row.below P1.out hb); replace R1 := Lib.hid (show RowA _ _ _ _ _ _ _ from Row.below R1.out hb)
    replace O1 := Lib.hid (OwnH.below O1.out hb)
    clear hb hown hgr
    refine hK.out _ _ ⟨P1.out.c0, P1.out.c1, P1.out.c2⟩ (fun hHeld => ?_)
    clear hK K
    (try simp only [Act.put, List.getElem_toArray, List.getElem_cons_zero, List.getElem_cons_succ, List.setIfInBounds_toArray, List.set_cons_zero, List.set_cons_succ])
    refine wpAnyH_take (i := 6) (v := ?va6x13) rfl (by kernel_rfl) (by kernel_rfl) (by kernel_rfl) (fun _ _ _ h => h) (Or.inl ⟨by rfl, ?hy6x13⟩) (by assumption) ?rest6x13
    case hy6x13 => (intro w hSw; (try dsimp only at hSw); go_simp; try with_reducible rfl)
    (try simp only [Act.put, List.getElem_toArray, List.getElem_cons_zero, List.getElem_cons_succ, List.setIfInBounds_toArray, List.set_cons_zero, List.set_cons_succ])
    generalize hnr : h.r.length = nr at *
    clear hnr
    have OA := Lib.hid (OwnA.hp O1.out (OwnP.oldOnly M1.out S3.out) S2.out S3.out)
    have OB := Lib.hid (OA.out.rowOut (w.heap.size + 1) (a5 (.slice pa nl qa) (.slice pb nl qb) (.slice pc nr qc) (.slice (some ⟨x2.heap.size, 0, none⟩) nl nl) nilS) (.inl SZ1.out))
    have B2 := Lib.hid (below_setRow B1.out (show w.heap.size ≤ w.heap.size + 1 by omega) (a5 (.slice pa nl qa) (.slice pb nl qb) (.slice pc nr qc) (.slice (some ⟨x2.heap.size, 0, none⟩) nl nl) nilS))
    have P2 := Lib.hid (show RowH _ _ _ _ _ from Row.putOther P1.out (a5 (.slice pa nl qa) (.slice pb nl qb) (.slice pc nr qc) (.slice (some ⟨x2.heap.size, 0, none⟩) nl nl) nilS) (show w.heap.size ≠ w.heap.size + 1 by omega))
    have RN := Lib.hid (Row.put R1.out (a5 (.slice pa nl qa) (.slice pb nl qb) (.slice pc nr qc) (.slice (some ⟨x2.heap.size, 0, none⟩) nl nl) nilS))
    refine wpAnyH_ready (rs := [7]) (by kernel_rfl) (by simp) ?_
    refine AllReadyH.cons rfl (fun K hK => ?_) AllReadyH.nil
    refine wp_store_row 59 _ _ rfl (w.heap.size + 1) (a5 (.slice pa nl qa) (.slice pb nl qb) (.slice pc nr qc) (.slice (some ⟨x2.heap.size, 0, none⟩) nl nl) nilS) rfl rfl 59 _ R1.out info_ages rfl (by simp [Value.oneCell']) ?_
    refine hK.out _ _ ⟨P2.out.c0, P2.out.c1, P2.out.c2⟩ (fun hHeld => ?_)
    clear hK K
    (try simp only [Act.put, List.getElem_toArray, List.getElem_cons_zero, List.getElem_cons_succ])
    refine wpAnyH_take (i := 8) (v := ?va8x14) rfl (by kernel_rfl) (by kernel_rfl) (by kernel_rfl) (fun _ _ _ h => h) (Or.inl ⟨by rfl, ?hy8x14⟩) (by assumption) ?rest8x14
    case hy8x14 => (intro w hSw; (try dsimp only at hSw); go_simp; try with_reducible rfl)
    (try simp only [Act.put, List.getElem_toArray, List.getElem_cons_zero, List.getElem_cons_succ, List.setIfInBounds_toArray, List.set_cons_zero, List.set_cons_succ])
    refine wpAnyH_done (by kernel_rfl) ?_ _
    go_wp2_with fail
    refine bodyPost_ret (res_row_slot Try.results38 RN.out rfl rfl Try.underlying59 rfl info_ages) rfl (endA_yes B2.out OB.out (by have := SZ1.out; omega) (by rw [size_setRow]; exact Nat.le_refl _) E1.out E2.out rfl rfl)
  · skip
    rw [if_pos (by rfl)]
    refine op_make _ _ 23 rfl x1.heap.size 4 ib (.bool false) 1 Try.underlying23 hib hbz0 hbz1 .i64 .i64 nl rfl rfl (by rw [hbz2]; omega) (by unfold maxLen; omega) (Nat.le_refl _) ?_
    intro x2 hown hgr
    rw [rep_bools] at hown
    have M1 : Hid (OwnBs x2 x1.heap.size (.slice (some ⟨x1.heap.size, 0, none⟩) nl nl) (List.replicate nl false)) := (by unfold Hid OwnBs; rw [List.length_replicate]; exact hown)
    have hb : Below x1.heap.size x1 x2 := (Below.refl x1.heap.size x1).grown hgr (Nat.le_refl _) (fun k hk => by cases hk)
    have S3 : Hid (x1.heap.size ≤ x2.heap.size) := hb.size
    replace B1 := Lib.hid (bst B1.out hb B1.out.size)
    replace P1 := Lib.hid (show RowH _ _ _ _ _ from Row.below P1.out hb); replace R1 := Lib.hid (show RowA _ _ _ _ _ _ _ from Row.below R1.out hb)
    replace A1 := Lib.hid (A1.out.below hb)
    clear hb hown hgr
    refine hK.out _ _ ⟨P1.out.c0, P1.out.c1, P1.out.c2⟩ (fun hHeld => ?_)
    clear hK K
    (try simp only [Act.put, List.getElem_toArray, List.getElem_cons_zero, List.getElem_cons_succ, List.setIfInBounds_toArray, List.set_cons_zero, List.set_cons_succ])
    refine wpAnyH_ready (rs := [1]) (by kernel_rfl) (by simp) ?_
    refine AllReadyH.cons rfl (fun K hK => ?_) AllReadyH.nil
    have OP := Lib.hid (OwnP.oldOnly M1.out S3.out)
    go_simp
    refine (s_l5Own _ _ _ h _ A1.out G.out).mono ?_
    rintro e x3 ⟨a2, b2, c2, rfl, ho, hb⟩
    have hsh := ho.shapes
    rw [HLL.out, HN.out] at hsh
    obtain ⟨⟨pa, qa, rfl⟩, ⟨pb, qb, rfl⟩, ⟨pc, qc, rfl⟩⟩ := hsh
    have O1 : Hid (OwnH x3 x2.heap.size x3.heap.size _ _ _ h) := ho
    have S2 : Hid (x2.heap.size ≤ x3.heap.size) := hb.size
    replace B1 := Lib.hid (bst B1.out hb B1.out.size)
    replace P1 := Lib.hid (show RowH _ _ _ _ _ from Row.below P1.out hb); replace R1 := Lib.hid (show RowA _ _ _ _ _ _ _ from Row.below R1.out hb)
    have OPX := Lib.hid (show OwnP _ _ _ _ _ _ _ from OwnH.below OP.out hb)
    clear hb ho
    refine hK.out _ _ ⟨P1.out.c0, P1.out.c1, P1.out.c2⟩ (fun hHeld => ?_)
    clear hK K
    (try simp only [Act.put, List.getElem_toArray, List.getElem_cons_zero, List.getElem_cons_succ, List.setIfInBounds_toArray, List.set_cons_zero, List.set_cons_succ])
    refine wpAnyH_take (i := 6) (v := ?va6x15) rfl (by kernel_rfl) (by kernel_rfl) (by kernel_rfl) (fun _ _ _ h => h) (Or.inl ⟨by rfl, ?hy6x15⟩) (by assumption) ?rest6x15
    case hy6x15 => (intro w hSw; (try dsimp only at hSw); go_simp; try with_reducible rfl)
    (try simp only [Act.put, List.getElem_toArray, List.getElem_cons_zero, List.getElem_cons_succ, List.setIfInBounds_toArray, List.set_cons_zero, List.set_cons_succ])
    generalize hnr : h.r.length = nr at *
    clear hnr
    have OA := Lib.hid (OwnA.ph O1.out OPX.out S3.out S2.out)
    have OB := Lib.hid (OA.out.rowOut (w.heap.size + 1) (a5 (.slice pa nl qa) (.slice pb nl qb) (.slice pc nr qc) (.slice (some ⟨x1.heap.size, 0, none⟩) nl nl) nilS) (.inl SZ1.out))
    have B2 := Lib.hid (below_setRow B1.out (show w.heap.size ≤ w.heap.size + 1 by omega) (a5 (.slice pa nl qa) (.slice pb nl qb) (.slice pc nr qc) (.slice (some ⟨x1.heap.size, 0, none⟩) nl nl) nilS))
    have P2 := Lib.hid (show RowH _ _ _ _ _ from Row.putOther P1.out (a5 (.slice pa nl qa) (.slice pb nl qb) (.slice pc nr qc) (.slice (some ⟨x1.heap.size, 0, none⟩) nl nl) nilS) (show w.heap.size ≠ w.heap.size + 1 by omega))
    have RN := Lib.hid (Row.put R1.out (a5 (.slice pa nl qa) (.slice pb nl qb) (.slice pc nr qc) (.slice (some ⟨x1.heap.size, 0, none⟩) nl nl) nilS))
    refine wpAnyH_ready (rs := [7]) (by kernel_rfl) (by simp) ?_
    refine AllReadyH.cons rfl (fun K hK => ?_) AllReadyH.nil
    refine wp_store_row 59 _ _ rfl (w.heap.size + 1) (a5 (.slice pa nl qa) (.slice pb nl qb) (.slice pc nr qc) (.slice (some ⟨x1.heap.size, 0, none⟩) nl nl) nilS) rfl rfl 59 _ R1.out info_ages rfl (by simp [Value.oneCell']) ?_
    refine hK.out _ _ ⟨P2.out.c0, P2.out.c1, P2.out.c2⟩ (fun hHeld => ?_)
    clear hK K
    (try simp only [Act.put, List.getElem_toArray, List.getElem_cons_zero, List.getElem_cons_succ])
    refine wpAnyH_take (i := 8) (v := ?va8x16) rfl (by kernel_rfl) (by kernel_rfl) (by kernel_rfl) (fun _ _ _ h => h) (Or.inl ⟨by rfl, ?hy8x16⟩) (by assumption) ?rest8x16
    case hy8x16 => (intro w hSw; (try dsimp only at hSw); go_simp; try with_reducible rfl)
    (try simp only [Act.put, List.getElem_toArray, List.getElem_cons_zero, List.getElem_cons_succ, List.setIfInBounds_toArray, List.set_cons_zero, List.set_cons_succ])
    refine wpAnyH_done (by kernel_rfl) ?_ _
    go_wp2_with fail
    refine bodyPost_ret (res_row_slot Try.results38 RN.out rfl rfl Try.underlying59 rfl info_ages) rfl (endA_yes B2.out OB.out (by have := SZ1.out; omega) (by rw [size_setRow]; exact Nat.le_refl _) E1.out E2.out rfl rfl)
end Go.Proofs.Ytbmfkgfmibpkjaa
