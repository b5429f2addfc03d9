/- What the reference says is reached: a queue. -/
import Derived.Test.YtdagkbgobnaijabHs2
import Derived.Test.YtdagkbgobnaijabHq1
import Derived.Test.YtdagkbgobnaijabHr3
import Derived.Deep.LoopGhost
namespace Go.Proofs.Ytdagkbgobnaijab.Ph
theorem left_rep (n : Nat) : left (List.replicate n false) = n := by unfold left; simp
end Go.Proofs.Ytdagkbgobnaijab.Ph
namespace Go.Proofs.Ytdagkbgobnaijab
open Go.RowKit Ph

theorem que_nil (w : World) (lo : Nat) (hlo : lo ≤ w.heap.size) : Que (w.alloc (.cells #[] 3)) lo w.heap.size 0 0 [] :=
  ⟨hlo, by simp, Nat.le_refl _, fun i hi => by simp at hi, fun i hi => by omega, fun i => by rw [Nat.zero_add]; exact Row.frozen (Row.new w 3 #[]) i⟩
set_option maxRecDepth 100000 in
set_option maxHeartbeats 6400000 in
theorem s_l5From (a b' c v : Value) (h : H) (zs : List Int) (w : World) (hA : HeapAt w a b' c h) (hG : Ph.Good h) (hz : IntsAt w v zs) (hzl : zs.length ≤ 12) (hzr : ∀ z ∈ zs, inR h.f.length z) :
    Calls Try.prog 153 #[hv a b' c, v] w fun e w' => ∃ v', e = .returned v' ∧ OwnBs w' w.heap.size v' (reachL h.f zs) ∧ Below w.heap.size w w' := by
  obtain ⟨i0, hi, hz0, hz1, hz2⟩ := info_parts info_boolz
  have hrow : ∀ i, i < h.f.length → ∀ z ∈ h.f.getD i [], inR h.f.length z := fun i _ z hz => (hG.field hz).imp id (fun h => ⟨h.1, h.2.1⟩)
  have hrl : ∀ i, i < h.f.length → (h.f.getD i []).length ≤ 3 := fun i hi => (hG.row i hi).1
  have hn1 := hG.n
  obtain ⟨fa, fc, rfl⟩ := hA.f.shape
  obtain ⟨va, vc, hva⟩ := hz.shape
  have HF := Lib.hid hA.f; have HZ := Lib.hid hz; have HR := Lib.hid hrow; have HRL := Lib.hid hrl; have HZR := Lib.hid hzr
  have HST := Lib.hid (Bfs.start h.f zs)
  clear hA hG hz hrow hrl hzr
  generalize hn : h.f.length = n at *
  have HN := Lib.hid hn; clear hn
  have HVA := Lib.hid hva
  clear hva
  have hb0 := Lib.hid (below1 w (.cells (c3 (.slice fa n fc) b' c) 27))
  have R0 := Lib.hid (show RowH _ _ (.slice fa n fc) b' c from Row.new w 27 (c3 (.slice fa n fc) b' c))
  go_enter Try.func153, Try.ntmps153
  go_wp2_with (first
    | (at_make; refine wpList_make_full _ rfl _ _ 24 rfl w.heap.size 4 i0 (.bool false) 1 Try.underlying24 hi hz0 hz1 .i64 .i64 _ _ n rfl rfl rfl rfl (by rw [hz2]; omega) (by unfold maxLen; omega) (by simp) ?_; intro w1 hown hgr
       rw [rep_bools] at hown
       have hsz0 : (w.alloc (.cells (c3 (.slice fa n fc) b' c) 27)).heap.size = w.heap.size + 1 := by simp
       rw [hsz0] at hown
       have lt1 : w.heap.size + 1 < w1.heap.size := (owns_lt hown rfl).2
       have o1 : OwnBs w1 w.heap.size (.slice (some ⟨w.heap.size + 1, 0, none⟩) n n) (List.replicate n false) := by unfold OwnBs; rw [List.length_replicate]; exact hown
       have b1 := hb0.out.grown hgr hb0.out.size (fun k hk => by cases hk)
       have O1 := Lib.hid o1; have B1 := Lib.hid b1; have R1 := Lib.hid (Row.grown R0.out hgr); have LT1 := Lib.hid lt1
       clear hown hgr hsz0 o1 b1 lt1)
    | (at_builtin; refine wl_appQ _ rfl _ _ rfl (w.heap.size + 2) w1.heap.size 0 0 [] rfl (que_nil w1 _ (by have := LT1.out; omega)) v zs rfl (HZ.out.below (bst B1.out (below1 w1 (.cells #[] 3)) (by have := LT1.out; omega))) (by have := LT1.out; simp; omega) (by simp; omega) ?_
       intro b2 o2 k2 w2 hq2 hg2
       have b2' := (bst B1.out (below1 w1 (.cells #[] 3)) (by have := LT1.out; omega)).grown hg2 (by have := LT1.out; simp; omega) (fun k hk => by cases hk; have := LT1.out; omega)
       have e2 : OwnBs w2 w.heap.size (.slice (some ⟨w.heap.size + 1, 0, none⟩) n n) (List.replicate n false) := owns_block (OwnBs.below O1.out (below1 w1 (.cells #[] 3))) (fun g hg => hg2.block g (by have := LT1.out; cases hg; simp; omega) (by have := LT1.out; cases hg; simp; omega))
       have r2 := Row.grownBy (R1.out.alloc (.cells #[] 3)) hg2 (by have := LT1.out; simp; omega)
       have Q2 := Lib.hid hq2; have B2 := Lib.hid b2'; have O2 := Lib.hid e2; have R2 := Lib.hid r2
       clear hq2 hg2 b2' e2 r2))
  rw [List.nil_append] at Q2
  clear O1 B1 R1 hb0 R0 HZ HVA
  have LTW : Hid (w.heap.size + 2 ≤ w2.heap.size) := by unfold Hid; have := Q2.out.lt; have := Q2.out.lo; omega
  go_loopg [6] (4 * n + zs.length) (fun k q wr => ∃ (b off cap : Nat) (zq : List Int) (S : List Bool), q = .slice (some ⟨b, off, none⟩) zq.length cap ∧ Hid (k = 4 * left S + zq.length) ∧ k ≤ 60 ∧ Hid (Que wr (w.heap.size + 2) b off cap zq) ∧ Hid (Bfs h.f zs zq S) ∧ Hid (∀ z ∈ zq, inR n z) ∧ Hid (OwnBs wr w.heap.size (.slice (some ⟨w.heap.size + 1, 0, none⟩) n n) S) ∧ Hid (RowH wr w.heap.size (.slice fa n fc) b' c) ∧ Hid (Below w.heap.size w wr) ∧ Hid (w.heap.size + 2 ≤ wr.heap.size))
  case atStart => exact ⟨b2, o2, k2, zs, List.replicate n false, rfl, by rw [left_rep]; exact rfl, by omega, Q2, HST, HZR, O2, R2, B2, LTW⟩
  case round =>
    obtain ⟨b, off, cap, zq, S, rfl, hgk, hg60, hq, hbf, hzq, hos, hrw, hbw, hlw⟩ := hrel
    have hSl : S.length = n := by rw [hbf.out.len, HN.out]
    cases zq with
    | nil =>
      have HE := Lib.hid hbf.out.done
      simp only [List.length_nil]
      go_wp2_with fail
      go_ret
      exact ⟨_, rfl, by rw [← HE.out]; exact hos.out, hbw.out⟩
    | cons z zq =>
      have q0 := hq.out.at' 0 (by simp)
      have hin := hzq.out z (by simp)
      have hcap := hq.out.le
      have HQ0 : Hid (cap = 1 → Que wr (w.heap.size + 2) b off (cap - 1) zq) := hq.out.tail0
      have HQ1 := Lib.hid hq.out.tail
      have HZT : Hid (∀ y ∈ zq, inR n y) := fun y hy => hzq.out y (List.mem_cons_of_mem _ hy)
      simp only [List.getD_cons_zero, Nat.add_zero] at q0
      simp only [List.length_cons] at hgk hcap ⊢
      generalize hql : zq.length = ql at *
      have HQL := Lib.hid hql
      have ipos : (0 : Int) < ((ql + 1 : Nat) : Int) := by omega
      clear hql hzq
      by_cases hc1 : cap = 1
      · subst hc1
        obtain rfl : ql = 0 := by omega
        obtain rfl : zq = [] := List.eq_nil_of_length_eq_zero HQL.out
        have HQT : Hid (Que wr (w.heap.size + 2) b off 0 []) := HQ0.out rfl
        clear HQ0 HQ1
        by_cases z0 : z < 0
        · have HS1 : Hid (Bfs h.f zs [] S) := hbf.out.skip (.inl z0)
          clear hin
          go_wp2_with fail
          go_roundg (4 * left S)
          case measure => have := hgk.out; omega
          case rel => exact ⟨b, off, 0, [], S, rfl, rfl, by have := hgk.out; omega, HQT, HS1, HZT, hos, hrw, hbw, hlw⟩
        · obtain ⟨t, rfl⟩ : ∃ t : Nat, z = t := ⟨z.toNat, by omega⟩
          have htn : t < n := by unfold inR at hin; omega
          obtain ⟨s1, s2, s3, s4⟩ := hos.out.stored hSl htn true
          have i2 : ¬ (t : Int) < 0 := by omega
          have i3 : (t : Int) < (n : Int) := by omega
          have i4 : (0 : Int) ≤ (t : Int) := by omega
          generalize hx : S.getD t false = x at *
          have HX := Lib.hid hx
          clear hin z0 hx
          cases x
          · have hls := left_set (S := S) (z := t) (by omega) HX.out
            obtain ⟨fb, fo, rfl, hcf⟩ := HF.out.at' (by omega)
            obtain ⟨u, quf, huf⟩ := hcf t htn
            have B1 : Below w.heap.size w (wr.setCell ⟨w.heap.size + 1, t, none⟩ (.bool true)) := hbw.out.setCell (p := ⟨w.heap.size + 1, t, none⟩) (by simp) (.bool true)
            have qu := cellBelow B1 (Nat.le_refl _) quf
            have U1 := Lib.hid (huf.below B1)
            have hqb := hq.out.lo
            have Q1 : Hid (Que (wr.setCell ⟨w.heap.size + 1, t, none⟩ (.bool true)) (w.heap.size + 2) b off 0 []) := HQT.out.kept s2.size (s2.block b HQT.out.lt (by simp; omega))
            have R1 : RowH (wr.setCell ⟨w.heap.size + 1, t, none⟩ (.bool true)) w.heap.size (.slice (some ⟨fb, fo, none⟩) n fc) b' c := Row.grownBy hrw.out s2 (by simp)
            have d0 := R1.c0
            have TK := Lib.hid (by have := hbf.out.take (z := t) (by rw [HN.out]; exact htn); rwa [List.nil_append] at this : Bfs h.f zs (h.f.getD t []) (S.set t true))
            have hrt := HR.out t htn
            have hlt3 := HRL.out t htn
            have HZA : Hid (∀ y ∈ h.f.getD t [], inR n y) := hrt
            have RR1 := Lib.hid R1; have BB1 := Lib.hid B1; have SS1 := Lib.hid s1; have HLS := Lib.hid hls
            have LL1 : Hid (w.heap.size + 2 ≤ (wr.setCell ⟨w.heap.size + 1, t, none⟩ (.bool true)).heap.size) := by unfold Hid; rw [World.size_setCell]; exact hlw.out
            obtain ⟨ua, uc, hu⟩ := huf.shape
            subst hu
            clear hls hcf huf quf B1 R1 s1 s2 hrt
            have HL3 := Lib.hid hlt3
            have HGT := Lib.hid (show (h.f.getD t []).length ≤ 1000000 by have := hgk.out; omega)
            generalize hrr : h.f.getD t [] = row at *
            have HRR := Lib.hid hrr
            clear hrr hlt3
            generalize hrl' : row.length = rl at *
            have HRLN := Lib.hid hrl'
            clear hrl'
            go_wp2_with (at_builtin; refine wl_appQ _ rfl _ _ rfl (w.heap.size + 2) b off 0 [] rfl Q1.out _ row rfl U1.out LL1.out (by have := HGT.out; simp only [List.length_nil, Nat.zero_add, HRLN.out]; exact this) ?_
                         intro b3 o3 k3 w3 hq3 hg3
                         have f1 : Hid (Que w3 (w.heap.size + 2) b3 o3 k3 row) := (by rw [List.nil_append] at hq3; exact hq3)
                         have f2 := Lib.hid (BB1.out.grown hg3 (by have := LL1.out; omega) (fun k hk => by cases hk; omega))
                         have f3 : Hid (OwnBs w3 w.heap.size (.slice (some ⟨w.heap.size + 1, 0, none⟩) n n) (S.set t true)) := owns_block SS1.out (fun g hg => hg3.block g (owns_lt SS1.out hg).2 (by cases hg; simp; omega))
                         have f4 : Hid (RowH w3 w.heap.size (.slice (some ⟨fb, fo, none⟩) n fc) b' c) := Row.grownBy RR1.out hg3 (by simp; omega)
                         have f5 : Hid (w.heap.size + 2 ≤ w3.heap.size) := Nat.le_trans LL1.out hg3.size
                         clear hq3 hg3)
            go_roundg (4 * left (S.set t true) + (row).length)
            case measure => rw [HRLN.out]; have := hgk.out; have := HLS.out; have := HL3.out; omega
            case rel => exact ⟨b3, o3, k3, row, S.set t true, rfl, rfl, by rw [HRLN.out]; have := hgk.out; have := HLS.out; have := HL3.out; omega, f1, TK, HZA, f3, f4, f2, f5⟩
          · have HS1 : Hid (Bfs h.f zs [] S) := hbf.out.skip (.inr (by simpa using HX.out))
            go_wp2_with fail
            go_roundg (4 * left S)
            case measure => have := hgk.out; omega
            case rel => exact ⟨b, off, 0, [], S, rfl, rfl, by have := hgk.out; omega, HQT, HS1, HZT, hos, hrw, hbw, hlw⟩
      · have HQT := HQ1
        clear HQ0 HQ1
        by_cases z0 : z < 0
        · have HS1 : Hid (Bfs h.f zs zq S) := hbf.out.skip (.inl z0)
          clear hin
          go_wp2_with fail
          go_roundg (4 * left S + ql)
          case measure => have := hgk.out; omega
          case rel => exact ⟨b, off + 1, cap - 1, zq, S, by simp [HQL.out], by rw [HQL.out]; exact rfl, by have := hgk.out; omega, HQT, HS1, HZT, hos, hrw, hbw, hlw⟩
        · obtain ⟨t, rfl⟩ : ∃ t : Nat, z = t := ⟨z.toNat, by omega⟩
          have htn : t < n := by unfold inR at hin; omega
          obtain ⟨s1, s2, s3, s4⟩ := hos.out.stored hSl htn true
          have i2 : ¬ (t : Int) < 0 := by omega
          have i3 : (t : Int) < (n : Int) := by omega
          have i4 : (0 : Int) ≤ (t : Int) := by omega
          generalize hx : S.getD t false = x at *
          have HX := Lib.hid hx
          clear hin z0 hx
          cases x
          · have hls := left_set (S := S) (z := t) (by omega) HX.out
            obtain ⟨fb, fo, rfl, hcf⟩ := HF.out.at' (by omega)
            obtain ⟨u, quf, huf⟩ := hcf t htn
            have B1 : Below w.heap.size w (wr.setCell ⟨w.heap.size + 1, t, none⟩ (.bool true)) := hbw.out.setCell (p := ⟨w.heap.size + 1, t, none⟩) (by simp) (.bool true)
            have qu := cellBelow B1 (Nat.le_refl _) quf
            have U1 := Lib.hid (huf.below B1)
            have hqb := hq.out.lo
            have Q1 : Hid (Que (wr.setCell ⟨w.heap.size + 1, t, none⟩ (.bool true)) (w.heap.size + 2) b (off + 1) (cap - 1) zq) := HQT.out.kept s2.size (s2.block b HQT.out.lt (by simp; omega))
            have R1 : RowH (wr.setCell ⟨w.heap.size + 1, t, none⟩ (.bool true)) w.heap.size (.slice (some ⟨fb, fo, none⟩) n fc) b' c := Row.grownBy hrw.out s2 (by simp)
            have d0 := R1.c0
            have TK := Lib.hid (hbf.out.take (z := t) (by rw [HN.out]; exact htn))
            have hrt := HR.out t htn
            have hlt3 := HRL.out t htn
            have HZA : Hid (∀ y ∈ zq ++ h.f.getD t [], inR n y) := fun y hy => (List.mem_append.1 hy).elim (HZT.out y) (hrt y)
            have RR1 := Lib.hid R1; have BB1 := Lib.hid B1; have SS1 := Lib.hid s1; have HLS := Lib.hid hls
            have LL1 : Hid (w.heap.size + 2 ≤ (wr.setCell ⟨w.heap.size + 1, t, none⟩ (.bool true)).heap.size) := by unfold Hid; rw [World.size_setCell]; exact hlw.out
            obtain ⟨ua, uc, hu⟩ := huf.shape
            subst hu
            clear hls hcf huf quf B1 R1 s1 s2 hrt
            have HL3 := Lib.hid hlt3
            have HGT := Lib.hid (show zq.length + (h.f.getD t []).length ≤ 1000000 by rw [HQL.out]; have := hgk.out; omega)
            generalize hrr : h.f.getD t [] = row at *
            have HRR := Lib.hid hrr
            clear hrr hlt3
            generalize hrl' : row.length = rl at *
            have HRLN := Lib.hid hrl'
            clear hrl'
            go_wp2_with (at_builtin; refine wl_appQ _ rfl _ _ rfl (w.heap.size + 2) b (off + 1) (cap - 1) zq (by first | (rw [HQL.out]; rfl) | (simp [HQL.out])) Q1.out _ row rfl U1.out LL1.out (by rw [HRLN.out]; exact HGT.out) ?_
                         intro b3 o3 k3 w3 hq3 hg3
                         have f1 := Lib.hid hq3; have f2 := Lib.hid (BB1.out.grown hg3 (by have := LL1.out; omega) (fun k hk => by cases hk; omega))
                         have f3 : Hid (OwnBs w3 w.heap.size (.slice (some ⟨w.heap.size + 1, 0, none⟩) n n) (S.set t true)) := owns_block SS1.out (fun g hg => hg3.block g (owns_lt SS1.out hg).2 (by cases hg; simp; omega))
                         have f4 : Hid (RowH w3 w.heap.size (.slice (some ⟨fb, fo, none⟩) n fc) b' c) := Row.grownBy RR1.out hg3 (by simp; omega)
                         have f5 : Hid (w.heap.size + 2 ≤ w3.heap.size) := Nat.le_trans LL1.out hg3.size
                         clear hq3 hg3)
            go_roundg (4 * left (S.set t true) + (zq ++ row).length)
            case measure => rw [List.length_append, HQL.out, HRLN.out]; have := hgk.out; have := HLS.out; have := HL3.out; omega
            case rel => exact ⟨b3, o3, k3, zq ++ row, S.set t true, by rw [List.length_append], rfl, by rw [List.length_append, HQL.out, HRLN.out]; have := hgk.out; have := HLS.out; have := HL3.out; omega, f1, TK, HZA, f3, f4, f2, f5⟩
          · have HS1 : Hid (Bfs h.f zs zq S) := hbf.out.skip (.inr (by simpa using HX.out))
            go_wp2_with fail
            go_roundg (4 * left S + ql)
            case measure => have := hgk.out; omega
            case rel => exact ⟨b, off + 1, cap - 1, zq, S, by simp [HQL.out], by rw [HQL.out]; exact rfl, by have := hgk.out; omega, HQT, HS1, HZT, hos, hrw, hbw, hlw⟩
end Go.Proofs.Ytdagkbgobnaijab
