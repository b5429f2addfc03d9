/- What the laws rest on, part 2. -/
import Derived.Test.YtkkigoamphkalaaQB1
import Derived.Deep.LoopGhost
import Derived.Test.YtkkigoamphkalaaRows
import Derived.Lib.SmallJoins
import Derived.WalkKit
import Derived.ProofKit
import Derived.OpenShut
import Derived.WalkSmall
import Derived.Deep.DeepHandedRow
import Derived.Lib.LaidTab
import Derived.Deep.Matrix
import Derived.Deep.Grids
namespace Go.Proofs.Ytkkigoamphkalaa.Ph
theorem left_rep (n : Nat) : left (List.replicate n false) = n := by unfold left; simp
end Go.Proofs.Ytkkigoamphkalaa.Ph
namespace Go.Proofs.Ytkkigoamphkalaa
open Go.RowKit Ph

theorem que_nil (w : World) (lo : Nat) (hlo : lo ≤ w.heap.size) : Que (w.alloc (.cells #[] 3)) lo w.heap.size 0 0 [] :=
  ⟨hlo, by simp, Nat.le_refl _, fun i hi => by simp at hi, fun i hi => by omega, fun i => by rw [Nat.zero_add]; exact Row.frozen (Row.new w 3 #[]) i⟩
set_option maxRecDepth 100000 in
set_option maxHeartbeats 6400000 in
theorem s_l5From (a b' c v : Value) (h : H) (zs : List Int) (w : World) (hA : HeapAt w a b' c h) (hG : Ph.Good h) (hz : IntsAt w v zs) (hzl : zs.length ≤ 12) (hzr : ∀ z ∈ zs, inR h.f.length z) :
    Calls Try.prog 89 #[hv a b' c, v] w fun e w' => ∃ v', e = .returned v' ∧ OwnBs w' w.heap.size v' (reachL h.f zs) ∧ Below w.heap.size w w' := by
  obtain ⟨i0, hi, hz0, hz1, hz2⟩ := info_parts info_boolz
  have hrow : ∀ i, i < h.f.length → ∀ z ∈ h.f.getD i [], inR h.f.length z := fun i _ z hz => (hG.field hz).imp id (fun h => ⟨h.1, h.2.1⟩)
  have hrl : ∀ i, i < h.f.length → (h.f.getD i []).length ≤ 3 := fun i hi => (hG.row i hi).1
  have hn1 := hG.n
  obtain ⟨fa, fc, rfl⟩ := hA.f.shape
  obtain ⟨va, vc, hva⟩ := hz.shape
  have HF := Lib.hid hA.f; have HZ := Lib.hid hz; have HR := Lib.hid hrow; have HRL := Lib.hid hrl; have HZR := Lib.hid hzr
  have HST := Lib.hid (Bfs.start h.f zs)
  clear hA hG hz hrow hrl hzr
  generalize hn : h.f.length = n at *
  have HN := Lib.hid hn; clear hn
  have HVA := Lib.hid hva
  clear hva
  have hb0 := Lib.hid (below1 w (.cells (c3 (.slice fa n fc) b' c) 30))
  have R0 := Lib.hid (show RowH _ _ (.slice fa n fc) b' c from Row.new w 30 (c3 (.slice fa n fc) b' c))
  go_enter Try.func89, Try.ntmps89
  go_wp2_with (first
    | (at_make; refine wpList_make_full _ rfl _ _ 23 rfl w.heap.size 4 i0 (.bool false) 1 Try.underlying23 hi hz0 hz1 .i64 .i64 _ _ n rfl rfl rfl rfl (by rw [hz2]; omega) (by unfold maxLen; omega) (by simp) ?_; intro w1 hown hgr
       rw [rep_bools] at hown
       have hsz0 : (w.alloc (.cells (c3 (.slice fa n fc) b' c) 30)).heap.size = w.heap.size + 1 := by simp
       rw [hsz0] at hown
       have lt1 : w.heap.size + 1 < w1.heap.size := (owns_lt hown rfl).2
       have o1 : OwnBs w1 w.heap.size (.slice (some ⟨w.heap.size + 1, 0, none⟩) n n) (List.replicate n false) := by unfold OwnBs; rw [List.length_replicate]; exact hown
       have b1 := hb0.out.grown hgr hb0.out.size (fun k hk => by cases hk)
       have O1 := Lib.hid o1; have B1 := Lib.hid b1; have R1 := Lib.hid (Row.grown R0.out hgr); have LT1 := Lib.hid lt1
       clear hown hgr hsz0 o1 b1 lt1)
    | (at_builtin; refine wl_appQ _ rfl _ _ rfl (w.heap.size + 2) w1.heap.size 0 0 [] rfl (que_nil w1 _ (by have := LT1.out; omega)) v zs rfl (HZ.out.below (bst B1.out (below1 w1 (.cells #[] 3)) (by have := LT1.out; omega))) (by have := LT1.out; simp; omega) (by simp; omega) ?_
       intro b2 o2 k2 w2 hq2 hg2
       have b2' := (bst B1.out (below1 w1 (.cells #[] 3)) (by have := LT1.out; omega)).grown hg2 (by have := LT1.out; simp; omega) (fun k hk => by cases hk; have := LT1.out; omega)
       have e2 : OwnBs w2 w.heap.size (.slice (some ⟨w.heap.size + 1, 0, none⟩) n n) (List.replicate n false) := owns_block (OwnBs.below O1.out (below1 w1 (.cells #[] 3))) (fun g hg => hg2.block g (by have := LT1.out; cases hg; simp; omega) (by have := LT1.out; cases hg; simp; omega))
       have r2 := Row.grownBy (R1.out.alloc (.cells #[] 3)) hg2 (by have := LT1.out; simp; omega)
       have Q2 := Lib.hid hq2; have B2 := Lib.hid b2'; have O2 := Lib.hid e2; have R2 := Lib.hid r2
       clear hq2 hg2 b2' e2 r2))
  rw [List.nil_append] at Q2
  clear O1 B1 R1 hb0 R0 HZ HVA
  have LTW : Hid (w.heap.size + 2 ≤ w2.heap.size) := by unfold Hid; have := Q2.out.lt; have := Q2.out.lo; omega
  go_loopg [6] (4 * n + zs.length) (fun k q wr => ∃ (b off cap : Nat) (zq : List Int) (S : List Bool), q = .slice (some ⟨b, off, none⟩) zq.length cap ∧ Hid (k = 4 * left S + zq.length) ∧ k ≤ 60 ∧ Hid (Que wr (w.heap.size + 2) b off cap zq) ∧ Hid (Bfs h.f zs zq S) ∧ Hid (∀ z ∈ zq, inR n z) ∧ Hid (OwnBs wr w.heap.size (.slice (some ⟨w.heap.size + 1, 0, none⟩) n n) S) ∧ Hid (RowH wr w.heap.size (.slice fa n fc) b' c) ∧ Hid (Below w.heap.size w wr) ∧ Hid (w.heap.size + 2 ≤ wr.heap.size))
  case atStart => exact ⟨b2, o2, k2, zs, List.replicate n false, rfl, by rw [left_rep]; exact rfl, by omega, Q2, HST, HZR, O2, R2, B2, LTW⟩
  case round =>
    obtain ⟨b, off, cap, zq, S, rfl, hgk, hg60, hq, hbf, hzq, hos, hrw, hbw, hlw⟩ := hrel
    have hSl : S.length = n := by rw [hbf.out.len, HN.out]
    cases zq with
    | nil =>
      have HE := Lib.hid hbf.out.done
      simp only [List.length_nil]
      go_wp2_with fail
      go_ret
      exact ⟨_, rfl, by rw [← HE.out]; exact hos.out, hbw.out⟩
    | cons z zq =>
      have q0 := hq.out.at' 0 (by simp)
      have hin := hzq.out z (by simp)
      have hcap := hq.out.le
      have HQ0 : Hid (cap = 1 → Que wr (w.heap.size + 2) b off (cap - 1) zq) := hq.out.tail0
      have HQ1 := Lib.hid hq.out.tail
      have HZT : Hid (∀ y ∈ zq, inR n y) := fun y hy => hzq.out y (List.mem_cons_of_mem _ hy)
      simp only [List.getD_cons_zero, Nat.add_zero] at q0
      simp only [List.length_cons] at hgk hcap ⊢
      generalize hql : zq.length = ql at *
      have HQL := Lib.hid hql
      have ipos : (0 : Int) < ((ql + 1 : Nat) : Int) := by omega
      clear hql hzq
      by_cases hc1 : cap = 1
      · subst hc1
        obtain rfl : ql = 0 := by omega
        obtain rfl : zq = [] := List.eq_nil_of_length_eq_zero HQL.out
        have HQT : Hid (Que wr (w.heap.size + 2) b off 0 []) := HQ0.out rfl
        clear HQ0 HQ1
        by_cases z0 : z < 0
        · have HS1 : Hid (Bfs h.f zs [] S) := hbf.out.skip (.inl z0)
          clear hin
          go_wp2_with fail
          go_roundg (4 * left S)
          case measure => have := hgk.out; omega
          case rel => exact ⟨b, off, 0, [], S, rfl, rfl, by have := hgk.out; omega, HQT, HS1, HZT, hos, hrw, hbw, hlw⟩
        · obtain ⟨t, rfl⟩ : ∃ t : Nat, z = t := ⟨z.toNat, by omega⟩
          have htn : t < n := by unfold inR at hin; omega
          obtain ⟨s1, s2, s3, s4⟩ := hos.out.stored hSl htn true
          have i2 : ¬ (t : Int) < 0 := by omega
          have i3 : (t : Int) < (n : Int) := by omega
          have i4 : (0 : Int) ≤ (t : Int) := by omega
          generalize hx : S.getD t false = x at *
          have HX := Lib.hid hx
          clear hin z0 hx
          cases x
          · have hls := left_set (S := S) (z := t) (by omega) HX.out
            obtain ⟨fb, fo, rfl, hcf⟩ := HF.out.at' (by omega)
            obtain ⟨u, quf, huf⟩ := hcf t htn
            have B1 : Below w.heap.size w (wr.setCell ⟨w.heap.size + 1, t, none⟩ (.bool true)) := hbw.out.setCell (p := ⟨w.heap.size + 1, t, none⟩) (by simp) (.bool true)
            have qu := cellBelow B1 (Nat.le_refl _) quf
            have U1 := Lib.hid (huf.below B1)
            have hqb := hq.out.lo
            have Q1 : Hid (Que (wr.setCell ⟨w.heap.size + 1, t, none⟩ (.bool true)) (w.heap.size + 2) b off 0 []) := HQT.out.kept s2.size (s2.block b HQT.out.lt (by simp; omega))
            have R1 : RowH (wr.setCell ⟨w.heap.size + 1, t, none⟩ (.bool true)) w.heap.size (.slice (some ⟨fb, fo, none⟩) n fc) b' c := Row.grownBy hrw.out s2 (by simp)
            have d0 := R1.c0
            have TK := Lib.hid (by have := hbf.out.take (z := t) (by rw [HN.out]; exact htn); rwa [List.nil_append] at this : Bfs h.f zs (h.f.getD t []) (S.set t true))
            have hrt := HR.out t htn
            have hlt3 := HRL.out t htn
            have HZA : Hid (∀ y ∈ h.f.getD t [], inR n y) := hrt
            have RR1 := Lib.hid R1; have BB1 := Lib.hid B1; have SS1 := Lib.hid s1; have HLS := Lib.hid hls
            have LL1 : Hid (w.heap.size + 2 ≤ (wr.setCell ⟨w.heap.size + 1, t, none⟩ (.bool true)).heap.size) := by unfold Hid; rw [World.size_setCell]; exact hlw.out
            obtain ⟨ua, uc, hu⟩ := huf.shape
            subst hu
            clear hls hcf huf quf B1 R1 s1 s2 hrt
            have HL3 := Lib.hid hlt3
            have HGT := Lib.hid (show (h.f.getD t []).length ≤ 1000000 by have := hgk.out; omega)
            generalize hrr : h.f.getD t [] = row at *
            have HRR := Lib.hid hrr
            clear hrr hlt3
            generalize hrl' : row.length = rl at *
            have HRLN := Lib.hid hrl'
            clear hrl'
            go_wp2_with (at_builtin; refine wl_appQ _ rfl _ _ rfl (w.heap.size + 2) b off 0 [] rfl Q1.out _ row rfl U1.out LL1.out (by have := HGT.out; simp only [List.length_nil, Nat.zero_add, HRLN.out]; exact this) ?_
                         intro b3 o3 k3 w3 hq3 hg3
                         have f1 : Hid (Que w3 (w.heap.size + 2) b3 o3 k3 row) := (by rw [List.nil_append] at hq3; exact hq3)
                         have f2 := Lib.hid (BB1.out.grown hg3 (by have := LL1.out; omega) (fun k hk => by cases hk; omega))
                         have f3 : Hid (OwnBs w3 w.heap.size (.slice (some ⟨w.heap.size + 1, 0, none⟩) n n) (S.set t true)) := owns_block SS1.out (fun g hg => hg3.block g (owns_lt SS1.out hg).2 (by cases hg; simp; omega))
                         have f4 : Hid (RowH w3 w.heap.size (.slice (some ⟨fb, fo, none⟩) n fc) b' c) := Row.grownBy RR1.out hg3 (by simp; omega)
                         have f5 : Hid (w.heap.size + 2 ≤ w3.heap.size) := Nat.le_trans LL1.out hg3.size
                         clear hq3 hg3)
            go_roundg (4 * left (S.set t true) + (row).length)
            case measure => rw [HRLN.out]; have := hgk.out; have := HLS.out; have := HL3.out; omega
            case rel => exact ⟨b3, o3, k3, row, S.set t true, rfl, rfl, by rw [HRLN.out]; have := hgk.out; have := HLS.out; have := HL3.out; omega, f1, TK, HZA, f3, f4, f2, f5⟩
          · have HS1 : Hid (Bfs h.f zs [] S) := hbf.out.skip (.inr (by simpa using HX.out))
            go_wp2_with fail
            go_roundg (4 * left S)
            case measure => have := hgk.out; omega
            case rel => exact ⟨b, off, 0, [], S, rfl, rfl, by have := hgk.out; omega, HQT, HS1, HZT, hos, hrw, hbw, hlw⟩
      · have HQT := HQ1
        clear HQ0 HQ1
        by_cases z0 : z < 0
        · have HS1 : Hid (Bfs h.f zs zq S) := hbf.out.skip (.inl z0)
          clear hin
          go_wp2_with fail
          go_roundg (4 * left S + ql)
          case measure => have := hgk.out; omega
          case rel => exact ⟨b, off + 1, cap - 1, zq, S, by simp [HQL.out], by rw [HQL.out]; exact rfl, by have := hgk.out; omega, HQT, HS1, HZT, hos, hrw, hbw, hlw⟩
        · obtain ⟨t, rfl⟩ : ∃ t : Nat, z = t := ⟨z.toNat, by omega⟩
          have htn : t < n := by unfold inR at hin; omega
          obtain ⟨s1, s2, s3, s4⟩ := hos.out.stored hSl htn true
          have i2 : ¬ (t : Int) < 0 := by omega
          have i3 : (t : Int) < (n : Int) := by omega
          have i4 : (0 : Int) ≤ (t : Int) := by omega
          generalize hx : S.getD t false = x at *
          have HX := Lib.hid hx
          clear hin z0 hx
          cases x
          · have hls := left_set (S := S) (z := t) (by omega) HX.out
            obtain ⟨fb, fo, rfl, hcf⟩ := HF.out.at' (by omega)
            obtain ⟨u, quf, huf⟩ := hcf t htn
            have B1 : Below w.heap.size w (wr.setCell ⟨w.heap.size + 1, t, none⟩ (.bool true)) := hbw.out.setCell (p := ⟨w.heap.size + 1, t, none⟩) (by simp) (.bool true)
            have qu := cellBelow B1 (Nat.le_refl _) quf
            have U1 := Lib.hid (huf.below B1)
            have hqb := hq.out.lo
            have Q1 : Hid (Que (wr.setCell ⟨w.heap.size + 1, t, none⟩ (.bool true)) (w.heap.size + 2) b (off + 1) (cap - 1) zq) := HQT.out.kept s2.size (s2.block b HQT.out.lt (by simp; omega))
            have R1 : RowH (wr.setCell ⟨w.heap.size + 1, t, none⟩ (.bool true)) w.heap.size (.slice (some ⟨fb, fo, none⟩) n fc) b' c := Row.grownBy hrw.out s2 (by simp)
            have d0 := R1.c0
            have TK := Lib.hid (hbf.out.take (z := t) (by rw [HN.out]; exact htn))
            have hrt := HR.out t htn
            have hlt3 := HRL.out t htn
            have HZA : Hid (∀ y ∈ zq ++ h.f.getD t [], inR n y) := fun y hy => (List.mem_append.1 hy).elim (HZT.out y) (hrt y)
            have RR1 := Lib.hid R1; have BB1 := Lib.hid B1; have SS1 := Lib.hid s1; have HLS := Lib.hid hls
            have LL1 : Hid (w.heap.size + 2 ≤ (wr.setCell ⟨w.heap.size + 1, t, none⟩ (.bool true)).heap.size) := by unfold Hid; rw [World.size_setCell]; exact hlw.out
            obtain ⟨ua, uc, hu⟩ := huf.shape
            subst hu
            clear hls hcf huf quf B1 R1 s1 s2 hrt
            have HL3 := Lib.hid hlt3
            have HGT := Lib.hid (show zq.length + (h.f.getD t []).length ≤ 1000000 by rw [HQL.out]; have := hgk.out; omega)
            generalize hrr : h.f.getD t [] = row at *
            have HRR := Lib.hid hrr
            clear hrr hlt3
            generalize hrl' : row.length = rl at *
            have HRLN := Lib.hid hrl'
            clear hrl'
            go_wp2_with (at_builtin; refine wl_appQ _ rfl _ _ rfl (w.heap.size + 2) b (off + 1) (cap - 1) zq (by first | (rw [HQL.out]; rfl) | (simp [HQL.out])) Q1.out _ row rfl U1.out LL1.out (by rw [HRLN.out]; exact HGT.out) ?_
                         intro b3 o3 k3 w3 hq3 hg3
                         have f1 := Lib.hid hq3; have f2 := Lib.hid (BB1.out.grown hg3 (by have := LL1.out; omega) (fun k hk => by cases hk; omega))
                         have f3 : Hid (OwnBs w3 w.heap.size (.slice (some ⟨w.heap.size + 1, 0, none⟩) n n) (S.set t true)) := owns_block SS1.out (fun g hg => hg3.block g (owns_lt SS1.out hg).2 (by cases hg; simp; omega))
                         have f4 : Hid (RowH w3 w.heap.size (.slice (some ⟨fb, fo, none⟩) n fc) b' c) := Row.grownBy RR1.out hg3 (by simp; omega)
                         have f5 : Hid (w.heap.size + 2 ≤ w3.heap.size) := Nat.le_trans LL1.out hg3.size
                         clear hq3 hg3)
            go_roundg (4 * left (S.set t true) + (zq ++ row).length)
            case measure => rw [List.length_append, HQL.out, HRLN.out]; have := hgk.out; have := HLS.out; have := HL3.out; omega
            case rel => exact ⟨b3, o3, k3, zq ++ row, S.set t true, by rw [List.length_append], rfl, by rw [List.length_append, HQL.out, HRLN.out]; have := hgk.out; have := HLS.out; have := HL3.out; omega, f1, TK, HZA, f3, f4, f2, f5⟩
          · have HS1 : Hid (Bfs h.f zs zq S) := hbf.out.skip (.inr (by simpa using HX.out))
            go_wp2_with fail
            go_roundg (4 * left S + ql)
            case measure => have := hgk.out; omega
            case rel => exact ⟨b, off + 1, cap - 1, zq, S, by simp [HQL.out], by rw [HQL.out]; exact rfl, by have := hgk.out; omega, HQT, HS1, HZT, hos, hrw, hbw, hlw⟩
end Go.Proofs.Ytkkigoamphkalaa
namespace Go.Proofs.Ytkkigoamphkalaa
open Go.RowKit Ph

set_option maxHeartbeats 1600000 in
theorem s_l5Reached (a b c : Value) (h : H) (w : World) (hA : HeapAt w a b c h) (hG : Ph.Good h) : Calls Try.prog 81 #[hv a b c] w fun e w' => ∃ v', e = .returned v' ∧ OwnBs w' w.heap.size v' (reachL h.f h.r) ∧ Below w.heap.size w w' := by
  have hb0 := below1 w (.cells (c3 a b c) 30)
  have A0 := Lib.hid (hA.below hb0)
  have HB := Lib.hid hb0; have G := Lib.hid hG
  have R0 := Lib.hid (show RowH _ _ a b c from Row.new w 30 (c3 a b c))
  clear hA hb0 hG
  have c0 := R0.out.c0
  have c1 := R0.out.c1
  have c2 := R0.out.c2
  go_enter Try.func81, Try.ntmps81
  go_wp2_with fail
  refine (s_l5From a b c c h h.r _ A0.out G.out A0.out.r (by have := G.out.rn; omega) (fun z hz => (refs_bound G.out G.out.rr z hz).imp id (fun h => ⟨h.1, h.2.1⟩))).mono ?_
  rintro e w2 ⟨v', rfl, ho2, hb2⟩
  have B2 := Lib.hid (bst HB.out hb2 HB.out.size); have O2 := Lib.hid (show OwnBs w2 w.heap.size v' (reachL h.f h.r) from owns_mono ho2 fun g hg => Nat.le_trans HB.out.size (owns_lt ho2 hg).1)
  clear hb2 ho2
  go_wp2_with fail
  go_ret
  exact ⟨_, rfl, O2.out, B2.out⟩
end Go.Proofs.Ytkkigoamphkalaa
namespace Go.Proofs.Ytkkigoamphkalaa.Ph
/-- The same roots, the same objects reached, and the same fields of these. -/
def Same (a b : H) : Prop := a.r = b.r ∧ ∀ k, (Reach a.f a.r k ↔ Reach b.f b.r k) ∧ (Reach a.f a.r k → a.f.getD k [] = b.f.getD k [])
noncomputable def sameP (a b : H) : Bool := @decide (Same a b) (Classical.propDecidable _)
theorem sameP_iff {a b : H} : sameP a b = true ↔ Same a b := by unfold sameP; simp
theorem sameP_false {a b : H} (h : ¬ Same a b) : sameP a b = false := by
  cases hq : sameP a b with
  | false => rfl
  | true => exact absurd (sameP_iff.1 hq) h
/-- The project's test is enough. -/
theorem same_of {a b : H} (hr : a.r = b.r) (hf : ∀ k, Reach a.f a.r k → a.f.getD k [] = b.f.getD k []) : Same a b := by
  refine ⟨hr, fun k => ⟨⟨fun h => ?_, fun h => ?_⟩, hf k⟩⟩
  · induction h with
    | root hz => exact .root (by rw [← hr]; exact hz)
    | step hy hk ih => exact .step ih (by rw [← hf _ hy]; exact hk)
  · induction h with
    | root hz => exact .root (by rw [hr]; exact hz)
    | step hy hk ih => exact .step ih (by rw [hf _ ih]; exact hk)
theorem reach_live {h : H} (g : Ph.Good h) {k : Nat} (hk : Reach h.f h.r k) : h.l.getD k false = true ∧ k < h.f.length := by
  have key : ∀ z : Int, (z = -1 ∨ (0 ≤ z ∧ z < h.f.length ∧ h.l.getD z.toNat false = true)) → z = (k : Int) → h.l.getD k false = true ∧ k < h.f.length := fun z hz e => by
    subst e
    rcases hz with h1 | ⟨_, h2, h3⟩
    · omega
    · exact ⟨by simpa using h3, by omega⟩
  cases hk with
  | root hz => exact key _ (refs_bound g g.rr _ hz) rfl
  | step _ hz => exact key _ (g.field hz) rfl
end Go.Proofs.Ytkkigoamphkalaa.Ph
namespace Go.Proofs.Ytkkigoamphkalaa
open Go.RowKit Ph

set_option maxHeartbeats 400000 in
theorem c_slEqual (va vb : Value) (za zb : List Int) (w : World) (hA : IntsAt w va za) (hB : IntsAt w vb zb) (hm : za.length ≤ 9223372036854775806) :
    Calls Try.prog 97 #[va, vb] w fun e w' => e = .returned (.bool (decide (za = zb))) ∧ ∃ n, w' = w.drewN n := by
  obtain ⟨a, ca, rfl, hA⟩ := hA
  obtain ⟨b, cb, rfl, hB⟩ := hB
  by_cases hl : za.length = zb.length
  · rw [← hl] at hB ⊢
    generalize hn : za.length = n at *
    have HN := Lib.hid hn; have HL := Lib.hid hl; clear hn hl
    have hbq : ((n : Int) != (n : Int)) = false := by simp
    by_cases h0 : n = 0
    · subst h0
      obtain rfl : za = [] := List.eq_nil_of_length_eq_zero HN.out
      obtain rfl : zb = [] := List.eq_nil_of_length_eq_zero HL.out.symm
      clear hA hB
      go_enter Try.func97, Try.ntmps97
      go_wp2
      refine wp_loop_rounds 1 ?_
      rw [rounds_succ]
      go_wp2
      go_ret
      exact ⟨rfl, drewN_refl _⟩
    · obtain ⟨ba, oa, rfl, hca⟩ := hA (by omega)
      obtain ⟨bb, ob, rfl, hcb⟩ := hB (by omega)
      clear hA hB
      have HCA := Lib.hid hca; have HCB := Lib.hid hcb; clear hca hcb
      go_enter Try.func97, Try.ntmps97
      go_wp2
      go_loopw [13] (fun i wr => ∃ k : Nat, k ≤ n ∧ i = .int .i64 k ∧ Hid (za.take k = zb.take k) ∧ ∃ n, wr = w.drewN n) (fun i _ => n - (intOf i).toNat)
      case atStart => exact ⟨0, Nat.zero_le _, rfl, by simp [Hid], drewN_refl _⟩
      case round =>
        obtain ⟨k, hk, rfl, ht, nd, rfl⟩ := hrel
        by_cases hlt : k < n
        · have q1 := HCA.out k hlt
          have q2 := HCB.out k hlt
          have i1 : (k : Int) < (n : Int) := by omega
          generalize hx : za.getD k 0 = x at q1
          generalize hy : zb.getD k 0 = y at q2
          have HX := Lib.hid hx; have HY := Lib.hid hy; clear hx hy
          by_cases exy : x = y
          · subst exy
            go_wp2
            go_quiet (fail)
            go_wp2
            go_roundw
            case rel => exact ⟨k + 1, by omega, by go_num, take_eq_succ ht.out (by rw [HN.out]; exact hlt) (by rw [← HL.out]; exact hlt) (HX.out.trans HY.out.symm), nd + nq, by simp⟩
            case measure => simp [intOf]; omega
          · have hne : (x != y) = true := by rw [bne_iff_ne]; exact exy
            have HNE : Hid (decide (za = zb) = false) := decide_eq_false (ne_of_getD (k := k) (by rw [HX.out, HY.out]; exact exy))
            clear exy
            go_wp2
            go_quiet (fail)
            go_wp2
            go_ret
            exact ⟨r_b HNE.out.symm, nd + nq, by simp⟩
        · have HE : Hid (decide (za = zb) = true) := decide_eq_true (take_all_eq (n := k) (by rw [HN.out]; omega) (by rw [← HL.out]; omega) ht.out)
          go_wp2
          go_ret
          exact ⟨r_b HE.out.symm, _, rfl⟩
  · generalize hna : za.length = na at *
    generalize hnb : zb.length = nb at *
    have hbq : ((na : Int) != (nb : Int)) = true := by rw [bne_iff_ne]; omega
    have HN : Hid (decide (za = zb) = false) := decide_eq_false (fun h => hl (by rw [← hna, ← hnb, h]))
    clear hl hA hB hna hnb
    go_enter Try.func97, Try.ntmps97
    go_wp2
    go_ret
    exact ⟨r_b HN.out.symm, drewN_refl _⟩
set_option maxHeartbeats 400000 in
theorem s_l1Same (va vb : Value) (za zb : List Int) (w : World) (hA : IntsAt w va za) (hB : IntsAt w vb zb) (hm : za.length ≤ 9223372036854775806) :
    Calls Try.prog 143 #[va, vb] w fun e w' => e = .returned (.bool (decide (za = zb))) ∧ ∃ n, w' = w.drewN n := by
  obtain ⟨a, ca, rfl, hA⟩ := hA
  obtain ⟨b, cb, rfl, hB⟩ := hB
  by_cases hl : za.length = zb.length
  · rw [← hl] at hB ⊢
    generalize hn : za.length = n at *
    have HN := Lib.hid hn; have HL := Lib.hid hl; clear hn hl
    have hbq : ((n : Int) != (n : Int)) = false := by simp
    by_cases h0 : n = 0
    · subst h0
      obtain rfl : za = [] := List.eq_nil_of_length_eq_zero HN.out
      obtain rfl : zb = [] := List.eq_nil_of_length_eq_zero HL.out.symm
      clear hA hB
      go_enter Try.func143, Try.ntmps143
      go_wp2
      refine wp_loop_rounds 1 ?_
      rw [rounds_succ]
      go_wp2
      go_ret
      exact ⟨rfl, drewN_refl _⟩
    · obtain ⟨ba, oa, rfl, hca⟩ := hA (by omega)
      obtain ⟨bb, ob, rfl, hcb⟩ := hB (by omega)
      clear hA hB
      have HCA := Lib.hid hca; have HCB := Lib.hid hcb; clear hca hcb
      go_enter Try.func143, Try.ntmps143
      go_wp2
      go_loopw [13] (fun i wr => ∃ k : Nat, k ≤ n ∧ i = .int .i64 k ∧ Hid (za.take k = zb.take k) ∧ ∃ n, wr = w.drewN n) (fun i _ => n - (intOf i).toNat)
      case atStart => exact ⟨0, Nat.zero_le _, rfl, by simp [Hid], drewN_refl _⟩
      case round =>
        obtain ⟨k, hk, rfl, ht, nd, rfl⟩ := hrel
        by_cases hlt : k < n
        · have q1 := HCA.out k hlt
          have q2 := HCB.out k hlt
          have i1 : (k : Int) < (n : Int) := by omega
          generalize hx : za.getD k 0 = x at q1
          generalize hy : zb.getD k 0 = y at q2
          have HX := Lib.hid hx; have HY := Lib.hid hy; clear hx hy
          by_cases exy : x = y
          · subst exy
            go_wp2
            go_quiet (fail)
            go_wp2
            go_roundw
            case rel => exact ⟨k + 1, by omega, by go_num, take_eq_succ ht.out (by rw [HN.out]; exact hlt) (by rw [← HL.out]; exact hlt) (HX.out.trans HY.out.symm), nd + nq, by simp⟩
            case measure => simp [intOf]; omega
          · have hne : (x != y) = true := by rw [bne_iff_ne]; exact exy
            have HNE : Hid (decide (za = zb) = false) := decide_eq_false (ne_of_getD (k := k) (by rw [HX.out, HY.out]; exact exy))
            clear exy
            go_wp2
            go_quiet (fail)
            go_wp2
            go_ret
            exact ⟨r_b HNE.out.symm, nd + nq, by simp⟩
        · have HE : Hid (decide (za = zb) = true) := decide_eq_true (take_all_eq (n := k) (by rw [HN.out]; omega) (by rw [← HL.out]; omega) ht.out)
          go_wp2
          go_ret
          exact ⟨r_b HE.out.symm, _, rfl⟩
  · generalize hna : za.length = na at *
    generalize hnb : zb.length = nb at *
    have hbq : ((na : Int) != (nb : Int)) = true := by rw [bne_iff_ne]; omega
    have HN : Hid (decide (za = zb) = false) := decide_eq_false (fun h => hl (by rw [← hna, ← hnb, h]))
    clear hl hA hB hna hnb
    go_enter Try.func143, Try.ntmps143
    go_wp2
    go_ret
    exact ⟨r_b HN.out.symm, drewN_refl _⟩
end Go.Proofs.Ytkkigoamphkalaa
namespace Go.Proofs.Ytkkigoamphkalaa.Ph
def sfB (a b : H) (ts : List Bool) (n : Nat) : Bool := (List.range n).all fun k => !(ts.getD k false) || (liveB b.l (k : Int) && decide (a.f.getD k [] = b.f.getD k []))
theorem sfB_succ {a b : H} {ts : List Bool} {n : Nat} : sfB a b ts (n + 1) = (sfB a b ts n && (!(ts.getD n false) || (liveB b.l (n : Int) && decide (a.f.getD n [] = b.f.getD n [])))) := by simp [sfB, List.range_succ]
theorem sfB_false {a b : H} {ts : List Bool} {n k : Nat} (h : k < n) (hn : (!(ts.getD k false) || (liveB b.l (k : Int) && decide (a.f.getD k [] = b.f.getD k []))) = false) : sfB a b ts n = false := by
  cases hq : sfB a b ts n with
  | false => rfl
  | true =>
    have := (List.all_eq_true.1 hq) k (by simpa using h)
    rw [hn] at this; cases this
end Go.Proofs.Ytkkigoamphkalaa.Ph
namespace Go.Proofs.Ytkkigoamphkalaa
open Go.RowKit Ph

set_option maxRecDepth 100000 in
set_option maxHeartbeats 6400000 in
theorem c_sameFields (a1 b1 c1 a2 b2 c2 tv : Value) (x y : H) (ts : List Bool) (w : World) (hA : HeapAt w a1 b1 c1 x) (hB : HeapAt w a2 b2 c2 y) (hT : BoolsAt w tv ts) (hgx : Ph.Good x) (hgy : Ph.Good y) (htl : ts.length = x.f.length) :
    Calls Try.prog 98 #[hv a1 b1 c1, hv a2 b2 c2, tv] w fun e w' => e = .returned (.bool (sfB x y ts x.f.length)) ∧ Below w.heap.size w w' := by
  have hb0 := (below1 w (.cells (c3 a1 b1 c1) 30)).alloc (by simp) (.cells (c3 a2 b2 c2) 30)
  have A0 := Lib.hid (hA.below hb0); have B0 := Lib.hid (hB.below hb0); have T0 := Lib.hid (hT.below hb0)
  have HB := Lib.hid hb0
  have P0 := Lib.hid (show RowH _ _ a1 b1 c1 from (Row.new w 30 (c3 a1 b1 c1)).alloc (.cells (c3 a2 b2 c2) 30))
  have Q0 := Lib.hid (show RowH _ (w.heap.size + 1) a2 b2 c2 from Row.new1 w (.cells (c3 a1 b1 c1) 30) 30 (c3 a2 b2 c2))
  have GX := Lib.hid hgx; have GY := Lib.hid hgy
  obtain ⟨fa, fc, rfl⟩ := hA.f.shape
  obtain ⟨ga, gc, rfl⟩ := hB.f.shape
  obtain ⟨la, lc, rfl⟩ := hB.l.shape
  obtain ⟨ra, rc, rfl⟩ := hB.r.shape
  obtain ⟨ta, tc, rfl⟩ := hT.shape
  rw [htl] at T0 ⊢
  have HTL := Lib.hid htl
  have hn12 := hgx.n
  have HLY : Hid (y.l.length = y.f.length) := hgy.ll
  clear hA hB hT hgx hgy hb0 htl
  generalize hn : x.f.length = n at *
  generalize hm : y.f.length = m at *
  generalize hml : y.l.length = ml at *
  generalize hmr : y.r.length = mr at *
  have HN := Lib.hid hn; have HM := Lib.hid hm; have HML := Lib.hid hml
  clear hn hm hml hmr
  go_enter Try.func98, Try.ntmps98
  go_wp2_with fail
  generalize ((w.alloc (.cells (c3 (.slice fa n fc) b1 c1) 30)).alloc (.cells (c3 (.slice ga m gc) (.slice la ml lc) (.slice ra mr rc)) 30)) = w0 at *
  go_loopw [11] (fun i wr => ∃ k : Nat, k ≤ n ∧ i = .int .i64 k ∧ Hid (sfB x y ts k = true) ∧ Below w0.heap.size w0 wr) (fun i _ => n - (intOf i).toNat)
  case atStart => exact ⟨0, Nat.zero_le _, rfl, by simp [Hid, sfB], Below.refl _ _⟩
  case round =>
    obtain ⟨k, hk, rfl, ht, hbr⟩ := hrel
    have BW := Lib.hid (bst HB.out hbr HB.out.size)
    have HBR := Lib.hid hbr
    by_cases hlt : k < n
    · have A1 := Lib.hid (A0.out.below hbr); have B1 := Lib.hid (B0.out.below hbr); have T1 := Lib.hid (T0.out.below hbr); have P1 := Lib.hid (P0.out.below hbr); have Q1 := Lib.hid (Q0.out.below hbr)
      obtain ⟨gt, ot, rfl, hct⟩ := T1.out.at' (by omega)
      have qt := hct k hlt
      have i1 : (k : Int) < (n : Int) := by omega
      have j1 : (0 : Int) ≤ (k : Int) := by omega
      have hs := sfB_succ (a := x) (b := y) (ts := ts) (n := k)
      rw [ht.out, Bool.true_and] at hs
      have hf := sfB_false (a := x) (b := y) (ts := ts) (n := n) (k := k) hlt
      obtain ⟨gf, of, rfl, hcf⟩ := A1.out.f.at' (by omega)
      obtain ⟨u, qu, hu⟩ := hcf k hlt
      obtain ⟨ua, uc, hus⟩ := hu.shape
      have HU := Lib.hid hu
      subst hus
      have hlx := (GX.out.row k (by rw [HN.out]; exact hlt)).1
      have HS := Lib.hid hs; have HF := Lib.hid hf; have HLX := Lib.hid hlx
      clear hct hcf hu hs hf hbr hlx
      generalize ts.getD k false = on at *
      cases on
      · have HE : Hid (sfB x y ts (k + 1) = true) := by unfold Hid; rw [HS.out]; rfl
        go_wp2_with fail
        have BD := below_drew (Below.refl wr.heap.size wr)
        refine wp_region_held_drew (S := (fun _ => True)) (by kernel_rfl) (trivial) (fun hHeld => ?_)
        refine wpAnyH_take (i := 0) (v := ?va0x1) rfl (by kernel_rfl) (by kernel_rfl) (by kernel_rfl) (fun _ _ _ h => h) (Or.inl ⟨by rfl, ?hy0x1⟩) (by assumption) ?rest0x1
        case hy0x1 => (intro w hSw; (try dsimp only at hSw); go_simp; try with_reducible rfl)
        (try simp only [Act.put, List.getElem_toArray, List.getElem_cons_zero, List.setIfInBounds_toArray, List.set_cons_zero, List.set_cons_succ])
        refine wpAnyH_take (i := 1) (v := ?va1x2) rfl (by kernel_rfl) (by kernel_rfl) (by kernel_rfl) (fun _ _ _ h => h) (Or.inl ⟨by rfl, ?hy1x2⟩) (by assumption) ?rest1x2
        case hy1x2 => (intro w hSw; (try dsimp only at hSw); go_simp; try with_reducible rfl)
        (try simp only [Act.put, List.getElem_toArray, List.getElem_cons_zero, List.getElem_cons_succ, List.setIfInBounds_toArray, List.set_cons_zero, List.set_cons_succ])
        refine wpAnyH_take (i := 2) (v := undef) rfl (by kernel_rfl) (by kernel_rfl) (by kernel_rfl) (fun _ _ _ h => h) (Or.inr ⟨by rfl, rfl⟩) (by assumption) ?_
        (try simp only [Act.put, List.getElem_toArray, List.getElem_cons_zero, List.getElem_cons_succ, List.setIfInBounds_toArray, List.set_cons_zero, List.set_cons_succ])
        refine wpAnyH_take (i := 3) (v := undef) rfl (by kernel_rfl) (by kernel_rfl) (by kernel_rfl) (fun _ _ _ h => h) (Or.inr ⟨by rfl, rfl⟩) (by assumption) ?_
        (try simp only [Act.put, List.getElem_toArray, List.getElem_cons_zero, List.getElem_cons_succ, List.setIfInBounds_toArray, List.set_cons_zero, List.set_cons_succ])
        refine wpAnyH_take (i := 4) (v := undef) rfl (by kernel_rfl) (by kernel_rfl) (by kernel_rfl) (fun _ _ _ h => h) (Or.inr ⟨by rfl, rfl⟩) (by assumption) ?_
        (try simp only [Act.put, List.getElem_toArray, List.getElem_cons_zero, List.getElem_cons_succ, List.setIfInBounds_toArray, List.set_cons_zero, List.set_cons_succ])
        refine wpAnyH_take (i := 5) (v := undef) rfl (by kernel_rfl) (by kernel_rfl) (by kernel_rfl) (fun _ _ _ h => h) (Or.inr ⟨by rfl, rfl⟩) (by assumption) ?_
        (try simp only [Act.put, List.getElem_toArray, List.getElem_cons_zero, List.getElem_cons_succ, List.setIfInBounds_toArray, List.set_cons_zero, List.set_cons_succ])
        refine wpAnyH_take (i := 6) (v := undef) rfl (by kernel_rfl) (by kernel_rfl) (by kernel_rfl) (fun _ _ _ h => h) (Or.inr ⟨by rfl, rfl⟩) (by assumption) ?_
        (try simp only [Act.put, List.getElem_toArray, List.getElem_cons_zero, List.getElem_cons_succ, List.setIfInBounds_toArray, List.set_cons_zero, List.set_cons_succ])
        refine wpAnyH_take (i := 7) (v := undef) rfl (by kernel_rfl) (by kernel_rfl) (by kernel_rfl) (fun _ _ _ h => h) (Or.inr ⟨by rfl, rfl⟩) (by assumption) ?_
        (try simp only [Act.put, List.getElem_toArray, List.getElem_cons_zero, List.getElem_cons_succ, List.setIfInBounds_toArray, List.set_cons_zero, List.set_cons_succ])
        refine wpAnyH_take (i := 8) (v := undef) rfl (by kernel_rfl) (by kernel_rfl) (by kernel_rfl) (fun _ _ _ h => h) (Or.inr ⟨by rfl, rfl⟩) (by assumption) ?_
        (try simp only [Act.put, List.getElem_toArray, List.getElem_cons_zero, List.getElem_cons_succ, List.setIfInBounds_toArray, List.set_cons_zero, List.set_cons_succ])
        refine wpAnyH_take (i := 9) (v := undef) rfl (by kernel_rfl) (by kernel_rfl) (by kernel_rfl) (fun _ _ _ h => h) (Or.inr ⟨by rfl, rfl⟩) (by assumption) ?_
        (try simp only [Act.put, List.getElem_toArray, List.getElem_cons_zero, List.getElem_cons_succ, List.setIfInBounds_toArray, List.set_cons_zero, List.set_cons_succ])
        refine wpAnyH_take (i := 10) (v := undef) rfl (by kernel_rfl) (by kernel_rfl) (by kernel_rfl) (fun _ _ _ h => h) (Or.inr ⟨by rfl, rfl⟩) (by assumption) ?_
        (try simp only [Act.put, List.getElem_toArray, List.getElem_cons_zero, List.getElem_cons_succ, List.setIfInBounds_toArray, List.set_cons_zero, List.set_cons_succ])
        refine wpAnyH_take (i := 11) (v := undef) rfl (by kernel_rfl) (by kernel_rfl) (by kernel_rfl) (fun _ _ _ h => h) (Or.inr ⟨by rfl, rfl⟩) (by assumption) ?_
        (try simp only [Act.put, List.getElem_toArray, List.getElem_cons_zero, List.getElem_cons_succ, List.setIfInBounds_toArray, List.set_cons_zero, List.set_cons_succ])
        refine wpAnyH_take (i := 12) (v := undef) rfl (by kernel_rfl) (by kernel_rfl) (by kernel_rfl) (fun _ _ _ h => h) (Or.inr ⟨by rfl, rfl⟩) (by assumption) ?_
        (try simp only [Act.put, List.getElem_toArray, List.getElem_cons_zero, List.getElem_cons_succ, List.setIfInBounds_toArray, List.set_cons_zero, List.set_cons_succ])
        refine wpAnyH_take (i := 13) (v := undef) rfl (by kernel_rfl) (by kernel_rfl) (by kernel_rfl) (fun _ _ _ h => h) (Or.inr ⟨by rfl, rfl⟩) (by assumption) ?_
        (try simp only [Act.put, List.getElem_toArray, List.getElem_cons_zero, List.getElem_cons_succ, List.setIfInBounds_toArray, List.set_cons_zero, List.set_cons_succ])
        refine wpAnyH_take (i := 14) (v := undef) rfl (by kernel_rfl) (by kernel_rfl) (by kernel_rfl) (fun _ _ _ h => h) (Or.inr ⟨by rfl, rfl⟩) (by assumption) ?_
        (try simp only [Act.put, List.getElem_toArray, List.getElem_cons_zero, List.getElem_cons_succ, List.setIfInBounds_toArray, List.set_cons_zero, List.set_cons_succ])
        refine wpAnyH_take (i := 15) (v := undef) rfl (by kernel_rfl) (by kernel_rfl) (by kernel_rfl) (fun _ _ _ h => h) (Or.inr ⟨by rfl, rfl⟩) (by assumption) ?_
        (try simp only [Act.put, List.getElem_toArray, List.getElem_cons_zero, List.getElem_cons_succ, List.setIfInBounds_toArray, List.set_cons_zero, List.set_cons_succ])
        refine wpAnyH_take (i := 16) (v := undef) rfl (by kernel_rfl) (by kernel_rfl) (by kernel_rfl) (fun _ _ _ h => h) (Or.inr ⟨by rfl, rfl⟩) (by assumption) ?_
        (try simp only [Act.put, List.getElem_toArray, List.getElem_cons_zero, List.getElem_cons_succ, List.setIfInBounds_toArray, List.set_cons_zero, List.set_cons_succ])
        refine wpAnyH_take (i := 17) (v := undef) rfl (by kernel_rfl) (by kernel_rfl) (by kernel_rfl) (fun _ _ _ h => h) (Or.inr ⟨by rfl, rfl⟩) (by assumption) ?_
        (try simp only [Act.put, List.getElem_toArray, List.getElem_cons_zero, List.getElem_cons_succ, List.setIfInBounds_toArray, List.set_cons_zero, List.set_cons_succ])
        refine wpAnyH_take (i := 18) (v := undef) rfl (by kernel_rfl) (by kernel_rfl) (by kernel_rfl) (fun _ _ _ h => h) (Or.inr ⟨by rfl, rfl⟩) (by assumption) ?_
        (try simp only [Act.put, List.getElem_toArray, List.getElem_cons_zero, List.getElem_cons_succ, List.setIfInBounds_toArray, List.set_cons_zero, List.set_cons_succ])
        refine wpAnyH_take (i := 19) (v := undef) rfl (by kernel_rfl) (by kernel_rfl) (by kernel_rfl) (fun _ _ _ h => h) (Or.inr ⟨by rfl, rfl⟩) (by assumption) ?_
        (try simp only [Act.put, List.getElem_toArray, List.getElem_cons_zero, List.getElem_cons_succ, List.setIfInBounds_toArray, List.set_cons_zero, List.set_cons_succ])
        refine wpAnyH_take (i := 20) (v := ?va20x3) rfl (by kernel_rfl) (by kernel_rfl) (by kernel_rfl) (fun _ _ _ h => h) (Or.inl ⟨by rfl, ?hy20x3⟩) (by assumption) ?rest20x3
        case hy20x3 => (intro w hSw; (try dsimp only at hSw); go_simp; try with_reducible rfl)
        (try simp only [Act.put, List.getElem_toArray, List.getElem_cons_zero, List.getElem_cons_succ, List.setIfInBounds_toArray, List.set_cons_zero, List.set_cons_succ])
        refine wpAnyH_done (by kernel_rfl) ?_ _
        go_wp2_with fail
        go_roundw
        case rel => exact ⟨k + 1, by omega, by go_num, HE, bst HBR.out BD HBR.out.size⟩
        case measure => simp [intOf]; omega
      · have d0 : wr.drew.cell? ⟨w.heap.size, 0, none⟩ = some (.slice (some ⟨gf, of, none⟩) n fc) := P1.out.c0
        have e0 : wr.drew.cell? ⟨w.heap.size + 1, 0, none⟩ = some (.slice ga m gc) := Q1.out.c0
        have e1 : wr.drew.cell? ⟨w.heap.size + 1, 1, none⟩ = some (.slice la ml lc) := Q1.out.c1
        have e2 : wr.drew.cell? ⟨w.heap.size + 1, 2, none⟩ = some (.slice ra mr rc) := Q1.out.c2
        have BD := below_drew (Below.refl wr.heap.size wr)
        have hin : liveB y.l (k : Int) = true → k < m := fun h => by have h1 := live_inR GY.out h; rw [HM.out] at h1; omega
        generalize hx : liveB y.l (k : Int) = lv at *
        have HX := Lib.hid hx
        clear hx
        cases lv
        · have HE : Hid (sfB x y ts n = false) := HF.out rfl
          clear hin
          go_wp2_with fail
          refine wp_region_held_drew (S := (fun w' => w'.cell? ⟨w.heap.size, 0, none⟩ = some (.slice (some ⟨gf, of, none⟩) n fc) ∧ w'.cell? ⟨w.heap.size + 1, 0, none⟩ = some (.slice ga m gc) ∧ w'.cell? ⟨w.heap.size + 1, 1, none⟩ = some (.slice la ml lc) ∧ w'.cell? ⟨w.heap.size + 1, 2, none⟩ = some (.slice ra mr rc) ∧ Below wr.heap.size wr w')) (by kernel_rfl) (⟨d0, e0, e1, e2, BD⟩) (fun hHeld => ?_)
          refine wpAnyH_take (i := 0) (v := ?va0x4) rfl (by kernel_rfl) (by kernel_rfl) (by kernel_rfl) (fun _ _ _ h => h) (Or.inl ⟨by rfl, ?hy0x4⟩) (by assumption) ?rest0x4
          case hy0x4 => (intro w hSw; (try dsimp only at hSw); go_simp; try with_reducible rfl)
          (try simp only [Act.put, List.getElem_toArray, List.getElem_cons_zero, List.setIfInBounds_toArray, List.set_cons_zero, List.set_cons_succ])
          refine wpAnyH_take (i := 1) (v := ?va1x5) rfl (by kernel_rfl) (by kernel_rfl) (by kernel_rfl) (fun _ _ _ h => h) (Or.inl ⟨by rfl, ?hy1x5⟩) (by assumption) ?rest1x5
          case hy1x5 => (intro w hSw; (try dsimp only at hSw); go_simp; try with_reducible rfl)
          (try simp only [Act.put, List.getElem_toArray, List.getElem_cons_zero, List.getElem_cons_succ, List.setIfInBounds_toArray, List.set_cons_zero, List.set_cons_succ])
          refine wpAnyH_take (i := 2) (v := ?va2x6) rfl (by kernel_rfl) (by kernel_rfl) (by kernel_rfl) (fun _ _ _ h => h) (Or.inl ⟨by rfl, ?hy2x6⟩) (by assumption) ?rest2x6
          case hy2x6 => (intro w hSw; (try dsimp only at hSw); go_simp; try with_reducible rfl)
          (try simp only [Act.put, List.getElem_toArray, List.getElem_cons_zero, List.getElem_cons_succ, List.setIfInBounds_toArray, List.set_cons_zero, List.set_cons_succ])
          refine wpAnyH_take (i := 3) (v := ?va3x7) rfl (by kernel_rfl) (by kernel_rfl) (by kernel_rfl) (fun _ _ _ h => h) (Or.inl ⟨by rfl, ?hy3x7⟩) (by assumption) ?rest3x7
          case hy3x7 => (intro w hSw; (try dsimp only at hSw); go_simp; try with_reducible rfl)
          (try simp only [Act.put, List.getElem_toArray, List.getElem_cons_zero, List.getElem_cons_succ, List.setIfInBounds_toArray, List.set_cons_zero, List.set_cons_succ])
          refine wpAnyH_ready (rs := [4]) (by kernel_rfl) (by simp) ?_
          refine AllReadyH.cons rfl (fun K hK => ?_) AllReadyH.nil
          go_simp
          refine (c_isLive _ _ _ y.l k _ (B1.out.l.below BD)).mono ?_
          rintro e w2 ⟨rfl, hb2⟩
          rw [HX.out]
          have hbx := bst BD hb2 BD.size
          replace d0 := cellBelow hb2 (Nat.le_refl _) d0
          replace e0 := cellBelow hb2 (Nat.le_refl _) e0
          replace e1 := cellBelow hb2 (Nat.le_refl _) e1
          replace e2 := cellBelow hb2 (Nat.le_refl _) e2
          refine hK.out _ _ ⟨d0, e0, e1, e2, hbx⟩ (fun hHeld => ?_)
          clear hK K
          (try simp only [Act.put, List.getElem_toArray, List.getElem_cons_zero, List.getElem_cons_succ, List.setIfInBounds_toArray, List.set_cons_zero, List.set_cons_succ])
          refine wpAnyH_take (i := 5) (v := ?va5x8) rfl (by kernel_rfl) (by kernel_rfl) (by kernel_rfl) (fun _ _ _ h => h) (Or.inl ⟨by rfl, ?hy5x8⟩) (by assumption) ?rest5x8
          case hy5x8 => (intro w hSw; (try dsimp only at hSw); go_simp; try with_reducible rfl)
          (try simp only [Act.put, List.getElem_toArray, List.getElem_cons_zero, List.getElem_cons_succ, List.setIfInBounds_toArray, List.set_cons_zero, List.set_cons_succ])
          refine wpAnyH_take (i := 6) (v := ?va6x9) rfl (by kernel_rfl) (by kernel_rfl) (by kernel_rfl) (fun _ _ _ h => h) (Or.inl ⟨by rfl, ?hy6x9⟩) (by assumption) ?rest6x9
          case hy6x9 => (intro w hSw; (try dsimp only at hSw); go_simp; try with_reducible rfl)
          (try simp only [Act.put, List.getElem_toArray, List.getElem_cons_zero, List.getElem_cons_succ, List.setIfInBounds_toArray, List.set_cons_zero, List.set_cons_succ])
          refine wpAnyH_take (i := 7) (v := undef) rfl (by kernel_rfl) (by kernel_rfl) (by kernel_rfl) (fun _ _ _ h => h) (Or.inr ⟨by rfl, rfl⟩) (by assumption) ?_
          (try simp only [Act.put, List.getElem_toArray, List.getElem_cons_zero, List.getElem_cons_succ, List.setIfInBounds_toArray, List.set_cons_zero, List.set_cons_succ])
          refine wpAnyH_take (i := 8) (v := undef) rfl (by kernel_rfl) (by kernel_rfl) (by kernel_rfl) (fun _ _ _ h => h) (Or.inr ⟨by rfl, rfl⟩) (by assumption) ?_
          (try simp only [Act.put, List.getElem_toArray, List.getElem_cons_zero, List.getElem_cons_succ, List.setIfInBounds_toArray, List.set_cons_zero, List.set_cons_succ])
          refine wpAnyH_take (i := 9) (v := undef) rfl (by kernel_rfl) (by kernel_rfl) (by kernel_rfl) (fun _ _ _ h => h) (Or.inr ⟨by rfl, rfl⟩) (by assumption) ?_
          (try simp only [Act.put, List.getElem_toArray, List.getElem_cons_zero, List.getElem_cons_succ, List.setIfInBounds_toArray, List.set_cons_zero, List.set_cons_succ])
          refine wpAnyH_take (i := 10) (v := undef) rfl (by kernel_rfl) (by kernel_rfl) (by kernel_rfl) (fun _ _ _ h => h) (Or.inr ⟨by rfl, rfl⟩) (by assumption) ?_
          (try simp only [Act.put, List.getElem_toArray, List.getElem_cons_zero, List.getElem_cons_succ, List.setIfInBounds_toArray, List.set_cons_zero, List.set_cons_succ])
          refine wpAnyH_take (i := 11) (v := undef) rfl (by kernel_rfl) (by kernel_rfl) (by kernel_rfl) (fun _ _ _ h => h) (Or.inr ⟨by rfl, rfl⟩) (by assumption) ?_
          (try simp only [Act.put, List.getElem_toArray, List.getElem_cons_zero, List.getElem_cons_succ, List.setIfInBounds_toArray, List.set_cons_zero, List.set_cons_succ])
          refine wpAnyH_take (i := 12) (v := undef) rfl (by kernel_rfl) (by kernel_rfl) (by kernel_rfl) (fun _ _ _ h => h) (Or.inr ⟨by rfl, rfl⟩) (by assumption) ?_
          (try simp only [Act.put, List.getElem_toArray, List.getElem_cons_zero, List.getElem_cons_succ, List.setIfInBounds_toArray, List.set_cons_zero, List.set_cons_succ])
          refine wpAnyH_take (i := 13) (v := undef) rfl (by kernel_rfl) (by kernel_rfl) (by kernel_rfl) (fun _ _ _ h => h) (Or.inr ⟨by rfl, rfl⟩) (by assumption) ?_
          (try simp only [Act.put, List.getElem_toArray, List.getElem_cons_zero, List.getElem_cons_succ, List.setIfInBounds_toArray, List.set_cons_zero, List.set_cons_succ])
          refine wpAnyH_take (i := 14) (v := undef) rfl (by kernel_rfl) (by kernel_rfl) (by kernel_rfl) (fun _ _ _ h => h) (Or.inr ⟨by rfl, rfl⟩) (by assumption) ?_
          (try simp only [Act.put, List.getElem_toArray, List.getElem_cons_zero, List.getElem_cons_succ, List.setIfInBounds_toArray, List.set_cons_zero, List.set_cons_succ])
          refine wpAnyH_take (i := 15) (v := undef) rfl (by kernel_rfl) (by kernel_rfl) (by kernel_rfl) (fun _ _ _ h => h) (Or.inr ⟨by rfl, rfl⟩) (by assumption) ?_
          (try simp only [Act.put, List.getElem_toArray, List.getElem_cons_zero, List.getElem_cons_succ, List.setIfInBounds_toArray, List.set_cons_zero, List.set_cons_succ])
          refine wpAnyH_take (i := 16) (v := undef) rfl (by kernel_rfl) (by kernel_rfl) (by kernel_rfl) (fun _ _ _ h => h) (Or.inr ⟨by rfl, rfl⟩) (by assumption) ?_
          (try simp only [Act.put, List.getElem_toArray, List.getElem_cons_zero, List.getElem_cons_succ, List.setIfInBounds_toArray, List.set_cons_zero, List.set_cons_succ])
          refine wpAnyH_take (i := 17) (v := undef) rfl (by kernel_rfl) (by kernel_rfl) (by kernel_rfl) (fun _ _ _ h => h) (Or.inr ⟨by rfl, rfl⟩) (by assumption) ?_
          (try simp only [Act.put, List.getElem_toArray, List.getElem_cons_zero, List.getElem_cons_succ, List.setIfInBounds_toArray, List.set_cons_zero, List.set_cons_succ])
          refine wpAnyH_take (i := 18) (v := undef) rfl (by kernel_rfl) (by kernel_rfl) (by kernel_rfl) (fun _ _ _ h => h) (Or.inr ⟨by rfl, rfl⟩) (by assumption) ?_
          (try simp only [Act.put, List.getElem_toArray, List.getElem_cons_zero, List.getElem_cons_succ, List.setIfInBounds_toArray, List.set_cons_zero, List.set_cons_succ])
          refine wpAnyH_take (i := 19) (v := ?va19x10) rfl (by kernel_rfl) (by kernel_rfl) (by kernel_rfl) (fun _ _ _ h => h) (Or.inl ⟨by rfl, ?hy19x10⟩) (by assumption) ?rest19x10
          case hy19x10 => (intro w hSw; (try dsimp only at hSw); go_simp; try with_reducible rfl)
          (try simp only [Act.put, List.getElem_toArray, List.getElem_cons_zero, List.getElem_cons_succ, List.setIfInBounds_toArray, List.set_cons_zero, List.set_cons_succ])
          refine wpAnyH_take (i := 20) (v := ?va20x11) rfl (by kernel_rfl) (by kernel_rfl) (by kernel_rfl) (fun _ _ _ h => h) (Or.inl ⟨by rfl, ?hy20x11⟩) (by assumption) ?rest20x11
          case hy20x11 => (intro w hSw; (try dsimp only at hSw); go_simp; try with_reducible rfl)
          (try simp only [Act.put, List.getElem_toArray, List.getElem_cons_zero, List.getElem_cons_succ, List.setIfInBounds_toArray, List.set_cons_zero, List.set_cons_succ])
          refine wpAnyH_done (by kernel_rfl) ?_ _
          go_wp2_with fail
          go_ret
          exact ⟨r_b HE.out.symm, bst BW.out hbx BW.out.size⟩
        · have hkm := hin rfl
          obtain ⟨gg, og, rfl, hcg⟩ := B1.out.f.at' (by omega)
          obtain ⟨v, qv, hv'⟩ := hcg k hkm
          obtain ⟨va, vc, hvs⟩ := hv'.shape
          have HV := Lib.hid hv'
          subst hvs
          have i2 : (k : Int) < (m : Int) := by omega
          replace qu : wr.drew.cell? ⟨gf, of + k, none⟩ = some (.slice ua (x.f.getD k []).length uc) := qu
          replace qv : wr.drew.cell? ⟨gg, og + k, none⟩ = some (.slice va (y.f.getD k []).length vc) := qv
          have HEQ : Hid (∀ w', Below wr.heap.size wr w' → Calls Try.prog 97 #[.slice ua (x.f.getD k []).length uc, .slice va (y.f.getD k []).length vc] w' fun e w'' => e = .returned (.bool (decide (x.f.getD k [] = y.f.getD k []))) ∧ ∃ n, w'' = w'.drewN n) := fun w' hb => c_slEqual _ _ _ _ w' (HU.out.below hb) (HV.out.below hb) (by have := HLX.out; omega)
          clear hcg hv' hin
          generalize (x.f.getD k []).length = lx at *
          generalize (y.f.getD k []).length = ly at *
          generalize hd : decide (x.f.getD k [] = y.f.getD k []) = dq at *
          clear hd
          go_wp2_with fail
          refine wp_region_held_drew (S := (fun w' => w'.cell? ⟨w.heap.size, 0, none⟩ = some (.slice (some ⟨gf, of, none⟩) n fc) ∧ w'.cell? ⟨w.heap.size + 1, 0, none⟩ = some (.slice (some ⟨gg, og, none⟩) m gc) ∧ w'.cell? ⟨w.heap.size + 1, 1, none⟩ = some (.slice la ml lc) ∧ w'.cell? ⟨w.heap.size + 1, 2, none⟩ = some (.slice ra mr rc) ∧ w'.cell? ⟨gf, of + k, none⟩ = some (.slice ua lx uc) ∧ w'.cell? ⟨gg, og + k, none⟩ = some (.slice va ly vc) ∧ Below wr.heap.size wr w')) (by kernel_rfl) (⟨d0, e0, e1, e2, qu, qv, BD⟩) (fun hHeld => ?_)
          refine wpAnyH_take (i := 0) (v := ?va0x12) rfl (by kernel_rfl) (by kernel_rfl) (by kernel_rfl) (fun _ _ _ h => h) (Or.inl ⟨by rfl, ?hy0x12⟩) (by assumption) ?rest0x12
          case hy0x12 => (intro w hSw; (try dsimp only at hSw); go_simp; try with_reducible rfl)
          (try simp only [Act.put, List.getElem_toArray, List.getElem_cons_zero, List.setIfInBounds_toArray, List.set_cons_zero, List.set_cons_succ])
          refine wpAnyH_take (i := 1) (v := ?va1x13) rfl (by kernel_rfl) (by kernel_rfl) (by kernel_rfl) (fun _ _ _ h => h) (Or.inl ⟨by rfl, ?hy1x13⟩) (by assumption) ?rest1x13
          case hy1x13 => (intro w hSw; (try dsimp only at hSw); go_simp; try with_reducible rfl)
          (try simp only [Act.put, List.getElem_toArray, List.getElem_cons_zero, List.getElem_cons_succ, List.setIfInBounds_toArray, List.set_cons_zero, List.set_cons_succ])
          refine wpAnyH_take (i := 2) (v := ?va2x14) rfl (by kernel_rfl) (by kernel_rfl) (by kernel_rfl) (fun _ _ _ h => h) (Or.inl ⟨by rfl, ?hy2x14⟩) (by assumption) ?rest2x14
          case hy2x14 => (intro w hSw; (try dsimp only at hSw); go_simp; try with_reducible rfl)
          (try simp only [Act.put, List.getElem_toArray, List.getElem_cons_zero, List.getElem_cons_succ, List.setIfInBounds_toArray, List.set_cons_zero, List.set_cons_succ])
          refine wpAnyH_take (i := 3) (v := ?va3x15) rfl (by kernel_rfl) (by kernel_rfl) (by kernel_rfl) (fun _ _ _ h => h) (Or.inl ⟨by rfl, ?hy3x15⟩) (by assumption) ?rest3x15
          case hy3x15 => (intro w hSw; (try dsimp only at hSw); go_simp; try with_reducible rfl)
          (try simp only [Act.put, List.getElem_toArray, List.getElem_cons_zero, List.getElem_cons_succ, List.setIfInBounds_toArray, List.set_cons_zero, List.set_cons_succ])
          refine wpAnyH_ready (rs := [4]) (by kernel_rfl) (by simp) ?_
          refine AllReadyH.cons rfl (fun K hK => ?_) AllReadyH.nil
          go_simp
          refine (c_isLive _ _ _ y.l k _ (B1.out.l.below BD)).mono ?_
          rintro e w2 ⟨rfl, hb2⟩
          rw [HX.out]
          have hbx := bst BD hb2 BD.size
          replace d0 := cellBelow hb2 (Nat.le_refl _) d0
          replace e0 := cellBelow hb2 (Nat.le_refl _) e0
          replace e1 := cellBelow hb2 (Nat.le_refl _) e1
          replace e2 := cellBelow hb2 (Nat.le_refl _) e2
          replace qu := cellBelow hb2 (Nat.le_refl _) qu
          replace qv := cellBelow hb2 (Nat.le_refl _) qv
          refine hK.out _ _ ⟨d0, e0, e1, e2, qu, qv, hbx⟩ (fun hHeld => ?_)
          clear hK K
          (try simp only [Act.put, List.getElem_toArray, List.getElem_cons_zero, List.getElem_cons_succ, List.setIfInBounds_toArray, List.set_cons_zero, List.set_cons_succ])
          refine wpAnyH_take (i := 5) (v := ?va5x16) rfl (by kernel_rfl) (by kernel_rfl) (by kernel_rfl) (fun _ _ _ h => h) (Or.inl ⟨by rfl, ?hy5x16⟩) (by assumption) ?rest5x16
          case hy5x16 => (intro w hSw; (try dsimp only at hSw); go_simp; try with_reducible rfl)
          (try simp only [Act.put, List.getElem_toArray, List.getElem_cons_zero, List.getElem_cons_succ, List.setIfInBounds_toArray, List.set_cons_zero, List.set_cons_succ])
          refine wpAnyH_take (i := 6) (v := ?va6x17) rfl (by kernel_rfl) (by kernel_rfl) (by kernel_rfl) (fun _ _ _ h => h) (Or.inl ⟨by rfl, ?hy6x17⟩) (by assumption) ?rest6x17
          case hy6x17 => (intro w hSw; (try dsimp only at hSw); go_simp; try with_reducible rfl)
          (try simp only [Act.put, List.getElem_toArray, List.getElem_cons_zero, List.getElem_cons_succ, List.setIfInBounds_toArray, List.set_cons_zero, List.set_cons_succ])
          refine wpAnyH_take (i := 7) (v := ?va7x18) rfl (by kernel_rfl) (by kernel_rfl) (by kernel_rfl) (fun _ _ _ h => h) (Or.inl ⟨by rfl, ?hy7x18⟩) (by assumption) ?rest7x18
          case hy7x18 => (intro w hSw; (try dsimp only at hSw); go_simp; try with_reducible rfl)
          (try simp only [Act.put, List.getElem_toArray, List.getElem_cons_zero, List.getElem_cons_succ, List.setIfInBounds_toArray, List.set_cons_zero, List.set_cons_succ])
          refine wpAnyH_take (i := 8) (v := ?va8x19) rfl (by kernel_rfl) (by kernel_rfl) (by kernel_rfl) (fun _ _ _ h => h) (Or.inl ⟨by rfl, ?hy8x19⟩) (by assumption) ?rest8x19
          case hy8x19 => (intro w hSw; (try dsimp only at hSw); go_simp; try with_reducible rfl)
          (try simp only [Act.put, List.getElem_toArray, List.getElem_cons_zero, List.getElem_cons_succ, List.setIfInBounds_toArray, List.set_cons_zero, List.set_cons_succ])
          refine wpAnyH_take (i := 9) (v := ?va9x20) rfl (by kernel_rfl) (by kernel_rfl) (by kernel_rfl) (fun _ _ _ h => h) (Or.inl ⟨by rfl, ?hy9x20⟩) (by assumption) ?rest9x20
          case hy9x20 => (intro w hSw; (try dsimp only at hSw); go_simp; try with_reducible rfl)
          (try simp only [Act.put, List.getElem_toArray, List.getElem_cons_zero, List.getElem_cons_succ, List.setIfInBounds_toArray, List.set_cons_zero, List.set_cons_succ])
          refine wpAnyH_take (i := 10) (v := ?va10x21) rfl (by kernel_rfl) (by kernel_rfl) (by kernel_rfl) (fun _ _ _ h => h) (Or.inl ⟨by rfl, ?hy10x21⟩) (by assumption) ?rest10x21
          case hy10x21 => (intro w hSw; (try dsimp only at hSw); go_simp; try with_reducible rfl)
          (try simp only [Act.put, List.getElem_toArray, List.getElem_cons_zero, List.getElem_cons_succ, List.setIfInBounds_toArray, List.set_cons_zero, List.set_cons_succ])
          refine wpAnyH_take (i := 11) (v := ?va11x22) rfl (by kernel_rfl) (by kernel_rfl) (by kernel_rfl) (fun _ _ _ h => h) (Or.inl ⟨by rfl, ?hy11x22⟩) (by assumption) ?rest11x22
          case hy11x22 => (intro w hSw; (try dsimp only at hSw); go_simp; try with_reducible rfl)
          (try simp only [Act.put, List.getElem_toArray, List.getElem_cons_zero, List.getElem_cons_succ, List.setIfInBounds_toArray, List.set_cons_zero, List.set_cons_succ])
          refine wpAnyH_take (i := 12) (v := ?va12x23) rfl (by kernel_rfl) (by kernel_rfl) (by kernel_rfl) (fun _ _ _ h => h) (Or.inl ⟨by rfl, ?hy12x23⟩) (by assumption) ?rest12x23
          case hy12x23 => (intro w hSw; (try dsimp only at hSw); go_simp; try with_reducible rfl)
          (try simp only [Act.put, List.getElem_toArray, List.getElem_cons_zero, List.getElem_cons_succ, List.setIfInBounds_toArray, List.set_cons_zero, List.set_cons_succ])
          refine wpAnyH_take (i := 13) (v := ?va13x24) rfl (by kernel_rfl) (by kernel_rfl) (by kernel_rfl) (fun _ _ _ h => h) (Or.inl ⟨by rfl, ?hy13x24⟩) (by assumption) ?rest13x24
          case hy13x24 => (intro w hSw; (try dsimp only at hSw); go_simp; try with_reducible rfl)
          (try simp only [Act.put, List.getElem_toArray, List.getElem_cons_zero, List.getElem_cons_succ, List.setIfInBounds_toArray, List.set_cons_zero, List.set_cons_succ])
          refine wpAnyH_take (i := 14) (v := ?va14x25) rfl (by kernel_rfl) (by kernel_rfl) (by kernel_rfl) (fun _ _ _ h => h) (Or.inl ⟨by rfl, ?hy14x25⟩) (by assumption) ?rest14x25
          case hy14x25 => (intro w hSw; (try dsimp only at hSw); go_simp; try with_reducible rfl)
          (try simp only [Act.put, List.getElem_toArray, List.getElem_cons_zero, List.getElem_cons_succ, List.setIfInBounds_toArray, List.set_cons_zero, List.set_cons_succ])
          refine wpAnyH_take (i := 15) (v := ?va15x26) rfl (by kernel_rfl) (by kernel_rfl) (by kernel_rfl) (fun _ _ _ h => h) (Or.inl ⟨by rfl, ?hy15x26⟩) (by assumption) ?rest15x26
          case hy15x26 => (intro w hSw; (try dsimp only at hSw); go_simp; try with_reducible rfl)
          (try simp only [Act.put, List.getElem_toArray, List.getElem_cons_zero, List.getElem_cons_succ, List.setIfInBounds_toArray, List.set_cons_zero, List.set_cons_succ])
          refine wpAnyH_take (i := 16) (v := ?va16x27) rfl (by kernel_rfl) (by kernel_rfl) (by kernel_rfl) (fun _ _ _ h => h) (Or.inl ⟨by rfl, ?hy16x27⟩) (by assumption) ?rest16x27
          case hy16x27 => (intro w hSw; (try dsimp only at hSw); go_simp; try with_reducible rfl)
          (try simp only [Act.put, List.getElem_toArray, List.getElem_cons_zero, List.getElem_cons_succ, List.setIfInBounds_toArray, List.set_cons_zero, List.set_cons_succ])
          refine wpAnyH_ready (rs := [17]) (by kernel_rfl) (by simp) ?_
          refine AllReadyH.cons rfl (fun K hK => ?_) AllReadyH.nil
          go_simp
          refine (HEQ.out _ hbx).mono ?_
          rintro e w3 ⟨rfl, nd, rfl⟩
          replace hbx := below_drewN hbx nd
          have d0z : (w2.drewN nd).cell? ⟨w.heap.size, 0, none⟩ = some (.slice (some ⟨gf, of, none⟩) n fc) := d0
          have e0z : (w2.drewN nd).cell? ⟨w.heap.size + 1, 0, none⟩ = some (.slice (some ⟨gg, og, none⟩) m gc) := e0
          have e1z : (w2.drewN nd).cell? ⟨w.heap.size + 1, 1, none⟩ = some (.slice la ml lc) := e1
          have e2z : (w2.drewN nd).cell? ⟨w.heap.size + 1, 2, none⟩ = some (.slice ra mr rc) := e2
          have quz : (w2.drewN nd).cell? ⟨gf, of + k, none⟩ = some (.slice ua lx uc) := qu
          have qvz : (w2.drewN nd).cell? ⟨gg, og + k, none⟩ = some (.slice va ly vc) := qv
          refine hK.out _ _ ⟨d0z, e0z, e1z, e2z, quz, qvz, hbx⟩ (fun hHeld => ?_)
          clear hK K
          (try simp only [Act.put, List.getElem_toArray, List.getElem_cons_zero, List.getElem_cons_succ, List.setIfInBounds_toArray, List.set_cons_zero, List.set_cons_succ])
          refine wpAnyH_take (i := 18) (v := ?va18x28) rfl (by kernel_rfl) (by kernel_rfl) (by kernel_rfl) (fun _ _ _ h => h) (Or.inl ⟨by rfl, ?hy18x28⟩) (by assumption) ?rest18x28
          case hy18x28 => (intro w hSw; (try dsimp only at hSw); go_simp; try with_reducible rfl)
          (try simp only [Act.put, List.getElem_toArray, List.getElem_cons_zero, List.getElem_cons_succ, List.setIfInBounds_toArray, List.set_cons_zero, List.set_cons_succ])
          refine wpAnyH_take (i := 19) (v := ?va19x29) rfl (by kernel_rfl) (by kernel_rfl) (by kernel_rfl) (fun _ _ _ h => h) (Or.inl ⟨by rfl, ?hy19x29⟩) (by assumption) ?rest19x29
          case hy19x29 => (intro w hSw; (try dsimp only at hSw); go_simp; try with_reducible rfl)
          (try simp only [Act.put, List.getElem_toArray, List.getElem_cons_zero, List.getElem_cons_succ, List.setIfInBounds_toArray, List.set_cons_zero, List.set_cons_succ])
          refine wpAnyH_take (i := 20) (v := ?va20x30) rfl (by kernel_rfl) (by kernel_rfl) (by kernel_rfl) (fun _ _ _ h => h) (Or.inl ⟨by rfl, ?hy20x30⟩) (by assumption) ?rest20x30
          case hy20x30 => (intro w hSw; (try dsimp only at hSw); go_simp; try with_reducible rfl)
          (try simp only [Act.put, List.getElem_toArray, List.getElem_cons_zero, List.getElem_cons_succ, List.setIfInBounds_toArray, List.set_cons_zero, List.set_cons_succ])
          refine wpAnyH_done (by kernel_rfl) ?_ _
          cases dq
          · have HE : Hid (sfB x y ts n = false) := HF.out rfl
            go_wp2_with fail
            go_ret
            exact ⟨r_b HE.out.symm, bst BW.out hbx BW.out.size⟩
          · have HE : Hid (sfB x y ts (k + 1) = true) := by unfold Hid; rw [HS.out]; rfl
            go_wp2_with fail
            go_roundw
            case rel => exact ⟨k + 1, by omega, by go_num, HE, bst HBR.out hbx HBR.out.size⟩
            case measure => simp [intOf]; omega
    · obtain rfl : k = n := by omega
      go_wp2_with fail
      go_ret
      exact ⟨r_b ht.out.symm, BW.out⟩
end Go.Proofs.Ytkkigoamphkalaa
namespace Go.Proofs.Ytkkigoamphkalaa.Ph
theorem sfB_same {a b : H} (ga : Ph.Good a) (gb : Ph.Good b) (hr : a.r = b.r) : sfB a b (reachL a.f a.r) a.f.length = sameP a b := by
  rw [Bool.eq_iff_iff, sameP_iff]
  unfold sfB
  rw [List.all_eq_true]
  constructor
  · intro h
    refine same_of hr fun k hk => ?_
    have hl := reach_live ga hk
    have h1 := h k (by simpa using hl.2)
    rw [reachL_getD.2 ⟨hl.2, hk⟩] at h1
    simp only [Bool.not_true, Bool.false_or, Bool.and_eq_true, decide_eq_true_eq] at h1
    exact h1.2
  · rintro ⟨_, hs⟩ k hk
    by_cases hq : (reachL a.f a.r).getD k false = true
    · have hrk := (reachL_getD.1 hq).2
      have hl := reach_live gb ((hs k).1.1 hrk)
      rw [hq]
      simp only [Bool.not_true, Bool.false_or, Bool.and_eq_true, decide_eq_true_eq]
      exact ⟨liveB_iff.2 ⟨by omega, by simpa using hl.1⟩, (hs k).2 hrk⟩
    · have : (reachL a.f a.r).getD k false = false := by simpa using hq
      rw [this]; rfl
theorem sameP_roots {a b : H} (h : ¬ a.r = b.r) : sameP a b = false := sameP_false fun k => h k.1
def both (a b : H) : Bool := good a && good b
noncomputable def sameQ (a b : H) : Bool := both a b && sameP a b
end Go.Proofs.Ytkkigoamphkalaa.Ph
namespace Go.Proofs.Ytkkigoamphkalaa
open Go.RowKit Ph

theorem r_bb {a a' b b' : Bool} (h : a = a') (k : b = b') : Ending.returned (.tuple #[.bool a, .bool b]) = .returned (.tuple #[.bool a', .bool b']) := by rw [h, k]
set_option maxRecDepth 100000 in
set_option maxHeartbeats 6400000 in
theorem c_SameReached (a1 b1 c1 a2 b2 c2 : Value) (x y : H) (w : World) (hA : HeapAt w a1 b1 c1 x) (hB : HeapAt w a2 b2 c2 y) :
    Calls Try.prog 32 #[hv a1 b1 c1, hv a2 b2 c2] w fun e w' => e = .returned (.tuple #[.bool (sameQ x y), .bool (both x y)]) ∧ Below w.heap.size w w' := by
  have hb0 := (below1 w (.cells (c3 a1 b1 c1) 30)).alloc (by simp) (.cells (c3 a2 b2 c2) 30)
  have A0 := Lib.hid (hA.below hb0); have B0 := Lib.hid (hB.below hb0)
  have HB := Lib.hid hb0
  have P0 := Lib.hid (show RowH _ _ a1 b1 c1 from (Row.new w 30 (c3 a1 b1 c1)).alloc (.cells (c3 a2 b2 c2) 30))
  have Q0 := Lib.hid (show RowH _ (w.heap.size + 1) a2 b2 c2 from Row.new1 w (.cells (c3 a1 b1 c1) 30) 30 (c3 a2 b2 c2))
  have GA := Lib.hid (good_iff (h := x)).1; have GB := Lib.hid (good_iff (h := y)).1
  have h2 : both x y = (good x && good y) := rfl
  have h1 : sameQ x y = ((good x && good y) && sameP x y) := rfl
  have HCA : Hid (∀ w', HeapAt w' a1 b1 c1 x → Calls Try.prog 55 #[hv a1 b1 c1] w' fun e w'' => e = .returned (.bool (good x)) ∧ Below w'.heap.size w' w'') := fun w' h => c_GoodHeap a1 b1 c1 x w' h
  have HCB : Hid (∀ w', HeapAt w' a2 b2 c2 y → Calls Try.prog 55 #[hv a2 b2 c2] w' fun e w'' => e = .returned (.bool (good y)) ∧ Below w'.heap.size w' w'') := fun w' h => c_GoodHeap a2 b2 c2 y w' h
  have p0 := P0.out.c0
  have p1 := P0.out.c1
  have p2 := P0.out.c2
  have q0 := Q0.out.c0
  have q1 := Q0.out.c1
  have q2 := Q0.out.c2
  generalize both x y = r2 at *
  generalize sameQ x y = r1 at *
  generalize good x = gx at *
  generalize good y = gy at *
  cases gx
  · have H1 : Hid (r1 = false) := by unfold Hid; rw [h1]; rfl
    have H2 : Hid (r2 = false) := by unfold Hid; rw [h2]; rfl
    clear h1 h2 hA hB
    go_enter Try.func32, Try.ntmps32
    go_wp2_with (go_at_call 55; refine (HCA.out _ A0.out).mono ?_; rintro e w1 ⟨rfl, hb1⟩; have B1 := Lib.hid (bst HB.out hb1 HB.out.size); clear hb1)
    go_ret2
    exact ⟨r_bb H1.out.symm H2.out.symm, B1.out⟩
  · cases gy
    · have H1 : Hid (r1 = false) := by unfold Hid; rw [h1]; rfl
      have H2 : Hid (r2 = false) := by unfold Hid; rw [h2]; rfl
      clear h1 h2 hA hB
      go_enter Try.func32, Try.ntmps32
      go_wp2_with (first
        | (go_at_call 55; refine (HCB.out _ Y1.out).mono ?_; rintro e w2 ⟨rfl, hb2⟩; have B2 := Lib.hid (bst B1.out hb2 B1.out.size); clear hb2)
        | (go_at_call 55; refine (HCA.out _ A0.out).mono ?_; rintro e w1 ⟨rfl, hb1⟩; have B1 := Lib.hid (bst HB.out hb1 HB.out.size); have Y1 := Lib.hid (B0.out.below hb1); have Q1 := Lib.hid (Q0.out.below hb1); have s0 := Q1.out.c0; have s1 := Q1.out.c1; have s2 := Q1.out.c2; clear hb1))
      go_ret2
      exact ⟨r_bb H1.out.symm H2.out.symm, B2.out⟩
    · have H2 : Hid (r2 = true) := by unfold Hid; rw [h2]; rfl
      have H1 : Hid (r1 = sameP x y) := by unfold Hid; rw [h1]; rfl
      have GX := Lib.hid (GA.out rfl); have GY := Lib.hid (GB.out rfl)
      obtain ⟨fa, fc, rfl⟩ := hA.f.shape
      obtain ⟨la, lc, rfl⟩ := hA.l.shape
      obtain ⟨ra, rc, rfl⟩ := hA.r.shape
      obtain ⟨ga, gc, rfl⟩ := hB.f.shape
      obtain ⟨ma, mc, rfl⟩ := hB.l.shape
      obtain ⟨sa, sc, rfl⟩ := hB.r.shape
      clear h1 h2 hA hB
      go_enter Try.func32, Try.ntmps32
      go_wp2_with (first
        | (go_at_call 55; refine (HCB.out _ Y1.out).mono ?_; rintro e w2 ⟨rfl, hb2⟩; have B2 := Lib.hid (bst B1.out hb2 B1.out.size); have X2 := Lib.hid (X1.out.below hb2); have Y2 := Lib.hid (Y1.out.below hb2); have P2 := Lib.hid (P1.out.below hb2); have Q2 := Lib.hid (Q1.out.below hb2); clear hb2)
        | (go_at_call 55; refine (HCA.out _ A0.out).mono ?_; rintro e w1 ⟨rfl, hb1⟩; have B1 := Lib.hid (bst HB.out hb1 HB.out.size); have X1 := Lib.hid (A0.out.below hb1); have Y1 := Lib.hid (B0.out.below hb1); have P1 := Lib.hid (P0.out.below hb1); have Q1 := Lib.hid (Q0.out.below hb1); have s0 := Q1.out.c0; have s1 := Q1.out.c1; have s2 := Q1.out.c2; clear hb1))
      clear p0 p1 p2 q0 q1 q2 s0 s1 s2
      have BD := below_drew (Below.refl w2.heap.size w2)
      have c0 : w2.drew.cell? ⟨w.heap.size, 0, none⟩ = some (.slice fa x.f.length fc) := P2.out.c0
      have c1 : w2.drew.cell? ⟨w.heap.size, 1, none⟩ = some (.slice la x.l.length lc) := P2.out.c1
      have c2 : w2.drew.cell? ⟨w.heap.size, 2, none⟩ = some (.slice ra x.r.length rc) := P2.out.c2
      have d0 : w2.drew.cell? ⟨w.heap.size + 1, 0, none⟩ = some (.slice ga y.f.length gc) := Q2.out.c0
      have d1 : w2.drew.cell? ⟨w.heap.size + 1, 1, none⟩ = some (.slice ma y.l.length mc) := Q2.out.c1
      have d2 : w2.drew.cell? ⟨w.heap.size + 1, 2, none⟩ = some (.slice sa y.r.length sc) := Q2.out.c2
      have HEQ : Hid (∀ w', Below w2.heap.size w2 w' → Calls Try.prog 97 #[.slice ra x.r.length rc, .slice sa y.r.length sc] w' fun e w'' => e = .returned (.bool (decide (x.r = y.r))) ∧ ∃ n, w'' = w'.drewN n) := fun w' hb => c_slEqual _ _ _ _ w' (X2.out.r.below hb) (Y2.out.r.below hb) (by have := GX.out.rn; omega)
      have HSF : Hid (x.r = y.r → sfB x y (reachL x.f x.r) x.f.length = sameP x y) := sfB_same GX.out GY.out
      have HSN : Hid (¬ x.r = y.r → sameP x y = false) := sameP_roots
      by_cases hxy : x.r = y.r
      · have hd : decide (x.r = y.r) = true := decide_eq_true hxy
        have HSP := Lib.hid (HSF.out hxy)
        rw [hd] at HEQ
        clear hd hxy
        refine wp_region_held_drew (S := (fun w' => w'.cell? ⟨w.heap.size, 0, none⟩ = some (.slice fa x.f.length fc) ∧ w'.cell? ⟨w.heap.size, 1, none⟩ = some (.slice la x.l.length lc) ∧ w'.cell? ⟨w.heap.size, 2, none⟩ = some (.slice ra x.r.length rc) ∧ w'.cell? ⟨w.heap.size + 1, 0, none⟩ = some (.slice ga y.f.length gc) ∧ w'.cell? ⟨w.heap.size + 1, 1, none⟩ = some (.slice ma y.l.length mc) ∧ w'.cell? ⟨w.heap.size + 1, 2, none⟩ = some (.slice sa y.r.length sc) ∧ Below w2.heap.size w2 w')) (by kernel_rfl) (⟨c0, c1, c2, d0, d1, d2, BD⟩) (fun hHeld => ?_)
        refine wpAnyH_take (i := 0) (v := ?va0x9) rfl (by kernel_rfl) (by kernel_rfl) (by kernel_rfl) (fun _ _ _ h => h) (Or.inl ⟨by rfl, ?hy0x9⟩) (by assumption) ?rest0x9
        case hy0x9 => (intro w hSw; (try dsimp only at hSw); go_simp; try with_reducible rfl)
        (try simp only [Act.put, List.getElem_toArray, List.getElem_cons_zero, List.setIfInBounds_toArray, List.set_cons_zero, List.set_cons_succ])
        refine wpAnyH_take (i := 1) (v := ?va1x10) rfl (by kernel_rfl) (by kernel_rfl) (by kernel_rfl) (fun _ _ _ h => h) (Or.inl ⟨by rfl, ?hy1x10⟩) (by assumption) ?rest1x10
        case hy1x10 => (intro w hSw; (try dsimp only at hSw); go_simp; try with_reducible rfl)
        (try simp only [Act.put, List.getElem_toArray, List.getElem_cons_zero, List.getElem_cons_succ, List.setIfInBounds_toArray, List.set_cons_zero, List.set_cons_succ])
        refine wpAnyH_take (i := 2) (v := ?va2x11) rfl (by kernel_rfl) (by kernel_rfl) (by kernel_rfl) (fun _ _ _ h => h) (Or.inl ⟨by rfl, ?hy2x11⟩) (by assumption) ?rest2x11
        case hy2x11 => (intro w hSw; (try dsimp only at hSw); go_simp; try with_reducible rfl)
        (try simp only [Act.put, List.getElem_toArray, List.getElem_cons_zero, List.getElem_cons_succ, List.setIfInBounds_toArray, List.set_cons_zero, List.set_cons_succ])
        refine wpAnyH_take (i := 3) (v := ?va3x12) rfl (by kernel_rfl) (by kernel_rfl) (by kernel_rfl) (fun _ _ _ h => h) (Or.inl ⟨by rfl, ?hy3x12⟩) (by assumption) ?rest3x12
        case hy3x12 => (intro w hSw; (try dsimp only at hSw); go_simp; try with_reducible rfl)
        (try simp only [Act.put, List.getElem_toArray, List.getElem_cons_zero, List.getElem_cons_succ, List.setIfInBounds_toArray, List.set_cons_zero, List.set_cons_succ])
        refine wpAnyH_ready (rs := [4]) (by kernel_rfl) (by simp) ?_
        refine AllReadyH.cons rfl (fun K hK => ?_) AllReadyH.nil
        go_simp
        refine (HEQ.out _ BD).mono ?_
        rintro e w3 ⟨rfl, nd, rfl⟩
        have hbx := below_drewN BD nd
        replace c0 : (w2.drew.drewN nd).cell? ⟨w.heap.size, 0, none⟩ = some (.slice fa x.f.length fc) := c0
        replace c1 : (w2.drew.drewN nd).cell? ⟨w.heap.size, 1, none⟩ = some (.slice la x.l.length lc) := c1
        replace c2 : (w2.drew.drewN nd).cell? ⟨w.heap.size, 2, none⟩ = some (.slice ra x.r.length rc) := c2
        replace d0 : (w2.drew.drewN nd).cell? ⟨w.heap.size + 1, 0, none⟩ = some (.slice ga y.f.length gc) := d0
        replace d1 : (w2.drew.drewN nd).cell? ⟨w.heap.size + 1, 1, none⟩ = some (.slice ma y.l.length mc) := d1
        replace d2 : (w2.drew.drewN nd).cell? ⟨w.heap.size + 1, 2, none⟩ = some (.slice sa y.r.length sc) := d2
        refine hK.out _ _ ⟨c0, c1, c2, d0, d1, d2, hbx⟩ (fun hHeld => ?_)
        clear hK K
        (try simp only [Act.put, List.getElem_toArray, List.getElem_cons_zero, List.getElem_cons_succ, List.setIfInBounds_toArray, List.set_cons_zero, List.set_cons_succ])
        generalize w2.drew.drewN nd = w3 at *
        refine wpAnyH_take (i := 5) (v := ?va5x13) rfl (by kernel_rfl) (by kernel_rfl) (by kernel_rfl) (fun _ _ _ h => h) (Or.inl ⟨by rfl, ?hy5x13⟩) (by assumption) ?rest5x13
        case hy5x13 => (intro w hSw; (try dsimp only at hSw); go_simp; try with_reducible rfl)
        (try simp only [Act.put, List.getElem_toArray, List.getElem_cons_zero, List.getElem_cons_succ, List.setIfInBounds_toArray, List.set_cons_zero, List.set_cons_succ])
        refine wpAnyH_take (i := 6) (v := ?va6x14) rfl (by kernel_rfl) (by kernel_rfl) (by kernel_rfl) (fun _ _ _ h => h) (Or.inl ⟨by rfl, ?hy6x14⟩) (by assumption) ?rest6x14
        case hy6x14 => (intro w hSw; (try dsimp only at hSw); go_simp; try with_reducible rfl)
        (try simp only [Act.put, List.getElem_toArray, List.getElem_cons_zero, List.getElem_cons_succ, List.setIfInBounds_toArray, List.set_cons_zero, List.set_cons_succ])
        refine wpAnyH_take (i := 7) (v := ?va7x15) rfl (by kernel_rfl) (by kernel_rfl) (by kernel_rfl) (fun _ _ _ h => h) (Or.inl ⟨by rfl, ?hy7x15⟩) (by assumption) ?rest7x15
        case hy7x15 => (intro w hSw; (try dsimp only at hSw); go_simp; try with_reducible rfl)
        (try simp only [Act.put, List.getElem_toArray, List.getElem_cons_zero, List.getElem_cons_succ, List.setIfInBounds_toArray, List.set_cons_zero, List.set_cons_succ])
        refine wpAnyH_take (i := 8) (v := ?va8x16) rfl (by kernel_rfl) (by kernel_rfl) (by kernel_rfl) (fun _ _ _ h => h) (Or.inl ⟨by rfl, ?hy8x16⟩) (by assumption) ?rest8x16
        case hy8x16 => (intro w hSw; (try dsimp only at hSw); go_simp; try with_reducible rfl)
        (try simp only [Act.put, List.getElem_toArray, List.getElem_cons_zero, List.getElem_cons_succ, List.setIfInBounds_toArray, List.set_cons_zero, List.set_cons_succ])
        refine wpAnyH_take (i := 9) (v := ?va9x17) rfl (by kernel_rfl) (by kernel_rfl) (by kernel_rfl) (fun _ _ _ h => h) (Or.inl ⟨by rfl, ?hy9x17⟩) (by assumption) ?rest9x17
        case hy9x17 => (intro w hSw; (try dsimp only at hSw); go_simp; try with_reducible rfl)
        (try simp only [Act.put, List.getElem_toArray, List.getElem_cons_zero, List.getElem_cons_succ, List.setIfInBounds_toArray, List.set_cons_zero, List.set_cons_succ])
        refine wpAnyH_take (i := 10) (v := ?va10x18) rfl (by kernel_rfl) (by kernel_rfl) (by kernel_rfl) (fun _ _ _ h => h) (Or.inl ⟨by rfl, ?hy10x18⟩) (by assumption) ?rest10x18
        case hy10x18 => (intro w hSw; (try dsimp only at hSw); go_simp; try with_reducible rfl)
        (try simp only [Act.put, List.getElem_toArray, List.getElem_cons_zero, List.getElem_cons_succ, List.setIfInBounds_toArray, List.set_cons_zero, List.set_cons_succ])
        refine wpAnyH_ready (rs := [11]) (by kernel_rfl) (by simp) ?_
        refine AllReadyH.cons rfl (fun K hK => ?_) AllReadyH.nil
        go_simp
        refine (c_reachedOver _ _ _ _ x x.r _ (X2.out.below hbx) GX.out (X2.out.r.below hbx) (by have := GX.out.rn; omega) (fun z hz => (refs_bound GX.out GX.out.rr z hz).imp id (fun h => ⟨h.1, h.2.1⟩))).mono ?_
        rintro e w4 ⟨kv, rfl, hok, hb4⟩
        replace hbx := bst hbx hb4 hbx.size
        replace c0 := cellBelow hb4 (Nat.le_refl _) c0
        replace c1 := cellBelow hb4 (Nat.le_refl _) c1
        replace c2 := cellBelow hb4 (Nat.le_refl _) c2
        replace d0 := cellBelow hb4 (Nat.le_refl _) d0
        replace d1 := cellBelow hb4 (Nat.le_refl _) d1
        replace d2 := cellBelow hb4 (Nat.le_refl _) d2
        obtain ⟨pk, qk, hpk⟩ := (owns_bools hok).shape
        subst hpk
        have KB := Lib.hid (owns_bools hok)
        clear hok hb4
        refine hK.out _ _ ⟨c0, c1, c2, d0, d1, d2, hbx⟩ (fun hHeld => ?_)
        clear hK K
        (try simp only [Act.put, List.getElem_toArray, List.getElem_cons_zero, List.getElem_cons_succ, List.setIfInBounds_toArray, List.set_cons_zero, List.set_cons_succ])
        refine wpAnyH_ready (rs := [12]) (by kernel_rfl) (by simp) ?_
        refine AllReadyH.cons rfl (fun K hK => ?_) AllReadyH.nil
        go_simp
        refine (c_sameFields _ _ _ _ _ _ _ x y (reachL x.f x.r) _ (X2.out.below hbx) (Y2.out.below hbx) KB.out GX.out GY.out (reachL_length _ _)).mono ?_
        rintro e w5 ⟨rfl, hb5⟩
        replace hbx := bst hbx hb5 hbx.size
        replace c0 := cellBelow hb5 (Nat.le_refl _) c0
        replace c1 := cellBelow hb5 (Nat.le_refl _) c1
        replace c2 := cellBelow hb5 (Nat.le_refl _) c2
        replace d0 := cellBelow hb5 (Nat.le_refl _) d0
        replace d1 := cellBelow hb5 (Nat.le_refl _) d1
        replace d2 := cellBelow hb5 (Nat.le_refl _) d2
        refine hK.out _ _ ⟨c0, c1, c2, d0, d1, d2, hbx⟩ (fun hHeld => ?_)
        clear hK K hb5
        (try simp only [Act.put, List.getElem_toArray, List.getElem_cons_zero, List.getElem_cons_succ, List.setIfInBounds_toArray, List.set_cons_zero, List.set_cons_succ])
        refine wpAnyH_take (i := 13) (v := ?va13x19) rfl (by kernel_rfl) (by kernel_rfl) (by kernel_rfl) (fun _ _ _ h => h) (Or.inl ⟨by rfl, ?hy13x19⟩) (by assumption) ?rest13x19
        case hy13x19 => (intro w hSw; (try dsimp only at hSw); go_simp; try with_reducible rfl)
        (try simp only [Act.put, List.getElem_toArray, List.getElem_cons_zero, List.getElem_cons_succ, List.setIfInBounds_toArray, List.set_cons_zero, List.set_cons_succ])
        refine wpAnyH_take (i := 14) (v := ?va14x20) rfl (by kernel_rfl) (by kernel_rfl) (by kernel_rfl) (fun _ _ _ h => h) (Or.inl ⟨by rfl, ?hy14x20⟩) (by assumption) ?rest14x20
        case hy14x20 => (intro w hSw; (try dsimp only at hSw); go_simp; try with_reducible rfl)
        (try simp only [Act.put, List.getElem_toArray, List.getElem_cons_zero, List.getElem_cons_succ, List.setIfInBounds_toArray, List.set_cons_zero, List.set_cons_succ])
        refine wpAnyH_take (i := 15) (v := ?va15x21) rfl (by kernel_rfl) (by kernel_rfl) (by kernel_rfl) (fun _ _ _ h => h) (Or.inl ⟨by rfl, ?hy15x21⟩) (by assumption) ?rest15x21
        case hy15x21 => (intro w hSw; (try dsimp only at hSw); go_simp; try with_reducible rfl)
        (try simp only [Act.put, List.getElem_toArray, List.getElem_cons_zero, List.getElem_cons_succ, List.setIfInBounds_toArray, List.set_cons_zero, List.set_cons_succ])
        refine wpAnyH_done (by kernel_rfl) ?_ _
        go_wp2_with fail
        go_ret2
        exact ⟨r_bb (HSP.out.trans H1.out.symm) H2.out.symm, bst B2.out hbx B2.out.size⟩
      · have hd : decide (x.r = y.r) = false := decide_eq_false hxy
        have HSP := Lib.hid (HSN.out hxy)
        rw [hd] at HEQ
        clear hd hxy
        refine wp_region_held_drew (S := (fun w' => w'.cell? ⟨w.heap.size, 0, none⟩ = some (.slice fa x.f.length fc) ∧ w'.cell? ⟨w.heap.size, 1, none⟩ = some (.slice la x.l.length lc) ∧ w'.cell? ⟨w.heap.size, 2, none⟩ = some (.slice ra x.r.length rc) ∧ w'.cell? ⟨w.heap.size + 1, 0, none⟩ = some (.slice ga y.f.length gc) ∧ w'.cell? ⟨w.heap.size + 1, 1, none⟩ = some (.slice ma y.l.length mc) ∧ w'.cell? ⟨w.heap.size + 1, 2, none⟩ = some (.slice sa y.r.length sc) ∧ Below w2.heap.size w2 w')) (by kernel_rfl) (⟨c0, c1, c2, d0, d1, d2, BD⟩) (fun hHeld => ?_)
        refine wpAnyH_take (i := 0) (v := ?va0x1) rfl (by kernel_rfl) (by kernel_rfl) (by kernel_rfl) (fun _ _ _ h => h) (Or.inl ⟨by rfl, ?hy0x1⟩) (by assumption) ?rest0x1
        case hy0x1 => (intro w hSw; (try dsimp only at hSw); go_simp; try with_reducible rfl)
        (try simp only [Act.put, List.getElem_toArray, List.getElem_cons_zero, List.setIfInBounds_toArray, List.set_cons_zero, List.set_cons_succ])
        refine wpAnyH_take (i := 1) (v := ?va1x2) rfl (by kernel_rfl) (by kernel_rfl) (by kernel_rfl) (fun _ _ _ h => h) (Or.inl ⟨by rfl, ?hy1x2⟩) (by assumption) ?rest1x2
        case hy1x2 => (intro w hSw; (try dsimp only at hSw); go_simp; try with_reducible rfl)
        (try simp only [Act.put, List.getElem_toArray, List.getElem_cons_zero, List.getElem_cons_succ, List.setIfInBounds_toArray, List.set_cons_zero, List.set_cons_succ])
        refine wpAnyH_take (i := 2) (v := ?va2x3) rfl (by kernel_rfl) (by kernel_rfl) (by kernel_rfl) (fun _ _ _ h => h) (Or.inl ⟨by rfl, ?hy2x3⟩) (by assumption) ?rest2x3
        case hy2x3 => (intro w hSw; (try dsimp only at hSw); go_simp; try with_reducible rfl)
        (try simp only [Act.put, List.getElem_toArray, List.getElem_cons_zero, List.getElem_cons_succ, List.setIfInBounds_toArray, List.set_cons_zero, List.set_cons_succ])
        refine wpAnyH_take (i := 3) (v := ?va3x4) rfl (by kernel_rfl) (by kernel_rfl) (by kernel_rfl) (fun _ _ _ h => h) (Or.inl ⟨by rfl, ?hy3x4⟩) (by assumption) ?rest3x4
        case hy3x4 => (intro w hSw; (try dsimp only at hSw); go_simp; try with_reducible rfl)
        (try simp only [Act.put, List.getElem_toArray, List.getElem_cons_zero, List.getElem_cons_succ, List.setIfInBounds_toArray, List.set_cons_zero, List.set_cons_succ])
        refine wpAnyH_ready (rs := [4]) (by kernel_rfl) (by simp) ?_
        refine AllReadyH.cons rfl (fun K hK => ?_) AllReadyH.nil
        go_simp
        refine (HEQ.out _ BD).mono ?_
        rintro e w3 ⟨rfl, nd, rfl⟩
        have hbx := below_drewN BD nd
        replace c0 : (w2.drew.drewN nd).cell? ⟨w.heap.size, 0, none⟩ = some (.slice fa x.f.length fc) := c0
        replace c1 : (w2.drew.drewN nd).cell? ⟨w.heap.size, 1, none⟩ = some (.slice la x.l.length lc) := c1
        replace c2 : (w2.drew.drewN nd).cell? ⟨w.heap.size, 2, none⟩ = some (.slice ra x.r.length rc) := c2
        replace d0 : (w2.drew.drewN nd).cell? ⟨w.heap.size + 1, 0, none⟩ = some (.slice ga y.f.length gc) := d0
        replace d1 : (w2.drew.drewN nd).cell? ⟨w.heap.size + 1, 1, none⟩ = some (.slice ma y.l.length mc) := d1
        replace d2 : (w2.drew.drewN nd).cell? ⟨w.heap.size + 1, 2, none⟩ = some (.slice sa y.r.length sc) := d2
        refine hK.out _ _ ⟨c0, c1, c2, d0, d1, d2, hbx⟩ (fun hHeld => ?_)
        clear hK K
        (try simp only [Act.put, List.getElem_toArray, List.getElem_cons_zero, List.getElem_cons_succ, List.setIfInBounds_toArray, List.set_cons_zero, List.set_cons_succ])
        generalize w2.drew.drewN nd = w3 at *
        refine wpAnyH_take (i := 5) (v := ?va5x5) rfl (by kernel_rfl) (by kernel_rfl) (by kernel_rfl) (fun _ _ _ h => h) (Or.inl ⟨by rfl, ?hy5x5⟩) (by assumption) ?rest5x5
        case hy5x5 => (intro w hSw; (try dsimp only at hSw); go_simp; try with_reducible rfl)
        (try simp only [Act.put, List.getElem_toArray, List.getElem_cons_zero, List.getElem_cons_succ, List.setIfInBounds_toArray, List.set_cons_zero, List.set_cons_succ])
        refine wpAnyH_take (i := 6) (v := undef) rfl (by kernel_rfl) (by kernel_rfl) (by kernel_rfl) (fun _ _ _ h => h) (Or.inr ⟨by rfl, rfl⟩) (by assumption) ?_
        (try simp only [Act.put, List.getElem_toArray, List.getElem_cons_zero, List.getElem_cons_succ, List.setIfInBounds_toArray, List.set_cons_zero, List.set_cons_succ])
        refine wpAnyH_take (i := 7) (v := undef) rfl (by kernel_rfl) (by kernel_rfl) (by kernel_rfl) (fun _ _ _ h => h) (Or.inr ⟨by rfl, rfl⟩) (by assumption) ?_
        (try simp only [Act.put, List.getElem_toArray, List.getElem_cons_zero, List.getElem_cons_succ, List.setIfInBounds_toArray, List.set_cons_zero, List.set_cons_succ])
        refine wpAnyH_take (i := 8) (v := undef) rfl (by kernel_rfl) (by kernel_rfl) (by kernel_rfl) (fun _ _ _ h => h) (Or.inr ⟨by rfl, rfl⟩) (by assumption) ?_
        (try simp only [Act.put, List.getElem_toArray, List.getElem_cons_zero, List.getElem_cons_succ, List.setIfInBounds_toArray, List.set_cons_zero, List.set_cons_succ])
        refine wpAnyH_take (i := 9) (v := undef) rfl (by kernel_rfl) (by kernel_rfl) (by kernel_rfl) (fun _ _ _ h => h) (Or.inr ⟨by rfl, rfl⟩) (by assumption) ?_
        (try simp only [Act.put, List.getElem_toArray, List.getElem_cons_zero, List.getElem_cons_succ, List.setIfInBounds_toArray, List.set_cons_zero, List.set_cons_succ])
        refine wpAnyH_take (i := 10) (v := undef) rfl (by kernel_rfl) (by kernel_rfl) (by kernel_rfl) (fun _ _ _ h => h) (Or.inr ⟨by rfl, rfl⟩) (by assumption) ?_
        (try simp only [Act.put, List.getElem_toArray, List.getElem_cons_zero, List.getElem_cons_succ, List.setIfInBounds_toArray, List.set_cons_zero, List.set_cons_succ])
        refine wpAnyH_take (i := 11) (v := undef) rfl (by kernel_rfl) (by kernel_rfl) (by kernel_rfl) (fun _ _ _ h => h) (Or.inr ⟨by rfl, rfl⟩) (by assumption) ?_
        (try simp only [Act.put, List.getElem_toArray, List.getElem_cons_zero, List.getElem_cons_succ, List.setIfInBounds_toArray, List.set_cons_zero, List.set_cons_succ])
        refine wpAnyH_take (i := 12) (v := undef) rfl (by kernel_rfl) (by kernel_rfl) (by kernel_rfl) (fun _ _ _ h => h) (Or.inr ⟨by rfl, rfl⟩) (by assumption) ?_
        (try simp only [Act.put, List.getElem_toArray, List.getElem_cons_zero, List.getElem_cons_succ, List.setIfInBounds_toArray, List.set_cons_zero, List.set_cons_succ])
        refine wpAnyH_take (i := 13) (v := ?va13x6) rfl (by kernel_rfl) (by kernel_rfl) (by kernel_rfl) (fun _ _ _ h => h) (Or.inl ⟨by rfl, ?hy13x6⟩) (by assumption) ?rest13x6
        case hy13x6 => (intro w hSw; (try dsimp only at hSw); go_simp; try with_reducible rfl)
        (try simp only [Act.put, List.getElem_toArray, List.getElem_cons_zero, List.getElem_cons_succ, List.setIfInBounds_toArray, List.set_cons_zero, List.set_cons_succ])
        refine wpAnyH_take (i := 14) (v := ?va14x7) rfl (by kernel_rfl) (by kernel_rfl) (by kernel_rfl) (fun _ _ _ h => h) (Or.inl ⟨by rfl, ?hy14x7⟩) (by assumption) ?rest14x7
        case hy14x7 => (intro w hSw; (try dsimp only at hSw); go_simp; try with_reducible rfl)
        (try simp only [Act.put, List.getElem_toArray, List.getElem_cons_zero, List.getElem_cons_succ, List.setIfInBounds_toArray, List.set_cons_zero, List.set_cons_succ])
        refine wpAnyH_take (i := 15) (v := ?va15x8) rfl (by kernel_rfl) (by kernel_rfl) (by kernel_rfl) (fun _ _ _ h => h) (Or.inl ⟨by rfl, ?hy15x8⟩) (by assumption) ?rest15x8
        case hy15x8 => (intro w hSw; (try dsimp only at hSw); go_simp; try with_reducible rfl)
        (try simp only [Act.put, List.getElem_toArray, List.getElem_cons_zero, List.getElem_cons_succ, List.setIfInBounds_toArray, List.set_cons_zero, List.set_cons_succ])
        refine wpAnyH_done (by kernel_rfl) ?_ _
        go_wp2_with fail
        go_ret2
        exact ⟨r_bb (HSP.out.symm.trans H1.out.symm) H2.out.symm, bst B2.out hbx B2.out.size⟩
end Go.Proofs.Ytkkigoamphkalaa
namespace Go.Proofs.Ytkkigoamphkalaa.Ph
noncomputable def smO (a b : H) (k : Nat) : Bool := ((reachL a.f a.r).getD k false == (reachL b.f b.r).getD k false) && (!((reachL a.f a.r).getD k false) || @decide (a.f.getD k [] = b.f.getD k []) (Classical.propDecidable _))
noncomputable def smB (a b : H) (n : Nat) : Bool := (List.range n).all (smO a b)
theorem smB_succ {a b : H} {n : Nat} : smB a b (n + 1) = (smB a b n && smO a b n) := by simp [smB, List.range_succ]
theorem smB_same {a b : H} (ga : Ph.Good a) (hr : a.r = b.r) {n : Nat} (h1 : a.f.length ≤ n) (hs : smB a b n = true) : sameP a b = true := by
  refine sameP_iff.2 (same_of hr fun k hk => ?_)
  have hl := reach_live ga hk
  have h3 := (List.all_eq_true.1 hs) k (by simp; omega)
  unfold smO at h3
  rw [reachL_getD.2 ⟨hl.2, hk⟩] at h3
  simp only [Bool.not_true, Bool.false_or, Bool.and_eq_true, decide_eq_true_eq] at h3
  exact h3.2
theorem sm_false {a b : H} (ga : Ph.Good a) (gb : Ph.Good b) {k : Nat} (hn : smO a b k = false) : sameP a b = false := by
  refine sameP_false fun ⟨hr, hs⟩ => ?_
  have : smO a b k = true := by
    unfold smO
    by_cases hq : (reachL a.f a.r).getD k false = true
    · have h1 := (reachL_getD.1 hq).2
      have h3 := (hs k).1.1 h1
      rw [hq, reachL_getD.2 ⟨(reach_live gb h3).2, h3⟩]; simp only [Bool.not_true, Bool.false_or, Bool.and_eq_true, decide_eq_true_eq]; exact ⟨rfl, (hs k).2 h1⟩
    · have hq' : (reachL a.f a.r).getD k false = false := by simpa using hq
      by_cases h2 : (reachL b.f b.r).getD k false = true
      · have h3 := (hs k).1.2 (reachL_getD.1 h2).2
        exact absurd (reachL_getD.2 ⟨(reach_live ga h3).2, h3⟩) hq
      · have h2' : (reachL b.f b.r).getD k false = false := by simpa using h2
        rw [hq', h2']; rfl
  rw [hn] at this; cases this
theorem smO_ne {a b : H} {k : Nat} (h : (reachL a.f a.r).getD k false ≠ (reachL b.f b.r).getD k false) : smO a b k = false := by
  unfold smO
  have : ((reachL a.f a.r).getD k false == (reachL b.f b.r).getD k false) = false := by simpa using h
  rw [this]; rfl
theorem smO_no {a b : H} {k : Nat} (h1 : (reachL a.f a.r).getD k false = false) (h2 : (reachL b.f b.r).getD k false = false) : smO a b k = true := by unfold smO; rw [h1, h2]; rfl
theorem smO_yes {a b : H} {k : Nat} (h1 : (reachL a.f a.r).getD k false = true) (h2 : (reachL b.f b.r).getD k false = true) : smO a b k = @decide (a.f.getD k [] = b.f.getD k []) (Classical.propDecidable _) := by unfold smO; rw [h1, h2]; rfl
end Go.Proofs.Ytkkigoamphkalaa.Ph
namespace Go.Proofs.Ytkkigoamphkalaa
open Go.RowKit Ph

set_option maxRecDepth 100000 in
set_option maxHeartbeats 6400000 in
theorem s_l5Same (a1 b1 c1 a2 b2 c2 : Value) (x y : H) (w : World) (hA : HeapAt w a1 b1 c1 x) (hB : HeapAt w a2 b2 c2 y) (hgx : Ph.Good x) (hgy : Ph.Good y) :
    Calls Try.prog 96 #[hv a1 b1 c1, hv a2 b2 c2] w fun e w' => e = .returned (.bool (sameP x y)) ∧ Below w.heap.size w w' := by
  have hb0 := (below1 w (.cells (c3 a1 b1 c1) 30)).alloc (by simp) (.cells (c3 a2 b2 c2) 30)
  have A0 := Lib.hid (hA.below hb0); have B0 := Lib.hid (hB.below hb0)
  have HB := Lib.hid hb0
  have P0 := Lib.hid (show RowH _ _ a1 b1 c1 from (Row.new w 30 (c3 a1 b1 c1)).alloc (.cells (c3 a2 b2 c2) 30))
  have Q0 := Lib.hid (show RowH _ (w.heap.size + 1) a2 b2 c2 from Row.new1 w (.cells (c3 a1 b1 c1) 30) 30 (c3 a2 b2 c2))
  have GX := Lib.hid hgx; have GY := Lib.hid hgy
  obtain ⟨fa, fc, rfl⟩ := hA.f.shape
  obtain ⟨ra, rc, rfl⟩ := hA.r.shape
  obtain ⟨ga, gc, rfl⟩ := hB.f.shape
  obtain ⟨sa, sc, rfl⟩ := hB.r.shape
  have hn12 := hgx.n
  have hm12 := hgy.n
  clear hA hB hgx hgy hb0
  have p0 := P0.out.c0
  have p1 := P0.out.c1
  have p2 := P0.out.c2
  go_enter Try.func96, Try.ntmps96
  go_wp2_with fail
  refine (s_l5Reached _ _ _ x _ A0.out GX.out).mono ?_
  rintro e w1 ⟨k1, rfl, ho1, hb1⟩
  obtain ⟨u1, v1, hk1⟩ := (owns_bools ho1).shape
  rw [reachL_length] at hk1
  subst hk1
  have X1 := Lib.hid (A0.out.below hb1); have Y1 := Lib.hid (B0.out.below hb1); have P1 := Lib.hid (P0.out.below hb1); have Q1 := Lib.hid (Q0.out.below hb1); have L1 := Lib.hid (bst HB.out hb1 HB.out.size); have K1 := Lib.hid (owns_bools ho1)
  clear ho1 hb1 p0 p1 p2
  have q0 := Q1.out.c0
  have q1 := Q1.out.c1
  have q2 := Q1.out.c2
  go_wp2_with fail
  refine (s_l5Reached _ _ _ y _ Y1.out GY.out).mono ?_
  rintro e w2 ⟨k2, rfl, ho2, hb2⟩
  obtain ⟨u2, v2, hk2⟩ := (owns_bools ho2).shape
  rw [reachL_length] at hk2
  subst hk2
  have X2 := Lib.hid (X1.out.below hb2); have Y2 := Lib.hid (Y1.out.below hb2); have P2 := Lib.hid (P1.out.below hb2); have Q2 := Lib.hid (Q1.out.below hb2); have L2 := Lib.hid (bst L1.out hb2 L1.out.size); have K2 := Lib.hid (owns_bools ho2); have K12 := Lib.hid (K1.out.below hb2)
  clear ho2 hb2 q0 q1 q2
  have HRS := Lib.hid (s_l1Same (.slice ra x.r.length rc) (.slice sa y.r.length sc) x.r y.r w2 X2.out.r Y2.out.r (by have := GX.out.rn; omega))
  have HSN : Hid (¬ x.r = y.r → sameP x y = false) := sameP_roots
  have c0 := P2.out.c2
  have d0 := Q2.out.c2
  by_cases hxy : ¬ x.r = y.r
  · have hd : decide (x.r = y.r) = false := decide_eq_false hxy
    have HSP := Lib.hid (HSN.out hxy)
    rw [hd] at HRS
    clear hd hxy
    go_wp2_with (go_at_call 143; refine HRS.out.mono ?_; rintro e w3 ⟨rfl, nd, rfl⟩)
    go_ret
    exact ⟨r_b HSP.out.symm, below_drewN L2.out nd⟩
  replace hxy := Classical.not_not.1 hxy
  have hd : decide (x.r = y.r) = true := decide_eq_true hxy
  have HXY := Lib.hid hxy
  rw [hd] at HRS
  clear hd hxy
  go_wp2_with (go_at_call 143; refine HRS.out.mono ?_; rintro e w3 ⟨rfl, nd, rfl⟩)
  clear c0 d0
  have B3 : Below w2.heap.size w2 (w2.drewN nd) := below_drewN (Below.refl _ _) nd
  have X3 := Lib.hid (X2.out.below B3); have Y3 := Lib.hid (Y2.out.below B3); have P3 := Lib.hid (P2.out.below B3); have Q3 := Lib.hid (Q2.out.below B3); have L3 := Lib.hid (bst L2.out B3 L2.out.size); have K13 := Lib.hid (K12.out.below B3); have K23 := Lib.hid (K2.out.below B3)
  clear B3
  generalize w2.drewN nd = w3 at *
  generalize hn : x.f.length = n at *
  generalize hm : y.f.length = m at *
  have HN := Lib.hid hn; have HM := Lib.hid hm
  clear hn hm
  go_loopw [7] (fun i wr => ∃ k : Nat, (k ≤ n ∨ k ≤ m) ∧ i = .int .i64 k ∧ Hid (smB x y k = true) ∧ ∃ nd, wr = w3.drewN nd) (fun i _ => n + m - (intOf i).toNat)
  case atStart => exact ⟨0, .inl (Nat.zero_le _), rfl, by simp [Hid, smB], drewN_refl _⟩
  case round =>
    obtain ⟨k, hk, rfl, ht, nr, rfl⟩ := hrel
    have hp : (w3.drewN nr).cell? ⟨w.heap.size, 0, none⟩ = some (.slice fa n fc) := P3.out.c0
    have hq : (w3.drewN nr).cell? ⟨w.heap.size + 1, 0, none⟩ = some (.slice ga m gc) := Q3.out.c0
    have hfx : ∀ b, (reachL x.f x.r).getD k false = b → b = true → k < n := fun b h1 h2 => by rw [h2] at h1; have := (reachL_getD.1 h1).1; rw [HN.out] at this; exact this
    have hfy : ∀ b, (reachL y.f y.r).getD k false = b → b = true → k < m := fun b h1 h2 => by rw [h2] at h1; have := (reachL_getD.1 h1).1; rw [HM.out] at this; exact this
    have hSU := smB_succ (a := x) (b := y) (n := k)
    rw [ht.out, Bool.true_and] at hSU
    have HSU := Lib.hid hSU
    have hne := smO_ne (a := x) (b := y) (k := k)
    have hno := smO_no (a := x) (b := y) (k := k)
    have hye := smO_yes (a := x) (b := y) (k := k)
    have HNE : Hid ((reachL x.f x.r).getD k false ≠ (reachL y.f y.r).getD k false → sameP x y = false) := fun h => sm_false GX.out GY.out (hne h)
    have HNO : Hid ((reachL x.f x.r).getD k false = false → (reachL y.f y.r).getD k false = false → smB x y (k + 1) = true) := fun h1 h2 => hSU.trans (hno h1 h2)
    have HYE : Hid ((reachL x.f x.r).getD k false = true → (reachL y.f y.r).getD k false = true → ((x.f.getD k [] = y.f.getD k [] → smB x y (k + 1) = true) ∧ (¬ x.f.getD k [] = y.f.getD k [] → sameP x y = false))) := fun h1 h2 => ⟨fun h3 => hSU.trans ((hye h1 h2).trans (by simpa using h3)), fun h3 => sm_false GX.out GY.out ((hye h1 h2).trans (by simpa using h3))⟩
    clear hSU hne hno hye
    have j1 : (0 : Int) ≤ (k : Int) := by omega
    have kb : k ≤ 12 := by omega
    have QX : Hid (k < n → ∃ b o, u1 = some ⟨b, o, none⟩ ∧ (w3.drewN nr).cell? ⟨b, o + k, none⟩ = some (.bool ((reachL x.f x.r).getD k false))) := fun h => by
      obtain ⟨b, o, hb, hc⟩ := K13.out.at' (by omega)
      exact ⟨b, o, hb, hc k h⟩
    have QY : Hid (k < m → ∃ b o, u2 = some ⟨b, o, none⟩ ∧ (w3.drewN nr).cell? ⟨b, o + k, none⟩ = some (.bool ((reachL y.f y.r).getD k false))) := fun h => by
      obtain ⟨b, o, hb, hc⟩ := K23.out.at' (by omega)
      exact ⟨b, o, hb, hc k h⟩
    have FX : Hid (k < n → ∃ b o u c, fa = some ⟨b, o, none⟩ ∧ (w3.drewN nr).cell? ⟨b, o + k, none⟩ = some (.slice u (x.f.getD k []).length c) ∧ IntsAt w3 (.slice u (x.f.getD k []).length c) (x.f.getD k [])) := fun h => by
      obtain ⟨b, o, hb, hc⟩ := X3.out.f.at' (by omega)
      obtain ⟨u, h1, h2⟩ := hc k h
      obtain ⟨p, c, rfl⟩ := h2.shape
      exact ⟨b, o, p, c, hb, h1, h2⟩
    have FY : Hid (k < m → ∃ b o u c, ga = some ⟨b, o, none⟩ ∧ (w3.drewN nr).cell? ⟨b, o + k, none⟩ = some (.slice u (y.f.getD k []).length c) ∧ IntsAt w3 (.slice u (y.f.getD k []).length c) (y.f.getD k [])) := fun h => by
      obtain ⟨b, o, hb, hc⟩ := Y3.out.f.at' (by omega)
      obtain ⟨u, h1, h2⟩ := hc k h
      obtain ⟨p, c, rfl⟩ := h2.shape
      exact ⟨b, o, p, c, hb, h1, h2⟩
    have HLX : Hid (k < n → (x.f.getD k []).length ≤ 3) := fun h => (GX.out.row k (by rw [HN.out]; exact h)).1
    generalize hpx : (reachL x.f x.r).getD k false = p at *
    generalize hpy : (reachL y.f y.r).getD k false = q at *
    have hpn : p = true → k < n := hfx p rfl
    have hqm : q = true → k < m := hfy q rfl
    have HPX := Lib.hid hpx; have HPY := Lib.hid hpy
    clear hpx hpy hfx hfy
    by_cases hx : k < n
    · obtain ⟨bx, ox, rfl, qx⟩ := QX.out hx
      have i1 : (k : Int) < (n : Int) := by omega
      by_cases hy : k < m
      · obtain ⟨bz, oy, rfl, qy⟩ := QY.out hy
        have i2 : (k : Int) < (m : Int) := by omega
        clear QX QY hpn hqm
        cases p
        · cases q
          · skip
            have HE := Lib.hid (HNO.out rfl rfl)
            go_wp2_with fail
            go_quiet (fail)
            go_wp2_with fail
            go_roundw
            case rel => exact ⟨k + 1, by omega, by go_num, HE, nr + nq, by simp⟩
            case measure => simp [intOf]; omega
          · skip
            have HE := Lib.hid (HNE.out (by simp))
            go_wp2_with fail
            go_quiet (fail)
            go_wp2_with fail
            go_ret
            exact ⟨r_b HE.out.symm, below_drewN (below_drewN L3.out _) _⟩
        · cases q
          · skip
            have HE := Lib.hid (HNE.out (by simp))
            go_wp2_with fail
            go_quiet (fail)
            go_wp2_with fail
            go_ret
            exact ⟨r_b HE.out.symm, below_drewN (below_drewN L3.out _) _⟩
          · skip
            have hye := HYE.out rfl rfl
            obtain ⟨fb, fo, fu, fw, rfl, qf, hf⟩ := FX.out hx
            obtain ⟨gb, go, gu, gw, rfl, qg, hg⟩ := FY.out hy
            have HCQ : Hid (∀ mm, Calls Try.prog 143 #[.slice fu (x.f.getD k []).length fw, .slice gu (y.f.getD k []).length gw] ((w3.drewN nr).drewN mm) fun e w' => e = .returned (.bool (decide (x.f.getD k [] = y.f.getD k []))) ∧ ∃ n, w' = ((w3.drewN nr).drewN mm).drewN n) := fun mm => s_l1Same _ _ _ _ _ ((hf.drewN nr).drewN mm) ((hg.drewN nr).drewN mm) (by have := HLX.out hx; omega)
            have HY1 := Lib.hid hye.1; have HY2 := Lib.hid hye.2
            clear hye hf hg
            generalize (x.f.getD k []).length = lx at *
            generalize (y.f.getD k []).length = ly at *
            by_cases hfe : x.f.getD k [] = y.f.getD k []
            · have HE := Lib.hid (HY1.out hfe)
              have hdq : decide (x.f.getD k [] = y.f.getD k []) = true := decide_eq_true hfe
              rw [hdq] at HCQ
              clear hdq hfe
              go_wp2_with fail
              generalize hwd : w3.drewN nr = wd at *
              have HWD := Lib.hid hwd; clear hwd
              go_quiet ((go_at_call 143; exact Calls.quiet_of (HCQ.out _)))
              go_wp2_with fail
              go_roundw
              case rel => exact ⟨k + 1, by omega, by go_num, HE, nr + nq, by rw [← HWD.out]; simp⟩
              case measure => simp [intOf]; omega
            · have HE := Lib.hid (HY2.out hfe)
              have hdq : decide (x.f.getD k [] = y.f.getD k []) = false := decide_eq_false hfe
              rw [hdq] at HCQ
              clear hdq hfe
              go_wp2_with fail
              generalize hwd : w3.drewN nr = wd at *
              have HWD := Lib.hid hwd; clear hwd
              go_quiet ((go_at_call 143; exact Calls.quiet_of (HCQ.out _)))
              go_wp2_with fail
              go_ret
              exact ⟨r_b HE.out.symm, by rw [← HWD.out]; exact below_drewN (below_drewN L3.out _) _⟩
      · have i2 : ¬ (k : Int) < (m : Int) := by omega
        cases q
        · clear QX QY hpn hqm
          cases p
          · skip
            have HE := Lib.hid (HNO.out rfl rfl)
            go_wp2_with fail
            go_quiet (fail)
            go_wp2_with fail
            go_roundw
            case rel => exact ⟨k + 1, by omega, by go_num, HE, nr + nq, by simp⟩
            case measure => simp [intOf]; omega
          · skip
            have HE := Lib.hid (HNE.out (by simp))
            go_wp2_with fail
            go_quiet (fail)
            go_wp2_with fail
            go_ret
            exact ⟨r_b HE.out.symm, below_drewN (below_drewN L3.out _) _⟩
        · exact absurd (hqm rfl) hy
    · have i1 : ¬ (k : Int) < (n : Int) := by omega
      cases p
      · by_cases hy : k < m
        · obtain ⟨bz, oy, rfl, qy⟩ := QY.out hy
          have i2 : (k : Int) < (m : Int) := by omega
          clear QX QY hpn hqm
          cases q
          · skip
            have HE := Lib.hid (HNO.out rfl rfl)
            go_wp2_with fail
            go_quiet (fail)
            go_wp2_with fail
            go_roundw
            case rel => exact ⟨k + 1, by omega, by go_num, HE, nr + nq, by simp⟩
            case measure => simp [intOf]; omega
          · skip
            have HE := Lib.hid (HNE.out (by simp))
            go_wp2_with fail
            go_quiet (fail)
            go_wp2_with fail
            go_ret
            exact ⟨r_b HE.out.symm, below_drewN (below_drewN L3.out _) _⟩
        · have i2 : ¬ (k : Int) < (m : Int) := by omega
          have HE := Lib.hid (smB_same GX.out HXY.out (by rw [HN.out]; omega) ht.out)
          go_wp2_with fail
          go_ret
          exact ⟨r_b HE.out.symm, below_drewN L3.out _⟩
      · exact absurd (hpn rfl) hx
end Go.Proofs.Ytkkigoamphkalaa
namespace Go.Proofs.Ytkkigoamphkalaa
open Go.RowKit Ph

set_option maxRecDepth 100000 in
set_option maxHeartbeats 6400000 in
theorem s_SameReached (a1 b1 c1 a2 b2 c2 : Value) (x y : H) (w : World) (hA : HeapAt w a1 b1 c1 x) (hB : HeapAt w a2 b2 c2 y) :
    Calls Try.prog 31 #[hv a1 b1 c1, hv a2 b2 c2] w fun e w' => e = .returned (.tuple #[.bool (sameQ x y), .bool (both x y)]) ∧ Below w.heap.size w w' := by
  have hb0 := (below1 w (.cells (c3 a1 b1 c1) 30)).alloc (by simp) (.cells (c3 a2 b2 c2) 30)
  have A0 := Lib.hid (hA.below hb0); have B0 := Lib.hid (hB.below hb0)
  have HB := Lib.hid hb0
  have P0 := Lib.hid (show RowH _ _ a1 b1 c1 from (Row.new w 30 (c3 a1 b1 c1)).alloc (.cells (c3 a2 b2 c2) 30))
  have Q0 := Lib.hid (show RowH _ (w.heap.size + 1) a2 b2 c2 from Row.new1 w (.cells (c3 a1 b1 c1) 30) 30 (c3 a2 b2 c2))
  have GA := Lib.hid (good_iff (h := x)).1; have GB := Lib.hid (good_iff (h := y)).1
  have h2 : both x y = (good x && good y) := rfl
  have h1 : sameQ x y = ((good x && good y) && sameP x y) := rfl
  have HCA : Hid (∀ w', HeapAt w' a1 b1 c1 x → Calls Try.prog 80 #[hv a1 b1 c1] w' fun e w'' => e = .returned (.bool (good x)) ∧ Below w'.heap.size w' w'') := fun w' h => s_GoodHeap a1 b1 c1 x w' h
  have HCB : Hid (∀ w', HeapAt w' a2 b2 c2 y → Calls Try.prog 80 #[hv a2 b2 c2] w' fun e w'' => e = .returned (.bool (good y)) ∧ Below w'.heap.size w' w'') := fun w' h => s_GoodHeap a2 b2 c2 y w' h
  have p0 := P0.out.c0
  have p1 := P0.out.c1
  have p2 := P0.out.c2
  have q0 := Q0.out.c0
  have q1 := Q0.out.c1
  have q2 := Q0.out.c2
  generalize both x y = r2 at *
  generalize sameQ x y = r1 at *
  generalize good x = gx at *
  generalize good y = gy at *
  cases gx
  · have H1 : Hid (r1 = false) := by unfold Hid; rw [h1]; rfl
    have H2 : Hid (r2 = false) := by unfold Hid; rw [h2]; rfl
    clear h1 h2 hA hB
    go_enter Try.func31, Try.ntmps31
    go_wp2_with (go_at_call 80; refine (HCA.out _ A0.out).mono ?_; rintro e w1 ⟨rfl, hb1⟩; have B1 := Lib.hid (bst HB.out hb1 HB.out.size); clear hb1)
    go_ret2
    exact ⟨r_bb H1.out.symm H2.out.symm, B1.out⟩
  · cases gy
    · have H1 : Hid (r1 = false) := by unfold Hid; rw [h1]; rfl
      have H2 : Hid (r2 = false) := by unfold Hid; rw [h2]; rfl
      clear h1 h2 hA hB
      go_enter Try.func31, Try.ntmps31
      go_wp2_with (first
        | (go_at_call 80; refine (HCB.out _ Y1.out).mono ?_; rintro e w2 ⟨rfl, hb2⟩; have B2 := Lib.hid (bst B1.out hb2 B1.out.size); clear hb2)
        | (go_at_call 80; refine (HCA.out _ A0.out).mono ?_; rintro e w1 ⟨rfl, hb1⟩; have B1 := Lib.hid (bst HB.out hb1 HB.out.size); have Y1 := Lib.hid (B0.out.below hb1); have Q1 := Lib.hid (Q0.out.below hb1); have s0 := Q1.out.c0; have s1 := Q1.out.c1; have s2 := Q1.out.c2; clear hb1))
      go_ret2
      exact ⟨r_bb H1.out.symm H2.out.symm, B2.out⟩
    · have H2 : Hid (r2 = true) := by unfold Hid; rw [h2]; rfl
      have H1 : Hid (r1 = sameP x y) := by unfold Hid; rw [h1]; rfl
      have GX := Lib.hid (GA.out rfl); have GY := Lib.hid (GB.out rfl)
      clear h1 h2 hA hB
      go_enter Try.func31, Try.ntmps31
      go_wp2_with (first
        | (go_at_call 80; refine (HCB.out _ Y1.out).mono ?_; rintro e w2 ⟨rfl, hb2⟩; have B2 := Lib.hid (bst B1.out hb2 B1.out.size); have X2 := Lib.hid (X1.out.below hb2); have Y2 := Lib.hid (Y1.out.below hb2); have P2 := Lib.hid (P1.out.below hb2); have Q2 := Lib.hid (Q1.out.below hb2); have t0 := P2.out.c0; have t1 := P2.out.c1; have t2 := P2.out.c2; have v0 := Q2.out.c0; have v1 := Q2.out.c1; have v2 := Q2.out.c2; clear hb2)
        | (go_at_call 80; refine (HCA.out _ A0.out).mono ?_; rintro e w1 ⟨rfl, hb1⟩; have B1 := Lib.hid (bst HB.out hb1 HB.out.size); have X1 := Lib.hid (A0.out.below hb1); have Y1 := Lib.hid (B0.out.below hb1); have P1 := Lib.hid (P0.out.below hb1); have Q1 := Lib.hid (Q0.out.below hb1); have s0 := Q1.out.c0; have s1 := Q1.out.c1; have s2 := Q1.out.c2; clear hb1)
        | (go_at_call 96; refine (s_l5Same a1 b1 c1 a2 b2 c2 x y _ X2.out Y2.out GX.out GY.out).mono ?_; rintro e w5 ⟨rfl, hb5⟩; have B5 := Lib.hid (bst B2.out hb5 B2.out.size); clear hb5))
      go_ret2
      exact ⟨r_bb H1.out.symm H2.out.symm, B5.out⟩
end Go.Proofs.Ytkkigoamphkalaa
namespace Go.Proofs.Ytkkigoamphkalaa
open Go.ChangeShapes Go.WideShapes Go.ChangeAt Go.RowKit

theorem own : ownKnob Try.prog.godebug = none := by kernel_rfl
theorem laidOut : laidOutB Try.prog = true := by kernel_rfl

section
variable {H : Type} {enc : TypeId × Value → H} {P : Program}
theorem trodAll_below (hl : laidOutB P = true) {W W' : World} (hb : Below W.heap.size W W') :
    ∀ (ts : List TypeId) (vs : List Value) (ds : List (DataW H)) (ps : List MemPlace), (∀ t ∈ ts, P.readableRec t = true ∧ t < P.types.size) →
      DataW.TrodAll enc P W 0 (fun _ => true) true ts vs ds ps → (∀ x ∈ ps, x.block < W.heap.size) →
      DataW.TrodAll enc P W' 0 (fun b => decide (b < W.heap.size)) true ts vs ds ps
  | [], [], [], _, _, h, _ => h
  | t :: ts, v :: vs, d :: ds, ps, hr, h, hlt => by
    obtain ⟨p, q, h1, h2, rfl⟩ := h
    exact ⟨p, q, Below.trod hl (hr t (by simp)).1 (hr t (by simp)).2 h1 hb (fun x hx => hlt x (by simp [hx])),
      trodAll_below hl hb ts vs ds q (fun t ht => hr t (by simp [ht])) h2 (fun x hx => hlt x (by simp [hx])), rfl⟩
  | [], [], _ :: _, _, _, h, _ => h.elim
  | [], _ :: _, _, _, _, h, _ => h.elim
  | _ :: _, [], _, _, _, h, _ => h.elim
  | _ :: _, _ :: _, [], _, _, h, _ => h.elim
theorem var_lt {W : World} {n : String} {g : Nat} {cs : Array Value} (hg : P.globalNamed n = some g) (hv : W.var? P n = some cs) : g < W.heap.size := by
  unfold World.var? at hv
  simp only [hg, Option.bind_some] at hv
  by_cases h : g < W.heap.size
  · exact h
  · have hn : W.heap[g]? = none := by simp; omega
    simp [hn] at hv
theorem trodVars_below (hl : laidOutB P = true) {W W' : World} (hb : Below W.heap.size W W') :
    ∀ (ns : List String) (ds : List (DataW H)) (ps : List MemPlace), (∀ n ∈ ns, ∀ g t, P.globalNamed n = some g → (P.globals[g]?).map (·.type) = some t → P.readableRec t = true ∧ t < P.types.size) →
      DataW.TrodVars enc P W (fun _ => true) ns ds ps → (∀ x ∈ ps, x.block < W.heap.size) →
      DataW.TrodVars enc P W' (fun b => decide (b < W.heap.size)) ns ds ps
  | [], [], _, _, h, _ => h
  | n :: ns, d :: ds, ps, hr, h, hlt => by
    obtain ⟨g, t, cs, fuel, p, q, h1, h2, h3, h4, h5, rfl⟩ := h
    have ht : DataW.Trod enc P W 0 (fun _ => true) true t (.agg cs) d p := ⟨fuel, h4⟩
    obtain ⟨fuel', h4'⟩ := Below.trod hl (hr n (by simp) g t h1 h2).1 (hr n (by simp) g t h1 h2).2 ht hb (fun x hx => hlt x (by simp [hx]))
    exact ⟨g, t, cs, fuel', p, q, h1, h2, var?_below hb h1 (var_lt h1 h3) h3, h4', trodVars_below hl hb ns ds q (fun n hn => hr n (by simp [hn])) h5 (fun x hx => hlt x (by simp [hx])), rfl⟩
  | [], _ :: _, _, _, h, _ => h.elim
  | _ :: _, [], _, _, h, _ => h.elim

/-- THE END OF A LAW: it answered true, nothing old has turned. -/
theorem law_post {fn : Func} {s : ChangeSpec} {W W' : World} {args : Array Value} {ds gs : List (DataW H)} {before : List MemPlace} {tb : TypeId} (hl : laidOutB P = true)
    (hps : ∀ t ∈ fn.params.toList, P.readableRec t = true ∧ t < P.types.size) (hvs : ∀ n ∈ s.vars, ∀ g t, P.globalNamed n = some g → (P.globals[g]?).map (·.type) = some t → P.readableRec t = true ∧ t < P.types.size)
    (hW : DataW.Whole enc P fn.params.toList s.vars false W args.toList ds gs before) (hb : Below W.heap.size W W') (hs : s.fn H (ds ++ gs) = { results := [.lit (.bool true)], args := ds, vars := gs })
    (hr : fn.resultTypes = #[tb]) (ht : P.underlying tb = some .bool) : s.post enc P fn false true false false W args (.bool true) W' := by
  have hW' := hW
  obtain ⟨p, q, hA, hV, rfl, hfz, hnd⟩ := hW
  have hlt : ∀ x ∈ p ++ q, x.block < W.heap.size := fun x hx => hW'.lt x hx
  refine ⟨ds, gs, p ++ q, [], p, q, hW', ?_, ?_, ?_, hb.frame _, fun h => by cases h⟩
  · rw [hs, hr]
    exact trodAll_cons_mk (shut_bool ht _) trodAll_mk0
  · rw [hs]
    exact trodAll_below hl hb _ _ _ _ hps hA (fun x hx => hlt x (by simp [hx]))
  · rw [hs]
    exact trodVars_below hl hb _ _ _ hvs hV (fun x hx => hlt x (by simp [hx]))
end
theorem cellsInt : Try.prog.cellsOf 3 = 1 := by kernel_rfl
end Go.Proofs.Ytkkigoamphkalaa
namespace Go.Proofs.Ytkkigoamphkalaa
open Go.ChangeShapes Go.WideShapes Go.ChangeAt Go.RowKit Ph

theorem r_heap : Try.prog.readableRec 26 = true ∧ 26 < Try.prog.types.size := ⟨by kernel_rfl, of_decide_eq_true (by kernel_rfl)⟩
theorem cellsIntsL : Try.prog.cellsOf 24 = 1 := by kernel_rfl
theorem cellsBool : Try.prog.cellsOf 4 = 1 := by kernel_rfl
theorem add_none (b off i : Nat) : (⟨b, off, none⟩ : Addr).add i = ⟨b, off + i, none⟩ := by simp [Addr.add]
theorem ints_cells {H : Type} {enc : TypeId × Value → H} {W : World} {fuel : Nat} {v : Value} {x : DataW H × List MemPlace} (h : DataW.trod enc Try.prog W 0 (fun _ => true) true fuel 24 [v] = some x) : ∃ zs, IntsAt W v zs ∧ zs.length ≤ 9223372036854775807 := by
  rcases open_ints Try.underlying24 Try.underlying3 cellsInt h with ⟨hcs, hx⟩ | ⟨a, len', cap', zs, hcs, _, hl, hm, hz, hx, hcell, hwz⟩
  · simp only [List.cons.injEq, and_true] at hcs
    subst hcs
    exact ⟨[], ⟨none, 0, rfl, fun h => absurd h (by simp)⟩, by simp⟩
  · simp only [List.cons.injEq, and_true] at hcs
    subst hcs
    simp only [if_true] at hz
    have hlen : (zs.take len').length = len' := by rw [List.length_take]; omega
    refine ⟨zs.take len', ⟨some a, cap', by rw [hlen], fun h0 => ?_⟩, by rw [hlen]; unfold maxLen at hm; omega⟩
    rw [hlen] at h0 ⊢
    obtain ⟨b, off, rfl, hc⟩ := ints_at hcell (by omega)
    refine ⟨b, off, rfl, fun i hi => ?_⟩
    rw [hc i (by omega)]
    simp [List.getD, hi]
theorem bools_cells {H : Type} {enc : TypeId × Value → H} {W : World} {fuel : Nat} {v : Value} {x : DataW H × List MemPlace} (h : DataW.trod enc Try.prog W 0 (fun _ => true) true fuel 23 [v] = some x) : ∃ bs, BoolsAt W v bs ∧ bs.length ≤ 9223372036854775807 := by
  rcases Deep.open_bools Try.underlying23 Try.underlying4 cellsBool h with ⟨hcs, hx⟩ | ⟨a, len, cap, B, hcs, _, hl, hm, hx, hcell⟩
  · simp only [List.cons.injEq, and_true] at hcs
    subst hcs
    exact ⟨[], ⟨none, 0, rfl, fun h => absurd h (by simp)⟩, by simp⟩
  · simp only [List.cons.injEq, and_true] at hcs
    subst hcs
    have hln : ((List.range len).map B).length = len := by simp
    refine ⟨(List.range len).map B, ⟨some a, cap, by rw [hln], fun h0 => ?_⟩, by rw [hln]; unfold maxLen at hm; omega⟩
    rw [hln] at h0 ⊢
    obtain ⟨b, off, spot⟩ := a
    have hspot : spot = none := by simpa [Addr.add] using World.cell?_spot (hcell 0 (by omega))
    subst hspot
    refine ⟨b, off, rfl, fun i hi => ?_⟩
    have h1 := hcell i (by omega)
    rw [add_none] at h1
    rw [h1]
    simp [List.getD, hi]
theorem rows_cells {H : Type} {enc : TypeId × Value → H} {W : World} {fuel : Nat} {v : Value} {x : DataW H × List MemPlace} (h : DataW.trod enc Try.prog W 0 (fun _ => true) true fuel 22 [v] = some x) : ∃ fs, RowsAt W v fs ∧ Fit fs ∧ fs.length ≤ 9223372036854775807 := by
  rcases Deep.open_int_rows Try.underlying22 Try.underlying24 Try.underlying3 cellsIntsL cellsInt h with ⟨hcs, hx⟩ | ⟨a, len, cap, A, L, C, Z, hcs, _, hl, hm, hx, hrow⟩
  · simp only [List.cons.injEq, and_true] at hcs
    subst hcs
    exact ⟨[], ⟨none, 0, rfl, fun h => absurd h (by simp)⟩, fun k hk => by simp at hk, by simp⟩
  · simp only [List.cons.injEq, and_true] at hcs
    subst hcs
    have hln : ((List.range len).map fun r => (Z r).take (L r)).length = len := by simp
    have hgd : ∀ i, i < len → ((List.range len).map fun r => (Z r).take (L r)).getD i [] = (Z i).take (L i) := fun i hi => by simp [List.getD, hi]
    have hlr : ∀ i, i < len → ((Z i).take (L i)).length = L i := fun i hi => by
      obtain ⟨_, h1, _, h2, _⟩ := hrow i (by omega)
      rw [List.length_take]; omega
    refine ⟨(List.range len).map fun r => (Z r).take (L r), ⟨some a, cap, by rw [hln], fun h0 => ?_⟩, fun k hk => ?_, by rw [hln]; unfold maxLen at hm; omega⟩
    · rw [hln] at h0 ⊢
      obtain ⟨b, off, spot⟩ := a
      have hspot : spot = none := by simpa [Addr.add] using World.cell?_spot (hrow 0 (by omega)).1
      subst hspot
      refine ⟨b, off, rfl, fun i hi => ?_⟩
      obtain ⟨q, h1, h2, h3, _, h5, h6⟩ := hrow i (by omega)
      rw [add_none] at q
      refine ⟨_, q, ?_⟩
      rw [hgd i hi]
      refine ⟨A i, C i, by rw [hlr i hi], fun hp => ?_⟩
      rw [hlr i hi] at hp ⊢
      cases hA : A i with
      | none => have := h5 hA; omega
      | some a' =>
        obtain ⟨_, hc⟩ := h6 a' hA
        obtain ⟨b', off', spot'⟩ := a'
        have hs' : spot' = none := by simpa [Addr.add] using World.cell?_spot (hc 0 (by omega))
        subst hs'
        refine ⟨b', off', rfl, fun j hj => ?_⟩
        have := hc j (by omega)
        rw [add_none] at this
        rw [this]
        simp [List.getD, hj]
    · rw [hln] at hk
      rw [hgd k hk, hlr k hk]
      obtain ⟨_, h1, h2, _⟩ := hrow k (by omega)
      unfold maxLen at h2; omega
set_option maxRecDepth 100000 in
theorem heap_of_arg {H : Type} {enc : TypeId × Value → H} {W : World} {base : Nat} {v : Value} {d : DataW H} {p : List MemPlace} (hval : Value.okWide Try.prog W .any base 26 v)
    (h : DataW.Trod enc Try.prog W 0 (fun _ => true) true 26 v d p) : ∃ (a b c : Value) (k : Ph.H), v = hv a b c ∧ HeapAt W a b c k ∧ FitH k := by
  obtain ⟨v0, v1, v2, y0, y1, y2, n, rfl, _, _, h0, h1, h2⟩ := Joins.open_agg3 Try.underlying26 (by kernel_rfl) (by kernel_rfl) hval h
  obtain ⟨fs, r1, r2, r3⟩ := rows_cells h0
  obtain ⟨bs, s1, s2⟩ := bools_cells h1
  obtain ⟨zs, t1, t2⟩ := ints_cells h2
  exact ⟨v0, v1, v2, ⟨fs, bs, zs⟩, rfl, ⟨r1, s1, t1⟩, ⟨r2, r3, s2, t2⟩⟩
end Go.Proofs.Ytkkigoamphkalaa
