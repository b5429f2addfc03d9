/- The lost objects are shaded: the reference's. -/
import Derived.Test.YtdagkbgobnaijaaGA
import Derived.Test.YtdagkbgobnaijaaCc1
import Derived.Test.YtdagkbgobnaijaaHs3
import Derived.Test.YtdagkbgobnaijaaCc5
import Derived.Test.YtdagkbgobnaijaaHr2
import Derived.Test.YtdagkbgobnaijaaCc4
import Derived.Test.YtdagkbgobnaijaaCs1
import Derived.Test.YtdagkbgobnaijaaCs4
import Derived.Test.YtdagkbgobnaijaaHs4
import Derived.Test.YtdagkbgobnaijaaCs3
import Derived.Test.YtdagkbgobnaijaaCs2
namespace Go.Proofs.Ytdagkbgobnaijaa
open Go.RowKit Ph

set_option maxHeartbeats 1600000 in
theorem c_thingsOfB (v : Value) (bs : List Bool) (w : World) (hz : BoolsAt w v bs) (hm : bs.length ≤ 12) : Calls Try.prog 101 #[v, .bool true] w fun e w' => ∃ v', e = .returned v' ∧ Own w' w.heap.size v' (ofB bs) ∧ Below w.heap.size w w' := by
  obtain ⟨i0, hi, hz0, hz1, hz2⟩ := info_parts info_int
  have HZ := Lib.hid hz
  obtain ⟨va, vc, rfl⟩ := hz.shape
  clear hz
  have HO : Hid (ofB bs = ofBTo bs bs.length) := rfl
  generalize ofB bs = out at *
  generalize hn : bs.length = n at *
  have HN := Lib.hid hn; clear hn
  go_enter Try.func101, Try.ntmps101
  go_wp2
  go_loopw [5, 9] (fun t i wr => ∃ k : Nat, k ≤ n ∧ i = .int .i64 k ∧ Hid (Own wr w.heap.size t (ofBTo bs k)) ∧ Hid (Below w.heap.size w wr)) (fun _ i _ => n - (intOf i).toNat)
  case atStart => exact ⟨0, Nat.zero_le _, rfl, by rw [ofBTo_zero]; exact Own.nil _ _, Below.refl _ _⟩
  case round =>
    obtain ⟨k, hk, rfl, ho, hb⟩ := hrel
    by_cases hlt : k < n
    · obtain ⟨g, off, rfl, hc⟩ := (HZ.out.below hb.out).at' (by omega)
      have q := hc k hlt
      have i1 : (k : Int) < (n : Int) := by omega
      have i2 : (0 : Int) ≤ (k : Int) := by omega
      clear hc
      have HY := Lib.hid (ofBTo_yes (bs := bs) (n := k))
      have HNO := Lib.hid (ofBTo_no (bs := bs) (n := k))
      have HL := Lib.hid (ofBTo_len bs k)
      generalize bs.getD k false = x at *
      cases x
      · have HE := Lib.hid (HNO.out rfl)
        clear HY HNO
        go_wp2
        go_roundw
        case rel => exact ⟨k + 1, by omega, by go_num, by rw [HE.out]; exact ho, hb⟩
        case measure => simp [intOf]; omega
      · have HE := Lib.hid (HY.out rfl)
        have HS := Lib.hid (src_int wr (k : Int))
        have HB1 := Lib.hid (hb.out.alloc hb.out.size (.cells #[.int .i64 (k : Int)] 3))
        have HO1 := Lib.hid (ho.out.below (below1 wr (.cells #[.int .i64 (k : Int)] 3)))
        clear HY HNO
        go_wp2_with (at_builtin; refine wl_appOwn _ rfl _ _ 24 rfl w.heap.size 3 i0 (.int .i64 0) 8 Try.underlying24 hi hz0 hz1 hz2 rfl u5 _ _ rfl HO1.out _ _ rfl HS.out (by have := HL.out; simp; unfold maxLen; omega) (by have := HL.out; simp; omega) HB1.out.size ?_; intro v1 w1 ho1 hg1 hbl; have O1 : Hid (Own w1 w.heap.size v1 (ofBTo bs k ++ [(k : Int)])) := by { unfold Hid Own; rw [List.map_append, List.length_append]; exact ho1 }; have B1 := Lib.hid (HB1.out.grown hg1 HB1.out.size (fun g' hg' => (owns_lt HO1.out hg').1)); clear ho1 hg1 hbl)
        go_roundw
        case rel => exact ⟨k + 1, by omega, by go_num, by rw [HE.out]; exact O1, B1⟩
        case measure => simp [intOf]; omega
    · have hkn : Hid (k = n) := by unfold Hid; omega
      go_wp2
      go_ret
      exact ⟨_, rfl, by rw [HO.out, ← hkn.out]; exact ho.out, hb.out⟩
/-- The guards by value. -/
abbrev gd (c g : Value) : Value := .agg #[c, g]
abbrev gd2 (c g : Value) : Array Value := #[c, g]
set_option maxHeartbeats 1600000 in
theorem c_misses (cv gv : Value) (cs : List Int) (S : List Bool) (z : Int) (w : World) (hc : IntsAt w cv cs) (hg : BoolsAt w gv S) (hl : S.length = cs.length) (hz : inR cs.length z) : Calls Try.prog 95 #[gd cv gv, .int .i64 z] w fun e w' => e = .returned (.bool (missB cs S z)) ∧ Below w.heap.size w w' := by
  obtain ⟨ca, cc, rfl, hC⟩ := hc
  obtain ⟨ga, gc, rfl, hG⟩ := hg
  rw [hl] at *
  have HB := Lib.hid (below1 w (.cells (gd2 (.slice ca cs.length cc) (.slice ga cs.length gc)) 104))
  by_cases z1 : z = -1
  · subst z1
    have HE := Lib.hid (missB_neg (cs := cs) (S := S) (z := -1) (by omega))
    clear hC hG hl hz
    generalize cs.length = n at *
    go_enter Try.func95, Try.ntmps95
    go_wp2
    go_ret
    exact ⟨r_b HE.out.symm, HB.out⟩
  · obtain ⟨t, rfl⟩ : ∃ t : Nat, z = t := ⟨z.toNat, by rcases hz with h | h <;> omega⟩
    have htn : t < cs.length := by rcases hz with h | h <;> omega
    obtain ⟨b1, o1, rfl, h1⟩ := hC (by omega)
    obtain ⟨b2, o2, rfl, h2⟩ := hG (by omega)
    have q1 := cellBelow HB.out (Nat.le_refl _) (h1 t htn)
    have q2 := cellBelow HB.out (Nat.le_refl _) (h2 t htn)
    have HE := Lib.hid (missB_nat (cs := cs) (S := S) (k := t))
    have t1 : (t : Int) < (cs.length : Int) := by omega
    have t0 : (0 : Int) ≤ (t : Int) := by omega
    have i2 : ((t : Int) == -1) = false := by simp
    clear hC hG hl hz h1 h2 z1 htn
    generalize cs.length = n at *
    generalize S.getD t false = x at *
    generalize cs.getD t 0 = y at *
    by_cases hy : y = 0
    · subst hy
      cases x
      all_goals
        go_enter Try.func95, Try.ntmps95
        go_wp2
        go_ret
        exact ⟨r_b HE.out.symm, HB.out⟩
    · have hy1 : (y == 0) = false := by simpa using hy
      have HF : Hid (missB cs S (t : Int) = false) := by unfold Hid; rw [HE.out, decide_eq_false hy]; rfl
      clear hy HE
      go_enter Try.func95, Try.ntmps95
      go_wp2
      go_ret
      exact ⟨r_b HF.out.symm, HB.out⟩
theorem any_take_succ {p : Int → Bool} {zs : List Int} {k : Nat} (h : k < zs.length) : (zs.take (k + 1)).any p = ((zs.take k).any p || p (zs.getD k 0)) := by
  have e : zs.getD k 0 = zs[k] := by simp [List.getD, List.getElem?_eq_getElem h]
  rw [List.take_succ_eq_append_getElem h, List.any_append, e]; simp
theorem any_true {p : Int → Bool} {zs : List Int} {k : Nat} (h : k < zs.length) (hp : p (zs.getD k 0) = true) : zs.any p = true := by
  rw [List.any_eq_true]
  exact ⟨_, getD_memI h, hp⟩
/-- The references of which one is missed. -/
abbrev missF (c g : Value) : Value := .func (.func 95) #[gd c g] #[]
set_option maxHeartbeats 3200000 in
theorem c_indexFunc (v cv gv : Value) (zs cs : List Int) (S : List Bool) (w : World) (hz : IntsAt w v zs) (hc : IntsAt w cv cs) (hg : BoolsAt w gv S) (hl : S.length = cs.length) (hr : ∀ z ∈ zs, inR cs.length z) (hzl : zs.length ≤ 12) : Calls Try.prog 122 #[v, missF cv gv] w fun e w' => ∃ k : Int, e = .returned (.int .i64 k) ∧ decide (0 ≤ k) = zs.any (missB cs S) ∧ Below w.heap.size w w' := by
  have HZ := Lib.hid hz; have HC := Lib.hid hc; have HG := Lib.hid hg; have HL := Lib.hid hl; have HR := Lib.hid hr
  obtain ⟨va, vc, rfl⟩ := hz.shape
  obtain ⟨ca, cc, rfl⟩ := hc.shape
  obtain ⟨ga, gc, rfl⟩ := hg.shape
  clear hz hc hg hr hl
  generalize hn : zs.length = n at *
  have HN := Lib.hid hn; clear hn
  generalize hnc : cs.length = nc at *
  have HNC := Lib.hid hnc; clear hnc
  generalize hns : S.length = ns at *
  have HNS := Lib.hid hns; clear hns
  go_enter Try.func122, Try.ntmps122
  go_wp2
  go_loopw [8] (fun i wr => ∃ k : Nat, k ≤ n ∧ i = .int .i64 k ∧ Hid ((zs.take k).any (missB cs S) = false) ∧ Hid (Below w.heap.size w wr)) (fun i _ => n - (intOf i).toNat)
  case atStart => exact ⟨0, Nat.zero_le _, rfl, rfl, Below.refl _ _⟩
  case round =>
    obtain ⟨k, hk, rfl, ht, hb⟩ := hrel
    by_cases hlt : k < n
    · obtain ⟨g, off, rfl, hq⟩ := (HZ.out.below hb.out).at' (by omega)
      have q := hq k hlt
      have i1 : (k : Int) < (n : Int) := by omega
      have i2 : (0 : Int) ≤ (k : Int) := by omega
      have hkl : k < zs.length := by rw [HN.out]; exact hlt
      have HIN := Lib.hid (HR.out _ (getD_memI hkl))
      have HT := Lib.hid (any_take_succ (p := missB cs S) hkl)
      have HY := Lib.hid (any_true (p := missB cs S) hkl)
      have C1 := Lib.hid (HC.out.below hb.out); have G1 := Lib.hid (HG.out.below hb.out)
      clear hq hkl
      generalize zs.getD k 0 = z at *
      go_wp2_with fail
      refine (c_misses _ _ cs S z _ C1.out G1.out (by rw [HNS.out, HNC.out]; exact HL.out) (by rw [HNC.out]; exact HIN.out)).mono ?_
      rintro e w1 ⟨rfl, hb1⟩
      have B1 := Lib.hid (bst hb.out hb1 hb.out.size)
      clear hb1 C1 G1 HIN hb
      generalize missB cs S z = x at *
      cases x
      · have HE : Hid ((zs.take (k + 1)).any (missB cs S) = false) := by unfold Hid; rw [HT.out, ht.out]; rfl
        clear HT HY ht
        go_wp2
        go_roundw
        case rel => exact ⟨k + 1, by omega, by go_num, HE, B1⟩
        case measure => simp [intOf]; omega
      · have HE := Lib.hid (HY.out rfl)
        clear HT HY ht
        go_wp2
        go_ret
        exact ⟨_, rfl, by rw [HE.out]; exact decide_eq_true (by omega), B1.out⟩
    · have HE : Hid (zs.any (missB cs S) = false) := by
        unfold Hid
        have := ht.out
        rwa [List.take_of_length_le (by rw [HN.out]; omega)] at this
      go_wp2
      go_ret
      exact ⟨_, rfl, by rw [HE.out]; rfl, hb.out⟩
set_option maxHeartbeats 1600000 in
theorem c_containsFunc (v cv gv : Value) (zs cs : List Int) (S : List Bool) (w : World) (hz : IntsAt w v zs) (hc : IntsAt w cv cs) (hg : BoolsAt w gv S) (hl : S.length = cs.length) (hr : ∀ z ∈ zs, inR cs.length z) (hzl : zs.length ≤ 12) : Calls Try.prog 94 #[v, missF cv gv] w fun e w' => e = .returned (.bool (zs.any (missB cs S))) ∧ Below w.heap.size w w' := by
  have HI := Lib.hid (c_indexFunc v cv gv zs cs S w hz hc hg hl hr hzl)
  obtain ⟨va, vc, rfl⟩ := hz.shape
  clear hz hc hg hr hl hzl
  generalize zs.length = n at *
  go_enter Try.func94, Try.ntmps94
  go_wp2_with fail
  refine HI.out.mono ?_
  rintro e w1 ⟨k, rfl, hk, hb⟩
  have HK := Lib.hid hk; have HB := Lib.hid hb
  clear hk hb HI
  go_wp2
  go_ret
  exact ⟨r_b HK.out, HB.out⟩
end Go.Proofs.Ytdagkbgobnaijaa
namespace Go.Proofs.Ytdagkbgobnaijaa
open Go.RowKit Ph

theorem info_guards : (Try.prog.info? 104).map (·.size) = some 2 := by kernel_rfl
theorem wl_storeG {ops : Array Oper} {rest : List Oper} {o : Oper} {q : Act} {w : World} {Q : Exit → Act → World → Prop} (hgd : o.guard = none) (x y : Operand) (ho : o.op = .store 104 x y) (g : Nat) (v1 v2 o1 o2 : Value) (hg : Row w g 104 (gd2 o1 o2))
    (hx : q.eval x = .pointer (some ⟨g, 0, none⟩)) (hy : q.eval y = gd v1 v2) (h1 : v1.oneCell' = true) (h2 : v2.oneCell' = true) (h : wpList Try.prog ops Q rest (q.put o.dst undef) (w.setRow g (gd2 v1 v2))) : wpList Try.prog ops Q (o :: rest) q w :=
  wpList_store_row hgd 104 x y ho g (gd2 v1 v2) hx hy 104 (gd2 o1 o2) hg info_guards rfl (by simp [Value.oneCell']; exact ⟨h1, h2⟩) h
theorem rows_ne8 {w : World} {g g' : Nat} {T T' : TypeId} {cs cs' : Array Value} (h : Row w g T cs) (h' : Row w g' T' cs') (hT : T ≠ T') : g ≠ g' := by
  rintro rfl
  unfold Row at h h'
  rw [h] at h'
  cases h'
  exact hT rfl
theorem ne_rowB8 {w : World} {B g : Nat} {T : TypeId} {v : Value} {cs : List Bool} {ds : Array Value} (ho : OwnBs w B v cs) (hr : Row w g T ds) (hT : T ≠ 4) : v.ownBlock ≠ some g := by
  intro hg
  rcases ho.2 with ⟨rfl, _⟩ | ⟨g2, cap, cur, rfl, _, h2, _⟩
  · cases hg
  · cases hg
    unfold Row at hr
    rw [h2] at hr
    cases hr
    exact hT rfl
/-- The search under way: its own blocks, and what it reads. -/
structure GdW (w wr : World) (gO gG n : Nat) (v a b c : Value) (S : List Bool) : Prop where
  own : OwnBs wr w.heap.size (.slice (some ⟨gO, 0, none⟩) n n) S
  g : Row wr gG 104 (gd2 v (.slice (some ⟨gO, 0, none⟩) n n))
  r : Row wr (w.heap.size + 1) 104 (gd2 (.slice none 0 0) (.slice none 0 0))
  h : RowH wr w.heap.size a b c
  low : Below w.heap.size w wr
theorem GdW.below {w wr w' : World} {gO gG n : Nat} {v a b c : Value} {S : List Bool} (k : GdW w wr gO gG n v a b c S) (hb : Below wr.heap.size wr w') : GdW w w' gO gG n v a b c S :=
  ⟨k.own.below hb, Row.below k.g hb, Row.below k.r hb, k.h.below hb, bst k.low hb k.low.size⟩
theorem GdW.store {w wr : World} {gO gG n : Nat} {v a b c : Value} {S : List Bool} (k : GdW w wr gO gG n v a b c S) (hS : S.length = n) {t : Nat} (ht : t < n) : GdW w (wr.setCell ⟨gO, t, none⟩ (.bool true)) gO gG n v a b c (S.set t true) := by
  obtain ⟨s1, s2, s3, s4⟩ := k.own.stored hS ht true
  have hr : Row wr w.heap.size 32 (c3 a b c) := k.h
  exact ⟨s1, Row.grownBy k.g s2 (ne_rowB8 k.own k.g (by decide)), Row.grownBy k.r s2 (ne_rowB8 k.own k.r (by decide)), Row.grownBy hr s2 (ne_rowB8 k.own hr (by decide)), k.low.setCell (p := ⟨gO, t, none⟩) (owns_lt k.own rfl).1 (.bool true)⟩
set_option maxRecDepth 100000 in
set_option maxHeartbeats 6400000 in
theorem c_guardsIn (a b c v : Value) (h : H) (cs : List Int) (w : World) (hA : HeapAt w a b c h) (hG : Ph.Good h) (hz : IntsAt w v cs) (hl : cs.length = h.f.length) :
    Calls Try.prog 92 #[hv a b c, v] w fun e w' => ∃ gv, e = .returned (.agg #[v, gv]) ∧ OwnBs w' w.heap.size gv (grdL h.f cs) ∧ Below w.heap.size w w' := by
  obtain ⟨i0, hi, hz0, hz1, hz2⟩ := info_parts info_boolz
  have hn1 := hG.n
  obtain ⟨fa, fc, rfl⟩ := hA.f.shape
  obtain ⟨va, vc, hv⟩ := hz.shape
  rw [hl] at hv
  subst hv
  have HCL := Lib.hid hl
  have HF := Lib.hid hA.f; have HZ := Lib.hid hz
  have HRL : Hid (∀ k, (h.f.getD k []).length ≤ 12) := fun k => by
    by_cases q : k < h.f.length
    · have := (hG.row k q).1; omega
    · simp [List.getD, List.getElem?_eq_none (Nat.le_of_not_lt q)]
  have HR : Hid (∀ k, ∀ z ∈ h.f.getD k [], inR h.f.length z) := fun k z hz => (hG.field hz).imp id (fun h => ⟨h.1, h.2.1⟩)
  have HD : Hid (∀ S, Gin h.f cs S → (∀ j, j < h.f.length → fromB cs S j = true → ∀ z ∈ h.f.getD j [], missB cs S z = false) → S = grdL h.f cs) := fun S k q => k.done (fun j hj => q j (by rw [← hl]; exact hj))
  have HS0 : Hid (Gin h.f cs (List.replicate h.f.length false)) := by rw [← hl]; exact Gin.start _ _
  clear hA hG hz
  clear hl
  generalize hn : h.f.length = n at *
  have HN := Lib.hid hn; clear hn
  have R0 := Lib.hid (show RowH _ w.heap.size (.slice fa n fc) b c from Row.alloc (Row.new w 32 (c3 (.slice fa n fc) b c)) (.cells (gd2 (.slice none 0 0) (.slice none 0 0)) 104))
  have Q0 := Lib.hid (Row.new1 w (.cells (c3 (.slice fa n fc) b c) 32) 104 (gd2 (.slice none 0 0) (.slice none 0 0)))
  have hb0 := Lib.hid ((below1 w (.cells (c3 (.slice fa n fc) b c) 32)).alloc (by simp) (.cells (gd2 (.slice none 0 0) (.slice none 0 0)) 104))
  go_enter Try.func92, Try.ntmps92
  go_wp2_with fail
  go_step3
  go_wp2_with (first
    | (at_make; refine wpList_make_full _ rfl _ _ 23 rfl w.heap.size 4 i0 (.bool false) 1 Try.underlying23 hi hz0 hz1 .i64 .i64 _ _ n rfl rfl rfl rfl (by rw [hz2]; omega) (by unfold maxLen; omega) (by simp; omega) ?_; intro w1 hown hgr
       rw [rep_bools] at hown
       have hsz0 : ((w.alloc (.cells (c3 (.slice fa n fc) b c) 32)).alloc (.cells (gd2 (.slice none 0 0) (.slice none 0 0)) 104)).heap.size = w.heap.size + 1 + 1 := by simp
       rw [hsz0] at hown
       have o1 : OwnBs w1 w.heap.size (.slice (some ⟨w.heap.size + 1 + 1, 0, none⟩) n n) (List.replicate n false) := by unfold OwnBs; rw [List.length_replicate]; exact hown
       have b1 := hb0.out.grown hgr hb0.out.size (fun k hk => by cases hk)
       have O1 := Lib.hid o1; have B1 := Lib.hid b1; have R1 := Lib.hid (Row.grown R0.out hgr); have Q1 := Lib.hid (Row.grown Q0.out hgr)
       have K1 := Lib.hid (Row.new w1 104 (gd2 (.slice none 0 0) (.slice none 0 0)))
       clear hown hgr o1 b1)
    | (refine wl_storeG rfl _ _ rfl w1.heap.size (.slice va n vc) (.slice (some ⟨w.heap.size + 1 + 1, 0, none⟩) n n) _ _ K1.out rfl rfl rfl rfl ?_))
  have LT : Hid (w.heap.size + 1 + 1 < w1.heap.size) := (owns_lt O1.out rfl).2
  have W2 : Hid (GdW w ((w1.alloc (.cells (gd2 (.slice none 0 0) (.slice none 0 0)) 104)).setRow w1.heap.size (gd2 (.slice va n vc) (.slice (some ⟨w.heap.size + 1 + 1, 0, none⟩) n n))) (w.heap.size + 1 + 1) w1.heap.size n (.slice va n vc) (.slice fa n fc) b c (List.replicate n false)) := by
    have ba := below1 w1 (.cells (gd2 (.slice none 0 0) (.slice none 0 0)) 104)
    have lt := LT.out
    have hr : Row w1 w.heap.size 32 (c3 (.slice fa n fc) b c) := R1.out
    exact ⟨owns_block (O1.out.below ba) (fun g hg => setRow_other _ _ g _ (by cases hg; simp only; omega)), Row.put K1.out _, Row.putOther (Row.below Q1.out ba) _ (by omega), Row.putOther (Row.below hr ba) _ (by omega), below_setRow (bst B1.out ba B1.out.size) B1.out.size _⟩
  clear O1 B1 R1 Q1 K1 hb0 R0 Q0
  generalize (w1.alloc (.cells (gd2 (.slice none 0 0) (.slice none 0 0)) 104)).setRow w1.heap.size (gd2 (.slice va n vc) (.slice (some ⟨w.heap.size + 1 + 1, 0, none⟩) n n)) = w2 at *
  generalize w1.heap.size = gG at *
  clear LT
  go_step3
  go_wp2_with fail
  go_frame
  go_loopg [] n (fun k wr => ∃ S : List Bool, Hid (k = left S) ∧ Hid (Gin h.f cs S) ∧ Hid (GdW w wr (w.heap.size + 1 + 1) gG n (.slice va n vc) (.slice fa n fc) b c S))
  case atStart => exact ⟨_, by rw [left_rep]; exact rfl, HS0, W2⟩
  case round =>
    obtain ⟨S, hlf, hgin, hgw⟩ := hrel
    go_wp2_with fail
    go_loopg [16] n (fun j i wx => ∃ k : Nat, k + j = n ∧ i = .int .i64 k ∧ Hid (∀ j, j < k → fromB cs S j = true → ∀ z ∈ h.f.getD j [], missB cs S z = false) ∧ Hid (GdW w wx (w.heap.size + 1 + 1) gG n (.slice va n vc) (.slice fa n fc) b c S))
    case atStart => exact ⟨0, by omega, rfl, fun j hj => by omega, hgw⟩
    case round =>
      obtain ⟨k, hkn, rfl, hdone, hgw⟩ := hrel
      by_cases hlt : k < n
      · obtain ⟨vb, vo, rfl, hcv⟩ := HZ.out.at' (by omega)
        have qc := cellBelow hgw.out.low (Nat.le_refl _) (hcv k hlt)
        have hSl : S.length = n := by rw [hgin.out.len, HCL.out]
        obtain ⟨_, _, s3, s4⟩ := hgw.out.own.stored hSl hlt true
        have g1 := Row.cell hgw.out.g 1
        have k1 : (k : Int) < (n : Int) := by omega
        have k0 : (0 : Int) ≤ (k : Int) := by omega
        clear hcv hSl
        by_cases hck : cs.getD k 0 = 1
        · have HFK : Hid (fromB cs S k = true) := by unfold Hid fromB; rw [decide_eq_true hck]; rfl
          rw [hck] at qc
          clear hck
          have HFR : Hid (fromB cs S k = true) := HFK
          obtain ⟨fb, fo, rfl, hcf⟩ := HF.out.at' (by omega)
          obtain ⟨u, quf, huf⟩ := hcf k hlt
          have HU := Lib.hid huf
          have qu := cellBelow hgw.out.low (Nat.le_refl _) quf
          have hh0 := hgw.out.h.c0
          have HIN := Lib.hid (HR.out k)
          obtain ⟨ua, uc, rfl⟩ := huf.shape
          clear hcf quf huf
          generalize hrow : h.f.getD k [] = row at *
          have HROW := Lib.hid hrow; clear hrow
          generalize hul : row.length = ul at *
          have HUL := Lib.hid hul; clear hul
          have hul12 : ul ≤ 12 := by rw [← HUL.out, ← HROW.out]; exact HRL.out k
          go_wp2_with fail
          clear qu hh0 s3 s4 g1 qc
          go_loopg [38] ul (fun j i wy => ∃ p : Nat, p + j = ul ∧ i = .int .i64 p ∧ Hid (∀ z ∈ row.take p, missB cs S z = false) ∧ Hid (GdW w wy (w.heap.size + 1 + 1) gG n (.slice (some ⟨vb, vo, none⟩) n vc) (.slice (some ⟨fb, fo, none⟩) n fc) b c S))
          case atStart => exact ⟨0, by omega, rfl, fun z hz => by simp at hz, hgw⟩
          case round =>
            obtain ⟨p, hpn, rfl, hpd, hgy⟩ := hrel
            by_cases hpl : p < ul
            · obtain ⟨zb, zo, rfl, hcz⟩ := HU.out.at' (by omega)
              have qz := cellBelow hgy.out.low (Nat.le_refl _) (hcz p hpl)
              have hpr : p < row.length := by rw [HUL.out]; exact hpl
              have HZI := Lib.hid (HIN.out _ (getD_memI hpr))
              have HZM := Lib.hid (getD_memI hpr)
              have HTK := Lib.hid (mem_take_succ hpr)
              have p1 : (p : Int) < (ul : Int) := by omega
              have p0 : (0 : Int) ≤ (p : Int) := by omega
              have g0 := Row.cell hgy.out.g 0
              have g1 := Row.cell hgy.out.g 1
              have HM : Hid (∀ z, inR n z → Calls Try.prog 95 #[gd (.slice (some ⟨vb, vo, none⟩) n vc) (.slice (some ⟨w.heap.size + 1 + 1, 0, none⟩) n n), .int .i64 z] wr fun e w' => e = .returned (.bool (missB cs S z)) ∧ Below wr.heap.size wr w') := fun z hz => c_misses _ _ cs S z wr (HZ.out.below hgy.out.low) (owns_bools hgy.out.own) (by rw [hgin.out.len]) (by rw [HCL.out]; exact hz)
              clear hcz hpr
              generalize row.getD p 0 = z at *
              by_cases hm : missB cs S z = true
              · obtain ⟨t, rfl⟩ : ∃ t : Nat, z = t := ⟨z.toNat, by have := (missB_iff.1 hm).1; omega⟩
                have htn : t < n := by rcases HZI.out with q | q <;> omega
                have TK : Hid (Gin h.f cs (S.set t true)) := hgin.out.take HFR.out (by rw [HROW.out]; exact HZM.out) hm (by rw [HCL.out]; exact htn)
                have SF : Hid (S.getD t false = false) := (by have := (missB_iff.1 hm).2.2; rwa [Int.toNat_natCast] at this)
                have t1 : (t : Int) < (n : Int) := by omega
                have t0 : (0 : Int) ≤ (t : Int) := by omega
                have HMM := Lib.hid hm
                have HTN := Lib.hid htn
                clear hm HTK htn
                go_wp2_with fail
                refine (HM.out _ HZI.out).mono ?_
                rintro e w5 ⟨rfl, hb5⟩
                rw [HMM.out]
                have W5 := Lib.hid (hgy.out.below hb5)
                have hSl : S.length = n := by rw [hgin.out.len, HCL.out]
                have W6 := Lib.hid (W5.out.store hSl HTN.out)
                obtain ⟨_, _, s5, s6⟩ := W5.out.own.stored hSl HTN.out true
                rw [SF.out] at s5
                have LS : Hid (left (S.set t true) + 1 = left S) := left_set (by rw [hSl]; exact HTN.out) SF.out
                have e1 := Row.cell W5.out.g 1
                clear hb5 g0 g1 qz HM hSl
                go_wp2_with fail
                go_roundg (left (S.set t true))
                case measure => have := hlf.out; have := LS.out; omega
                case rel => exact ⟨S.set t true, rfl, TK, W6⟩
              · have HMM : Hid (missB cs S z = false) := by unfold Hid; simpa using hm
                clear hm
                go_wp2_with fail
                refine (HM.out _ HZI.out).mono ?_
                rintro e w5 ⟨rfl, hb5⟩
                rw [HMM.out]
                have W5 := Lib.hid (hgy.out.below hb5)
                have HE : Hid (∀ y ∈ row.take (p + 1), missB cs S y = false) := fun y hy => ((HTK.out y).1 hy).elim (hpd.out y) (fun q => by rw [q]; exact HMM.out)
                clear hb5 g0 g1 qz HM
                go_wp2_with fail
                go_roundg (ul - (p + 1))
                case measure => omega
                case rel => exact ⟨p + 1, by omega, by go_num, HE, W5⟩
            · have hpe : Hid (∀ z ∈ row, missB cs S z = false) := fun z hz => hpd.out z (by rw [List.take_of_length_le (by rw [HUL.out]; omega)]; exact hz)
              have HE : Hid (∀ j, j < k + 1 → fromB cs S j = true → ∀ z ∈ h.f.getD j [], missB cs S z = false) := fun j hj hf z hz => by
                by_cases e : j = k
                · subst e; exact hpe.out z (by rw [← HROW.out]; exact hz)
                · exact hdone.out j (by omega) hf z hz
              have hkg := hkn
              go_wp2_with fail
              go_roundg (n - (k + 1))
              case measure => omega
              case rel => exact ⟨k + 1, by omega, by go_num, HE, hgy⟩

        · generalize hy : cs.getD k 0 = y at *
          have hy1 : (y == 1) = false := by simpa using hck
          have hy2 : (y != 1) = true := by simpa using hck
          have HCK : Hid (¬ cs.getD k 0 = 1) := by unfold Hid; rw [hy]; exact hck
          clear hy hck
          generalize hx : S.getD k false = x at *
          have HX := Lib.hid hx; clear hx
          cases x
          · have HE : Hid (∀ j, j < k + 1 → fromB cs S j = true → ∀ z ∈ h.f.getD j [], missB cs S z = false) := fun j hj hf z hz => by
              by_cases e : j = k
              · subst e
                unfold fromB at hf
                rw [HX.out, decide_eq_false HCK.out] at hf
                cases hf
              · exact hdone.out j (by omega) hf z hz
            go_wp2_with fail
            go_roundg (n - (k + 1))
            case measure => omega
            case rel => exact ⟨k + 1, by omega, by go_num, HE, hgw⟩
          · have HFK : Hid (fromB cs S k = true) := by unfold Hid fromB; rw [HX.out]; simp
            have HFR : Hid (fromB cs S k = true) := HFK
            obtain ⟨fb, fo, rfl, hcf⟩ := HF.out.at' (by omega)
            obtain ⟨u, quf, huf⟩ := hcf k hlt
            have HU := Lib.hid huf
            have qu := cellBelow hgw.out.low (Nat.le_refl _) quf
            have hh0 := hgw.out.h.c0
            have HIN := Lib.hid (HR.out k)
            obtain ⟨ua, uc, rfl⟩ := huf.shape
            clear hcf quf huf
            generalize hrow : h.f.getD k [] = row at *
            have HROW := Lib.hid hrow; clear hrow
            generalize hul : row.length = ul at *
            have HUL := Lib.hid hul; clear hul
            have hul12 : ul ≤ 12 := by rw [← HUL.out, ← HROW.out]; exact HRL.out k
            go_wp2_with fail
            clear qu hh0 s3 s4 g1 qc
            go_loopg [38] ul (fun j i wy => ∃ p : Nat, p + j = ul ∧ i = .int .i64 p ∧ Hid (∀ z ∈ row.take p, missB cs S z = false) ∧ Hid (GdW w wy (w.heap.size + 1 + 1) gG n (.slice (some ⟨vb, vo, none⟩) n vc) (.slice (some ⟨fb, fo, none⟩) n fc) b c S))
            case atStart => exact ⟨0, by omega, rfl, fun z hz => by simp at hz, hgw⟩
            case round =>
              obtain ⟨p, hpn, rfl, hpd, hgy⟩ := hrel
              by_cases hpl : p < ul
              · obtain ⟨zb, zo, rfl, hcz⟩ := HU.out.at' (by omega)
                have qz := cellBelow hgy.out.low (Nat.le_refl _) (hcz p hpl)
                have hpr : p < row.length := by rw [HUL.out]; exact hpl
                have HZI := Lib.hid (HIN.out _ (getD_memI hpr))
                have HZM := Lib.hid (getD_memI hpr)
                have HTK := Lib.hid (mem_take_succ hpr)
                have p1 : (p : Int) < (ul : Int) := by omega
                have p0 : (0 : Int) ≤ (p : Int) := by omega
                have g0 := Row.cell hgy.out.g 0
                have g1 := Row.cell hgy.out.g 1
                have HM : Hid (∀ z, inR n z → Calls Try.prog 95 #[gd (.slice (some ⟨vb, vo, none⟩) n vc) (.slice (some ⟨w.heap.size + 1 + 1, 0, none⟩) n n), .int .i64 z] wr fun e w' => e = .returned (.bool (missB cs S z)) ∧ Below wr.heap.size wr w') := fun z hz => c_misses _ _ cs S z wr (HZ.out.below hgy.out.low) (owns_bools hgy.out.own) (by rw [hgin.out.len]) (by rw [HCL.out]; exact hz)
                clear hcz hpr
                generalize row.getD p 0 = z at *
                by_cases hm : missB cs S z = true
                · obtain ⟨t, rfl⟩ : ∃ t : Nat, z = t := ⟨z.toNat, by have := (missB_iff.1 hm).1; omega⟩
                  have htn : t < n := by rcases HZI.out with q | q <;> omega
                  have TK : Hid (Gin h.f cs (S.set t true)) := hgin.out.take HFR.out (by rw [HROW.out]; exact HZM.out) hm (by rw [HCL.out]; exact htn)
                  have SF : Hid (S.getD t false = false) := (by have := (missB_iff.1 hm).2.2; rwa [Int.toNat_natCast] at this)
                  have t1 : (t : Int) < (n : Int) := by omega
                  have t0 : (0 : Int) ≤ (t : Int) := by omega
                  have HMM := Lib.hid hm
                  have HTN := Lib.hid htn
                  clear hm HTK htn
                  go_wp2_with fail
                  refine (HM.out _ HZI.out).mono ?_
                  rintro e w5 ⟨rfl, hb5⟩
                  rw [HMM.out]
                  have W5 := Lib.hid (hgy.out.below hb5)
                  have hSl : S.length = n := by rw [hgin.out.len, HCL.out]
                  have W6 := Lib.hid (W5.out.store hSl HTN.out)
                  obtain ⟨_, _, s5, s6⟩ := W5.out.own.stored hSl HTN.out true
                  rw [SF.out] at s5
                  have LS : Hid (left (S.set t true) + 1 = left S) := left_set (by rw [hSl]; exact HTN.out) SF.out
                  have e1 := Row.cell W5.out.g 1
                  clear hb5 g0 g1 qz HM hSl
                  go_wp2_with fail
                  go_roundg (left (S.set t true))
                  case measure => have := hlf.out; have := LS.out; omega
                  case rel => exact ⟨S.set t true, rfl, TK, W6⟩
                · have HMM : Hid (missB cs S z = false) := by unfold Hid; simpa using hm
                  clear hm
                  go_wp2_with fail
                  refine (HM.out _ HZI.out).mono ?_
                  rintro e w5 ⟨rfl, hb5⟩
                  rw [HMM.out]
                  have W5 := Lib.hid (hgy.out.below hb5)
                  have HE : Hid (∀ y ∈ row.take (p + 1), missB cs S y = false) := fun y hy => ((HTK.out y).1 hy).elim (hpd.out y) (fun q => by rw [q]; exact HMM.out)
                  clear hb5 g0 g1 qz HM
                  go_wp2_with fail
                  go_roundg (ul - (p + 1))
                  case measure => omega
                  case rel => exact ⟨p + 1, by omega, by go_num, HE, W5⟩
              · have hpe : Hid (∀ z ∈ row, missB cs S z = false) := fun z hz => hpd.out z (by rw [List.take_of_length_le (by rw [HUL.out]; omega)]; exact hz)
                have HE : Hid (∀ j, j < k + 1 → fromB cs S j = true → ∀ z ∈ h.f.getD j [], missB cs S z = false) := fun j hj hf z hz => by
                  by_cases e : j = k
                  · subst e; exact hpe.out z (by rw [← HROW.out]; exact hz)
                  · exact hdone.out j (by omega) hf z hz
                have hkg := hkn
                go_wp2_with fail
                go_roundg (n - (k + 1))
                case measure => omega
                case rel => exact ⟨k + 1, by omega, by go_num, HE, hgy⟩

      · have HE : Hid (S = grdL h.f cs) := HD.out S hgin.out (fun j hj => hdone.out j (by omega))
        have g0 := Row.cell hgw.out.g 0
        have g1 := Row.cell hgw.out.g 1
        go_wp2_with (refine wl_storeG rfl _ _ rfl (w.heap.size + 1) (.slice va n vc) (.slice (some ⟨w.heap.size + 1 + 1, 0, none⟩) n n) _ _ hgw.out.r rfl rfl rfl rfl ?_)
        rw [Exit.noGoto_ret]
        refine bodyPost_ret (res_row Try.results92 (Row.put hgw.out.r (gd2 (.slice va n vc) (.slice (some ⟨w.heap.size + 1 + 1, 0, none⟩) n n))) rfl Try.underlying104 rfl info_guards) rfl ⟨_, rfl, ?_, below_setRow hgw.out.low (by omega) _⟩
        rw [← HE.out]
        exact owns_block hgw.out.own fun g hg => setRow_other _ _ g _ (by cases hg; simp only; omega)
end Go.Proofs.Ytdagkbgobnaijaa
namespace Go.Proofs.Ytdagkbgobnaijaa
open Go.RowKit Ph

theorem grdR_no {h : H} {cs : List Int} (k : bothB h cs = false) : grdR h cs = [] := by unfold grdR; rw [k]; rfl
theorem grdR_yes {h : H} {cs : List Int} (k : bothB h cs = true) : grdR h cs = ofB (grdL h.f cs) := by unfold grdR; rw [k]; rfl
theorem weakR_no {h : H} {cs : List Int} (k : bothB h cs = false) : weakR h cs = false := by unfold weakR; rw [k]; rfl
theorem weakR_yes {h : H} {cs : List Int} (k : bothB h cs = true) : weakR h cs = weakB h cs := by unfold weakR; rw [k]; rfl
theorem rootsR_no {h : H} {cs : List Int} (k : bothB h cs = false) : rootsR h cs = false := by unfold rootsR; rw [k]; rfl
theorem rootsR_yes {h : H} {cs : List Int} (k : bothB h cs = true) : rootsR h cs = rootsB h cs := by unfold rootsR; rw [k]; rfl
theorem run_fieldG (c g : Value) (w : World) : (Instr.field 104 (.agg #[c, g]) 1).run Try.prog w = .ok g w := by
  simp [Instr.field, go_sem, asAgg]
theorem own_boolshape {w : World} {B : Nat} {v : Value} {bs : List Bool} (h : OwnBs w B v bs) : ∃ a c, v = .slice a bs.length c := by
  rcases h.shape with ⟨q1, q2⟩ | ⟨g, c, q⟩
  · exact ⟨none, 0, by rw [q1, q2]; rfl⟩
  · exact ⟨_, c, q⟩

set_option maxRecDepth 100000 in
set_option maxHeartbeats 3200000 in
theorem c_GuardedBy (a b c v : Value) (h : H) (cs : List Int) (w : World) (hA : HeapAt w a b c h) (hz : IntsAt w v cs) : Calls Try.prog 51 #[hv a b c, v] w (EndI (grdR h cs) (bothB h cs) w) := by
  have hb0 := below1 w (.cells (c3 a b c) 32)
  have A0 := Lib.hid (hA.below hb0)
  have Z0 := Lib.hid (hz.below hb0)
  have HB := Lib.hid hb0
  have R0 := Lib.hid (show RowH _ _ a b c from Row.new w 32 (c3 a b c))
  have HF := Lib.hid hA
  have HZW := Lib.hid hz
  clear hA hb0
  have HC := Lib.hid (c_areColoursOf a b c v h cs _ A0.out Z0.out)
  have HE1 := Lib.hid (grdR_no (h := h) (cs := cs))
  have HE2 := Lib.hid (grdR_yes (h := h) (cs := cs))
  have HBB := Lib.hid (bothB_iff (h := h) (cs := cs)).1
  obtain ⟨va, vc, rfl⟩ := hz.shape
  clear hz
  generalize hx : bothB h cs = x at *
  have HX := Lib.hid hx; clear hx
  have c0 := R0.out.c0
  have c1 := R0.out.c1
  have c2 := R0.out.c2
  cases x
  · have HR := Lib.hid (HE1.out rfl)
    go_enter Try.func51, Try.ntmps51
    go_wp2_with (go_at_call 91; refine HC.out.mono ?_; rintro e w1 ⟨rfl, hb1⟩; have B1 := Lib.hid (bst HB.out hb1 HB.out.size); clear hb1)
    go_ret2
    exact endI_no B1.out HR.out rfl
  have HR := Lib.hid (HE2.out rfl)
  obtain ⟨hG, hlen, hcol⟩ := HBB.out rfl
  have hn12 : cs.length ≤ 12 := by rw [hlen]; exact hG.n
  have HG := Lib.hid hG
  have HLE := Lib.hid hlen
  clear hG hcol HBB hlen
  have HN12 := Lib.hid hn12; clear hn12
  go_enter Try.func51, Try.ntmps51
  go_wp2_with (go_at_call 91; refine HC.out.mono ?_; rintro e w1 ⟨rfl, hb1⟩; have B1 := Lib.hid (bst HB.out hb1 HB.out.size); have Z1 := Lib.hid (Z0.out.below hb1); have A1 := Lib.hid (A0.out.below hb1); have R1 := Lib.hid (R0.out.below hb1); have d0 := R1.out.c0; have d1 := R1.out.c1; have d2 := R1.out.c2; clear hb1)
  refine (c_guardsIn _ _ _ _ h cs _ A1.out HG.out Z1.out HLE.out).mono ?_
  rintro e w2 ⟨gv, rfl, ho2, hb2⟩
  have B2 := Lib.hid (bst B1.out hb2 B1.out.size)
  have O2 := Lib.hid ho2
  obtain ⟨ga, gc, rfl⟩ := own_boolshape ho2
  clear ho2 hb2 d0 d1 d2 c0 c1 c2
  have fd := run_fieldG (.slice va cs.length vc) (.slice ga (grdL h.f cs).length gc) w2
  go_wp2_with fail
  refine (c_thingsOfB _ _ _ (owns_bools O2.out) (by rw [grdL_len]; exact HN12.out)).mono ?_
  rintro e w3 ⟨v3, rfl, ho3, hb3⟩
  have B3 := Lib.hid (bst B2.out hb3 B2.out.size)
  have O3 := Lib.hid ho3
  have BS2 := Lib.hid B2.out.size
  clear ho3 hb3 O2 B2
  go_wp2_with fail
  go_ret2
  exact endI_yes B3.out O3.out BS2.out HR.out rfl
  theorem r_lenb {n m : Nat} {b b' : Bool} (h : n = m) (k : b = b') : Ending.returned (.tuple #[.int .i64 (n : Int), .bool b]) = .returned (.tuple #[.int .i64 (m : Int), .bool b']) := by rw [h, k]
  set_option maxHeartbeats 1600000 in
  theorem c_BehindGreys (a b c v : Value) (h : H) (cs : List Int) (w : World) (hA : HeapAt w a b c h) (hz : IntsAt w v cs) : Calls Try.prog 57 #[hv a b c, v] w fun e w' => e = .returned (.tuple #[.int .i64 ((grdR h cs).length : Int), .bool (bothB h cs)]) ∧ Below w.heap.size w w' := by
    have hb0 := below1 w (.cells (c3 a b c) 32)
    have A0 := Lib.hid (hA.below hb0)
    have Z0 := Lib.hid (hz.below hb0)
    have HB := Lib.hid hb0
    have R0 := Lib.hid (show RowH _ _ a b c from Row.new w 32 (c3 a b c))
    have HC := Lib.hid (c_GuardedBy a b c v h cs _ A0.out Z0.out)
    have c0 := R0.out.c0
    have c1 := R0.out.c1
    have c2 := R0.out.c2
    clear hA hz hb0
    generalize hx : bothB h cs = x at *
    have HX := Lib.hid hx; clear hx
    generalize hg : grdR h cs = gs at *
    have HGS := Lib.hid hg; clear hg
    go_enter Try.func57, Try.ntmps57
    go_wp2_with fail
    refine HC.out.mono ?_
    rintro e w1 ⟨v1, rfl, ho, hb⟩
    have B1 := Lib.hid (bst HB.out hb HB.out.size)
    obtain ⟨_, _, ⟨pa, qa, rfl⟩⟩ := ho.shapes
    simp only
    clear ho hb
    generalize hl : gs.length = n at *
    have HL := Lib.hid hl; clear hl
    go_wp2_with fail
    go_ret2
    exact ⟨r_lenb HL.out.symm rfl, B1.out⟩
end Go.Proofs.Ytdagkbgobnaijaa
namespace Go.Proofs.Ytdagkbgobnaijaa
open Go.RowKit Ph

set_option maxRecDepth 100000 in
set_option maxHeartbeats 3200000 in
theorem c_RootsShaded (a b c v : Value) (h : H) (cs : List Int) (w : World) (hA : HeapAt w a b c h) (hz : IntsAt w v cs) : Calls Try.prog 53 #[hv a b c, v] w fun e w' => e = .returned (.tuple #[.bool (rootsR h cs), .bool (bothB h cs)]) ∧ Below w.heap.size w w' := by
  have hb0 := below1 w (.cells (c3 a b c) 32)
  have A0 := Lib.hid (hA.below hb0)
  have Z0 := Lib.hid (hz.below hb0)
  have HB := Lib.hid hb0
  have R0 := Lib.hid (show RowH _ _ a b c from Row.new w 32 (c3 a b c))
  have HF := Lib.hid hA
  have HZW := Lib.hid hz
  clear hA hb0
  have HC := Lib.hid (c_areColoursOf a b c v h cs _ A0.out Z0.out)
  have HE1 := Lib.hid (rootsR_no (h := h) (cs := cs))
  have HE2 := Lib.hid (rootsR_yes (h := h) (cs := cs))
  have HBB := Lib.hid (bothB_iff (h := h) (cs := cs)).1
  obtain ⟨va, vc, rfl⟩ := hz.shape
  clear hz
  generalize hx : bothB h cs = x at *
  have HX := Lib.hid hx; clear hx
  have c0 := R0.out.c0
  have c1 := R0.out.c1
  have c2 := R0.out.c2
  cases x
  · have HR := Lib.hid (HE1.out rfl)
    go_enter Try.func53, Try.ntmps53
    go_wp2_with (go_at_call 91; refine HC.out.mono ?_; rintro e w1 ⟨rfl, hb1⟩; have B1 := Lib.hid (bst HB.out hb1 HB.out.size); clear hb1)
    go_ret2
    exact ⟨r_bb HR.out.symm rfl, B1.out⟩
  have HR := Lib.hid (HE2.out rfl)
  obtain ⟨hG, hlen, hcol⟩ := HBB.out rfl
  have hn12 : cs.length ≤ 12 := by rw [hlen]; exact hG.n
  have HG := Lib.hid hG
  have HLE := Lib.hid hlen
  have HIN : Hid (∀ z ∈ h.r, inR cs.length z) := fun z hz => by rw [hlen]; exact (refs_bound hG hG.rr z hz).imp id (fun q => ⟨q.1, q.2.1⟩)
  have HR4 : Hid (h.r.length ≤ 12) := by have := hG.rn; unfold Hid; omega
  have HRB : Hid (rootsB h cs = !h.r.any (missB cs (grdL h.f cs))) := rfl
  obtain ⟨ra, rc, rfl⟩ := HF.out.r.shape
  obtain ⟨fa, fc, rfl⟩ := HF.out.f.shape
  obtain ⟨la, lc, rfl⟩ := HF.out.l.shape
  clear hG hcol HBB hlen
  go_enter Try.func53, Try.ntmps53
  go_wp2_with (go_at_call 91; refine HC.out.mono ?_; rintro e w1 ⟨rfl, hb1⟩; have B1 := Lib.hid (bst HB.out hb1 HB.out.size); have Z1 := Lib.hid (Z0.out.below hb1); have A1 := Lib.hid (A0.out.below hb1); have R1 := Lib.hid (R0.out.below hb1); have d0 := R1.out.c0; have d1 := R1.out.c1; have d2 := R1.out.c2; clear hb1)
  clear c0 c1 c2
  have A2 := Lib.hid (A1.out.below (below_drew (Below.refl w1.heap.size w1)))
  have Z2 := Lib.hid (Z1.out.below (below_drew (Below.refl w1.heap.size w1)))
  have R2 := Lib.hid (R1.out.below (below_drew (Below.refl w1.heap.size w1)))
  have L2 := Lib.hid (below_drew B1.out)
  clear A1 Z1 R1 B1 d0 d1 d2
  refine wp_region_held_drew (S := (fun w' => w'.cell? ⟨w.heap.size, 0, none⟩ = some (.slice fa h.f.length fc) ∧ w'.cell? ⟨w.heap.size, 1, none⟩ = some (.slice la h.l.length lc) ∧ w'.cell? ⟨w.heap.size, 2, none⟩ = some (.slice ra h.r.length rc))) (by kernel_rfl) (⟨R2.out.c0, R2.out.c1, R2.out.c2⟩) (fun hHeld => ?_)
  generalize w1.drew = x1 at *
  refine wpAnyH_take (i := 0) (v := ?va0x1) rfl (by kernel_rfl) (by kernel_rfl) (by kernel_rfl) (fun _ _ _ h => h) (Or.inl ⟨by rfl, ?hy0x1⟩) (by assumption) ?rest0x1
  case hy0x1 => (intro w hSw; (try dsimp only at hSw); go_simp; try with_reducible rfl)
  (try simp only [Act.put, List.getElem_toArray, List.getElem_cons_zero, List.setIfInBounds_toArray, List.set_cons_zero, List.set_cons_succ])
  refine wpAnyH_take (i := 1) (v := ?va1x2) rfl (by kernel_rfl) (by kernel_rfl) (by kernel_rfl) (fun _ _ _ h => h) (Or.inl ⟨by rfl, ?hy1x2⟩) (by assumption) ?rest1x2
  case hy1x2 => (intro w hSw; (try dsimp only at hSw); go_simp; try with_reducible rfl)
  (try simp only [Act.put, List.getElem_toArray, List.getElem_cons_zero, List.getElem_cons_succ, List.setIfInBounds_toArray, List.set_cons_zero, List.set_cons_succ])
  refine wpAnyH_take (i := 2) (v := ?va2x3) rfl (by kernel_rfl) (by kernel_rfl) (by kernel_rfl) (fun _ _ _ h => h) (Or.inl ⟨by rfl, ?hy2x3⟩) (by assumption) ?rest2x3
  case hy2x3 => (intro w hSw; (try dsimp only at hSw); go_simp; try with_reducible rfl)
  (try simp only [Act.put, List.getElem_toArray, List.getElem_cons_zero, List.getElem_cons_succ, List.setIfInBounds_toArray, List.set_cons_zero, List.set_cons_succ])
  refine wpAnyH_take (i := 3) (v := ?va3x4) rfl (by kernel_rfl) (by kernel_rfl) (by kernel_rfl) (fun _ _ _ h => h) (Or.inl ⟨by rfl, ?hy3x4⟩) (by assumption) ?rest3x4
  case hy3x4 => (intro w hSw; (try dsimp only at hSw); go_simp; try with_reducible rfl)
  (try simp only [Act.put, List.getElem_toArray, List.getElem_cons_zero, List.getElem_cons_succ, List.setIfInBounds_toArray, List.set_cons_zero, List.set_cons_succ])
  refine wpAnyH_ready (rs := [4]) (by kernel_rfl) (by simp) ?_
  refine AllReadyH.cons rfl (fun K hK => ?_) AllReadyH.nil
  go_simp
  refine (c_guardsIn _ _ _ _ h cs _ A2.out HG.out Z2.out HLE.out).mono ?_
  rintro e w2 ⟨gv, rfl, ho2, hb2⟩
  have O2 := Lib.hid ho2
  replace A2 := Lib.hid (A2.out.below hb2); replace Z2 := Lib.hid (Z2.out.below hb2); replace R2 := Lib.hid (R2.out.below hb2); replace L2 := Lib.hid (bst L2.out hb2 L2.out.size)
  clear ho2 hb2
  refine hK.out _ _ (⟨R2.out.c0, R2.out.c1, R2.out.c2⟩) (fun hHeld => ?_)
  clear hK K
  (try simp only [Act.put, List.getElem_toArray, List.getElem_cons_zero, List.getElem_cons_succ, List.setIfInBounds_toArray, List.set_cons_zero, List.set_cons_succ])
  refine wpAnyH_take (i := 5) (v := ?va5x5) rfl (by kernel_rfl) (by kernel_rfl) (by kernel_rfl) (fun _ _ _ h => h) (Or.inl ⟨by rfl, ?hy5x5⟩) (by assumption) ?rest5x5
  case hy5x5 => (intro w hSw; (try dsimp only at hSw); go_simp; try with_reducible rfl)
  (try simp only [Act.put, List.getElem_toArray, List.getElem_cons_zero, List.getElem_cons_succ, List.setIfInBounds_toArray, List.set_cons_zero, List.set_cons_succ])
  refine wpAnyH_ready (rs := [6]) (by kernel_rfl) (by simp) ?_
  refine AllReadyH.cons rfl (fun K hK => ?_) AllReadyH.nil
  go_simp
  refine (c_containsFunc _ _ gv h.r cs _ _ A2.out.r Z2.out (owns_bools O2.out) (grdL_len _ _) HIN.out HR4.out).mono ?_
  rintro e w3 ⟨rfl, hb3⟩
  replace R2 := Lib.hid (R2.out.below hb3); replace L2 := Lib.hid (bst L2.out hb3 L2.out.size)
  clear hb3
  refine hK.out _ _ (⟨R2.out.c0, R2.out.c1, R2.out.c2⟩) (fun hHeld => ?_)
  clear hK K
  (try simp only [Act.put, List.getElem_toArray, List.getElem_cons_zero, List.getElem_cons_succ, List.setIfInBounds_toArray, List.set_cons_zero, List.set_cons_succ])
  refine wpAnyH_take (i := 7) (v := ?va7x6) rfl (by kernel_rfl) (by kernel_rfl) (by kernel_rfl) (fun _ _ _ h => h) (Or.inl ⟨by rfl, ?hy7x6⟩) (by assumption) ?rest7x6
  case hy7x6 => (intro w hSw; (try dsimp only at hSw); go_simp; try with_reducible rfl)
  (try simp only [Act.put, List.getElem_toArray, List.getElem_cons_zero, List.getElem_cons_succ, List.setIfInBounds_toArray, List.set_cons_zero, List.set_cons_succ])
  refine wpAnyH_take (i := 8) (v := ?va8x7) rfl (by kernel_rfl) (by kernel_rfl) (by kernel_rfl) (fun _ _ _ h => h) (Or.inl ⟨by rfl, ?hy8x7⟩) (by assumption) ?rest8x7
  case hy8x7 => (intro w hSw; (try dsimp only at hSw); go_simp; try with_reducible rfl)
  (try simp only [Act.put, List.getElem_toArray, List.getElem_cons_zero, List.getElem_cons_succ, List.setIfInBounds_toArray, List.set_cons_zero, List.set_cons_succ])
  refine wpAnyH_take (i := 9) (v := ?va9x8) rfl (by kernel_rfl) (by kernel_rfl) (by kernel_rfl) (fun _ _ _ h => h) (Or.inl ⟨by rfl, ?hy9x8⟩) (by assumption) ?rest9x8
  case hy9x8 => (intro w hSw; (try dsimp only at hSw); go_simp; try with_reducible rfl)
  (try simp only [Act.put, List.getElem_toArray, List.getElem_cons_zero, List.getElem_cons_succ, List.setIfInBounds_toArray, List.set_cons_zero, List.set_cons_succ])
  refine wpAnyH_done (by kernel_rfl) ?_ _
  go_wp2_with fail
  go_ret2
  exact ⟨r_bb (HR.out.trans HRB.out).symm rfl, L2.out⟩
end Go.Proofs.Ytdagkbgobnaijaa
namespace Go.Proofs.Ytdagkbgobnaijaa
open Go.RowKit Ph

set_option maxRecDepth 100000 in
set_option maxHeartbeats 3200000 in
theorem c_WeakIn (a b c v : Value) (h : H) (cs : List Int) (w : World) (hA : HeapAt w a b c h) (hz : IntsAt w v cs) : Calls Try.prog 42 #[hv a b c, v] w fun e w' => e = .returned (.tuple #[.bool (weakR h cs), .bool (bothB h cs)]) ∧ Below w.heap.size w w' := by
  have hb0 := below1 w (.cells (c3 a b c) 32)
  have A0 := Lib.hid (hA.below hb0)
  have Z0 := Lib.hid (hz.below hb0)
  have HB := Lib.hid hb0
  have R0 := Lib.hid (show RowH _ _ a b c from Row.new w 32 (c3 a b c))
  have HF := Lib.hid hA
  have HZW := Lib.hid hz
  clear hA hb0
  have HC := Lib.hid (c_areColoursOf a b c v h cs _ A0.out Z0.out)
  have HE1 := Lib.hid (weakR_no (h := h) (cs := cs))
  have HE2 := Lib.hid (weakR_yes (h := h) (cs := cs))
  have HBB := Lib.hid (bothB_iff (h := h) (cs := cs)).1
  obtain ⟨va, vc, rfl⟩ := hz.shape
  clear hz
  generalize hx : bothB h cs = x at *
  have HX := Lib.hid hx; clear hx
  have c0 := R0.out.c0
  have c1 := R0.out.c1
  have c2 := R0.out.c2
  cases x
  · have HR := Lib.hid (HE1.out rfl)
    go_enter Try.func42, Try.ntmps42
    go_wp2_with (go_at_call 91; refine HC.out.mono ?_; rintro e w1 ⟨rfl, hb1⟩; have B1 := Lib.hid (bst HB.out hb1 HB.out.size); clear hb1)
    go_ret2
    exact ⟨r_bb HR.out.symm rfl, B1.out⟩
  have HR := Lib.hid (HE2.out rfl)
  obtain ⟨hG, hlen, hcol⟩ := HBB.out rfl
  have hn12 : cs.length ≤ 12 := by rw [hlen]; exact hG.n
  have HG := Lib.hid hG
  have HLE := Lib.hid hlen
  have HIN : Hid (∀ k, ∀ z ∈ h.f.getD k [], inR cs.length z) := fun k z hz => by rw [hlen]; exact (hG.field hz).imp id (fun h => ⟨h.1, h.2.1⟩)
  have HRL : Hid (∀ k, k < cs.length → (h.f.getD k []).length ≤ 12) := fun k hk => by have := (hG.row k (by omega)).1; omega
  have HSF : Hid (∀ k, k < cs.length → cs.getD k 0 = 2 → (h.f.getD k []).any (missB cs (grdL h.f cs)) = true → weakB h cs = false) := fun k hk => weakB_no (by rw [← hlen]; exact hk)
  have HST : Hid ((∀ z ∈ ofC cs 2, (h.f.getD z.toNat []).any (missB cs (grdL h.f cs)) = false) → weakB h cs = true) := fun q => weakB_iff.2 fun k hk h2 => q (k : Int) (mem_ofC.2 ⟨k, by rw [hlen]; exact hk, h2, rfl⟩)
  have HMC : Hid (∀ z ∈ ofC cs 2, ∃ k : Nat, z = k ∧ k < cs.length ∧ cs.getD k 0 = 2) := fun z hz => by obtain ⟨i, h1, h2, h3⟩ := mem_ofC.1 hz; exact ⟨i, h3, h1, h2⟩
  have HTL : Hid ((ofC cs 2).length ≤ 12) := Nat.le_trans (ofTo_len _ _ _) hn12
  obtain ⟨fa, fc, hv⟩ := HF.out.f.shape
  rw [← hlen] at hv
  subst hv
  clear hG hcol HBB
  have HGL : Hid ((grdL h.f cs).length = cs.length) := grdL_len _ _
  clear hlen
  generalize hgl : grdL h.f cs = G at *
  have HGD := Lib.hid hgl; clear hgl
  generalize hn : cs.length = n at *
  have HN := Lib.hid hn; clear hn
  go_enter Try.func42, Try.ntmps42
  go_wp2_with (go_at_call 91; refine HC.out.mono ?_; rintro e w1 ⟨rfl, hb1⟩; have B1 := Lib.hid (bst HB.out hb1 HB.out.size); have Z1 := Lib.hid (Z0.out.below hb1); have A1 := Lib.hid (A0.out.below hb1); have R1 := Lib.hid (R0.out.below hb1); have d0 := R1.out.c0; have d1 := R1.out.c1; have d2 := R1.out.c2; clear hb1)
  refine (c_guardsIn _ _ _ _ h cs _ A1.out HG.out Z1.out (HN.out.trans HLE.out)).mono ?_
  rintro e w2 ⟨gv, rfl, ho2, hb2⟩
  rw [HGD.out] at ho2
  have B2 := Lib.hid (bst B1.out hb2 B1.out.size)
  have R2 := Lib.hid (R1.out.below hb2)
  have Z2 := Lib.hid (Z1.out.below hb2)
  have O2 := Lib.hid (owns_bools ho2)
  obtain ⟨ga, gc, hgv⟩ := own_boolshape ho2
  rw [HGL.out] at hgv
  subst hgv
  clear ho2 hb2 d0 d1 d2 c0 c1 c2 A1 Z1 R1 B1
  have K2 := Lib.hid (Row.new w2 104 (gd2 (.slice none 0 0) (.slice none 0 0)))
  have ba := below1 w2 (.cells (gd2 (.slice none 0 0) (.slice none 0 0)) 104)
  have B3 := Lib.hid (below_setRow (bst B2.out ba B2.out.size) B2.out.size (gd2 (.slice va n vc) (.slice ga n gc)))
  have R3 : Hid (RowH _ w.heap.size _ _ _) := Row.putOther (Row.below R2.out ba) (gd2 (.slice va n vc) (.slice ga n gc)) (Nat.ne_of_lt (Row.lt R2.out))
  have LB := Lib.hid (below_setRow ba (Nat.le_refl _) (gd2 (.slice va n vc) (.slice ga n gc)))
  have Z3 := Lib.hid (Z2.out.below LB.out)
  have O3 := Lib.hid (O2.out.below LB.out)
  clear ba
  go_wp2_with (refine wl_storeG rfl _ _ rfl w2.heap.size (.slice va n vc) (.slice ga n gc) _ _ K2.out rfl rfl rfl rfl ?_)
  have K3 := Lib.hid (Row.put K2.out (gd2 (.slice va n vc) (.slice ga n gc)))
  clear K2 B2 R2 LB Z2 O2
  generalize (w2.alloc (.cells (gd2 (.slice none 0 0) (.slice none 0 0)) 104)).setRow w2.heap.size (gd2 (.slice va n vc) (.slice ga n gc)) = w3 at *
  generalize w2.heap.size = gG at *
  refine (c_thingsOf _ cs 2 _ Z3.out (by rw [HN.out]; exact hn12)).mono ?_
  rintro e w4 ⟨v4, rfl, ho4, hb4⟩
  have B4 := Lib.hid (bst B3.out hb4 B3.out.size)
  have R4 := Lib.hid (R3.out.below hb4)
  have T4 := Lib.hid ho4.ints
  have Z4 := Lib.hid (Z3.out.below hb4)
  have O4 := Lib.hid (O3.out.below hb4)
  have K4 := Lib.hid (Row.below K3.out hb4)
  obtain ⟨ta, tc, rfl⟩ := ho4.ints.shape
  clear ho4 hb4 B3 R3 Z3 O3 K3
  generalize ofC cs 2 = ts at *
  generalize hm : ts.length = m at *
  have HM := Lib.hid hm; clear hm
  have hm12 := HTL.out
  go_wp2_with fail
  go_loopw [19] (fun i wr => ∃ j : Nat, j ≤ m ∧ i = .int .i64 j ∧ Hid (∀ z ∈ ts.take j, (h.f.getD z.toNat []).any (missB cs G) = false) ∧ Hid (Below w4.heap.size w4 wr)) (fun i _ => m - (intOf i).toNat)
  case atStart => exact ⟨0, Nat.zero_le _, rfl, fun z hz => by simp at hz, Below.refl _ _⟩
  case round =>
    obtain ⟨j, hj, rfl, hdone, hbr⟩ := hrel
    by_cases hlt : j < m
    · obtain ⟨tb, to, rfl, hct⟩ := (T4.out.below hbr.out).at' (by omega)
      have q := hct j hlt
      have hjl : j < ts.length := by rw [HM.out]; exact hlt
      obtain ⟨k, hzk, hkn, hk2⟩ := HMC.out (ts.getD j 0) (getD_memI hjl)
      have HTK := Lib.hid (mem_take_succ hjl)
      rw [hzk] at q
      have HZK := Lib.hid hzk
      obtain ⟨fb, fo, rfl, hcf⟩ := HF.out.f.at' (by omega)
      obtain ⟨u, quf, huf⟩ := hcf k hkn
      have B5 := Lib.hid (below_drew (bst B4.out hbr.out B4.out.size))
      have qu := cellBelow B5.out (Nat.le_refl _) quf
      have U5 := Lib.hid (huf.below B5.out)
      have HSN := Lib.hid (HSF.out k hkn hk2)
      have HINK := Lib.hid (HIN.out k)
      have hl3 := HRL.out k hkn
      obtain ⟨ua, uc, rfl⟩ := huf.shape
      have bd := below_drew hbr.out
      have Z5 := Lib.hid (Z4.out.below bd)
      have O5 := Lib.hid (O4.out.below bd)
      have K5 := Lib.hid (Row.below K4.out bd)
      have R5 := Lib.hid (R4.out.below bd)
      have L5 := Lib.hid bd
      have j1 : (j : Int) < (m : Int) := by omega
      have k1 : (k : Int) < (n : Int) := by omega
      have k0 : (0 : Int) ≤ (k : Int) := by omega
      clear hct hjl hzk hk2 hcf quf huf bd
      generalize hrow : h.f.getD k [] = row at *
      have HROW := Lib.hid hrow; clear hrow
      have HL3 := Lib.hid hl3; clear hl3
      generalize hul : row.length = ul at *
      have HUL := Lib.hid hul; clear hul
      go_wp2_with fail
      clear q
      refine wp_region_held_drew (S := (fun w' => w'.cell? ⟨w.heap.size, 0, none⟩ = some (.slice (some ⟨fb, fo, none⟩) n fc) ∧ w'.cell? ⟨fb, fo + k, none⟩ = some (.slice ua ul uc) ∧ w'.cell? ⟨gG, 0, none⟩ = some (.slice va n vc) ∧ w'.cell? ⟨gG, 1, none⟩ = some (.slice ga n gc))) (by kernel_rfl) (⟨R5.out.c0, qu, Row.cell K5.out 0, Row.cell K5.out 1⟩) (fun hHeld => ?_)
      generalize wr.drew = x1 at *
      refine wpAnyH_take (i := 0) (v := ?va0x9) rfl (by kernel_rfl) (by kernel_rfl) (by kernel_rfl) (fun _ _ _ h => h) (Or.inl ⟨by rfl, ?hy0x9⟩) (by assumption) ?rest0x9
      case hy0x9 => (intro w hSw; (try dsimp only at hSw); go_simp; try with_reducible rfl)
      (try simp only [Act.put, List.getElem_toArray, List.getElem_cons_zero, List.setIfInBounds_toArray, List.set_cons_zero, List.set_cons_succ])
      refine wpAnyH_take (i := 1) (v := ?va1x10) rfl (by kernel_rfl) (by kernel_rfl) (by kernel_rfl) (fun _ _ _ h => h) (Or.inl ⟨by rfl, ?hy1x10⟩) (by assumption) ?rest1x10
      case hy1x10 => (intro w hSw; (try dsimp only at hSw); go_simp; try with_reducible rfl)
      (try simp only [Act.put, List.getElem_toArray, List.getElem_cons_zero, List.getElem_cons_succ, List.setIfInBounds_toArray, List.set_cons_zero, List.set_cons_succ])
      refine wpAnyH_take (i := 2) (v := ?va2x11) rfl (by kernel_rfl) (by kernel_rfl) (by kernel_rfl) (fun _ _ _ h => h) (Or.inl ⟨by rfl, ?hy2x11⟩) (by assumption) ?rest2x11
      case hy2x11 => (intro w hSw; (try dsimp only at hSw); go_simp; try with_reducible rfl)
      (try simp only [Act.put, List.getElem_toArray, List.getElem_cons_zero, List.getElem_cons_succ, List.setIfInBounds_toArray, List.set_cons_zero, List.set_cons_succ])
      refine wpAnyH_take (i := 3) (v := ?va3x12) rfl (by kernel_rfl) (by kernel_rfl) (by kernel_rfl) (fun _ _ _ h => h) (Or.inl ⟨by rfl, ?hy3x12⟩) (by assumption) ?rest3x12
      case hy3x12 => (intro w hSw; (try dsimp only at hSw); go_simp; try with_reducible rfl)
      (try simp only [Act.put, List.getElem_toArray, List.getElem_cons_zero, List.getElem_cons_succ, List.setIfInBounds_toArray, List.set_cons_zero, List.set_cons_succ])
      refine wpAnyH_take (i := 4) (v := ?va4x13) rfl (by kernel_rfl) (by kernel_rfl) (by kernel_rfl) (fun _ _ _ h => h) (Or.inl ⟨by rfl, ?hy4x13⟩) (by assumption) ?rest4x13
      case hy4x13 => (intro w hSw; (try dsimp only at hSw); go_simp; try with_reducible rfl)
      (try simp only [Act.put, List.getElem_toArray, List.getElem_cons_zero, List.getElem_cons_succ, List.setIfInBounds_toArray, List.set_cons_zero, List.set_cons_succ])
      refine wpAnyH_take (i := 5) (v := ?va5x14) rfl (by kernel_rfl) (by kernel_rfl) (by kernel_rfl) (fun _ _ _ h => h) (Or.inl ⟨by rfl, ?hy5x14⟩) (by assumption) ?rest5x14
      case hy5x14 => (intro w hSw; (try dsimp only at hSw); go_simp; try with_reducible rfl)
      (try simp only [Act.put, List.getElem_toArray, List.getElem_cons_zero, List.getElem_cons_succ, List.setIfInBounds_toArray, List.set_cons_zero, List.set_cons_succ])
      refine wpAnyH_take (i := 6) (v := ?va6x15) rfl (by kernel_rfl) (by kernel_rfl) (by kernel_rfl) (fun _ _ _ h => h) (Or.inl ⟨by rfl, ?hy6x15⟩) (by assumption) ?rest6x15
      case hy6x15 => (intro w hSw; (try dsimp only at hSw); go_simp; try with_reducible rfl)
      (try simp only [Act.put, List.getElem_toArray, List.getElem_cons_zero, List.getElem_cons_succ, List.setIfInBounds_toArray, List.set_cons_zero, List.set_cons_succ])
      refine wpAnyH_ready (rs := [7]) (by kernel_rfl) (by simp) ?_
      refine AllReadyH.cons rfl (fun K hK => ?_) AllReadyH.nil
      go_simp
      refine (c_containsFunc _ _ _ row cs G _ U5.out Z5.out O5.out (by rw [HGL.out, HN.out]) (by rw [HN.out]; exact HINK.out) (by rw [HUL.out]; exact HL3.out)).mono ?_
      rintro e w6 ⟨rfl, hb6⟩
      replace qu := cellBelow hb6 (Nat.le_refl _) qu
      replace K5 := Lib.hid (Row.below K5.out hb6); replace R5 := Lib.hid (R5.out.below hb6); replace L5 := Lib.hid (bst L5.out hb6 L5.out.size); replace B5 := Lib.hid (bst B5.out hb6 B5.out.size)
      clear hb6
      refine hK.out _ _ (⟨R5.out.c0, qu, Row.cell K5.out 0, Row.cell K5.out 1⟩) (fun hHeld => ?_)
      clear hK K
      (try simp only [Act.put, List.getElem_toArray, List.getElem_cons_zero, List.getElem_cons_succ, List.setIfInBounds_toArray, List.set_cons_zero, List.set_cons_succ])
      refine wpAnyH_done (by kernel_rfl) ?_ _
      clear qu hHeld
      generalize hany : row.any (missB cs G) = an at *
      have HANY := Lib.hid hany; clear hany
      cases an
      · have HD : Hid (∀ z ∈ ts.take (j + 1), (h.f.getD z.toNat []).any (missB cs G) = false) := fun z hz => by
          rcases (HTK.out z).1 hz with e | e
          · exact hdone.out z e
          · rw [e, HZK.out, Int.toNat_natCast, HROW.out]; exact HANY.out
        go_wp2_with fail
        go_roundw
        case rel => exact ⟨j + 1, by omega, by go_num, HD, L5⟩
        case measure => simp [intOf]; omega
      · have HE : Hid (weakR h cs = false) := HR.out.trans (HSN.out rfl)
        go_wp2_with fail
        go_ret2
        exact ⟨r_bb HE.out.symm rfl, B5.out⟩
    · have HE : Hid (weakR h cs = true) := HR.out.trans (HST.out (fun z hz => hdone.out z (by rw [List.take_of_length_le (by rw [HM.out]; omega)]; exact hz)))
      have B5 := Lib.hid (bst B4.out hbr.out B4.out.size)
      go_wp2_with fail
      go_ret2
      exact ⟨r_bb HE.out.symm rfl, B5.out⟩
end Go.Proofs.Ytdagkbgobnaijaa
namespace Go.Proofs.Ytdagkbgobnaijaa
open Go.RowKit Ph

theorem filt_yes {p : Int → Bool} {zs : List Int} {k : Nat} (h : k < zs.length) (hp : p (zs.getD k 0) = true) : (zs.take (k + 1)).filter p = (zs.take k).filter p ++ [zs.getD k 0] := by
  have e : zs.getD k 0 = zs[k] := by simp [List.getD, List.getElem?_eq_getElem h]
  rw [List.take_succ_eq_append_getElem h, List.filter_append, ← e, List.filter_cons_of_pos hp]; rfl
theorem filt_no {p : Int → Bool} {zs : List Int} {k : Nat} (h : k < zs.length) (hp : p (zs.getD k 0) = false) : (zs.take (k + 1)).filter p = (zs.take k).filter p := by
  have e : zs.getD k 0 = zs[k] := by simp [List.getD, List.getElem?_eq_getElem h]
  rw [List.take_succ_eq_append_getElem h, List.filter_append, ← e, List.filter_cons_of_neg (by rw [hp]; decide)]; simp
theorem filt_len (p : Int → Bool) (zs : List Int) (k : Nat) : ((zs.take k).filter p).length ≤ zs.length := Nat.le_trans (List.length_filter_le _ _) (by rw [List.length_take]; omega)
theorem lostR_no {h : H} {cs : List Int} (k : bothB h cs = false) : lostR h cs = [] := by unfold lostR; exact if_neg (by rw [k]; decide)
theorem lostR_yes {h : H} {cs : List Int} (k : bothB h cs = true) : lostR h cs = lostL h cs := by unfold lostR; exact if_pos k
set_option maxRecDepth 100000 in
set_option maxHeartbeats 6400000 in
theorem c_lostIn (a b c v : Value) (h : H) (cs : List Int) (w : World) (hA : HeapAt w a b c h) (hG : Ph.Good h) (hz : IntsAt w v cs) (hlen : cs.length = h.f.length) : Calls Try.prog 97 #[hv a b c, v] w fun e w' => ∃ v', e = .returned v' ∧ Own w' w.heap.size v' (lostL h cs) ∧ Below w.heap.size w w' := by
  obtain ⟨i0, hi, hz0, hz1, hz2⟩ := info_parts info_int
  have hb0 := below1 w (.cells (c3 a b c) 32)
  have A0 := Lib.hid (hA.below hb0)
  have Z0 := Lib.hid (hz.below hb0)
  have HB := Lib.hid hb0
  have R0 := Lib.hid (show RowH _ _ a b c from Row.new w 32 (c3 a b c))
  have HG := Lib.hid hG
  have HLE := Lib.hid hlen
  have HLO := Lib.hid (lostL_eq h cs)
  have HIN : Hid (∀ z ∈ ofB (reachL h.f h.r), inR cs.length z) := fun z hz => by
    obtain ⟨i, q1, q2⟩ := mem_ofB.1 hz
    have := (reachL_getD.1 q1).1
    right; omega
  have HTL : Hid ((ofB (reachL h.f h.r)).length ≤ 12) := Nat.le_trans (ofB_len _) (by rw [reachL_length]; exact hG.n)
  have HRL : Hid ((reachL h.f h.r).length ≤ 12) := by unfold Hid; rw [reachL_length]; exact hG.n
  have HRI : Hid (∀ z ∈ h.r, inR h.f.length z) := fun z hz => (refs_bound hG hG.rr z hz).imp id (fun q => ⟨q.1, q.2.1⟩)
  have HR4 : Hid (h.r.length ≤ 12) := by have := hG.rn; unfold Hid; omega
  have HGL : Hid ((grdL h.f cs).length = cs.length) := grdL_len _ _
  obtain ⟨va, vc, rfl⟩ := hz.shape
  clear hA hz hb0 hG hlen
  have c0 := R0.out.c0
  have c1 := R0.out.c1
  have c2 := R0.out.c2
  generalize lostL h cs = lo at *
  generalize hgl : grdL h.f cs = G at *
  have HGD := Lib.hid hgl; clear hgl
  generalize hn : cs.length = n at *
  have HN := Lib.hid hn; clear hn
  go_enter Try.func97, Try.ntmps97
  go_wp2_with fail
  refine (c_guardsIn _ _ _ _ h cs _ A0.out HG.out Z0.out (HN.out.trans HLE.out)).mono ?_
  rintro e w2 ⟨gv, rfl, ho2, hb2⟩
  rw [HGD.out] at ho2
  have B2 := Lib.hid (bst HB.out hb2 HB.out.size)
  have R2 := Lib.hid (R0.out.below hb2)
  have A2 := Lib.hid (A0.out.below hb2)
  have Z2 := Lib.hid (Z0.out.below hb2)
  have O2 := Lib.hid (owns_bools ho2)
  obtain ⟨ga, gc, hgv⟩ := own_boolshape ho2
  rw [HGL.out] at hgv
  subst hgv
  clear ho2 hb2 c0 c1 c2 A0 Z0 R0 HB
  have K2 := Lib.hid (Row.new w2 104 (gd2 (.slice none 0 0) (.slice none 0 0)))
  have ba := below1 w2 (.cells (gd2 (.slice none 0 0) (.slice none 0 0)) 104)
  have B3 := Lib.hid (below_setRow (bst B2.out ba B2.out.size) B2.out.size (gd2 (.slice va n vc) (.slice ga n gc)))
  have R3 : Hid (RowH _ w.heap.size _ _ _) := Row.putOther (Row.below R2.out ba) (gd2 (.slice va n vc) (.slice ga n gc)) (Nat.ne_of_lt (Row.lt R2.out))
  have LB := Lib.hid (below_setRow ba (Nat.le_refl _) (gd2 (.slice va n vc) (.slice ga n gc)))
  have Z3 := Lib.hid (Z2.out.below LB.out)
  have A3 := Lib.hid (A2.out.below LB.out)
  have O3 := Lib.hid (O2.out.below LB.out)
  have d0 := R3.out.c0
  have d1 := R3.out.c1
  have d2 := R3.out.c2
  clear ba
  go_wp2_with (refine wl_storeG rfl _ _ rfl w2.heap.size (.slice va n vc) (.slice ga n gc) _ _ K2.out rfl rfl rfl rfl ?_)
  have K3 := Lib.hid (Row.put K2.out (gd2 (.slice va n vc) (.slice ga n gc)))
  clear K2 B2 R2 LB Z2 O2 A2 d0 d1 d2
  generalize (w2.alloc (.cells (gd2 (.slice none 0 0) (.slice none 0 0)) 104)).setRow w2.heap.size (gd2 (.slice va n vc) (.slice ga n gc)) = w3 at *
  generalize w2.heap.size = gG at *
  refine (c_reachedOver _ _ _ _ h h.r _ A3.out HG.out A3.out.r HR4.out HRI.out).mono ?_
  rintro e w4 ⟨v4, rfl, ho4, hb4⟩
  have B4 := Lib.hid (bst B3.out hb4 B3.out.size)
  have Z4 := Lib.hid (Z3.out.below hb4)
  have O4 := Lib.hid (O3.out.below hb4)
  have K4 := Lib.hid (Row.below K3.out hb4)
  have Q4 := Lib.hid ho4
  obtain ⟨qa, qc, rfl⟩ := own_boolshape ho4
  clear ho4 hb4 B3 Z3 A3 O3 K3 R3
  go_wp2_with fail
  refine (c_thingsOfB _ _ _ (owns_bools Q4.out) HRL.out).mono ?_
  rintro e w5 ⟨v5, rfl, ho5, hb5⟩
  have B5 := Lib.hid (bst B4.out hb5 B4.out.size)
  have Z5 := Lib.hid (Z4.out.below hb5)
  have O5 := Lib.hid (O4.out.below hb5)
  have K5 := Lib.hid (Row.below K4.out hb5)
  have T5 := Lib.hid ho5.ints
  obtain ⟨ta, tc, rfl⟩ := ho5.ints.shape
  clear ho5 hb5 B4 Z4 O4 K4 Q4
  generalize ofB (reachL h.f h.r) = ts at *
  generalize hm : ts.length = m at *
  have HM := Lib.hid hm; clear hm
  have hm12 := HTL.out
  go_wp2_with fail
  go_loopw [6, 18] (fun t i wr => ∃ j : Nat, j ≤ m ∧ i = .int .i64 j ∧ Hid (Own wr w5.heap.size t ((ts.take j).filter (missB cs G))) ∧ Hid (Below w5.heap.size w5 wr)) (fun _ i _ => m - (intOf i).toNat)
  case atStart => exact ⟨0, Nat.zero_le _, rfl, Own.nil _ _, Below.refl _ _⟩
  case round =>
    obtain ⟨j, hj, rfl, ho, hbr⟩ := hrel
    by_cases hlt : j < m
    · obtain ⟨tb, to, rfl, hct⟩ := (T5.out.below hbr.out).at' (by omega)
      have q := hct j hlt
      have hjl : j < ts.length := by rw [HM.out]; exact hlt
      have HZI := Lib.hid (HIN.out _ (getD_memI hjl))
      have HY := Lib.hid (filt_yes (p := missB cs G) hjl)
      have HNO := Lib.hid (filt_no (p := missB cs G) hjl)
      have HFL := Lib.hid (filt_len (missB cs G) ts j)
      have g0 := Row.cell (Row.below K5.out hbr.out) 0
      have g1 := Row.cell (Row.below K5.out hbr.out) 1
      have Z6 := Lib.hid (Z5.out.below hbr.out); have O6 := Lib.hid (O5.out.below hbr.out)
      have j1 : (j : Int) < (m : Int) := by omega
      have j0 : (0 : Int) ≤ (j : Int) := by omega
      clear hct hjl
      generalize ts.getD j 0 = z at *
      go_wp2_with fail
      refine (c_misses _ _ cs G z _ Z6.out O6.out (by rw [HGL.out, HN.out]) (by rw [HN.out]; exact HZI.out)).mono ?_
      rintro e w7 ⟨rfl, hb7⟩
      have O7 := Lib.hid (ho.out.below hb7)
      have B7 := Lib.hid (bst hbr.out hb7 hbr.out.size)
      clear hb7 g0 g1 Z6 O6 q
      generalize missB cs G z = x at *
      cases x
      · have HE := Lib.hid (HNO.out rfl)
        clear HY HNO
        go_wp2_with fail
        go_roundw
        case rel => exact ⟨j + 1, by omega, by go_num, by rw [HE.out]; exact O7, B7⟩
        case measure => simp [intOf]; omega
      · have HE := Lib.hid (HY.out rfl)
        have HS := Lib.hid (src_int w7 z)
        have HB1 := Lib.hid (B7.out.alloc B7.out.size (.cells #[.int .i64 z] 3))
        have HO1 := Lib.hid (O7.out.below (below1 w7 (.cells #[.int .i64 z] 3)))
        clear HY HNO
        go_wp2_with (at_builtin; refine wl_appOwn _ rfl _ _ 24 rfl w5.heap.size 3 i0 (.int .i64 0) 8 Try.underlying24 hi hz0 hz1 hz2 rfl u6 _ _ rfl HO1.out _ _ rfl HS.out (by have := HFL.out; rw [HM.out] at this; simp; unfold maxLen; omega) (by have := HFL.out; rw [HM.out] at this; simp; omega) HB1.out.size ?_; intro v8 w8 ho8 hg8 hbl8; have O8 : Hid (Own w8 w5.heap.size v8 ((ts.take j).filter (missB cs G) ++ [z])) := by { unfold Hid Own; rw [List.map_append, List.length_append]; exact ho8 }; have B8 := Lib.hid (HB1.out.grown hg8 HB1.out.size (fun g' hg' => (owns_lt HO1.out hg').1)); clear ho8 hg8 hbl8)
        go_roundw
        case rel => exact ⟨j + 1, by omega, by go_num, by rw [HE.out]; exact O8, B8⟩
        case measure => simp [intOf]; omega
    · have HE : Hid (lo = (ts.take j).filter (missB cs G)) := by unfold Hid; rw [HLO.out, List.take_of_length_le (by rw [HM.out]; omega)]
      have BS := Lib.hid B5.out.size
      have B9 := Lib.hid (bst B5.out hbr.out B5.out.size)
      go_wp2_with fail
      go_ret
      exact ⟨_, rfl, by rw [HE.out]; exact ho.out.mono BS.out, B9.out⟩
set_option maxRecDepth 100000 in
set_option maxHeartbeats 3200000 in
theorem c_LostIn (a b c v : Value) (h : H) (cs : List Int) (w : World) (hA : HeapAt w a b c h) (hz : IntsAt w v cs) : Calls Try.prog 45 #[hv a b c, v] w (EndI (lostR h cs) (bothB h cs) w) := by
  have hb0 := below1 w (.cells (c3 a b c) 32)
  have A0 := Lib.hid (hA.below hb0)
  have Z0 := Lib.hid (hz.below hb0)
  have HB := Lib.hid hb0
  have R0 := Lib.hid (show RowH _ _ a b c from Row.new w 32 (c3 a b c))
  clear hA hb0
  have HC := Lib.hid (c_areColoursOf a b c v h cs _ A0.out Z0.out)
  have HE1 := Lib.hid (lostR_no (h := h) (cs := cs))
  have HE2 := Lib.hid (lostR_yes (h := h) (cs := cs))
  have HBB := Lib.hid (bothB_iff (h := h) (cs := cs)).1
  skip
  obtain ⟨va, vc, rfl⟩ := hz.shape
  clear hz
  generalize hx : bothB h cs = x at *
  have HX := Lib.hid hx; clear hx
  have c0 := R0.out.c0
  have c1 := R0.out.c1
  have c2 := R0.out.c2
  cases x
  · have HR := Lib.hid (HE1.out rfl)
    go_enter Try.func45, Try.ntmps45
    go_wp2_with (go_at_call 91; refine HC.out.mono ?_; rintro e w1 ⟨rfl, hb1⟩; have B1 := Lib.hid (bst HB.out hb1 HB.out.size); clear hb1)
    go_ret2
    exact endI_no B1.out HR.out rfl
  have HR := Lib.hid (HE2.out rfl)
  obtain ⟨hG, hlen, hcol⟩ := HBB.out rfl
  have HG := Lib.hid hG
  have HLE := Lib.hid hlen
  clear hG hcol HBB hlen
  go_enter Try.func45, Try.ntmps45
  go_wp2_with (go_at_call 91; refine HC.out.mono ?_; rintro e w1 ⟨rfl, hb1⟩; have B1 := Lib.hid (bst HB.out hb1 HB.out.size); have Z1 := Lib.hid (Z0.out.below hb1); have A1 := Lib.hid (A0.out.below hb1); have R1 := Lib.hid (R0.out.below hb1); have d0 := R1.out.c0; have d1 := R1.out.c1; have d2 := R1.out.c2; clear hb1)
  refine (c_lostIn _ _ _ _ h cs _ A1.out HG.out Z1.out HLE.out).mono ?_
  rintro e w2 ⟨v2, rfl, ho2, hb2⟩
  have B2 := Lib.hid (bst B1.out hb2 B1.out.size)
  have O2 := Lib.hid ho2
  have BS := Lib.hid B1.out.size
  clear ho2 hb2
  go_wp2_with fail
  go_ret2
  exact endI_yes B2.out O2.out BS.out HR.out rfl
end Go.Proofs.Ytdagkbgobnaijaa
namespace Go.Proofs.Ytdagkbgobnaijaa
open Go.RowKit Ph

theorem shlR_no {h : H} {cs : List Int} (k : bothB h cs = false) : shlR h cs = [] ∧ ((shlM h cs : Nat) : Int) = 0 := by
  have e : shlM h cs = 0 := by unfold shlM; exact if_neg (by rw [k]; decide)
  exact ⟨by unfold shlR; exact if_neg (by rw [k]; decide), by rw [e]; rfl⟩
theorem shlR_yes {h : H} {cs : List Int} (k : bothB h cs = true) : ∀ cs' n, Sk h cs cs' n → lostL h cs' = [] → shlR h cs = cs' ∧ shlM h cs = n := fun _ _ s q => s.done k q
theorem ne_rowI8 {w : World} {B g : Nat} {T : TypeId} {v : Value} {cs : List Int} {ds : Array Value} (ho : Own w B v cs) (hr : Row w g T ds) (hT : T ≠ 3) : v.ownBlock ≠ some g := by
  intro hg
  rcases ho.2 with ⟨rfl, _⟩ | ⟨g2, cap, cur, rfl, _, h2, _⟩
  · cases hg
  · cases hg
    unfold Row at hr
    rw [h2] at hr
    simp only [Option.some.injEq, Obj.cells.injEq] at hr
    exact hT hr.2.1.symm
abbrev mk8 (v : Value) : Array Value := c5 (.slice none 0 0) (.slice none 0 0) (.slice none 0 0) v .nilFunc
/-- What is the call's own, and what it reads. -/
structure ShW (w1 wr : World) (gM : Nat) (v : Value) (cs : List Int) : Prop where
  own : Own wr w1.heap.size v cs
  m : Row wr gM 97 (mk8 v)
  low : Below w1.heap.size w1 wr
theorem ShW.below {w1 wr w' : World} {gM : Nat} {v : Value} {cs : List Int} (k : ShW w1 wr gM v cs) (hb : Below wr.heap.size wr w') : ShW w1 w' gM v cs := ⟨k.own.below hb, Row.below k.m hb, bst k.low hb k.low.size⟩
theorem ShW.set {w1 wr w' : World} {gM : Nat} {v : Value} {cs cs' : List Int} (k : ShW w1 wr gM v cs) (ho : Own w' w1.heap.size v cs') (hg : wr.grownBy w' v.ownBlock) : ShW w1 w' gM v cs' := ⟨ho, Row.grownBy k.m hg (ne_rowI8 k.own k.m (by decide)), k.low.grown hg k.low.size (fun g e => (owns_lt k.own e).1)⟩
/-- A list in a block behind the colours'. -/
def LoO (w : World) (v t : Value) (zs : List Int) : Prop := ∃ B, Own w B t zs ∧ ∀ g, v.ownBlock = some g → g < B
theorem LoO.ints {w : World} {v t : Value} {zs : List Int} (k : LoO w v t zs) : IntsAt w t zs := by obtain ⟨B, k, _⟩ := k; exact k.ints
theorem LoO.first {w : World} {v : Value} {p : Option Addr} {n q : Nat} {zs : List Int} (k : LoO w v (.slice p n q) zs) (h0 : 0 < zs.length) : ∃ tb, p = some ⟨tb, 0, none⟩ ∧ v.ownBlock ≠ some tb := by
  obtain ⟨B, k, hB⟩ := k
  rcases k.shape' with ⟨_, q⟩ | ⟨g, c, e⟩
  · rw [q] at h0; simp at h0
  · cases e
    exact ⟨g, rfl, fun e => by have := hB g e; have q : B ≤ g := (owns_lt k rfl).1; omega⟩
theorem shl1_nat {h : H} {cs : List Int} {k : Nat} {zs : List Int} (e : lostL h cs = zs) (h0 : 0 < zs.length) (hk : zs.getD 0 0 = (k : Int)) : shl1 h cs = shade cs (k : Int) := by
  unfold shl1
  rw [e, ← hk]
  cases zs with
  | nil => simp at h0
  | cons z zs => rfl
set_option maxRecDepth 100000 in
set_option maxHeartbeats 6400000 in
theorem c_ShadeLost (a b c v : Value) (h : H) (cs : List Int) (w : World) (hA : HeapAt w a b c h) (hz : IntsAt w v cs) : Calls Try.prog 55 #[hv a b c, v] w (EndII (shlR h cs) (shlM h cs : Int) (bothB h cs) w) := by
  have hb0 := below1 w (.cells (c3 a b c) 32)
  have A0 := Lib.hid (hA.below hb0)
  have Z0 := Lib.hid (hz.below hb0)
  have HB := Lib.hid hb0
  have R0 := Lib.hid (show RowH _ _ a b c from Row.new w 32 (c3 a b c))
  clear hA hb0
  have HC := Lib.hid (c_areColoursOf a b c v h cs _ A0.out Z0.out)
  have HE1 := Lib.hid (shlR_no (h := h) (cs := cs))
  have HE2 := Lib.hid (shlR_yes (h := h) (cs := cs))
  have HBB := Lib.hid (bothB_iff (h := h) (cs := cs)).1
  skip
  obtain ⟨va, vc, rfl⟩ := hz.shape
  clear hz
  generalize hx : bothB h cs = x at *
  have HX := Lib.hid hx; clear hx
  have c0 := R0.out.c0
  have c1 := R0.out.c1
  have c2 := R0.out.c2
  cases x
  · obtain ⟨HR1, HR2⟩ := HE1.out rfl
    have HR1 := Lib.hid HR1; have HR2 := Lib.hid HR2
    go_enter Try.func55, Try.ntmps55
    go_wp2_with (go_at_call 91; refine HC.out.mono ?_; rintro e w1 ⟨rfl, hb1⟩; have B1 := Lib.hid (bst HB.out hb1 HB.out.size); clear hb1)
    go_ret3
    exact endII_no B1.out HR1.out HR2.out rfl
  have HDN := Lib.hid (HE2.out rfl)
  obtain ⟨hG, hlen, hcol⟩ := HBB.out rfl
  have HG := Lib.hid hG
  have HS0 := Lib.hid (Sk.start hlen hcol)
  have HM12 : Hid (cs.length ≤ 12) := by have := hG.n; unfold Hid; omega
  clear hG hcol HBB hlen HE1 HE2
  generalize shlR h cs = g1 at *
  generalize shlM h cs = g2 at *
  go_enter Try.func55, Try.ntmps55
  go_wp2_with (go_at_call 91; refine HC.out.mono ?_; rintro e w1 ⟨rfl, hb1⟩; have B1 := Lib.hid (bst HB.out hb1 HB.out.size); have Z1 := Lib.hid (Z0.out.below hb1); have A1 := Lib.hid (A0.out.below hb1); have R1 := Lib.hid (R0.out.below hb1); have d0 := R1.out.c0; have d1 := R1.out.c1; have d2 := R1.out.c2; clear hb1)
  refine (c_copyInts _ cs _ Z1.out (by have := HM12.out; omega)).mono ?_
  rintro e w2 ⟨v2, rfl, ho2, hb2⟩
  obtain ⟨pn, qn, rfl⟩ := ho2.ints.shape
  have hba := below1 w2 (.cells (mk8 (.slice pn cs.length qn)) 97)
  have W3 : Hid (ShW w1 (w2.alloc (.cells (mk8 (.slice pn cs.length qn)) 97)) w2.heap.size (.slice pn cs.length qn) cs) := ⟨ho2.below hba, Row.new w2 97 (mk8 (.slice pn cs.length qn)), bst hb2 hba hb2.size⟩
  have A3 := Lib.hid (A1.out.below W3.out.low)
  have R3 := Lib.hid (R1.out.below W3.out.low)
  have BS := Lib.hid B1.out.size
  clear ho2 hb2 hba d0 d1 d2 c0 c1 c2
  have d0 := R3.out.c0
  have d1 := R3.out.c1
  have d2 := R3.out.c2
  have m3 := Row.cell W3.out.m 3
  generalize hn : cs.length = n at *
  have HN := Lib.hid hn; clear hn
  go_wp2_with fail
  have HCL : Hid (cs.length = h.f.length) := HS0.out.l0
  refine (c_lostIn _ _ _ _ h cs _ A3.out HG.out W3.out.own.ints HCL.out).mono ?_
  rintro e w4 ⟨v4, rfl, ho4, hb4⟩
  have W4 := Lib.hid (W3.out.below hb4)
  have T4 : Hid (LoO _ (.slice pn n qn) v4 _) := ⟨_, ho4, fun g e => (owns_lt W3.out.own e).2⟩
  clear ho4 hb4 d0 d1 d2 m3 W3 A3 R3
  generalize w2.heap.size = gM at *
  go_wp2_with fail
  go_loopg [8, 9] 12 (fun k s t wr => ∃ (j : Nat) (ds : List Int), k + j = 12 ∧ s = .int .i64 j ∧ Hid (Sk h cs ds j) ∧ Hid (ShW w1 wr gM (.slice pn n qn) ds) ∧ Hid (LoO wr (.slice pn n qn) t (lostL h ds)))
  case atStart => exact ⟨0, cs, rfl, rfl, HS0, W4, T4⟩
  case round =>
    obtain ⟨j, ds, hkj, rfl, hsk, hw, ht⟩ := hrel
    have hdl : Hid (ds.length = h.f.length) := hsk.out.len
    have HML : Hid (∀ z ∈ lostL h ds, ∃ k : Nat, k < h.f.length ∧ z = (k : Int)) := fun z hz => by obtain ⟨i, q1, _, _, _, q2⟩ := (mem_lostL hdl.out).1 hz; exact ⟨i, q1, q2⟩
    have HX : Hid (∀ k : Nat, 0 < (lostL h ds).length → (lostL h ds).getD 0 0 = (k : Int) → shl1 h ds = shade ds (k : Int)) := fun k q1 q2 => shl1_nat rfl q1 q2
    have HST := Lib.hid hsk.out.step
    have HFI := Lib.hid (HDN.out ds j hsk.out)
    obtain ⟨ta, tc, rfl⟩ := ht.out.ints.shape
    generalize lostL h ds = ts at *
    generalize hq : ts.length = q at *
    have HQ := Lib.hid hq; clear hq
    have m0 := Row.cell hw.out.m 0
    have m1 := Row.cell hw.out.m 1
    have m2 := Row.cell hw.out.m 2
    have m3 := Row.cell hw.out.m 3
    have m4 := Row.cell hw.out.m 4
    by_cases hq0 : q = 0
    · subst hq0
      obtain ⟨HR1, HR2⟩ := HFI.out (List.eq_nil_of_length_eq_zero HQ.out)
      have HR1 := Lib.hid HR1; have HR2 := Lib.hid HR2
      have B9 := Lib.hid (bst B1.out hw.out.low B1.out.size)
      go_wp2_with fail
      go_ret3
      exact endII_yes B9.out hw.out.own BS.out HR1.out (by rw [HR2.out]) rfl
    · have q1 : (0 : Int) < (q : Int) := by omega
      have hq1 : 0 < ts.length := by rw [HQ.out]; omega
      obtain ⟨k, hk1, hk5⟩ := HML.out _ (getD_memI hq1)
      obtain ⟨tb, rfl, htb⟩ := ht.out.first hq1
      have HTB := Lib.hid htb; clear htb
      obtain ⟨tb', to, etb, hct⟩ := ht.out.ints.at' (by omega)
      cases etb
      have qt := hct 0 (by omega)
      rw [hk5] at qt
      simp only [Nat.add_zero] at qt
      have HE := Lib.hid (HX.out k (by omega) hk5)
      have HKL : Hid (k < ds.length) := by unfold Hid; rw [hdl.out]; exact hk1
      have SK1 : Hid (Sk h cs (shl1 h ds) (j + 1)) := HST.out (List.length_pos_iff.1 hq1)
      have hj12 : j + 1 ≤ 12 := by have := SK1.out.le; have := HG.out.n; omega
      have HCD : Hid (Col ds) := hsk.out.col
      clear hct hk1 hk5 hq1 HX HML HST HFI
      go_wp2_with fail
      have WD := Lib.hid (hw.out.below (below_drew (Below.refl wr.heap.size wr)))
      have e0 := Row.cell WD.out.m 0
      have e1 := Row.cell WD.out.m 1
      have e2 := Row.cell WD.out.m 2
      have e3 := Row.cell WD.out.m 3
      have e4 := Row.cell WD.out.m 4
      have et : wr.drew.cell? ⟨tb, 0, none⟩ = some (.int .i64 (k : Int)) := qt
      clear m0 m1 m2 m3 m4 qt
      refine wp_region_held_drew (S := (fun w' => w'.cell? ⟨gM, 0, none⟩ = some (.slice none 0 0) ∧ w'.cell? ⟨gM, 1, none⟩ = some (.slice none 0 0) ∧ w'.cell? ⟨gM, 2, none⟩ = some (.slice none 0 0) ∧ w'.cell? ⟨gM, 3, none⟩ = some (.slice pn n qn) ∧ w'.cell? ⟨gM, 4, none⟩ = some .nilFunc ∧ w'.cell? ⟨tb, 0, none⟩ = some (.int .i64 (k : Int)))) (by kernel_rfl) (⟨e0, e1, e2, e3, e4, et⟩) (fun hHeld => ?_)
      generalize wr.drew = x1 at *
      refine wpAnyH_take (i := 0) (v := ?va0x1) rfl (by kernel_rfl) (by kernel_rfl) (by kernel_rfl) (fun _ _ _ h => h) (Or.inl ⟨by rfl, ?hy0x1⟩) (by assumption) ?rest0x1
      case hy0x1 => (intro w hSw; (try dsimp only at hSw); go_simp; try with_reducible rfl)
      (try simp only [Act.put, List.getElem_toArray, List.getElem_cons_zero, List.setIfInBounds_toArray, List.set_cons_zero, List.set_cons_succ])
      refine wpAnyH_take (i := 1) (v := ?va1x2) rfl (by kernel_rfl) (by kernel_rfl) (by kernel_rfl) (fun _ _ _ h => h) (Or.inl ⟨by rfl, ?hy1x2⟩) (by assumption) ?rest1x2
      case hy1x2 => (intro w hSw; (try dsimp only at hSw); go_simp; try with_reducible rfl)
      (try simp only [Act.put, List.getElem_toArray, List.getElem_cons_zero, List.getElem_cons_succ, List.setIfInBounds_toArray, List.set_cons_zero, List.set_cons_succ])
      refine wpAnyH_take (i := 2) (v := ?va2x3) rfl (by kernel_rfl) (by kernel_rfl) (by kernel_rfl) (fun _ _ _ h => h) (Or.inl ⟨by rfl, ?hy2x3⟩) (by assumption) ?rest2x3
      case hy2x3 => (intro w hSw; (try dsimp only at hSw); go_simp; try with_reducible rfl)
      (try simp only [Act.put, List.getElem_toArray, List.getElem_cons_zero, List.getElem_cons_succ, List.setIfInBounds_toArray, List.set_cons_zero, List.set_cons_succ])
      refine wpAnyH_take (i := 3) (v := ?va3x4) rfl (by kernel_rfl) (by kernel_rfl) (by kernel_rfl) (fun _ _ _ h => h) (Or.inl ⟨by rfl, ?hy3x4⟩) (by assumption) ?rest3x4
      case hy3x4 => (intro w hSw; (try dsimp only at hSw); go_simp; try with_reducible rfl)
      (try simp only [Act.put, List.getElem_toArray, List.getElem_cons_zero, List.getElem_cons_succ, List.setIfInBounds_toArray, List.set_cons_zero, List.set_cons_succ])
      refine wpAnyH_ready (rs := [4]) (by kernel_rfl) (by simp) ?_
      refine AllReadyH.cons rfl (fun K hK => ?_) AllReadyH.nil
      go_simp
      refine (c_darkenG _ _ _ _ (.slice pn n qn) ds k _ _ WD.out.own HKL.out HCD.out).mono ?_
      rintro e w6 ⟨rfl, ho6, hg6⟩
      rw [← HE.out] at ho6
      have W6 := Lib.hid (WD.out.set ho6 hg6)
      have et6 : w6.cell? ⟨tb, 0, none⟩ = some (.int .i64 (k : Int)) := (by have hb := hg6.block tb (block_lt_of_cell et) (fun e => HTB.out e.symm); rw [World.cell?, hb]; exact et)
      clear ho6 hg6
      refine hK.out _ _ (⟨Row.cell W6.out.m 0, Row.cell W6.out.m 1, Row.cell W6.out.m 2, Row.cell W6.out.m 3, Row.cell W6.out.m 4, et6⟩) (fun hHeld => ?_)
      clear hK K
      (try simp only [Act.put, List.getElem_toArray, List.getElem_cons_zero, List.getElem_cons_succ, List.setIfInBounds_toArray, List.set_cons_zero, List.set_cons_succ])
      refine wpAnyH_done (by kernel_rfl) ?_ _
      clear hHeld e0 e1 e2 e3 e4 et et6 WD
      have A6 := Lib.hid (A1.out.below W6.out.low)
      have R6 := Lib.hid (R1.out.below W6.out.low)
      have d0 := R6.out.c0
      have d1 := R6.out.c1
      have d2 := R6.out.c2
      have m3 := Row.cell W6.out.m 3
      have HL6 : Hid ((shl1 h ds).length = h.f.length) := SK1.out.len
      have HN6 : Hid ((shl1 h ds).length = n) := by unfold Hid; rw [shl1_len, hdl.out, ← HS0.out.l0, HN.out]
      go_wp2_with fail
      refine (c_lostIn _ _ _ _ h (shl1 h ds) _ A6.out HG.out W6.out.own.ints HL6.out).mono ?_
      rintro e w7 ⟨v7, rfl, ho7, hb7⟩
      have W7 := Lib.hid (W6.out.below hb7)
      have T7 : Hid (LoO _ (.slice pn n qn) v7 _) := ⟨_, ho7, fun g e => (owns_lt W6.out.own e).2⟩
      clear ho7 hb7 d0 d1 d2 m3 W6 A6 R6
      go_wp2_with fail
      go_roundg (12 - (j + 1))
      case measure => omega
      case rel => exact ⟨j + 1, _, by omega, by go_num, SK1, W7, T7⟩
end Go.Proofs.Ytdagkbgobnaijaa
namespace Go.Proofs.Ytdagkbgobnaijaa
open Go.RowKit Ph

set_option maxHeartbeats 1600000 in
theorem s_l8List (v : Value) (bs : List Bool) (w : World) (hz : BoolsAt w v bs) (hm : bs.length ≤ 12) : Calls Try.prog 100 #[v] w fun e w' => ∃ v', e = .returned v' ∧ Own w' w.heap.size v' (ofB bs) ∧ Below w.heap.size w w' := by
  obtain ⟨i0, hi, hz0, hz1, hz2⟩ := info_parts info_int
  have HZ := Lib.hid hz
  obtain ⟨va, vc, rfl⟩ := hz.shape
  clear hz
  have HO : Hid (ofB bs = ofBTo bs bs.length) := rfl
  generalize ofB bs = out at *
  generalize hn : bs.length = n at *
  have HN := Lib.hid hn; clear hn
  go_enter Try.func100, Try.ntmps100
  go_wp2
  go_loopw [3, 8] (fun t i wr => ∃ k : Nat, k ≤ n ∧ i = .int .i64 k ∧ Hid (Own wr w.heap.size t (ofBTo bs k)) ∧ Hid (Below w.heap.size w wr)) (fun _ i _ => n - (intOf i).toNat)
  case atStart => exact ⟨0, Nat.zero_le _, rfl, by rw [ofBTo_zero]; exact Own.nil _ _, Below.refl _ _⟩
  case round =>
    obtain ⟨k, hk, rfl, ho, hb⟩ := hrel
    by_cases hlt : k < n
    · obtain ⟨g, off, rfl, hc⟩ := (HZ.out.below hb.out).at' (by omega)
      have q := hc k hlt
      have i1 : (k : Int) < (n : Int) := by omega
      have i2 : (0 : Int) ≤ (k : Int) := by omega
      clear hc
      have HY := Lib.hid (ofBTo_yes (bs := bs) (n := k))
      have HNO := Lib.hid (ofBTo_no (bs := bs) (n := k))
      have HL := Lib.hid (ofBTo_len bs k)
      generalize bs.getD k false = x at *
      cases x
      · have HE := Lib.hid (HNO.out rfl)
        clear HY HNO
        go_wp2
        go_roundw
        case rel => exact ⟨k + 1, by omega, by go_num, by rw [HE.out]; exact ho, hb⟩
        case measure => simp [intOf]; omega
      · have HE := Lib.hid (HY.out rfl)
        have HS := Lib.hid (src_int wr (k : Int))
        have HB1 := Lib.hid (hb.out.alloc hb.out.size (.cells #[.int .i64 (k : Int)] 3))
        have HO1 := Lib.hid (ho.out.below (below1 wr (.cells #[.int .i64 (k : Int)] 3)))
        clear HY HNO
        go_wp2_with (at_builtin; refine wl_appOwn _ rfl _ _ 24 rfl w.heap.size 3 i0 (.int .i64 0) 8 Try.underlying24 hi hz0 hz1 hz2 rfl u3 _ _ rfl HO1.out _ _ rfl HS.out (by have := HL.out; simp; unfold maxLen; omega) (by have := HL.out; simp; omega) HB1.out.size ?_; intro v1 w1 ho1 hg1 hbl; have O1 : Hid (Own w1 w.heap.size v1 (ofBTo bs k ++ [(k : Int)])) := by { unfold Hid Own; rw [List.map_append, List.length_append]; exact ho1 }; have B1 := Lib.hid (HB1.out.grown hg1 HB1.out.size (fun g' hg' => (owns_lt HO1.out hg').1)); clear ho1 hg1 hbl)
        go_roundw
        case rel => exact ⟨k + 1, by omega, by go_num, by rw [HE.out]; exact O1, B1⟩
        case measure => simp [intOf]; omega
    · have hkn : Hid (k = n) := by unfold Hid; omega
      go_wp2
      go_ret
      exact ⟨_, rfl, by rw [HO.out, ← hkn.out]; exact ho.out, hb.out⟩
theorem ints_one (w : World) (x : Int) : IntsAt (w.alloc (.cells #[.int .i64 x] 3)) (.slice (some ⟨w.heap.size, 0, none⟩) 1 1) [x] :=
  ⟨some ⟨w.heap.size, 0, none⟩, 1, rfl, fun _ => ⟨w.heap.size, 0, rfl, fun i hi => by
    have hi0 : i = 0 := by simp at hi; omega
    subst hi0
    exact Row.cell (Row.new w 3 #[.int .i64 x]) 0⟩⟩
/-- The reference's search under way. -/
structure GqW (w wr : World) (gO n b off cap : Nat) (a b' c : Value) (zq : List Int) (S : List Bool) : Prop where
  own : OwnBs wr w.heap.size (.slice (some ⟨gO, 0, none⟩) n n) S
  que : Que wr (gO + 1) b off cap zq
  h : RowH wr w.heap.size a b' c
  low : Below w.heap.size w wr
  at' : w.heap.size < gO
theorem GqW.store {w wr : World} {gO n b off cap : Nat} {a b' c : Value} {zq : List Int} {S : List Bool} (k : GqW w wr gO n b off cap a b' c zq S) (hS : S.length = n) {t : Nat} (ht : t < n) : GqW w (wr.setCell ⟨gO, t, none⟩ (.bool true)) gO n b off cap a b' c zq (S.set t true) := by
  obtain ⟨s1, s2, s3, s4⟩ := k.own.stored hS ht true
  have := k.at'; have := k.que.lo
  exact ⟨s1, k.que.kept s2.size (s2.block b k.que.lt (by simp; omega)), Row.grownBy k.h s2 (by simp; omega), k.low.setCell (p := ⟨gO, t, none⟩) (by simp only; omega) (.bool true), k.at'⟩
theorem GqW.alloc {w wr : World} {gO n b off cap : Nat} {a b' c : Value} {zq : List Int} {S : List Bool} (k : GqW w wr gO n b off cap a b' c zq S) (x : Int) : GqW w (wr.alloc (.cells #[.int .i64 x] 3)) gO n b off cap a b' c zq S :=
  have hb := below1 wr (.cells #[.int .i64 x] 3)
  ⟨k.own.below hb, k.que.kept hb.size (hb.block b k.que.lt), k.h.below hb, bst k.low hb k.low.size, k.at'⟩
theorem GqW.app {w wr w' : World} {gO n b off cap b2 o2 k2 : Nat} {a b' c : Value} {zq zq' : List Int} {S : List Bool} (k : GqW w wr gO n b off cap a b' c zq S) (hq : Que w' (gO + 1) b2 o2 k2 zq') (hg : wr.grownBy w' (some b)) : GqW w w' gO n b2 o2 k2 a b' c zq' S := by
  have := k.at'; have := k.que.lo
  exact ⟨owns_block k.own (fun g h => hg.block g (owns_lt k.own h).2 (by cases h; simp; omega)), hq, Row.grownBy k.h hg (by simp; omega), k.low.grown hg k.low.size (fun j hj => by cases hj; omega), k.at'⟩
theorem GqW.tail {w wr : World} {gO n b off cap : Nat} {a b' c : Value} {z : Int} {zq : List Int} {S : List Bool} (k : GqW w wr gO n b off cap a b' c (z :: zq) S) : GqW w wr gO n b (off + 1) (cap - 1) a b' c zq S := ⟨k.own, k.que.tail, k.h, k.low, k.at'⟩
theorem GqW.tail0 {w wr : World} {gO n b off cap : Nat} {a b' c : Value} {z : Int} {zq : List Int} {S : List Bool} (k : GqW w wr gO n b off cap a b' c (z :: zq) S) (h1 : cap = 1) : GqW w wr gO n b off (cap - 1) a b' c zq S := ⟨k.own, k.que.tail0 h1, k.h, k.low, k.at'⟩
set_option maxRecDepth 100000 in
set_option maxHeartbeats 12800000 in
theorem s_l8Guarded (a b' c v : Value) (h : H) (cs : List Int) (w : World) (hA : HeapAt w a b' c h) (hG : Ph.Good h) (hz : IntsAt w v cs) (hl : cs.length = h.f.length) :
    Calls Try.prog 90 #[hv a b' c, v] w fun e w' => ∃ v', e = .returned v' ∧ OwnBs w' w.heap.size v' (grdL h.f cs) ∧ Below w.heap.size w w' := by
  obtain ⟨i0, hi, hz0, hz1, hz2⟩ := info_parts info_boolz
  have hn1 := hG.n
  obtain ⟨fa, fc, rfl⟩ := hA.f.shape
  obtain ⟨va, vc, hv⟩ := hz.shape
  rw [hl] at hv
  subst hv
  have HCL := Lib.hid hl
  have HF := Lib.hid hA.f; have HZ := Lib.hid hz
  have HRL : Hid (∀ k, (h.f.getD k []).length ≤ 12) := fun k => by
    by_cases q : k < h.f.length
    · have := (hG.row k q).1; omega
    · simp [List.getD, List.getElem?_eq_none (Nat.le_of_not_lt q)]
  have HR : Hid (∀ k, ∀ z ∈ h.f.getD k [], inR h.f.length z) := fun k z hz => (hG.field hz).imp id (fun h => ⟨h.1, h.2.1⟩)
  have HS0 : Hid (Gq h.f cs (ofC cs 1) (List.replicate h.f.length false)) := by rw [← hl]; exact Gq.start
  have HOL : Hid ((ofC cs 1).length ≤ 12) := Nat.le_trans (ofTo_len _ _ _) (by rw [hl]; exact hn1)
  clear hA hG hz
  clear hl
  generalize hn : h.f.length = n at *
  have HN := Lib.hid hn; clear hn
  have hb0 := Lib.hid (below1 w (.cells (c3 (.slice fa n fc) b' c) 32))
  have R0 := Lib.hid (show RowH _ _ (.slice fa n fc) b' c from Row.new w 32 (c3 (.slice fa n fc) b' c))
  go_enter Try.func90, Try.ntmps90
  go_wp2_with (at_make; refine wpList_make_full _ rfl _ _ 23 rfl w.heap.size 4 i0 (.bool false) 1 Try.underlying23 hi hz0 hz1 .i64 .i64 _ _ n rfl rfl rfl rfl (by rw [hz2]; omega) (by unfold maxLen; omega) (by simp) ?_; intro w1 hown hgr
               rw [rep_bools] at hown
               have hsz0 : (w.alloc (.cells (c3 (.slice fa n fc) b' c) 32)).heap.size = w.heap.size + 1 := by simp
               rw [hsz0] at hown
               have o1 : OwnBs w1 w.heap.size (.slice (some ⟨w.heap.size + 1, 0, none⟩) n n) (List.replicate n false) := by unfold OwnBs; rw [List.length_replicate]; exact hown
               have b1 := hb0.out.grown hgr hb0.out.size (fun k hk => by cases hk)
               have O1 := Lib.hid o1; have B1 := Lib.hid b1; have R1 := Lib.hid (Row.grown R0.out hgr)
               clear hown hgr hsz0 o1 b1)
  refine (s_l6Of _ cs 1 _ (HZ.out.below B1.out) (by rw [HCL.out]; exact hn1)).mono ?_
  rintro e w2 ⟨vq, rfl, hoq, hb2⟩
  have O2 := Lib.hid (OwnBs.below O1.out hb2)
  have B2 := Lib.hid (bst B1.out hb2 B1.out.size)
  have R2 := Lib.hid (show RowH _ _ _ _ _ from Row.below R1.out hb2)
  have LT : Hid (w.heap.size + 2 ≤ w1.heap.size) := (by have q : w.heap.size + 1 < w1.heap.size := (owns_lt O1.out rfl).2; unfold Hid; omega)
  have Q2 := Lib.hid hoq
  clear hoq hb2 O1 B1 R1 hb0 R0
  generalize ofC cs 1 = gs at *
  cases gs with
  | nil =>
    have HE : Hid (List.replicate n false = grdL h.f cs) := HS0.out.done
    obtain ⟨p, q, rfl⟩ := Q2.out.ints.shape
    simp only [List.length_nil]
    go_wp2_with fail
    go_loopw [6] (fun s wr => s = .slice p 0 q ∧ wr = w2) (fun _ _ => 0)
    case atStart => exact ⟨rfl, rfl⟩
    case round =>
      obtain ⟨rfl, rfl⟩ := hrel
      go_wp2_with fail
      go_ret
      exact ⟨_, rfl, by rw [← HE.out]; exact O2.out, B2.out⟩
  | cons z0 gs =>
  obtain ⟨bq, kq, rfl, hq⟩ := Que.ofOwn Q2.out (by simp)
  have W2 : Hid (GqW w w2 (w.heap.size + 1) n bq 0 kq (.slice fa n fc) b' c (z0 :: gs) (List.replicate n false)) :=
    ⟨O2.out, ⟨by have := hq.lo; have := LT.out; omega, hq.lt, hq.le, hq.at', hq.there, hq.free⟩, R2.out, B2.out, by omega⟩
  clear hq O2 R2 B2 Q2 LT
  generalize z0 :: gs = zs at *
  go_wp2_with fail
  go_loopg [6] (n + zs.length) (fun k q wr => ∃ (b off cap : Nat) (zq : List Int) (S : List Bool), q = .slice (some ⟨b, off, none⟩) zq.length cap ∧ Hid (k = left S + zq.length) ∧ k ≤ 30 ∧ Hid (Gq h.f cs zq S) ∧ Hid (GqW w wr (w.heap.size + 1) n b off cap (.slice fa n fc) b' c zq S))
  case atStart => exact ⟨bq, 0, kq, zs, List.replicate n false, rfl, by rw [left_rep]; exact rfl, by have := HOL.out; omega, HS0, W2⟩
  case round =>
    obtain ⟨b, off, cap, zq, S, rfl, hgk, hg60, hgq, hW⟩ := hrel
    cases zq with
    | nil =>
      have HE : Hid (S = grdL h.f cs) := hgq.out.done
      simp only [List.length_nil]
      go_wp2_with fail
      go_ret
      exact ⟨_, rfl, by rw [← HE.out]; exact hW.out.own, hW.out.low⟩
    | cons z zq =>
      have q0 := hW.out.que.at' 0 (by simp)
      obtain ⟨zz0, zz1, _⟩ := hgq.out.qs z List.mem_cons_self
      obtain ⟨k, rfl⟩ : ∃ k : Nat, z = k := ⟨z.toNat, by omega⟩
      rw [Int.toNat_natCast, HCL.out] at zz1
      have hcap := hW.out.que.le
      have GR := Lib.hid hgq.out.head
      have HW0 := Lib.hid hW.out.tail0
      have HW1 := Lib.hid hW.out.tail
      have hh0 := hW.out.h.c0
      obtain ⟨fb, fo, rfl, hcf⟩ := HF.out.at' (by omega)
      obtain ⟨u, quf, huf⟩ := hcf k zz1
      have qu := cellBelow hW.out.low (Nat.le_refl _) quf
      have HU := Lib.hid huf
      have HIN := Lib.hid (HR.out k)
      obtain ⟨ua, uc, rfl⟩ := huf.shape
      have k1 : (k : Int) < (n : Int) := by omega
      have k0 : (0 : Int) ≤ (k : Int) := by omega
      simp only [List.getD_cons_zero, Nat.add_zero] at q0
      simp only [List.length_cons] at hgk hcap ⊢
      generalize hql : zq.length = ql at *
      have HQL := Lib.hid hql
      have ipos : (0 : Int) < ((ql + 1 : Nat) : Int) := by omega
      clear hql hcf quf huf hW hgq zz0
      generalize hrow : h.f.getD k [] = row at *
      have HROW := Lib.hid hrow; clear hrow
      generalize hul : row.length = ul at *
      have HUL := Lib.hid hul; clear hul
      have hul12 : ul ≤ 12 := by rw [← HUL.out, ← HROW.out]; exact HRL.out k
      have HGK := hgk; clear hgk
      have HKK : Hid (left S + ql = left S + ql) := rfl
      have HKB : Hid (left S + ql ≤ 30) := (by have := HGK.out; unfold Hid; omega)
      by_cases hc1 : cap = 1
      · subst hc1
        obtain rfl : ql = 0 := by omega
        obtain rfl : zq = [] := List.eq_nil_of_length_eq_zero HQL.out
        have HWT : Hid (GqW w wr (w.heap.size + 1) n b off 0 (.slice (some ⟨fb, fo, none⟩) n fc) b' c [] S) := HW0.out rfl
        clear HW0 HW1
        generalize hKKd : left S + 0 = KK at HKK HKB
        have HKD := Lib.hid hKKd; clear hKKd
        replace HKK : Hid (left S + ([] : List Int).length = KK) := HKD
        go_wp2_with fail
        clear qu hh0 q0
        go_loopg [6, 29] ul (fun g q i wy => ∃ (p b off cap : Nat) (zq : List Int) (S : List Bool), p + g = ul ∧ i = .int .i64 p ∧ q = .slice (some ⟨b, off, none⟩) zq.length cap ∧ Hid (left S + zq.length = KK) ∧ Hid (Gr h.f cs zq S k p) ∧ Hid (GqW w wy (w.heap.size + 1) n b off cap (.slice (some ⟨fb, fo, none⟩) n fc) b' c zq S))
        case atStart => exact ⟨0, b, off, 0, [], S, by omega, rfl, rfl, HKK, GR, HWT⟩
        case round =>
          obtain ⟨p, b5, o5, c5, zr, S5, hpn, rfl, rfl, hKK, hgr, hgw⟩ := hrel
          by_cases hpl : p < ul
          · obtain ⟨zb, zo, rfl, hcz⟩ := HU.out.at' (by omega)
            have qz := cellBelow hgw.out.low (Nat.le_refl _) (hcz p hpl)
            have hpr : p < row.length := by rw [HUL.out]; exact hpl
            have HZI := Lib.hid (HIN.out _ (getD_memI hpr))
            have HSK : Hid (missB cs S5 (row.getD p 0) = false → Gr h.f cs zr S5 k (p + 1)) := fun q => hgr.out.skip (by rw [HROW.out]; exact hpr) (by rw [HROW.out]; exact q)
            have HFI : Hid (∀ t : Nat, row.getD p 0 = (t : Int) → missB cs S5 (t : Int) = true → t < n → Gr h.f cs (zr ++ [(t : Int)]) (S5.set t true) k (p + 1)) := fun t q1 q2 q3 => hgr.out.find (by rw [HROW.out]; exact hpr) (by rw [HROW.out]; exact q1) q2 (by rw [HCL.out]; exact q3)
            have hSl : S5.length = n := by rw [hgr.out.gin.len, HCL.out]
            have p1 : (p : Int) < (ul : Int) := by omega
            have p0 : (0 : Int) ≤ (p : Int) := by omega
            clear hcz hpr
            generalize row.getD p 0 = z at *
            by_cases z1 : z < 0
            · have G6 := Lib.hid (HSK.out (missB_neg z1))
              clear HSK HFI hSl
              go_wp2_with fail
              go_roundg (ul - (p + 1))
              case measure => omega
              case rel => exact ⟨p + 1, b5, o5, c5, zr, S5, by omega, by go_num, rfl, hKK, G6, hgw⟩
            · obtain ⟨t, rfl⟩ : ∃ t : Nat, z = t := ⟨z.toNat, by omega⟩
              have htn : t < n := by rcases HZI.out with q | q <;> omega
              obtain ⟨vb, vo, rfl, hcv⟩ := HZ.out.at' (by omega)
              have qv := cellBelow hgw.out.low (Nat.le_refl _) (hcv t htn)
              obtain ⟨_, _, s3, s4⟩ := hgw.out.own.stored hSl htn true
              have W6 := Lib.hid (hgw.out.store hSl htn)
              have LS : Hid (S5.getD t false = false → left (S5.set t true) + 1 = left S5) := left_set (by rw [hSl]; exact htn)
              have MB := Lib.hid (missB_nat (cs := cs) (S := S5) (k := t))
              have t1 : (t : Int) < (n : Int) := by omega
              have t0 : (0 : Int) ≤ (t : Int) := by omega
              have HTN := Lib.hid htn
              clear hcv z1 hSl HZI htn
              generalize hy : cs.getD t 0 = y at *
              clear hy
              generalize hx : S5.getD t false = x at *
              clear hx
              by_cases hy : y = 0
              · subst hy
                cases x
                · have G6 := Lib.hid (HFI.out t rfl MB.out HTN.out)
                  have LS6 := Lib.hid (LS.out rfl)
                  have W7 := Lib.hid (W6.out.alloc (t : Int))
                  have I7 := Lib.hid (ints_one (wr.setCell ⟨w.heap.size + 1, t, none⟩ (.bool true)) (t : Int))
                  have I8 : Hid (IntsAt ((wr.setCell ⟨w.heap.size + 1, t, none⟩ (.bool true)).alloc (.cells #[.int .i64 (t : Int)] 3)) (.slice (some ⟨wr.heap.size, 0, none⟩) 1 1) [(t : Int)]) := (by have q := I7.out; rw [World.size_setCell] at q; exact q)
                  have LL7 : Hid (w.heap.size + 1 + 1 ≤ ((wr.setCell ⟨w.heap.size + 1, t, none⟩ (.bool true)).alloc (.cells #[.int .i64 (t : Int)] 3)).heap.size) := (by have := W7.out.que.lo; have := W7.out.que.lt; unfold Hid; omega)
                  have HZL : Hid (zr.length ≤ 100) := (by have := hKK.out; have := HKB.out; unfold Hid; omega)
                  clear HSK HFI MB LS W6
                  go_wp2_with (at_builtin; refine wl_appQ _ rfl _ _ rfl (w.heap.size + 1 + 1) b5 o5 c5 zr rfl W7.out.que _ [(t : Int)] rfl (by first | exact I7.out | exact I8.out) LL7.out (by have := HZL.out; simp only [List.length_singleton]; omega) ?_
                               intro b8 o8 k8 w8 hq8 hg8
                               have W8 := Lib.hid (W7.out.app hq8 hg8)
                               clear hq8 hg8)
                  go_roundg (ul - (p + 1))
                  case measure => omega
                  case rel => exact ⟨p + 1, b8, o8, k8, zr ++ [(t : Int)], S5.set t true, by omega, by go_num, by simp, by have := hKK.out; have := LS6.out; unfold Hid; rw [List.length_append, List.length_singleton]; omega, G6, W8⟩
                · have G6 := Lib.hid (HSK.out (by rw [MB.out]; rfl))
                  clear HSK HFI MB LS W6
                  go_wp2_with fail
                  go_roundg (ul - (p + 1))
                  case measure => omega
                  case rel => exact ⟨p + 1, b5, o5, c5, zr, S5, by omega, by go_num, rfl, hKK, G6, hgw⟩
              · have hy1 : (y == 0) = false := by simpa using hy
                have G6 := Lib.hid (HSK.out (by rw [MB.out, decide_eq_false hy]; rfl))
                clear HSK HFI MB LS W6 hy
                go_wp2_with fail
                go_roundg (ul - (p + 1))
                case measure => omega
                case rel => exact ⟨p + 1, b5, o5, c5, zr, S5, by omega, by go_num, rfl, hKK, G6, hgw⟩
          · have G9 : Hid (Gq h.f cs zr S5) := Gr.over (by rw [HROW.out, HUL.out]; have e : p = ul := (by omega); rw [← e]; exact hgr.out)
            go_wp2_with fail
            go_roundg KK
            case measure => have := HGK.out; have := HKD.out; omega
            case rel => exact ⟨b5, o5, c5, zr, S5, rfl, by have := hKK.out; unfold Hid; omega, by have := HKB.out; omega, G9, hgw⟩
      · have HWT := HW1
        clear HW0 HW1
        generalize hKKd : left S + ql = KK at HKK HKB
        have HKD := Lib.hid hKKd; clear hKKd
        replace HKK : Hid (left S + zq.length = KK) := (by unfold Hid; rw [HQL.out]; exact HKD.out)
        go_wp2_with fail
        clear qu hh0 q0
        go_loopg [6, 29] ul (fun g q i wy => ∃ (p b off cap : Nat) (zq : List Int) (S : List Bool), p + g = ul ∧ i = .int .i64 p ∧ q = .slice (some ⟨b, off, none⟩) zq.length cap ∧ Hid (left S + zq.length = KK) ∧ Hid (Gr h.f cs zq S k p) ∧ Hid (GqW w wy (w.heap.size + 1) n b off cap (.slice (some ⟨fb, fo, none⟩) n fc) b' c zq S))
        case atStart => exact ⟨0, b, off + 1, cap - 1, zq, S, by omega, rfl, by simp [HQL.out], HKK, GR, HWT⟩
        case round =>
          obtain ⟨p, b5, o5, c5, zr, S5, hpn, rfl, rfl, hKK, hgr, hgw⟩ := hrel
          by_cases hpl : p < ul
          · obtain ⟨zb, zo, rfl, hcz⟩ := HU.out.at' (by omega)
            have qz := cellBelow hgw.out.low (Nat.le_refl _) (hcz p hpl)
            have hpr : p < row.length := by rw [HUL.out]; exact hpl
            have HZI := Lib.hid (HIN.out _ (getD_memI hpr))
            have HSK : Hid (missB cs S5 (row.getD p 0) = false → Gr h.f cs zr S5 k (p + 1)) := fun q => hgr.out.skip (by rw [HROW.out]; exact hpr) (by rw [HROW.out]; exact q)
            have HFI : Hid (∀ t : Nat, row.getD p 0 = (t : Int) → missB cs S5 (t : Int) = true → t < n → Gr h.f cs (zr ++ [(t : Int)]) (S5.set t true) k (p + 1)) := fun t q1 q2 q3 => hgr.out.find (by rw [HROW.out]; exact hpr) (by rw [HROW.out]; exact q1) q2 (by rw [HCL.out]; exact q3)
            have hSl : S5.length = n := by rw [hgr.out.gin.len, HCL.out]
            have p1 : (p : Int) < (ul : Int) := by omega
            have p0 : (0 : Int) ≤ (p : Int) := by omega
            clear hcz hpr
            generalize row.getD p 0 = z at *
            by_cases z1 : z < 0
            · have G6 := Lib.hid (HSK.out (missB_neg z1))
              clear HSK HFI hSl
              go_wp2_with fail
              go_roundg (ul - (p + 1))
              case measure => omega
              case rel => exact ⟨p + 1, b5, o5, c5, zr, S5, by omega, by go_num, rfl, hKK, G6, hgw⟩
            · obtain ⟨t, rfl⟩ : ∃ t : Nat, z = t := ⟨z.toNat, by omega⟩
              have htn : t < n := by rcases HZI.out with q | q <;> omega
              obtain ⟨vb, vo, rfl, hcv⟩ := HZ.out.at' (by omega)
              have qv := cellBelow hgw.out.low (Nat.le_refl _) (hcv t htn)
              obtain ⟨_, _, s3, s4⟩ := hgw.out.own.stored hSl htn true
              have W6 := Lib.hid (hgw.out.store hSl htn)
              have LS : Hid (S5.getD t false = false → left (S5.set t true) + 1 = left S5) := left_set (by rw [hSl]; exact htn)
              have MB := Lib.hid (missB_nat (cs := cs) (S := S5) (k := t))
              have t1 : (t : Int) < (n : Int) := by omega
              have t0 : (0 : Int) ≤ (t : Int) := by omega
              have HTN := Lib.hid htn
              clear hcv z1 hSl HZI htn
              generalize hy : cs.getD t 0 = y at *
              clear hy
              generalize hx : S5.getD t false = x at *
              clear hx
              by_cases hy : y = 0
              · subst hy
                cases x
                · have G6 := Lib.hid (HFI.out t rfl MB.out HTN.out)
                  have LS6 := Lib.hid (LS.out rfl)
                  have W7 := Lib.hid (W6.out.alloc (t : Int))
                  have I7 := Lib.hid (ints_one (wr.setCell ⟨w.heap.size + 1, t, none⟩ (.bool true)) (t : Int))
                  have I8 : Hid (IntsAt ((wr.setCell ⟨w.heap.size + 1, t, none⟩ (.bool true)).alloc (.cells #[.int .i64 (t : Int)] 3)) (.slice (some ⟨wr.heap.size, 0, none⟩) 1 1) [(t : Int)]) := (by have q := I7.out; rw [World.size_setCell] at q; exact q)
                  have LL7 : Hid (w.heap.size + 1 + 1 ≤ ((wr.setCell ⟨w.heap.size + 1, t, none⟩ (.bool true)).alloc (.cells #[.int .i64 (t : Int)] 3)).heap.size) := (by have := W7.out.que.lo; have := W7.out.que.lt; unfold Hid; omega)
                  have HZL : Hid (zr.length ≤ 100) := (by have := hKK.out; have := HKB.out; unfold Hid; omega)
                  clear HSK HFI MB LS W6
                  go_wp2_with (at_builtin; refine wl_appQ _ rfl _ _ rfl (w.heap.size + 1 + 1) b5 o5 c5 zr rfl W7.out.que _ [(t : Int)] rfl (by first | exact I7.out | exact I8.out) LL7.out (by have := HZL.out; simp only [List.length_singleton]; omega) ?_
                               intro b8 o8 k8 w8 hq8 hg8
                               have W8 := Lib.hid (W7.out.app hq8 hg8)
                               clear hq8 hg8)
                  go_roundg (ul - (p + 1))
                  case measure => omega
                  case rel => exact ⟨p + 1, b8, o8, k8, zr ++ [(t : Int)], S5.set t true, by omega, by go_num, by simp, by have := hKK.out; have := LS6.out; unfold Hid; rw [List.length_append, List.length_singleton]; omega, G6, W8⟩
                · have G6 := Lib.hid (HSK.out (by rw [MB.out]; rfl))
                  clear HSK HFI MB LS W6
                  go_wp2_with fail
                  go_roundg (ul - (p + 1))
                  case measure => omega
                  case rel => exact ⟨p + 1, b5, o5, c5, zr, S5, by omega, by go_num, rfl, hKK, G6, hgw⟩
              · have hy1 : (y == 0) = false := by simpa using hy
                have G6 := Lib.hid (HSK.out (by rw [MB.out, decide_eq_false hy]; rfl))
                clear HSK HFI MB LS W6 hy
                go_wp2_with fail
                go_roundg (ul - (p + 1))
                case measure => omega
                case rel => exact ⟨p + 1, b5, o5, c5, zr, S5, by omega, by go_num, rfl, hKK, G6, hgw⟩
          · have G9 : Hid (Gq h.f cs zr S5) := Gr.over (by rw [HROW.out, HUL.out]; have e : p = ul := (by omega); rw [← e]; exact hgr.out)
            go_wp2_with fail
            go_roundg KK
            case measure => have := HGK.out; have := HKD.out; omega
            case rel => exact ⟨b5, o5, c5, zr, S5, rfl, by have := hKK.out; unfold Hid; omega, by have := HKB.out; omega, G9, hgw⟩
end Go.Proofs.Ytdagkbgobnaijaa
namespace Go.Proofs.Ytdagkbgobnaijaa
open Go.RowKit Ph

set_option maxRecDepth 100000 in
set_option maxHeartbeats 3200000 in
theorem s_GuardedBy (a b c v : Value) (h : H) (cs : List Int) (w : World) (hA : HeapAt w a b c h) (hz : IntsAt w v cs) : Calls Try.prog 50 #[hv a b c, v] w (EndI (grdR h cs) (bothB h cs) w) := by
  have hb0 := below1 w (.cells (c3 a b c) 32)
  have A0 := Lib.hid (hA.below hb0)
  have Z0 := Lib.hid (hz.below hb0)
  have HB := Lib.hid hb0
  have R0 := Lib.hid (show RowH _ _ a b c from Row.new w 32 (c3 a b c))
  have HF := Lib.hid hA
  have HZW := Lib.hid hz
  clear hA hb0
  have HC := Lib.hid (s_l6Both a b c v h cs _ A0.out Z0.out)
  have HE1 := Lib.hid (grdR_no (h := h) (cs := cs))
  have HE2 := Lib.hid (grdR_yes (h := h) (cs := cs))
  have HBB := Lib.hid (bothB_iff (h := h) (cs := cs)).1
  obtain ⟨va, vc, rfl⟩ := hz.shape
  clear hz
  generalize hx : bothB h cs = x at *
  have HX := Lib.hid hx; clear hx
  have c0 := R0.out.c0
  have c1 := R0.out.c1
  have c2 := R0.out.c2
  cases x
  · have HR := Lib.hid (HE1.out rfl)
    go_enter Try.func50, Try.ntmps50
    go_wp2_with (go_at_call 89; refine HC.out.mono ?_; rintro e w1 ⟨rfl, hb1⟩; have B1 := Lib.hid (bst HB.out hb1 HB.out.size); clear hb1)
    go_ret2
    exact endI_no B1.out HR.out rfl
  have HR := Lib.hid (HE2.out rfl)
  obtain ⟨hG, hlen, hcol⟩ := HBB.out rfl
  have hn12 : cs.length ≤ 12 := by rw [hlen]; exact hG.n
  have HG := Lib.hid hG
  have HLE := Lib.hid hlen
  clear hG hcol HBB hlen
  have HN12 := Lib.hid hn12; clear hn12
  go_enter Try.func50, Try.ntmps50
  go_wp2_with (go_at_call 89; refine HC.out.mono ?_; rintro e w1 ⟨rfl, hb1⟩; have B1 := Lib.hid (bst HB.out hb1 HB.out.size); have Z1 := Lib.hid (Z0.out.below hb1); have A1 := Lib.hid (A0.out.below hb1); have R1 := Lib.hid (R0.out.below hb1); have d0 := R1.out.c0; have d1 := R1.out.c1; have d2 := R1.out.c2; clear hb1)
  refine (s_l8Guarded _ _ _ _ h cs _ A1.out HG.out Z1.out HLE.out).mono ?_
  rintro e w2 ⟨gv, rfl, ho2, hb2⟩
  have B2 := Lib.hid (bst B1.out hb2 B1.out.size)
  have O2 := Lib.hid ho2
  obtain ⟨ga, gc, rfl⟩ := own_boolshape ho2
  clear ho2 hb2 d0 d1 d2 c0 c1 c2
  go_wp2_with fail
  refine (s_l8List _ _ _ (owns_bools O2.out) (by rw [grdL_len]; exact HN12.out)).mono ?_
  rintro e w3 ⟨v3, rfl, ho3, hb3⟩
  have B3 := Lib.hid (bst B2.out hb3 B2.out.size)
  have O3 := Lib.hid ho3
  have BS2 := Lib.hid B2.out.size
  clear ho3 hb3 O2 B2
  go_wp2_with fail
  go_ret2
  exact endI_yes B3.out O3.out BS2.out HR.out rfl
set_option maxHeartbeats 1600000 in
theorem s_BehindGreys (a b c v : Value) (h : H) (cs : List Int) (w : World) (hA : HeapAt w a b c h) (hz : IntsAt w v cs) : Calls Try.prog 56 #[hv a b c, v] w fun e w' => e = .returned (.tuple #[.int .i64 ((grdR h cs).length : Int), .bool (bothB h cs)]) ∧ Below w.heap.size w w' := by
  have hb0 := below1 w (.cells (c3 a b c) 32)
  have A0 := Lib.hid (hA.below hb0)
  have Z0 := Lib.hid (hz.below hb0)
  have HB := Lib.hid hb0
  have R0 := Lib.hid (show RowH _ _ a b c from Row.new w 32 (c3 a b c))
  have HC := Lib.hid (s_GuardedBy a b c v h cs _ A0.out Z0.out)
  have c0 := R0.out.c0
  have c1 := R0.out.c1
  have c2 := R0.out.c2
  clear hA hz hb0
  generalize hx : bothB h cs = x at *
  have HX := Lib.hid hx; clear hx
  generalize hg : grdR h cs = gs at *
  have HGS := Lib.hid hg; clear hg
  go_enter Try.func56, Try.ntmps56
  go_wp2_with fail
  refine HC.out.mono ?_
  rintro e w1 ⟨v1, rfl, ho, hb⟩
  have B1 := Lib.hid (bst HB.out hb HB.out.size)
  obtain ⟨_, _, ⟨pa, qa, rfl⟩⟩ := ho.shapes
  simp only
  clear ho hb
  generalize hl : gs.length = n at *
  have HL := Lib.hid hl; clear hl
  go_wp2_with fail
  go_ret2
  exact ⟨r_lenb HL.out.symm rfl, B1.out⟩
set_option maxRecDepth 100000 in
set_option maxHeartbeats 3200000 in
theorem s_RootsShaded (a b c v : Value) (h : H) (cs : List Int) (w : World) (hA : HeapAt w a b c h) (hz : IntsAt w v cs) : Calls Try.prog 52 #[hv a b c, v] w fun e w' => e = .returned (.tuple #[.bool (rootsR h cs), .bool (bothB h cs)]) ∧ Below w.heap.size w w' := by
  have hb0 := below1 w (.cells (c3 a b c) 32)
  have A0 := Lib.hid (hA.below hb0)
  have Z0 := Lib.hid (hz.below hb0)
  have HB := Lib.hid hb0
  have R0 := Lib.hid (show RowH _ _ a b c from Row.new w 32 (c3 a b c))
  have HF := Lib.hid hA
  have HZW := Lib.hid hz
  clear hA hb0
  have HC := Lib.hid (s_l6Both a b c v h cs _ A0.out Z0.out)
  have HE1 := Lib.hid (rootsR_no (h := h) (cs := cs))
  have HE2 := Lib.hid (rootsR_yes (h := h) (cs := cs))
  have HBB := Lib.hid (bothB_iff (h := h) (cs := cs)).1
  obtain ⟨va, vc, rfl⟩ := hz.shape
  clear hz
  generalize hx : bothB h cs = x at *
  have HX := Lib.hid hx; clear hx
  have c0 := R0.out.c0
  have c1 := R0.out.c1
  have c2 := R0.out.c2
  cases x
  · have HR := Lib.hid (HE1.out rfl)
    go_enter Try.func52, Try.ntmps52
    go_wp2_with (go_at_call 89; refine HC.out.mono ?_; rintro e w1 ⟨rfl, hb1⟩; have B1 := Lib.hid (bst HB.out hb1 HB.out.size); clear hb1)
    go_ret2
    exact ⟨r_bb HR.out.symm rfl, B1.out⟩
  have HR := Lib.hid (HE2.out rfl)
  obtain ⟨hG, hlen, hcol⟩ := HBB.out rfl
  have hn12 : cs.length ≤ 12 := by rw [hlen]; exact hG.n
  have HG := Lib.hid hG
  have HLE := Lib.hid hlen
  have HIN : Hid (∀ z ∈ h.r, inR cs.length z) := fun z hz => by rw [hlen]; exact (refs_bound hG hG.rr z hz).imp id (fun q => ⟨q.1, q.2.1⟩)
  have HR4 : Hid (h.r.length ≤ 12) := by have := hG.rn; unfold Hid; omega
  have HRB : Hid (rootsB h cs = !h.r.any (missB cs (grdL h.f cs))) := rfl
  obtain ⟨ra, rc, rfl⟩ := HF.out.r.shape
  clear hG hcol HBB
  generalize hrr : h.r = rs at *
  have HRS := Lib.hid hrr; clear hrr
  generalize hm : rs.length = m at *
  have HM := Lib.hid hm; clear hm
  have hm12 := HR4.out
  have HGL : Hid ((grdL h.f cs).length = cs.length) := grdL_len _ _
  clear hlen
  generalize hgl : grdL h.f cs = G at *
  have HGD := Lib.hid hgl; clear hgl
  generalize hn : cs.length = n at *
  have HN := Lib.hid hn; clear hn
  go_enter Try.func52, Try.ntmps52
  go_wp2_with (go_at_call 89; refine HC.out.mono ?_; rintro e w1 ⟨rfl, hb1⟩; have B1 := Lib.hid (bst HB.out hb1 HB.out.size); have Z1 := Lib.hid (Z0.out.below hb1); have A1 := Lib.hid (A0.out.below hb1); have R1 := Lib.hid (R0.out.below hb1); have d0 := R1.out.c0; have d1 := R1.out.c1; have d2 := R1.out.c2; clear hb1)
  refine (s_l8Guarded _ _ _ _ h cs _ A1.out HG.out Z1.out (HN.out.trans HLE.out)).mono ?_
  rintro e w2 ⟨gv, rfl, ho2, hb2⟩
  rw [HGD.out] at ho2
  have B2 := Lib.hid (bst B1.out hb2 B1.out.size)
  have R2 := Lib.hid (R1.out.below hb2)
  have Z2 := Lib.hid (Z1.out.below hb2)
  have A2 := Lib.hid (A1.out.below hb2)
  have O2 := Lib.hid (owns_bools ho2)
  obtain ⟨ga, gc, hgv⟩ := own_boolshape ho2
  rw [HGL.out] at hgv
  subst hgv
  clear ho2 hb2 d0 d1 d2 c0 c1 c2 A1 Z1 R1 B1
  have d0 := R2.out.c0
  have d1 := R2.out.c1
  have d2 := R2.out.c2
  go_wp2_with fail
  clear d0 d1 d2
  have RA := Lib.hid A2.out.r
  go_loop [19] (fun i => ∃ p : Nat, p ≤ m ∧ i = .int .i64 p ∧ Hid ((rs.take p).any (missB cs G) = false)) (fun i => m - (intOf i).toNat)
  case atStart => exact ⟨0, Nat.zero_le _, rfl, rfl⟩
  case round =>
    obtain ⟨p, hp, rfl, hnw⟩ := hrel
    by_cases hpl : p < m
    · have hpr : p < rs.length := by rw [HM.out]; exact hpl
      have RA2 : Hid (IntsAt w2 (.slice ra m rc) rs) := by have q := RA.out; rw [HRS.out] at q; exact q
      obtain ⟨zb, zo, rfl, hcz⟩ := RA2.out.at' (by omega)
      have qz := hcz p hpl
      have hin := HIN.out _ (getD_memI hpr)
      have HT := Lib.hid (any_take_succ (p := missB cs G) hpr)
      have HY := Lib.hid (any_true (p := missB cs G) hpr)
      have p1 : (p : Int) < (m : Int) := by omega
      have p0 : (0 : Int) ≤ (p : Int) := by omega
      clear hcz hpr
      generalize rs.getD p 0 = z at *
      by_cases z1 : z < 0
      · have HE : Hid ((rs.take (p + 1)).any (missB cs G) = false) := by unfold Hid; rw [HT.out, hnw.out, missB_neg z1]; rfl
        clear hin HT HY hnw
        go_wp2_with fail
        go_round
        case rel => exact ⟨p + 1, by omega, by go_num, HE⟩
        case measure => simp [intOf]; omega
      · obtain ⟨t, rfl⟩ : ∃ t : Nat, z = t := ⟨z.toNat, by omega⟩
        have htn : t < n := by rcases hin with q | q <;> omega
        obtain ⟨vb, vo, rfl, hcv⟩ := Z2.out.at' (by omega)
        have qv := hcv t htn
        obtain ⟨gb, go, rfl, hcg⟩ := O2.out.at' (by omega)
        have qg := hcg t htn
        have MB := Lib.hid (missB_nat (cs := cs) (S := G) (k := t))
        have t1 : (t : Int) < (n : Int) := by omega
        have t0 : (0 : Int) ≤ (t : Int) := by omega
        clear hcv hcg z1 hin htn
        generalize cs.getD t 0 = y at *
        generalize G.getD t false = x at *
        by_cases hy : y = 0
        · subst hy
          cases x
          · have HF2 : Hid (rootsR h cs = false) := by unfold Hid; rw [HR.out, HRB.out, HY.out (by rw [MB.out]; rfl)]; rfl
            clear HT HY hnw MB
            go_wp2_with fail
            go_ret2
            exact ⟨r_bb HF2.out.symm rfl, B2.out⟩
          · have HE : Hid ((rs.take (p + 1)).any (missB cs G) = false) := by unfold Hid; rw [HT.out, hnw.out, MB.out]; rfl
            clear HT HY hnw MB
            go_wp2_with fail
            go_round
            case rel => exact ⟨p + 1, by omega, by go_num, HE⟩
            case measure => simp [intOf]; omega
        · have hy1 : (y == 0) = false := by simpa using hy
          have HE : Hid ((rs.take (p + 1)).any (missB cs G) = false) := by unfold Hid; rw [HT.out, hnw.out, MB.out, decide_eq_false hy]; rfl
          clear HT HY hnw MB hy
          go_wp2_with fail
          go_round
          case rel => exact ⟨p + 1, by omega, by go_num, HE⟩
          case measure => simp [intOf]; omega
    · have HE : Hid (rootsR h cs = true) := by
        unfold Hid
        have := hnw.out
        rw [List.take_of_length_le (by rw [HM.out]; omega)] at this
        rw [HR.out, HRB.out, this]; rfl
      go_wp2_with fail
      go_ret2
      exact ⟨r_bb HE.out.symm rfl, B2.out⟩
set_option maxRecDepth 100000 in
set_option maxHeartbeats 6400000 in
theorem s_WeakIn (a b c v : Value) (h : H) (cs : List Int) (w : World) (hA : HeapAt w a b c h) (hz : IntsAt w v cs) : Calls Try.prog 40 #[hv a b c, v] w fun e w' => e = .returned (.tuple #[.bool (weakR h cs), .bool (bothB h cs)]) ∧ Below w.heap.size w w' := by
  have hb0 := below1 w (.cells (c3 a b c) 32)
  have A0 := Lib.hid (hA.below hb0)
  have Z0 := Lib.hid (hz.below hb0)
  have HB := Lib.hid hb0
  have R0 := Lib.hid (show RowH _ _ a b c from Row.new w 32 (c3 a b c))
  have HF := Lib.hid hA
  have HZW := Lib.hid hz
  clear hA hb0
  have HC := Lib.hid (s_l6Both a b c v h cs _ A0.out Z0.out)
  have HE1 := Lib.hid (weakR_no (h := h) (cs := cs))
  have HE2 := Lib.hid (weakR_yes (h := h) (cs := cs))
  have HBB := Lib.hid (bothB_iff (h := h) (cs := cs)).1
  obtain ⟨va, vc, rfl⟩ := hz.shape
  clear hz
  generalize hx : bothB h cs = x at *
  have HX := Lib.hid hx; clear hx
  have c0 := R0.out.c0
  have c1 := R0.out.c1
  have c2 := R0.out.c2
  cases x
  · have HR := Lib.hid (HE1.out rfl)
    go_enter Try.func40, Try.ntmps40
    go_wp2_with (go_at_call 89; refine HC.out.mono ?_; rintro e w1 ⟨rfl, hb1⟩; have B1 := Lib.hid (bst HB.out hb1 HB.out.size); clear hb1)
    go_ret2
    exact ⟨r_bb HR.out.symm rfl, B1.out⟩
  have HR := Lib.hid (HE2.out rfl)
  obtain ⟨hG, hlen, hcol⟩ := HBB.out rfl
  have hn12 : cs.length ≤ 12 := by rw [hlen]; exact hG.n
  have HG := Lib.hid hG
  have HLE := Lib.hid hlen
  have HIN : Hid (∀ k, ∀ z ∈ h.f.getD k [], inR cs.length z) := fun k z hz => by rw [hlen]; exact (hG.field hz).imp id (fun h => ⟨h.1, h.2.1⟩)
  have HRL : Hid (∀ k, k < cs.length → (h.f.getD k []).length ≤ 12) := fun k hk => by have := (hG.row k (by omega)).1; omega
  have HSF : Hid (∀ k, k < cs.length → cs.getD k 0 = 2 → (h.f.getD k []).any (missB cs (grdL h.f cs)) = true → weakB h cs = false) := fun k hk => weakB_no (by rw [← hlen]; exact hk)
  have HST : Hid ((∀ k, k < cs.length → cs.getD k 0 = 2 → (h.f.getD k []).any (missB cs (grdL h.f cs)) = false) → weakB h cs = true) := fun q => weakB_iff.2 fun k hk h2 => q k (by rw [hlen]; exact hk) h2
  obtain ⟨fa, fc, hv⟩ := HF.out.f.shape
  rw [← hlen] at hv
  subst hv
  clear hG hcol HBB
  have HGL : Hid ((grdL h.f cs).length = cs.length) := grdL_len _ _
  clear hlen
  generalize hgl : grdL h.f cs = G at *
  have HGD := Lib.hid hgl; clear hgl
  generalize hn : cs.length = n at *
  have HN := Lib.hid hn; clear hn
  go_enter Try.func40, Try.ntmps40
  go_wp2_with (go_at_call 89; refine HC.out.mono ?_; rintro e w1 ⟨rfl, hb1⟩; have B1 := Lib.hid (bst HB.out hb1 HB.out.size); have Z1 := Lib.hid (Z0.out.below hb1); have A1 := Lib.hid (A0.out.below hb1); have R1 := Lib.hid (R0.out.below hb1); have d0 := R1.out.c0; have d1 := R1.out.c1; have d2 := R1.out.c2; clear hb1)
  refine (s_l8Guarded _ _ _ _ h cs _ A1.out HG.out Z1.out (HN.out.trans HLE.out)).mono ?_
  rintro e w2 ⟨gv, rfl, ho2, hb2⟩
  rw [HGD.out] at ho2
  have B2 := Lib.hid (bst B1.out hb2 B1.out.size)
  have R2 := Lib.hid (R1.out.below hb2)
  have Z2 := Lib.hid (Z1.out.below hb2)
  have A2 := Lib.hid (A1.out.below hb2)
  have O2 := Lib.hid (owns_bools ho2)
  obtain ⟨ga, gc, hgv⟩ := own_boolshape ho2
  rw [HGL.out] at hgv
  subst hgv
  clear ho2 hb2 d0 d1 d2 c0 c1 c2 A1 Z1 R1 B1
  have d0 := R2.out.c0
  have d1 := R2.out.c1
  have d2 := R2.out.c2
  go_wp2_with fail
  clear d0 d1 d2
  go_loop [21] (fun i => ∃ j : Nat, j ≤ n ∧ i = .int .i64 j ∧ Hid (∀ k, k < j → cs.getD k 0 = 2 → (h.f.getD k []).any (missB cs G) = false)) (fun i => n - (intOf i).toNat)
  case atStart => exact ⟨0, Nat.zero_le _, rfl, fun k hk => by omega⟩
  case round =>
    obtain ⟨k, hj, rfl, hdone⟩ := hrel
    by_cases hlt : k < n
    · obtain ⟨fb, fo, rfl, hcf⟩ := HF.out.f.at' (by omega)
      obtain ⟨u, quf, huf⟩ := hcf k hlt
      have HU := Lib.hid huf
      have qu := cellBelow B2.out (Nat.le_refl _) quf
      have HSN := Lib.hid (HSF.out k hlt)
      have HINK := Lib.hid (HIN.out k)
      have hl3 := HRL.out k hlt
      obtain ⟨ua, uc, rfl⟩ := huf.shape
      obtain ⟨vb, vo, rfl, hcv⟩ := Z2.out.at' (by omega)
      have HCV := Lib.hid hcv
      have qk := hcv k hlt
      have k1 : (k : Int) < (n : Int) := by omega
      have k0 : (0 : Int) ≤ (k : Int) := by omega
      clear hcf quf huf hcv
      generalize hrow : h.f.getD k [] = row at *
      have HROW := Lib.hid hrow; clear hrow
      generalize hul : row.length = ul at *
      have HUL := Lib.hid hul; clear hul
      generalize hck : cs.getD k 0 = ck at *
      have HCK := Lib.hid hck; clear hck
      go_wp2_with fail
      go_loop [28] (fun i => ∃ p : Nat, p ≤ ul ∧ i = .int .i64 p ∧ Hid (ck = 2 → (row.take p).any (missB cs G) = false)) (fun i => ul - (intOf i).toNat)
      case atStart => exact ⟨0, Nat.zero_le _, rfl, fun _ => rfl⟩
      case round =>
        obtain ⟨p, hp, rfl, hnw⟩ := hrel
        by_cases hpl : p < ul
        · obtain ⟨zb, zo, rfl, hcz⟩ := HU.out.at' (by omega)
          have qz := cellBelow B2.out (Nat.le_refl _) (hcz p hpl)
          have hpr : p < row.length := by rw [HUL.out]; exact hpl
          have hin := HINK.out _ (getD_memI hpr)
          have HT := Lib.hid (any_take_succ (p := missB cs G) hpr)
          have HY := Lib.hid (any_true (p := missB cs G) hpr)
          have p1 : (p : Int) < (ul : Int) := by omega
          have p0 : (0 : Int) ≤ (p : Int) := by omega
          clear hcz hpr
          generalize row.getD p 0 = z at *
          by_cases z1 : z < 0
          · have HE : Hid (ck = 2 → (row.take (p + 1)).any (missB cs G) = false) := fun e => by rw [HT.out, hnw.out e, missB_neg z1]; rfl
            clear hin HT HY hnw
            go_wp2_with fail
            go_round
            case rel => exact ⟨p + 1, by omega, by go_num, HE⟩
            case measure => simp [intOf]; omega
          · obtain ⟨t, rfl⟩ : ∃ t : Nat, z = t := ⟨z.toNat, by omega⟩
            have htn : t < n := by rcases hin with q | q <;> omega
            have qv := HCV.out t htn
            obtain ⟨gb, go, rfl, hcg⟩ := O2.out.at' (by omega)
            have qg := hcg t htn
            have MB := Lib.hid (missB_nat (cs := cs) (S := G) (k := t))
            have t1 : (t : Int) < (n : Int) := by omega
            have t0 : (0 : Int) ≤ (t : Int) := by omega
            clear hcg z1 hin htn
            by_cases hc2 : ck = 2
            · subst hc2
              generalize cs.getD t 0 = y at *
              generalize G.getD t false = x at *
              by_cases hy : y = 0
              · subst hy
                cases x
                · have HE : Hid (weakB h cs = false) := HSN.out rfl (HY.out (by rw [MB.out]; rfl))
                  have HR2 : Hid (weakR h cs = false) := HR.out.trans HE.out
                  clear HT HY hnw MB HE
                  go_wp2_with fail
                  go_ret2
                  exact ⟨r_bb HR2.out.symm rfl, B2.out⟩
                · have HE : Hid ((row.take (p + 1)).any (missB cs G) = false) := by unfold Hid; rw [HT.out, hnw.out rfl, MB.out]; rfl
                  clear HT HY hnw MB
                  go_wp2_with fail
                  go_round
                  case rel => exact ⟨p + 1, by omega, by go_num, fun _ => HE.out⟩
                  case measure => simp [intOf]; omega
              · have hy1 : (y == 0) = false := by simpa using hy
                have HE : Hid ((row.take (p + 1)).any (missB cs G) = false) := by unfold Hid; rw [HT.out, hnw.out rfl, MB.out, decide_eq_false hy]; rfl
                clear HT HY hnw MB hy
                go_wp2_with fail
                go_round
                case rel => exact ⟨p + 1, by omega, by go_num, fun _ => HE.out⟩
                case measure => simp [intOf]; omega
            · have hc3 : (ck == 2) = false := by simpa using hc2
              have HE : Hid (ck = 2 → (row.take (p + 1)).any (missB cs G) = false) := fun e => absurd e hc2
              clear HT HY hnw MB hc2 qv qg
              go_wp2_with fail
              go_round
              case rel => exact ⟨p + 1, by omega, by go_num, HE⟩
              case measure => simp [intOf]; omega
        · have hpe : Hid (row.take p = row) := List.take_of_length_le (by rw [HUL.out]; omega)
          have HD : Hid (∀ i, i < k + 1 → cs.getD i 0 = 2 → (h.f.getD i []).any (missB cs G) = false) := fun i hi h2 => by
            by_cases e : i = k
            · subst e
              rw [HROW.out, ← hpe.out]
              exact hnw.out (by rw [← HCK.out]; exact h2)
            · exact hdone.out i (by omega) h2
          go_wp2_with fail
          go_round
          case rel => exact ⟨k + 1, by omega, by go_num, HD⟩
          case measure => simp [intOf]; omega
    · have HE : Hid (weakR h cs = true) := HR.out.trans (HST.out (fun i hi => hdone.out i (by omega)))
      go_wp2_with fail
      go_ret2
      exact ⟨r_bb HE.out.symm rfl, B2.out⟩
end Go.Proofs.Ytdagkbgobnaijaa
namespace Go.Proofs.Ytdagkbgobnaijaa
open Go.RowKit Ph

set_option maxRecDepth 100000 in
set_option maxHeartbeats 6400000 in
theorem s_l8Lost (a b c v : Value) (h : H) (cs : List Int) (w : World) (hA : HeapAt w a b c h) (hG : Ph.Good h) (hz : IntsAt w v cs) (hlen : cs.length = h.f.length) : Calls Try.prog 96 #[hv a b c, v] w fun e w' => ∃ v', e = .returned v' ∧ Own w' w.heap.size v' (lostL h cs) ∧ Below w.heap.size w w' := by
  obtain ⟨i0, hi, hz0, hz1, hz2⟩ := info_parts info_int
  have hb0 := below1 w (.cells (c3 a b c) 32)
  have A0 := Lib.hid (hA.below hb0)
  have Z0 := Lib.hid (hz.below hb0)
  have HB := Lib.hid hb0
  have R0 := Lib.hid (show RowH _ _ a b c from Row.new w 32 (c3 a b c))
  have HG := Lib.hid hG
  have HLE := Lib.hid hlen
  have hn12 : cs.length ≤ 12 := by rw [hlen]; exact hG.n
  have HLO : Hid (lostL h cs = lostTo h cs cs.length) := by unfold Hid lostL; rw [hlen]
  have HGL : Hid ((grdL h.f cs).length = cs.length) := grdL_len _ _
  have HRL : Hid ((reachL h.f h.r).length = cs.length) := by unfold Hid; rw [reachL_length, hlen]
  have HTY : Hid (∀ j : Nat, (reachL h.f h.r).getD j false = true → missB cs (grdL h.f cs) (j : Int) = true → lostTo h cs (j + 1) = lostTo h cs j ++ [(j : Int)]) := fun j => lostTo_yes
  have HTN : Hid (∀ j : Nat, ((reachL h.f h.r).getD j false = false ∨ missB cs (grdL h.f cs) (j : Int) = false) → lostTo h cs (j + 1) = lostTo h cs j) := fun j => lostTo_no
  obtain ⟨va, vc, rfl⟩ := hz.shape
  clear hA hz hb0 hG hlen
  have c0 := R0.out.c0
  have c1 := R0.out.c1
  have c2 := R0.out.c2
  generalize lostL h cs = lo at *
  generalize hgl : grdL h.f cs = G at *
  have HGD := Lib.hid hgl; clear hgl
  generalize hn : cs.length = n at *
  have HN := Lib.hid hn; clear hn
  go_enter Try.func96, Try.ntmps96
  go_wp2_with fail
  refine (s_l8Guarded _ _ _ _ h cs _ A0.out HG.out Z0.out (HN.out.trans HLE.out)).mono ?_
  rintro e w2 ⟨gv, rfl, ho2, hb2⟩
  rw [HGD.out] at ho2
  have B2 := Lib.hid (bst HB.out hb2 HB.out.size)
  have R2 := Lib.hid (R0.out.below hb2)
  have A2 := Lib.hid (A0.out.below hb2)
  have Z2 := Lib.hid (Z0.out.below hb2)
  have O2 := Lib.hid (owns_bools ho2)
  obtain ⟨ga, gc, hgv⟩ := own_boolshape ho2
  rw [HGL.out] at hgv
  subst hgv
  clear ho2 hb2 c0 c1 c2 A0 Z0 R0 HB
  have d0 := R2.out.c0
  have d1 := R2.out.c1
  have d2 := R2.out.c2
  go_wp2_with fail
  refine (s_l5Reached _ _ _ h _ A2.out HG.out).mono ?_
  rintro e w5 ⟨v4, rfl, ho4, hb4⟩
  have B5 := Lib.hid (bst B2.out hb4 B2.out.size)
  have Z5 := Lib.hid (Z2.out.below hb4)
  have O5 := Lib.hid (O2.out.below hb4)
  obtain ⟨qa, qc, hqv⟩ := own_boolshape ho4
  rw [HRL.out] at hqv
  subst hqv
  have Q5 := Lib.hid (owns_bools ho4)
  clear ho4 hb4 B2 Z2 A2 O2 R2 d0 d1 d2
  generalize reachL h.f h.r = rs at *
  go_wp2_with fail
  go_loopw [6, 15] (fun t i wr => ∃ j : Nat, j ≤ n ∧ i = .int .i64 j ∧ Hid (Own wr w5.heap.size t (lostTo h cs j)) ∧ Hid (Below w5.heap.size w5 wr)) (fun _ i _ => n - (intOf i).toNat)
  case atStart => exact ⟨0, Nat.zero_le _, rfl, by rw [lostTo_zero]; exact Own.nil _ _, Below.refl _ _⟩
  case round =>
    obtain ⟨j, hj, rfl, ho, hbr⟩ := hrel
    by_cases hlt : j < n
    · obtain ⟨qb, qo, rfl, hcq⟩ := (Q5.out.below hbr.out).at' (by omega)
      have qq := hcq j hlt
      obtain ⟨vb, vo, rfl, hcv⟩ := (Z5.out.below hbr.out).at' (by omega)
      have qv := hcv j hlt
      obtain ⟨gb, go, rfl, hcg⟩ := (O5.out.below hbr.out).at' (by omega)
      have qg := hcg j hlt
      have MB := Lib.hid (missB_nat (cs := cs) (S := G) (k := j))
      have HY := Lib.hid (HTY.out j)
      have HNO := Lib.hid (HTN.out j)
      have HFL := Lib.hid (lostTo_len h cs j)
      have j1 : (j : Int) < (n : Int) := by omega
      have j0 : (0 : Int) ≤ (j : Int) := by omega
      clear hcq hcv hcg
      generalize rs.getD j false = x at *
      generalize cs.getD j 0 = y at *
      generalize G.getD j false = g at *
      cases x
      · have HE := Lib.hid (HNO.out (.inl rfl))
        clear HY HNO MB
        go_wp2_with fail
        go_roundw
        case rel => exact ⟨j + 1, by omega, by go_num, by rw [HE.out]; exact ho, hbr⟩
        case measure => simp [intOf]; omega
      · by_cases hy : y = 0
        · subst hy
          cases g
          · have HE := Lib.hid (HY.out rfl (by rw [MB.out]; rfl))
            have HS := Lib.hid (src_int wr (j : Int))
            have HB1 := Lib.hid (hbr.out.alloc hbr.out.size (.cells #[.int .i64 (j : Int)] 3))
            have HO1 := Lib.hid (ho.out.below (below1 wr (.cells #[.int .i64 (j : Int)] 3)))
            clear HY HNO MB
            go_wp2_with (at_builtin; refine wl_appOwn _ rfl _ _ 24 rfl w5.heap.size 3 i0 (.int .i64 0) 8 Try.underlying24 hi hz0 hz1 hz2 rfl u6 _ _ rfl HO1.out _ _ rfl HS.out (by have := HFL.out; simp; unfold maxLen; omega) (by have := HFL.out; simp; omega) HB1.out.size ?_; intro v8 w8 ho8 hg8 hbl8; have O8 : Hid (Own w8 w5.heap.size v8 (lostTo h cs j ++ [(j : Int)])) := by { unfold Hid Own; rw [List.map_append, List.length_append]; exact ho8 }; have B8 := Lib.hid (HB1.out.grown hg8 HB1.out.size (fun g' hg' => (owns_lt HO1.out hg').1)); clear ho8 hg8 hbl8)
            go_roundw
            case rel => exact ⟨j + 1, by omega, by go_num, by rw [HE.out]; exact O8, B8⟩
            case measure => simp [intOf]; omega
          · have HE := Lib.hid (HNO.out (.inr (by rw [MB.out]; rfl)))
            clear HY HNO MB
            go_wp2_with fail
            go_roundw
            case rel => exact ⟨j + 1, by omega, by go_num, by rw [HE.out]; exact ho, hbr⟩
            case measure => simp [intOf]; omega
        · have hy1 : (y == 0) = false := by simpa using hy
          have HE := Lib.hid (HNO.out (.inr (by rw [MB.out, decide_eq_false hy]; rfl)))
          clear HY HNO MB hy
          go_wp2_with fail
          go_roundw
          case rel => exact ⟨j + 1, by omega, by go_num, by rw [HE.out]; exact ho, hbr⟩
          case measure => simp [intOf]; omega
    · have hjn : Hid (j = n) := by unfold Hid; omega
      have BS := Lib.hid B5.out.size
      have B9 := Lib.hid (bst B5.out hbr.out B5.out.size)
      go_wp2_with fail
      go_ret
      exact ⟨_, rfl, by rw [HLO.out, ← hjn.out]; exact ho.out.mono BS.out, B9.out⟩
set_option maxRecDepth 100000 in
set_option maxHeartbeats 3200000 in
theorem s_LostIn (a b c v : Value) (h : H) (cs : List Int) (w : World) (hA : HeapAt w a b c h) (hz : IntsAt w v cs) : Calls Try.prog 44 #[hv a b c, v] w (EndI (lostR h cs) (bothB h cs) w) := by
  have hb0 := below1 w (.cells (c3 a b c) 32)
  have A0 := Lib.hid (hA.below hb0)
  have Z0 := Lib.hid (hz.below hb0)
  have HB := Lib.hid hb0
  have R0 := Lib.hid (show RowH _ _ a b c from Row.new w 32 (c3 a b c))
  have HF := Lib.hid hA.f
  clear hA hb0
  have HC := Lib.hid (s_l6Both a b c v h cs _ A0.out Z0.out)
  have HE1 := Lib.hid (lostR_no (h := h) (cs := cs))
  have HE2 := Lib.hid (lostR_yes (h := h) (cs := cs))
  have HBB := Lib.hid (bothB_iff (h := h) (cs := cs)).1
  obtain ⟨va, vc, rfl⟩ := hz.shape
  clear hz
  generalize hx : bothB h cs = x at *
  have HX := Lib.hid hx; clear hx
  have c0 := R0.out.c0
  have c1 := R0.out.c1
  have c2 := R0.out.c2
  cases x
  · have HR := Lib.hid (HE1.out rfl)
    go_enter Try.func44, Try.ntmps44
    go_wp2_with (go_at_call 89; refine HC.out.mono ?_; rintro e w1 ⟨rfl, hb1⟩; have B1 := Lib.hid (bst HB.out hb1 HB.out.size); clear hb1)
    go_ret2
    exact endI_no B1.out HR.out rfl
  have HR := Lib.hid (HE2.out rfl)
  obtain ⟨hG, hlen, hcol⟩ := HBB.out rfl
  have HG := Lib.hid hG
  have HLE := Lib.hid hlen
  clear hG hcol HBB hlen
  go_enter Try.func44, Try.ntmps44
  go_wp2_with (go_at_call 89; refine HC.out.mono ?_; rintro e w1 ⟨rfl, hb1⟩; have B1 := Lib.hid (bst HB.out hb1 HB.out.size); have Z1 := Lib.hid (Z0.out.below hb1); have A1 := Lib.hid (A0.out.below hb1); have R1 := Lib.hid (R0.out.below hb1); have d0 := R1.out.c0; have d1 := R1.out.c1; have d2 := R1.out.c2; clear hb1)
  refine (s_l8Lost _ _ _ _ h cs _ A1.out HG.out Z1.out HLE.out).mono ?_
  rintro e w2 ⟨v2, rfl, ho2, hb2⟩
  have B2 := Lib.hid (bst B1.out hb2 B1.out.size)
  have O2 := Lib.hid ho2
  have BS := Lib.hid B1.out.size
  clear ho2 hb2
  go_wp2_with fail
  go_ret2
  exact endI_yes B2.out O2.out BS.out HR.out rfl
end Go.Proofs.Ytdagkbgobnaijaa
namespace Go.Proofs.Ytdagkbgobnaijaa
open Go.RowKit Ph

/-- What is the call's own, and what it reads. -/
structure SpW (w w1 wr : World) (v a b c : Value) (cs : List Int) : Prop where
  own : Own wr w1.heap.size v cs
  h : RowH wr w.heap.size a b c
  low : Below w1.heap.size w1 wr
theorem SpW.below {w w1 wr w' : World} {v a b c : Value} {cs : List Int} (k : SpW w w1 wr v a b c cs) (hb : Below wr.heap.size wr w') : SpW w w1 w' v a b c cs := ⟨k.own.below hb, k.h.below hb, bst k.low hb k.low.size⟩
theorem SpW.set {w w1 wr w' : World} {v a b c : Value} {cs cs' : List Int} (k : SpW w w1 wr v a b c cs) (ho : Own w' w1.heap.size v cs') (hg : wr.grownBy w' v.ownBlock) : SpW w w1 w' v a b c cs' :=
  have hr : Row wr w.heap.size 32 (c3 a b c) := k.h
  ⟨ho, Row.grownBy hr hg (ne_rowI8 k.own hr (by decide)), k.low.grown hg k.low.size (fun g e => (owns_lt k.own e).1)⟩
set_option maxRecDepth 100000 in
set_option maxHeartbeats 6400000 in
theorem s_ShadeLost (a b c v : Value) (h : H) (cs : List Int) (w : World) (hA : HeapAt w a b c h) (hz : IntsAt w v cs) : Calls Try.prog 54 #[hv a b c, v] w (EndII (shlR h cs) (shlM h cs : Int) (bothB h cs) w) := by
  obtain ⟨i00, hi00, hz0, hz1, hz2⟩ := info_parts info_int
  have hb0 := below1 w (.cells (c3 a b c) 32)
  have A0 := Lib.hid (hA.below hb0)
  have Z0 := Lib.hid (hz.below hb0)
  have HB := Lib.hid hb0
  have R0 := Lib.hid (show RowH _ _ a b c from Row.new w 32 (c3 a b c))
  have HF := Lib.hid hA.f
  clear hA hb0
  have HC := Lib.hid (s_l6Both a b c v h cs _ A0.out Z0.out)
  have HE1 := Lib.hid (shlR_no (h := h) (cs := cs))
  have HE2 := Lib.hid (shlR_yes (h := h) (cs := cs))
  have HBB := Lib.hid (bothB_iff (h := h) (cs := cs)).1
  obtain ⟨va, vc, rfl⟩ := hz.shape
  clear hz
  generalize hx : bothB h cs = x at *
  have HX := Lib.hid hx; clear hx
  have c0 := R0.out.c0
  have c1 := R0.out.c1
  have c2 := R0.out.c2
  cases x
  · obtain ⟨HR1, HR2⟩ := HE1.out rfl
    have HR1 := Lib.hid HR1; have HR2 := Lib.hid HR2
    go_enter Try.func54, Try.ntmps54
    go_wp2_with (go_at_call 89; refine HC.out.mono ?_; rintro e w1 ⟨rfl, hb1⟩; have B1 := Lib.hid (bst HB.out hb1 HB.out.size); clear hb1)
    go_ret3
    exact endII_no B1.out HR1.out HR2.out rfl
  have HDN := Lib.hid (HE2.out rfl)
  obtain ⟨hG, hlen, hcol⟩ := HBB.out rfl
  have HG := Lib.hid hG
  have hm12 : cs.length ≤ 12 := by have := hG.n; omega
  have HL : Hid ((cs.map (Value.int .i64)).length = cs.length) := List.length_map _
  have HS0 := Lib.hid (Sk.start hlen hcol)
  clear hG hcol HBB hlen HE1 HE2
  generalize shlR h cs = g1 at *
  generalize shlM h cs = g2 at *
  generalize hn : cs.length = n at *
  have HN := Lib.hid hn; clear hn
  go_enter Try.func54, Try.ntmps54
  go_wp2_with (first
    | (go_at_call 89; refine HC.out.mono ?_; rintro e w1 ⟨rfl, hb1⟩; have B1 := Lib.hid (bst HB.out hb1 HB.out.size); have Z1 := Lib.hid (Z0.out.below hb1); have A1 := Lib.hid (A0.out.below hb1); have R1 := Lib.hid (R0.out.below hb1); have d0 := R1.out.c0; have d1 := R1.out.c1; have d2 := R1.out.c2; clear hb1)
    | (at_builtin; refine wl_appOwn _ rfl _ _ 24 rfl w1.heap.size 3 i00 (.int .i64 0) 8 Try.underlying24 hi00 hz0 hz1 hz2 rfl _ 0 [] rfl (own_nil0 w1) _ _ rfl ((Z1.out.below (below1 w1 (.cells #[] 3))).src) (by rw [HL.out]; unfold maxLen; omega) (by rw [HL.out]; omega) (by simp) ?_; intro v3 w3 ho hg hbl; have o3 : Own w3 w1.heap.size v3 cs := (by { unfold Own; rw [List.nil_append, Nat.zero_add, List.length_map] at ho; exact ho }); have b3 := (below1 w1 (.cells #[] 3)).grown hg (by simp) (fun g e => (owns_lt (own_nil0 w1) e).1); have W3 : Hid (SpW w w1 w3 v3 a b c cs) := ⟨o3, R1.out.below b3, b3⟩; have A3 := Lib.hid (A1.out.below b3); have e0 := W3.out.h.c0; have e1 := W3.out.h.c1; have e2 := W3.out.h.c2; clear ho hg hbl b3 o3))
  have HCL : Hid (cs.length = h.f.length) := HS0.out.l0
  refine (s_l8Lost _ _ _ _ h cs _ A3.out HG.out W3.out.own.ints HCL.out).mono ?_
  rintro e w4 ⟨v4, rfl, ho4, hb4⟩
  have W4 := Lib.hid (W3.out.below hb4)
  have T4 := Lib.hid ho4.ints
  obtain ⟨pn, qn, hv3⟩ := W3.out.own.ints.shape
  rw [HN.out] at hv3
  subst hv3
  have BS := Lib.hid B1.out.size
  clear ho4 hb4 d0 d1 d2 e0 e1 e2 W3 A3 c0 c1 c2
  go_wp2_with fail
  go_loopg [8, 9] 12 (fun k s t wr => ∃ (j : Nat) (ds : List Int), k + j = 12 ∧ s = .int .i64 j ∧ Hid (Sk h cs ds j) ∧ Hid (SpW w w1 wr (.slice pn n qn) a b c ds) ∧ Hid (IntsAt wr t (lostL h ds)))
  case atStart => exact ⟨0, cs, rfl, rfl, HS0, W4, T4⟩
  case round =>
    obtain ⟨j, ds, hkj, rfl, hsk, hw, ht⟩ := hrel
    have hdl : Hid (ds.length = h.f.length) := hsk.out.len
    have HML : Hid (∀ z ∈ lostL h ds, ∃ k : Nat, k < h.f.length ∧ z = (k : Int)) := fun z hz => by obtain ⟨i, q1, _, _, _, q2⟩ := (mem_lostL hdl.out).1 hz; exact ⟨i, q1, q2⟩
    have HX : Hid (∀ k : Nat, 0 < (lostL h ds).length → (lostL h ds).getD 0 0 = (k : Int) → shl1 h ds = shade ds (k : Int)) := fun k q1 q2 => shl1_nat rfl q1 q2
    have HST := Lib.hid hsk.out.step
    have HFI := Lib.hid (HDN.out ds j hsk.out)
    obtain ⟨ta, tc, rfl⟩ := ht.out.shape
    generalize lostL h ds = ts at *
    generalize hq : ts.length = q at *
    have HQ := Lib.hid hq; clear hq
    by_cases hq0 : q = 0
    · subst hq0
      obtain ⟨HR1, HR2⟩ := HFI.out (List.eq_nil_of_length_eq_zero HQ.out)
      have HR1 := Lib.hid HR1; have HR2 := Lib.hid HR2
      have B9 := Lib.hid (bst B1.out hw.out.low B1.out.size)
      go_wp2_with fail
      go_ret3
      exact endII_yes B9.out hw.out.own BS.out HR1.out (by rw [HR2.out]) rfl
    · have q1 : (0 : Int) < (q : Int) := by omega
      have hq1 : 0 < ts.length := by rw [HQ.out]; omega
      obtain ⟨k, hk1, hk5⟩ := HML.out _ (getD_memI hq1)
      obtain ⟨tb, to, rfl, hct⟩ := ht.out.at' (by omega)
      have qt := hct 0 (by omega)
      rw [hk5, Nat.add_zero] at qt
      have HE := Lib.hid (HX.out k (by omega) hk5)
      have HKL : Hid ((k : Int) < ds.length) := by unfold Hid; rw [hdl.out]; omega
      have SK1 : Hid (Sk h cs (shl1 h ds) (j + 1)) := HST.out (List.length_pos_iff.1 hq1)
      have hj12 : j + 1 ≤ 12 := by have := SK1.out.le; have := HG.out.n; omega
      have HL6 : Hid ((shl1 h ds).length = h.f.length) := SK1.out.len
      clear hct hk1 hk5 hq1 HX HML HST HFI
      go_wp2_with fail
      refine (s_l6Shade (.slice pn n qn) ds (k : Int) _ _ hw.out.own HKL.out).mono ?_
      rintro e w6 ⟨rfl, ho6, hg6⟩
      rw [← HE.out] at ho6
      have W6 := Lib.hid (hw.out.set ho6 hg6)
      have A6 := Lib.hid (A1.out.below W6.out.low)
      have d0 := W6.out.h.c0
      have d1 := W6.out.h.c1
      have d2 := W6.out.h.c2
      clear ho6 hg6 qt
      go_wp2_with fail
      refine (s_l8Lost _ _ _ _ h (shl1 h ds) _ A6.out HG.out W6.out.own.ints HL6.out).mono ?_
      rintro e w7 ⟨v7, rfl, ho7, hb7⟩
      have W7 := Lib.hid (W6.out.below hb7)
      have T7 := Lib.hid ho7.ints
      clear ho7 hb7 d0 d1 d2 W6 A6
      go_wp2_with fail
      go_roundg (12 - (j + 1))
      case measure => omega
      case rel => exact ⟨j + 1, _, by omega, by go_num, SK1, W7, T7⟩
end Go.Proofs.Ytdagkbgobnaijaa
