/- The reference's ShadeThing and StartColours. -/
import Derived.Test.YtdagkbgobnaijabCs1
import Derived.Test.YtdagkbgobnaijabCc2
namespace Go.Proofs.Ytdagkbgobnaijab
open Go.RowKit Ph

theorem rep_ints (n : Nat) : (madeCells (Value.int .i64 0).cells (n * 1)).toList = (List.replicate n (0 : Int)).map (Value.int .i64) := by
  rw [Nat.mul_one, show (Value.int .i64 0).cells = #[.int .i64 0] from rfl, toList_madeCells_one, List.map_replicate]
set_option maxHeartbeats 1600000 in
theorem s_l6Shade (v : Value) (cs : List Int) (z : Int) (B : Nat) (w : World) (ho : Own w B v cs) (hz : z < cs.length) : Calls Try.prog 107 #[v, .int .i64 z] w fun e w' => e = .returned (.tuple #[]) ∧ Own w' B v (shade cs z) ∧ w.grownBy w' v.ownBlock := by
  by_cases z0 : z < 0
  · have HE := Lib.hid (shade_neg (cs := cs) z0)
    have HO := Lib.hid ho
    clear ho hz
    have z1 : ¬ (0 ≤ z) := by omega
    go_enter Try.func107, Try.ntmps107
    go_wp2_with fail
    go_end0
    exact ⟨rfl, by rw [HE.out]; exact HO.out, World.grownBy.refl _ _⟩
  · obtain ⟨k, rfl⟩ : ∃ k : Nat, z = k := ⟨z.toNat, by omega⟩
    have hk : k < cs.length := by omega
    rcases ho.shape' with ⟨_, h0⟩ | ⟨g, cap, rfl⟩
    · rw [h0] at hk; simp at hk
    obtain ⟨s1, s2, s3, s4⟩ := ho.store1 rfl hk 1
    have HE := Lib.hid (shade_nat cs k)
    have HO := Lib.hid ho; have S1 := Lib.hid s1; have S2 := Lib.hid s2
    clear ho s1 s2 hz
    generalize cs.length = n at *
    have i1 : (k : Int) < (n : Int) := by omega
    have i0 : (0 : Int) ≤ (k : Int) := by omega
    generalize cs.getD k 0 = x at *
    by_cases hx : x = 0
    · subst hx
      rw [if_pos rfl] at HE
      clear z0
      go_enter Try.func107, Try.ntmps107
      go_wp2_with fail
      go_end0
      exact ⟨rfl, by rw [HE.out]; exact S1.out, S2.out⟩
    · rw [if_neg hx] at HE
      have hx1 : (x == 0) = false := by simpa using hx
      clear z0 hx
      go_enter Try.func107, Try.ntmps107
      go_wp2_with fail
      go_end0
      exact ⟨rfl, by rw [HE.out]; exact HO.out, World.grownBy.refl _ _⟩
theorem s_hasB (cs : List Int) (k : Int) : inB 0 ((cs.length : Int) - 1) k = hasB cs k := by
  rw [Bool.eq_iff_iff, inB_iff]
  unfold hasB
  rw [Bool.and_eq_true, decide_eq_true_eq, decide_eq_true_eq]
  omega
theorem own_nil0 (w : World) : Own (w.alloc (.cells #[] 3)) w.heap.size (.slice (some ⟨w.heap.size, 0, none⟩) 0 0) [] := by
  refine ⟨rfl, .inr ⟨w.heap.size, 0, #[], rfl, Nat.le_refl _, Row.new w 3 #[], Nat.le_refl _, ?_, ?_, ?_⟩⟩ <;> simp
set_option maxHeartbeats 1600000 in
theorem s_ShadeThing (v : Value) (zs : List Int) (k : Int) (w : World) (hz : IntsAt w v zs) : Calls Try.prog 65 #[v, .int .i64 k] w (EndI (shadeR zs k) (shadeOk zs k) w) := by
  obtain ⟨i0, hi, hz0, hz1, hz2⟩ := info_parts info_int
  have HC := Lib.hid (s_l6Colours v zs w hz)
  have HT : Hid (Calls Try.prog 116 #[.int .i64 k, .int .i64 0, .int .i64 ((zs.length : Int) - 1)] w fun e w' => e = .returned (.bool (hasB zs k)) ∧ w = w') := by
    unfold Hid
    rw [← s_hasB]
    exact s_l1In k 0 ((zs.length : Int) - 1) w
  have HR : Hid (shadeR zs k = if shadeOk zs k = true then shade zs k else []) := rfl
  have HO : Hid (shadeOk zs k = (colsB zs && hasB zs k)) := rfl
  have HCB := Lib.hid (colsB_iff (cs := zs)).1
  have HHB := Lib.hid (hasB_nat (cs := zs) (k := k))
  have HZ := Lib.hid hz
  obtain ⟨va, vc, rfl⟩ := hz.shape
  clear hz
  generalize colsB zs = x at *
  generalize hasB zs k = y at *
  generalize shadeR zs k = r at *
  generalize shadeOk zs k = ok at *
  generalize hnn : zs.length = n at *
  have HNN := Lib.hid hnn; clear hnn
  cases x
  · have HE : Hid (ok = false) := by unfold Hid; rw [HO.out]; rfl
    rw [HE.out] at HR
    go_enter Try.func65, Try.ntmps65
    go_wp2_with (go_at_call 118; refine HC.out.mono ?_; rintro e w1 ⟨rfl, rfl⟩)
    go_ret2
    exact endI_no (Below.refl _ _) HR.out HE.out
  have hn12 : n ≤ 12 := (HCB.out rfl).1
  have HCOL : Hid (Col zs) := (HCB.out rfl).2
  have hwr : IntKind.i64.wrap ((n : Int) - 1) = (n : Int) - 1 := IntWalk.i64_in _ (by omega)
  cases y
  · have HE : Hid (ok = false) := by unfold Hid; rw [HO.out]; rfl
    rw [HE.out] at HR
    go_enter Try.func65, Try.ntmps65
    go_wp2_with (first
      | (go_at_call 118; refine HC.out.mono ?_; rintro e w1 ⟨rfl, rfl⟩)
      | (go_at_call 116; refine HT.out.mono ?_; rintro e w1 ⟨rfl, rfl⟩))
    go_ret2
    exact endI_no (Below.refl _ _) HR.out HE.out
  · have HE : Hid (ok = true) := by unfold Hid; rw [HO.out]; rfl
    rw [HE.out] at HR
    have HKN : Hid (k < (zs.length : Int)) := by unfold Hid; obtain ⟨t, rfl, htn⟩ := HHB.out rfl; rw [HNN.out]; omega
    have HS := Lib.hid ((HZ.out.below (below1 w (.cells #[] 3))).src)
    have HL : Hid ((zs.map (Value.int .i64)).length = n) := by unfold Hid; rw [List.length_map, HNN.out]
    clear HCB HHB
    go_enter Try.func65, Try.ntmps65
    go_wp2_with (first
      | (go_at_call 118; refine HC.out.mono ?_; rintro e w1 ⟨rfl, rfl⟩)
      | (go_at_call 116; refine HT.out.mono ?_; rintro e w1 ⟨rfl, rfl⟩)
      | (at_builtin; refine wl_appOwn _ rfl _ _ 25 rfl w.heap.size 3 i0 (.int .i64 0) 8 Try.underlying25 hi hz0 hz1 hz2 rfl _ 0 [] rfl (own_nil0 w) _ _ rfl HS.out (by rw [HL.out]; unfold maxLen; omega) (by rw [HL.out]; omega) (by simp) ?_; intro v1 w1 ho hg hbl; have O1 : Hid (Own w1 w.heap.size v1 zs) := (by { unfold Hid Own; rw [List.nil_append, Nat.zero_add, List.length_map] at ho; exact ho }); have B1 := Lib.hid ((below1 w (.cells #[] 3)).grown hg (by simp) (fun g e => (owns_lt (own_nil0 w) e).1)); clear ho hg hbl))
    refine (s_l6Shade v1 zs k _ w1 O1.out HKN.out).mono ?_
    rintro e w6 ⟨rfl, ho6, hg6⟩
    have O6 := Lib.hid ho6
    have B6 := Lib.hid (B1.out.grown hg6 B1.out.size (fun g e => (owns_lt O1.out e).1))
    clear ho6 hg6
    go_wp2_with fail
    go_ret2
    exact endI_yes B6.out O6.out (Nat.le_refl _) HR.out HE.out
set_option maxHeartbeats 1600000 in
theorem s_l6Start (a b c : Value) (h : H) (w : World) (hA : HeapAt w a b c h) (hG : Ph.Good h) : Calls Try.prog 88 #[hv a b c] w fun e w' => ∃ v', e = .returned v' ∧ Own w' w.heap.size v' (startC h) ∧ Below w.heap.size w w' := by
  obtain ⟨i0, hi, hz0, hz1, hz2⟩ := info_parts info_int
  have hb0 := below1 w (.cells (c3 a b c) 27)
  have hn12 := hG.n
  have hrn := hG.rn
  have HR : Hid (∀ z ∈ h.r, z < (h.f.length : Int)) := fun z hz => by rcases refs_bound hG hG.rr z hz with e | ⟨_, e, _⟩ <;> omega
  have HZ := Lib.hid hA.r
  have R0 := Lib.hid (show RowH _ _ a b c from Row.new w 27 (c3 a b c))
  have HB0 := Lib.hid hb0
  obtain ⟨fa, fc, rfl⟩ := hA.f.shape
  obtain ⟨ra, rc, rfl⟩ := hA.r.shape
  have HS : Hid (startC h = shades (List.replicate h.f.length 0) h.r) := rfl
  generalize startC h = out at *

  clear hA hG hb0
  generalize hn : h.f.length = n at *
  generalize hm : h.r.length = m at *
  have HM := Lib.hid hm
  clear hn hm
  have d0 := R0.out.c0
  have d2 := R0.out.c2
  go_enter Try.func88, Try.ntmps88
  go_wp2_with (at_make; refine wpList_make_full _ rfl _ _ 25 rfl w.heap.size 3 i0 (.int .i64 0) 1 Try.underlying25 hi hz0 hz1 .i64 .i64 _ _ n rfl rfl rfl rfl (by rw [hz2]; omega) (by unfold maxLen; omega) (by simp) ?_; intro w1 hown hgr
               rw [rep_ints, show (w.alloc (.cells (c3 (.slice fa n fc) b (.slice ra m rc)) 27)).heap.size = w.heap.size + 1 from World.size_alloc _ _] at hown
               have O1 : Hid (Own w1 w.heap.size (.slice (some ⟨w.heap.size + 1, 0, none⟩) n n) (List.replicate n 0)) := (by { unfold Hid Own; rw [List.length_replicate]; exact hown })
               have B1 := Lib.hid (HB0.out.grown hgr HB0.out.size (fun k hk => by cases hk))
               have R1 := Lib.hid (show RowH _ _ _ _ _ from Row.grown R0.out hgr)
               have e2 := R1.out.c2
               clear hown hgr)
  clear d0 d2 e2
  go_loopw [13] (fun i wr => ∃ j : Nat, j ≤ m ∧ i = .int .i64 j ∧ Hid (Own wr w.heap.size (.slice (some ⟨w.heap.size + 1, 0, none⟩) n n) (shades (List.replicate n 0) (h.r.take j))) ∧ Hid (Below w.heap.size w wr)) (fun i _ => m - (intOf i).toNat)
  case atStart => exact ⟨0, Nat.zero_le _, rfl, by rw [List.take_zero, shades_nil]; exact O1, B1⟩
  case round =>
    obtain ⟨j, hj, rfl, how, hbw⟩ := hrel
    by_cases hlt : j < m
    · obtain ⟨zb, zo, rfl, hcz⟩ := HZ.out.at' (by omega)
      have q := cellBelow hbw.out (Nat.le_refl _) (hcz j hlt)
      have hjl : j < h.r.length := by rw [HM.out]; exact hlt
      have hin := HR.out (h.r.getD j 0) (by rw [List.getD, List.getElem?_eq_getElem hjl]; exact List.getElem_mem hjl)
      have HSS := Lib.hid (shades_take_succ (cs := List.replicate n 0) hjl)
      have HIN : Hid (h.r.getD j 0 < ((shades (List.replicate n 0) (h.r.take j)).length : Int)) := by unfold Hid; rw [shades_len, List.length_replicate]; exact hin
      have i1 : (j : Int) < (m : Int) := by omega
      clear hcz hjl hin
      generalize h.r.getD j 0 = z at *
      go_wp2_with fail
      refine (s_l6Shade _ _ z _ wr how.out HIN.out).mono ?_
      rintro e w6 ⟨rfl, ho6, hg6⟩
      have O6 := Lib.hid ho6
      have B6 := Lib.hid (hbw.out.grown hg6 hbw.out.size (fun g e => (owns_lt how.out e).1))
      clear ho6 hg6 q
      go_wp2_with fail
      go_roundw
      case rel => exact ⟨j + 1, by omega, by go_num, by rw [HSS.out]; exact O6, B6⟩
      case measure => simp [intOf]; omega
    · obtain rfl : j = m := by omega
      have HE : Hid (h.r.take j = h.r) := List.take_of_length_le (by rw [HM.out]; exact Nat.le_refl _)
      go_wp2_with fail
      go_ret
      exact ⟨_, rfl, by rw [HS.out, ← HE.out]; exact how.out, hbw.out⟩
theorem startR_no {h : H} (k : good h = false) : startR h = [] := by unfold startR; rw [k]; rfl
theorem startR_yes {h : H} (k : good h = true) : startR h = startC h := by unfold startR; rw [k]; rfl
set_option maxHeartbeats 1600000 in
theorem s_StartColours (a b c : Value) (h : H) (w : World) (hA : HeapAt w a b c h) : Calls Try.prog 55 #[hv a b c] w (EndI (startR h) (good h) w) := by
  have hb0 := below1 w (.cells (c3 a b c) 27)
  have A0 := Lib.hid (hA.below hb0)
  have HB := Lib.hid hb0
  have R0 := Lib.hid (show RowH _ _ a b c from Row.new w 27 (c3 a b c))
  clear hA hb0
  have HC := Lib.hid (s_GoodHeap a b c h _ A0.out)
  generalize hg : good h = x at *
  have HX := Lib.hid hg
  clear hg
  have c0 := R0.out.c0
  have c1 := R0.out.c1
  have c2 := R0.out.c2
  cases x
  · have HE := Lib.hid (startR_no HX.out)
    go_enter Try.func55, Try.ntmps55
    go_wp2_with (go_at_call 86; refine HC.out.mono ?_; rintro e w1 ⟨rfl, hb1⟩; have B1 := Lib.hid (bst HB.out hb1 HB.out.size); clear hb1)
    go_ret2
    exact endI_no B1.out HE.out rfl
  · have HE := Lib.hid (startR_yes HX.out)
    have G := Lib.hid (good_iff.1 HX.out)
    go_enter Try.func55, Try.ntmps55
    go_wp2_with (go_at_call 86; refine HC.out.mono ?_; rintro e w1 ⟨rfl, hb1⟩; have B1 := Lib.hid (bst HB.out hb1 HB.out.size); have A1 := Lib.hid (A0.out.below hb1); have R1 := R0.out.below hb1; have d0 := R1.c0; have d1 := R1.c1; have d2 := R1.c2; clear hb1 R1)
    refine (s_l6Start a b c h _ A1.out G.out).mono ?_
    rintro e w2 ⟨v', rfl, ho2, hb2⟩
    have B2 := Lib.hid (bst B1.out hb2 B1.out.size); have O2 := Lib.hid ho2
    clear hb2 ho2
    go_wp2_with fail
    go_ret2
    exact endI_yes B2.out O2.out B1.out.size HE.out rfl
end Go.Proofs.Ytdagkbgobnaijab
