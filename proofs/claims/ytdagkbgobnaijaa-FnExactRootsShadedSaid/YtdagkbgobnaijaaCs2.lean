/- The reference's ShadeThing and StartColours. -/
import Derived.Test.YtdagkbgobnaijaaCs1
import Derived.Test.YtdagkbgobnaijaaCc2
namespace Go.Proofs.Ytdagkbgobnaijaa
open Go.RowKit Ph

theorem rep_ints (n : Nat) : (madeCells (Value.int .i64 0).cells (n * 1)).toList = (List.replicate n (0 : Int)).map (Value.int .i64) := by
  rw [Nat.mul_one, show (Value.int .i64 0).cells = #[.int .i64 0] from rfl, toList_madeCells_one, List.map_replicate]
set_option maxHeartbeats 1600000 in
theorem s_l6Shade (v : Value) (cs : List Int) (z : Int) (B : Nat) (w : World) (ho : Own w B v cs) (hz : z < cs.length) : Calls Try.prog 78 #[v, .int .i64 z] w fun e w' => e = .returned (.tuple #[]) ∧ Own w' B v (shade cs z) ∧ w.grownBy w' v.ownBlock := by
  by_cases z0 : z < 0
  · have HE := Lib.hid (shade_neg (cs := cs) z0)
    have HO := Lib.hid ho
    clear ho hz
    have z1 : ¬ (0 ≤ z) := by omega
    go_enter Try.func78, Try.ntmps78
    go_wp2_with fail
    go_end0
    exact ⟨rfl, by rw [HE.out]; exact HO.out, World.grownBy.refl _ _⟩
  · obtain ⟨k, rfl⟩ : ∃ k : Nat, z = k := ⟨z.toNat, by omega⟩
    have hk : k < cs.length := by omega
    rcases ho.shape' with ⟨_, h0⟩ | ⟨g, cap, rfl⟩
    · rw [h0] at hk; simp at hk
    obtain ⟨s1, s2, s3, s4⟩ := ho.store1 rfl hk 1
    have HE := Lib.hid (shade_nat cs k)
    have HO := Lib.hid ho; have S1 := Lib.hid s1; have S2 := Lib.hid s2
    clear ho s1 s2 hz
    generalize cs.length = n at *
    have i1 : (k : Int) < (n : Int) := by omega
    have i0 : (0 : Int) ≤ (k : Int) := by omega
    generalize cs.getD k 0 = x at *
    by_cases hx : x = 0
    · subst hx
      rw [if_pos rfl] at HE
      clear z0
      go_enter Try.func78, Try.ntmps78
      go_wp2_with fail
      go_end0
      exact ⟨rfl, by rw [HE.out]; exact S1.out, S2.out⟩
    · rw [if_neg hx] at HE
      have hx1 : (x == 0) = false := by simpa using hx
      clear z0 hx
      go_enter Try.func78, Try.ntmps78
      go_wp2_with fail
      go_end0
      exact ⟨rfl, by rw [HE.out]; exact HO.out, World.grownBy.refl _ _⟩
theorem s_hasB (cs : List Int) (k : Int) : inB 0 ((cs.length : Int) - 1) k = hasB cs k := by
  rw [Bool.eq_iff_iff, inB_iff]
  unfold hasB
  rw [Bool.and_eq_true, decide_eq_true_eq, decide_eq_true_eq]
  omega
theorem own_nil0 (w : World) : Own (w.alloc (.cells #[] 3)) w.heap.size (.slice (some ⟨w.heap.size, 0, none⟩) 0 0) [] := by
  refine ⟨rfl, .inr ⟨w.heap.size, 0, #[], rfl, Nat.le_refl _, Row.new w 3 #[], Nat.le_refl _, ?_, ?_, ?_⟩⟩ <;> simp
set_option maxHeartbeats 1600000 in
theorem s_l6Start (a b c : Value) (h : H) (w : World) (hA : HeapAt w a b c h) (hG : Ph.Good h) : Calls Try.prog 105 #[hv a b c] w fun e w' => ∃ v', e = .returned v' ∧ Own w' w.heap.size v' (startC h) ∧ Below w.heap.size w w' := by
  obtain ⟨i0, hi, hz0, hz1, hz2⟩ := info_parts info_int
  have hb0 := below1 w (.cells (c3 a b c) 32)
  have hn12 := hG.n
  have hrn := hG.rn
  have HR : Hid (∀ z ∈ h.r, z < (h.f.length : Int)) := fun z hz => by rcases refs_bound hG hG.rr z hz with e | ⟨_, e, _⟩ <;> omega
  have HZ := Lib.hid hA.r
  have R0 := Lib.hid (show RowH _ _ a b c from Row.new w 32 (c3 a b c))
  have HB0 := Lib.hid hb0
  obtain ⟨fa, fc, rfl⟩ := hA.f.shape
  obtain ⟨ra, rc, rfl⟩ := hA.r.shape
  have HS : Hid (startC h = shades (List.replicate h.f.length 0) h.r) := rfl
  generalize startC h = out at *

  clear hA hG hb0
  generalize hn : h.f.length = n at *
  generalize hm : h.r.length = m at *
  have HM := Lib.hid hm
  clear hn hm
  have d0 := R0.out.c0
  have d2 := R0.out.c2
  go_enter Try.func105, Try.ntmps105
  go_wp2_with (at_make; refine wpList_make_full _ rfl _ _ 24 rfl w.heap.size 3 i0 (.int .i64 0) 1 Try.underlying24 hi hz0 hz1 .i64 .i64 _ _ n rfl rfl rfl rfl (by rw [hz2]; omega) (by unfold maxLen; omega) (by simp) ?_; intro w1 hown hgr
               rw [rep_ints, show (w.alloc (.cells (c3 (.slice fa n fc) b (.slice ra m rc)) 32)).heap.size = w.heap.size + 1 from World.size_alloc _ _] at hown
               have O1 : Hid (Own w1 w.heap.size (.slice (some ⟨w.heap.size + 1, 0, none⟩) n n) (List.replicate n 0)) := (by { unfold Hid Own; rw [List.length_replicate]; exact hown })
               have B1 := Lib.hid (HB0.out.grown hgr HB0.out.size (fun k hk => by cases hk))
               have R1 := Lib.hid (show RowH _ _ _ _ _ from Row.grown R0.out hgr)
               have e2 := R1.out.c2
               clear hown hgr)
  clear d0 d2 e2
  go_loopw [13] (fun i wr => ∃ j : Nat, j ≤ m ∧ i = .int .i64 j ∧ Hid (Own wr w.heap.size (.slice (some ⟨w.heap.size + 1, 0, none⟩) n n) (shades (List.replicate n 0) (h.r.take j))) ∧ Hid (Below w.heap.size w wr)) (fun i _ => m - (intOf i).toNat)
  case atStart => exact ⟨0, Nat.zero_le _, rfl, by rw [List.take_zero, shades_nil]; exact O1, B1⟩
  case round =>
    obtain ⟨j, hj, rfl, how, hbw⟩ := hrel
    by_cases hlt : j < m
    · obtain ⟨zb, zo, rfl, hcz⟩ := HZ.out.at' (by omega)
      have q := cellBelow hbw.out (Nat.le_refl _) (hcz j hlt)
      have hjl : j < h.r.length := by rw [HM.out]; exact hlt
      have hin := HR.out (h.r.getD j 0) (by rw [List.getD, List.getElem?_eq_getElem hjl]; exact List.getElem_mem hjl)
      have HSS := Lib.hid (shades_take_succ (cs := List.replicate n 0) hjl)
      have HIN : Hid (h.r.getD j 0 < ((shades (List.replicate n 0) (h.r.take j)).length : Int)) := by unfold Hid; rw [shades_len, List.length_replicate]; exact hin
      have i1 : (j : Int) < (m : Int) := by omega
      clear hcz hjl hin
      generalize h.r.getD j 0 = z at *
      go_wp2_with fail
      refine (s_l6Shade _ _ z _ wr how.out HIN.out).mono ?_
      rintro e w6 ⟨rfl, ho6, hg6⟩
      have O6 := Lib.hid ho6
      have B6 := Lib.hid (hbw.out.grown hg6 hbw.out.size (fun g e => (owns_lt how.out e).1))
      clear ho6 hg6 q
      go_wp2_with fail
      go_roundw
      case rel => exact ⟨j + 1, by omega, by go_num, by rw [HSS.out]; exact O6, B6⟩
      case measure => simp [intOf]; omega
    · obtain rfl : j = m := by omega
      have HE : Hid (h.r.take j = h.r) := List.take_of_length_le (by rw [HM.out]; exact Nat.le_refl _)
      go_wp2_with fail
      go_ret
      exact ⟨_, rfl, by rw [HS.out, ← HE.out]; exact how.out, hbw.out⟩
theorem startR_no {h : H} (k : good h = false) : startR h = [] := by unfold startR; rw [k]; rfl
theorem startR_yes {h : H} (k : good h = true) : startR h = startC h := by unfold startR; rw [k]; rfl
end Go.Proofs.Ytdagkbgobnaijaa
