/- laws.FnCleaned: for every input the law answers true, and the input reads as it did. No condition. -/
import Derived.Test.YthanckifinfpiaaHm1
import Derived.Test.YthanckifinfpiaaHk2
import Derived.Test.YthanckifinfpiaaMj
import Derived.Test.YthanckifinfpiaaLift
namespace Go.Proofs.Ythanckifinfpiaa.Ph
def sfB (a b : H) (ts : List Bool) (n : Nat) : Bool := (List.range n).all fun k => !(ts.getD k false) || (liveB b.l (k : Int) && decide (a.f.getD k [] = b.f.getD k []))
theorem sfB_succ {a b : H} {ts : List Bool} {n : Nat} : sfB a b ts (n + 1) = (sfB a b ts n && (!(ts.getD n false) || (liveB b.l (n : Int) && decide (a.f.getD n [] = b.f.getD n [])))) := by simp [sfB, List.range_succ]
theorem sfB_false {a b : H} {ts : List Bool} {n k : Nat} (h : k < n) (hn : (!(ts.getD k false) || (liveB b.l (k : Int) && decide (a.f.getD k [] = b.f.getD k []))) = false) : sfB a b ts n = false := by
  cases hq : sfB a b ts n with
  | false => rfl
  | true =>
    have := (List.all_eq_true.1 hq) k (by simpa using h)
    rw [hn] at this; cases this
end Go.Proofs.Ythanckifinfpiaa.Ph
namespace Go.Proofs.Ythanckifinfpiaa
open Go.RowKit Ph

set_option maxRecDepth 100000 in
set_option maxHeartbeats 6400000 in
theorem c_sameFields (a1 b1 c1 a2 b2 c2 tv : Value) (x y : H) (ts : List Bool) (w : World) (hA : HeapAt w a1 b1 c1 x) (hB : HeapAt w a2 b2 c2 y) (hT : BoolsAt w tv ts) (hgx : Ph.Good x) (hgy : Ph.Good y) (htl : ts.length = x.f.length) :
    Calls Try.prog 82 #[hv a1 b1 c1, hv a2 b2 c2, tv] w fun e w' => e = .returned (.bool (sfB x y ts x.f.length)) ∧ Below w.heap.size w w' := by
  have hb0 := (below1 w (.cells (c3 a1 b1 c1) 27)).alloc (by simp) (.cells (c3 a2 b2 c2) 27)
  have A0 := Lib.hid (hA.below hb0); have B0 := Lib.hid (hB.below hb0); have T0 := Lib.hid (hT.below hb0)
  have HB := Lib.hid hb0
  have P0 := Lib.hid (show RowH _ _ a1 b1 c1 from (Row.new w 27 (c3 a1 b1 c1)).alloc (.cells (c3 a2 b2 c2) 27))
  have Q0 := Lib.hid (show RowH _ (w.heap.size + 1) a2 b2 c2 from Row.new1 w (.cells (c3 a1 b1 c1) 27) 27 (c3 a2 b2 c2))
  have GX := Lib.hid hgx; have GY := Lib.hid hgy
  obtain ⟨fa, fc, rfl⟩ := hA.f.shape
  obtain ⟨ga, gc, rfl⟩ := hB.f.shape
  obtain ⟨la, lc, rfl⟩ := hB.l.shape
  obtain ⟨ra, rc, rfl⟩ := hB.r.shape
  obtain ⟨ta, tc, rfl⟩ := hT.shape
  rw [htl] at T0 ⊢
  have HTL := Lib.hid htl
  have hn12 := hgx.n
  have HLY : Hid (y.l.length = y.f.length) := hgy.ll
  clear hA hB hT hgx hgy hb0 htl
  generalize hn : x.f.length = n at *
  generalize hm : y.f.length = m at *
  generalize hml : y.l.length = ml at *
  generalize hmr : y.r.length = mr at *
  have HN := Lib.hid hn; have HM := Lib.hid hm; have HML := Lib.hid hml
  clear hn hm hml hmr
  go_enter Try.func82, Try.ntmps82
  go_wp2_with fail
  generalize ((w.alloc (.cells (c3 (.slice fa n fc) b1 c1) 27)).alloc (.cells (c3 (.slice ga m gc) (.slice la ml lc) (.slice ra mr rc)) 27)) = w0 at *
  go_loopw [11] (fun i wr => ∃ k : Nat, k ≤ n ∧ i = .int .i64 k ∧ Hid (sfB x y ts k = true) ∧ Below w0.heap.size w0 wr) (fun i _ => n - (intOf i).toNat)
  case atStart => exact ⟨0, Nat.zero_le _, rfl, by simp [Hid, sfB], Below.refl _ _⟩
  case round =>
    obtain ⟨k, hk, rfl, ht, hbr⟩ := hrel
    have BW := Lib.hid (bst HB.out hbr HB.out.size)
    have HBR := Lib.hid hbr
    by_cases hlt : k < n
    · have A1 := Lib.hid (A0.out.below hbr); have B1 := Lib.hid (B0.out.below hbr); have T1 := Lib.hid (T0.out.below hbr); have P1 := Lib.hid (P0.out.below hbr); have Q1 := Lib.hid (Q0.out.below hbr)
      obtain ⟨gt, ot, rfl, hct⟩ := T1.out.at' (by omega)
      have qt := hct k hlt
      have i1 : (k : Int) < (n : Int) := by omega
      have j1 : (0 : Int) ≤ (k : Int) := by omega
      have hs := sfB_succ (a := x) (b := y) (ts := ts) (n := k)
      rw [ht.out, Bool.true_and] at hs
      have hf := sfB_false (a := x) (b := y) (ts := ts) (n := n) (k := k) hlt
      obtain ⟨gf, of, rfl, hcf⟩ := A1.out.f.at' (by omega)
      obtain ⟨u, qu, hu⟩ := hcf k hlt
      obtain ⟨ua, uc, hus⟩ := hu.shape
      have HU := Lib.hid hu
      subst hus
      have hlx := (GX.out.row k (by rw [HN.out]; exact hlt)).1
      have HS := Lib.hid hs; have HF := Lib.hid hf; have HLX := Lib.hid hlx
      clear hct hcf hu hs hf hbr hlx
      generalize ts.getD k false = on at *
      cases on
      · have HE : Hid (sfB x y ts (k + 1) = true) := by unfold Hid; rw [HS.out]; rfl
        go_wp2_with fail
        have BD := below_drew (Below.refl wr.heap.size wr)
        refine wp_region_held_drew (S := (fun _ => True)) (by kernel_rfl) (trivial) (fun hHeld => ?_)
        refine wpAnyH_take (i := 0) (v := ?va0x1) rfl (by kernel_rfl) (by kernel_rfl) (by kernel_rfl) (fun _ _ _ h => h) (Or.inl ⟨by rfl, ?hy0x1⟩) (by assumption) ?rest0x1
        case hy0x1 => (intro w hSw; (try dsimp only at hSw); go_simp; try with_reducible rfl)
        (try simp only [Act.put, List.getElem_toArray, List.getElem_cons_zero, List.setIfInBounds_toArray, List.set_cons_zero, List.set_cons_succ])
        refine wpAnyH_take (i := 1) (v := ?va1x2) rfl (by kernel_rfl) (by kernel_rfl) (by kernel_rfl) (fun _ _ _ h => h) (Or.inl ⟨by rfl, ?hy1x2⟩) (by assumption) ?rest1x2
        case hy1x2 => (intro w hSw; (try dsimp only at hSw); go_simp; try with_reducible rfl)
        (try simp only [Act.put, List.getElem_toArray, List.getElem_cons_zero, List.getElem_cons_succ, List.setIfInBounds_toArray, List.set_cons_zero, List.set_cons_succ])
        refine wpAnyH_take (i := 2) (v := undef) rfl (by kernel_rfl) (by kernel_rfl) (by kernel_rfl) (fun _ _ _ h => h) (Or.inr ⟨by rfl, rfl⟩) (by assumption) ?_
        (try simp only [Act.put, List.getElem_toArray, List.getElem_cons_zero, List.getElem_cons_succ, List.setIfInBounds_toArray, List.set_cons_zero, List.set_cons_succ])
        refine wpAnyH_take (i := 3) (v := undef) rfl (by kernel_rfl) (by kernel_rfl) (by kernel_rfl) (fun _ _ _ h => h) (Or.inr ⟨by rfl, rfl⟩) (by assumption) ?_
        (try simp only [Act.put, List.getElem_toArray, List.getElem_cons_zero, List.getElem_cons_succ, List.setIfInBounds_toArray, List.set_cons_zero, List.set_cons_succ])
        refine wpAnyH_take (i := 4) (v := undef) rfl (by kernel_rfl) (by kernel_rfl) (by kernel_rfl) (fun _ _ _ h => h) (Or.inr ⟨by rfl, rfl⟩) (by assumption) ?_
        (try simp only [Act.put, List.getElem_toArray, List.getElem_cons_zero, List.getElem_cons_succ, List.setIfInBounds_toArray, List.set_cons_zero, List.set_cons_succ])
        refine wpAnyH_take (i := 5) (v := undef) rfl (by kernel_rfl) (by kernel_rfl) (by kernel_rfl) (fun _ _ _ h => h) (Or.inr ⟨by rfl, rfl⟩) (by assumption) ?_
        (try simp only [Act.put, List.getElem_toArray, List.getElem_cons_zero, List.getElem_cons_succ, List.setIfInBounds_toArray, List.set_cons_zero, List.set_cons_succ])
        refine wpAnyH_take (i := 6) (v := undef) rfl (by kernel_rfl) (by kernel_rfl) (by kernel_rfl) (fun _ _ _ h => h) (Or.inr ⟨by rfl, rfl⟩) (by assumption) ?_
        (try simp only [Act.put, List.getElem_toArray, List.getElem_cons_zero, List.getElem_cons_succ, List.setIfInBounds_toArray, List.set_cons_zero, List.set_cons_succ])
        refine wpAnyH_take (i := 7) (v := undef) rfl (by kernel_rfl) (by kernel_rfl) (by kernel_rfl) (fun _ _ _ h => h) (Or.inr ⟨by rfl, rfl⟩) (by assumption) ?_
        (try simp only [Act.put, List.getElem_toArray, List.getElem_cons_zero, List.getElem_cons_succ, List.setIfInBounds_toArray, List.set_cons_zero, List.set_cons_succ])
        refine wpAnyH_take (i := 8) (v := undef) rfl (by kernel_rfl) (by kernel_rfl) (by kernel_rfl) (fun _ _ _ h => h) (Or.inr ⟨by rfl, rfl⟩) (by assumption) ?_
        (try simp only [Act.put, List.getElem_toArray, List.getElem_cons_zero, List.getElem_cons_succ, List.setIfInBounds_toArray, List.set_cons_zero, List.set_cons_succ])
        refine wpAnyH_take (i := 9) (v := undef) rfl (by kernel_rfl) (by kernel_rfl) (by kernel_rfl) (fun _ _ _ h => h) (Or.inr ⟨by rfl, rfl⟩) (by assumption) ?_
        (try simp only [Act.put, List.getElem_toArray, List.getElem_cons_zero, List.getElem_cons_succ, List.setIfInBounds_toArray, List.set_cons_zero, List.set_cons_succ])
        refine wpAnyH_take (i := 10) (v := undef) rfl (by kernel_rfl) (by kernel_rfl) (by kernel_rfl) (fun _ _ _ h => h) (Or.inr ⟨by rfl, rfl⟩) (by assumption) ?_
        (try simp only [Act.put, List.getElem_toArray, List.getElem_cons_zero, List.getElem_cons_succ, List.setIfInBounds_toArray, List.set_cons_zero, List.set_cons_succ])
        refine wpAnyH_take (i := 11) (v := undef) rfl (by kernel_rfl) (by kernel_rfl) (by kernel_rfl) (fun _ _ _ h => h) (Or.inr ⟨by rfl, rfl⟩) (by assumption) ?_
        (try simp only [Act.put, List.getElem_toArray, List.getElem_cons_zero, List.getElem_cons_succ, List.setIfInBounds_toArray, List.set_cons_zero, List.set_cons_succ])
        refine wpAnyH_take (i := 12) (v := undef) rfl (by kernel_rfl) (by kernel_rfl) (by kernel_rfl) (fun _ _ _ h => h) (Or.inr ⟨by rfl, rfl⟩) (by assumption) ?_
        (try simp only [Act.put, List.getElem_toArray, List.getElem_cons_zero, List.getElem_cons_succ, List.setIfInBounds_toArray, List.set_cons_zero, List.set_cons_succ])
        refine wpAnyH_take (i := 13) (v := undef) rfl (by kernel_rfl) (by kernel_rfl) (by kernel_rfl) (fun _ _ _ h => h) (Or.inr ⟨by rfl, rfl⟩) (by assumption) ?_
        (try simp only [Act.put, List.getElem_toArray, List.getElem_cons_zero, List.getElem_cons_succ, List.setIfInBounds_toArray, List.set_cons_zero, List.set_cons_succ])
        refine wpAnyH_take (i := 14) (v := undef) rfl (by kernel_rfl) (by kernel_rfl) (by kernel_rfl) (fun _ _ _ h => h) (Or.inr ⟨by rfl, rfl⟩) (by assumption) ?_
        (try simp only [Act.put, List.getElem_toArray, List.getElem_cons_zero, List.getElem_cons_succ, List.setIfInBounds_toArray, List.set_cons_zero, List.set_cons_succ])
        refine wpAnyH_take (i := 15) (v := undef) rfl (by kernel_rfl) (by kernel_rfl) (by kernel_rfl) (fun _ _ _ h => h) (Or.inr ⟨by rfl, rfl⟩) (by assumption) ?_
        (try simp only [Act.put, List.getElem_toArray, List.getElem_cons_zero, List.getElem_cons_succ, List.setIfInBounds_toArray, List.set_cons_zero, List.set_cons_succ])
        refine wpAnyH_take (i := 16) (v := undef) rfl (by kernel_rfl) (by kernel_rfl) (by kernel_rfl) (fun _ _ _ h => h) (Or.inr ⟨by rfl, rfl⟩) (by assumption) ?_
        (try simp only [Act.put, List.getElem_toArray, List.getElem_cons_zero, List.getElem_cons_succ, List.setIfInBounds_toArray, List.set_cons_zero, List.set_cons_succ])
        refine wpAnyH_take (i := 17) (v := undef) rfl (by kernel_rfl) (by kernel_rfl) (by kernel_rfl) (fun _ _ _ h => h) (Or.inr ⟨by rfl, rfl⟩) (by assumption) ?_
        (try simp only [Act.put, List.getElem_toArray, List.getElem_cons_zero, List.getElem_cons_succ, List.setIfInBounds_toArray, List.set_cons_zero, List.set_cons_succ])
        refine wpAnyH_take (i := 18) (v := undef) rfl (by kernel_rfl) (by kernel_rfl) (by kernel_rfl) (fun _ _ _ h => h) (Or.inr ⟨by rfl, rfl⟩) (by assumption) ?_
        (try simp only [Act.put, List.getElem_toArray, List.getElem_cons_zero, List.getElem_cons_succ, List.setIfInBounds_toArray, List.set_cons_zero, List.set_cons_succ])
        refine wpAnyH_take (i := 19) (v := undef) rfl (by kernel_rfl) (by kernel_rfl) (by kernel_rfl) (fun _ _ _ h => h) (Or.inr ⟨by rfl, rfl⟩) (by assumption) ?_
        (try simp only [Act.put, List.getElem_toArray, List.getElem_cons_zero, List.getElem_cons_succ, List.setIfInBounds_toArray, List.set_cons_zero, List.set_cons_succ])
        refine wpAnyH_take (i := 20) (v := ?va20x3) rfl (by kernel_rfl) (by kernel_rfl) (by kernel_rfl) (fun _ _ _ h => h) (Or.inl ⟨by rfl, ?hy20x3⟩) (by assumption) ?rest20x3
        case hy20x3 => (intro w hSw; (try dsimp only at hSw); go_simp; try with_reducible rfl)
        (try simp only [Act.put, List.getElem_toArray, List.getElem_cons_zero, List.getElem_cons_succ, List.setIfInBounds_toArray, List.set_cons_zero, List.set_cons_succ])
        refine wpAnyH_done (by kernel_rfl) ?_ _
        go_wp2_with fail
        go_roundw
        case rel => exact ⟨k + 1, by omega, by go_num, HE, bst HBR.out BD HBR.out.size⟩
        case measure => simp [intOf]; omega
      · have d0 : wr.drew.cell? ⟨w.heap.size, 0, none⟩ = some (.slice (some ⟨gf, of, none⟩) n fc) := P1.out.c0
        have e0 : wr.drew.cell? ⟨w.heap.size + 1, 0, none⟩ = some (.slice ga m gc) := Q1.out.c0
        have e1 : wr.drew.cell? ⟨w.heap.size + 1, 1, none⟩ = some (.slice la ml lc) := Q1.out.c1
        have e2 : wr.drew.cell? ⟨w.heap.size + 1, 2, none⟩ = some (.slice ra mr rc) := Q1.out.c2
        have BD := below_drew (Below.refl wr.heap.size wr)
        have hin : liveB y.l (k : Int) = true → k < m := fun h => by have h1 := live_inR GY.out h; rw [HM.out] at h1; omega
        generalize hx : liveB y.l (k : Int) = lv at *
        have HX := Lib.hid hx
        clear hx
        cases lv
        · have HE : Hid (sfB x y ts n = false) := HF.out rfl
          clear hin
          go_wp2_with fail
          refine wp_region_held_drew (S := (fun w' => w'.cell? ⟨w.heap.size, 0, none⟩ = some (.slice (some ⟨gf, of, none⟩) n fc) ∧ w'.cell? ⟨w.heap.size + 1, 0, none⟩ = some (.slice ga m gc) ∧ w'.cell? ⟨w.heap.size + 1, 1, none⟩ = some (.slice la ml lc) ∧ w'.cell? ⟨w.heap.size + 1, 2, none⟩ = some (.slice ra mr rc) ∧ Below wr.heap.size wr w')) (by kernel_rfl) (⟨d0, e0, e1, e2, BD⟩) (fun hHeld => ?_)
          refine wpAnyH_take (i := 0) (v := ?va0x4) rfl (by kernel_rfl) (by kernel_rfl) (by kernel_rfl) (fun _ _ _ h => h) (Or.inl ⟨by rfl, ?hy0x4⟩) (by assumption) ?rest0x4
          case hy0x4 => (intro w hSw; (try dsimp only at hSw); go_simp; try with_reducible rfl)
          (try simp only [Act.put, List.getElem_toArray, List.getElem_cons_zero, List.setIfInBounds_toArray, List.set_cons_zero, List.set_cons_succ])
          refine wpAnyH_take (i := 1) (v := ?va1x5) rfl (by kernel_rfl) (by kernel_rfl) (by kernel_rfl) (fun _ _ _ h => h) (Or.inl ⟨by rfl, ?hy1x5⟩) (by assumption) ?rest1x5
          case hy1x5 => (intro w hSw; (try dsimp only at hSw); go_simp; try with_reducible rfl)
          (try simp only [Act.put, List.getElem_toArray, List.getElem_cons_zero, List.getElem_cons_succ, List.setIfInBounds_toArray, List.set_cons_zero, List.set_cons_succ])
          refine wpAnyH_take (i := 2) (v := ?va2x6) rfl (by kernel_rfl) (by kernel_rfl) (by kernel_rfl) (fun _ _ _ h => h) (Or.inl ⟨by rfl, ?hy2x6⟩) (by assumption) ?rest2x6
          case hy2x6 => (intro w hSw; (try dsimp only at hSw); go_simp; try with_reducible rfl)
          (try simp only [Act.put, List.getElem_toArray, List.getElem_cons_zero, List.getElem_cons_succ, List.setIfInBounds_toArray, List.set_cons_zero, List.set_cons_succ])
          refine wpAnyH_take (i := 3) (v := ?va3x7) rfl (by kernel_rfl) (by kernel_rfl) (by kernel_rfl) (fun _ _ _ h => h) (Or.inl ⟨by rfl, ?hy3x7⟩) (by assumption) ?rest3x7
          case hy3x7 => (intro w hSw; (try dsimp only at hSw); go_simp; try with_reducible rfl)
          (try simp only [Act.put, List.getElem_toArray, List.getElem_cons_zero, List.getElem_cons_succ, List.setIfInBounds_toArray, List.set_cons_zero, List.set_cons_succ])
          refine wpAnyH_ready (rs := [4]) (by kernel_rfl) (by simp) ?_
          refine AllReadyH.cons rfl (fun K hK => ?_) AllReadyH.nil
          go_simp
          refine (c_isLive _ _ _ y.l k _ (B1.out.l.below BD)).mono ?_
          rintro e w2 ⟨rfl, hb2⟩
          rw [HX.out]
          have hbx := bst BD hb2 BD.size
          replace d0 := cellBelow hb2 (Nat.le_refl _) d0
          replace e0 := cellBelow hb2 (Nat.le_refl _) e0
          replace e1 := cellBelow hb2 (Nat.le_refl _) e1
          replace e2 := cellBelow hb2 (Nat.le_refl _) e2
          refine hK.out _ _ ⟨d0, e0, e1, e2, hbx⟩ (fun hHeld => ?_)
          clear hK K
          (try simp only [Act.put, List.getElem_toArray, List.getElem_cons_zero, List.getElem_cons_succ, List.setIfInBounds_toArray, List.set_cons_zero, List.set_cons_succ])
          refine wpAnyH_take (i := 5) (v := ?va5x8) rfl (by kernel_rfl) (by kernel_rfl) (by kernel_rfl) (fun _ _ _ h => h) (Or.inl ⟨by rfl, ?hy5x8⟩) (by assumption) ?rest5x8
          case hy5x8 => (intro w hSw; (try dsimp only at hSw); go_simp; try with_reducible rfl)
          (try simp only [Act.put, List.getElem_toArray, List.getElem_cons_zero, List.getElem_cons_succ, List.setIfInBounds_toArray, List.set_cons_zero, List.set_cons_succ])
          refine wpAnyH_take (i := 6) (v := ?va6x9) rfl (by kernel_rfl) (by kernel_rfl) (by kernel_rfl) (fun _ _ _ h => h) (Or.inl ⟨by rfl, ?hy6x9⟩) (by assumption) ?rest6x9
          case hy6x9 => (intro w hSw; (try dsimp only at hSw); go_simp; try with_reducible rfl)
          (try simp only [Act.put, List.getElem_toArray, List.getElem_cons_zero, List.getElem_cons_succ, List.setIfInBounds_toArray, List.set_cons_zero, List.set_cons_succ])
          refine wpAnyH_take (i := 7) (v := undef) rfl (by kernel_rfl) (by kernel_rfl) (by kernel_rfl) (fun _ _ _ h => h) (Or.inr ⟨by rfl, rfl⟩) (by assumption) ?_
          (try simp only [Act.put, List.getElem_toArray, List.getElem_cons_zero, List.getElem_cons_succ, List.setIfInBounds_toArray, List.set_cons_zero, List.set_cons_succ])
          refine wpAnyH_take (i := 8) (v := undef) rfl (by kernel_rfl) (by kernel_rfl) (by kernel_rfl) (fun _ _ _ h => h) (Or.inr ⟨by rfl, rfl⟩) (by assumption) ?_
          (try simp only [Act.put, List.getElem_toArray, List.getElem_cons_zero, List.getElem_cons_succ, List.setIfInBounds_toArray, List.set_cons_zero, List.set_cons_succ])
          refine wpAnyH_take (i := 9) (v := undef) rfl (by kernel_rfl) (by kernel_rfl) (by kernel_rfl) (fun _ _ _ h => h) (Or.inr ⟨by rfl, rfl⟩) (by assumption) ?_
          (try simp only [Act.put, List.getElem_toArray, List.getElem_cons_zero, List.getElem_cons_succ, List.setIfInBounds_toArray, List.set_cons_zero, List.set_cons_succ])
          refine wpAnyH_take (i := 10) (v := undef) rfl (by kernel_rfl) (by kernel_rfl) (by kernel_rfl) (fun _ _ _ h => h) (Or.inr ⟨by rfl, rfl⟩) (by assumption) ?_
          (try simp only [Act.put, List.getElem_toArray, List.getElem_cons_zero, List.getElem_cons_succ, List.setIfInBounds_toArray, List.set_cons_zero, List.set_cons_succ])
          refine wpAnyH_take (i := 11) (v := undef) rfl (by kernel_rfl) (by kernel_rfl) (by kernel_rfl) (fun _ _ _ h => h) (Or.inr ⟨by rfl, rfl⟩) (by assumption) ?_
          (try simp only [Act.put, List.getElem_toArray, List.getElem_cons_zero, List.getElem_cons_succ, List.setIfInBounds_toArray, List.set_cons_zero, List.set_cons_succ])
          refine wpAnyH_take (i := 12) (v := undef) rfl (by kernel_rfl) (by kernel_rfl) (by kernel_rfl) (fun _ _ _ h => h) (Or.inr ⟨by rfl, rfl⟩) (by assumption) ?_
          (try simp only [Act.put, List.getElem_toArray, List.getElem_cons_zero, List.getElem_cons_succ, List.setIfInBounds_toArray, List.set_cons_zero, List.set_cons_succ])
          refine wpAnyH_take (i := 13) (v := undef) rfl (by kernel_rfl) (by kernel_rfl) (by kernel_rfl) (fun _ _ _ h => h) (Or.inr ⟨by rfl, rfl⟩) (by assumption) ?_
          (try simp only [Act.put, List.getElem_toArray, List.getElem_cons_zero, List.getElem_cons_succ, List.setIfInBounds_toArray, List.set_cons_zero, List.set_cons_succ])
          refine wpAnyH_take (i := 14) (v := undef) rfl (by kernel_rfl) (by kernel_rfl) (by kernel_rfl) (fun _ _ _ h => h) (Or.inr ⟨by rfl, rfl⟩) (by assumption) ?_
          (try simp only [Act.put, List.getElem_toArray, List.getElem_cons_zero, List.getElem_cons_succ, List.setIfInBounds_toArray, List.set_cons_zero, List.set_cons_succ])
          refine wpAnyH_take (i := 15) (v := undef) rfl (by kernel_rfl) (by kernel_rfl) (by kernel_rfl) (fun _ _ _ h => h) (Or.inr ⟨by rfl, rfl⟩) (by assumption) ?_
          (try simp only [Act.put, List.getElem_toArray, List.getElem_cons_zero, List.getElem_cons_succ, List.setIfInBounds_toArray, List.set_cons_zero, List.set_cons_succ])
          refine wpAnyH_take (i := 16) (v := undef) rfl (by kernel_rfl) (by kernel_rfl) (by kernel_rfl) (fun _ _ _ h => h) (Or.inr ⟨by rfl, rfl⟩) (by assumption) ?_
          (try simp only [Act.put, List.getElem_toArray, List.getElem_cons_zero, List.getElem_cons_succ, List.setIfInBounds_toArray, List.set_cons_zero, List.set_cons_succ])
          refine wpAnyH_take (i := 17) (v := undef) rfl (by kernel_rfl) (by kernel_rfl) (by kernel_rfl) (fun _ _ _ h => h) (Or.inr ⟨by rfl, rfl⟩) (by assumption) ?_
          (try simp only [Act.put, List.getElem_toArray, List.getElem_cons_zero, List.getElem_cons_succ, List.setIfInBounds_toArray, List.set_cons_zero, List.set_cons_succ])
          refine wpAnyH_take (i := 18) (v := undef) rfl (by kernel_rfl) (by kernel_rfl) (by kernel_rfl) (fun _ _ _ h => h) (Or.inr ⟨by rfl, rfl⟩) (by assumption) ?_
          (try simp only [Act.put, List.getElem_toArray, List.getElem_cons_zero, List.getElem_cons_succ, List.setIfInBounds_toArray, List.set_cons_zero, List.set_cons_succ])
          refine wpAnyH_take (i := 19) (v := ?va19x10) rfl (by kernel_rfl) (by kernel_rfl) (by kernel_rfl) (fun _ _ _ h => h) (Or.inl ⟨by rfl, ?hy19x10⟩) (by assumption) ?rest19x10
          case hy19x10 => (intro w hSw; (try dsimp only at hSw); go_simp; try with_reducible rfl)
          (try simp only [Act.put, List.getElem_toArray, List.getElem_cons_zero, List.getElem_cons_succ, List.setIfInBounds_toArray, List.set_cons_zero, List.set_cons_succ])
          refine wpAnyH_take (i := 20) (v := ?va20x11) rfl (by kernel_rfl) (by kernel_rfl) (by kernel_rfl) (fun _ _ _ h => h) (Or.inl ⟨by rfl, ?hy20x11⟩) (by assumption) ?rest20x11
          case hy20x11 => (intro w hSw; (try dsimp only at hSw); go_simp; try with_reducible rfl)
          (try simp only [Act.put, List.getElem_toArray, List.getElem_cons_zero, List.getElem_cons_succ, List.setIfInBounds_toArray, List.set_cons_zero, List.set_cons_succ])
          refine wpAnyH_done (by kernel_rfl) ?_ _
          go_wp2_with fail
          go_ret
          exact ⟨r_b HE.out.symm, bst BW.out hbx BW.out.size⟩
        · have hkm := hin rfl
          obtain ⟨gg, og, rfl, hcg⟩ := B1.out.f.at' (by omega)
          obtain ⟨v, qv, hv'⟩ := hcg k hkm
          obtain ⟨va, vc, hvs⟩ := hv'.shape
          have HV := Lib.hid hv'
          subst hvs
          have i2 : (k : Int) < (m : Int) := by omega
          replace qu : wr.drew.cell? ⟨gf, of + k, none⟩ = some (.slice ua (x.f.getD k []).length uc) := qu
          replace qv : wr.drew.cell? ⟨gg, og + k, none⟩ = some (.slice va (y.f.getD k []).length vc) := qv
          have HEQ : Hid (∀ w', Below wr.heap.size wr w' → Calls Try.prog 81 #[.slice ua (x.f.getD k []).length uc, .slice va (y.f.getD k []).length vc] w' fun e w'' => e = .returned (.bool (decide (x.f.getD k [] = y.f.getD k []))) ∧ ∃ n, w'' = w'.drewN n) := fun w' hb => c_slEqual _ _ _ _ w' (HU.out.below hb) (HV.out.below hb) (by have := HLX.out; omega)
          clear hcg hv' hin
          generalize (x.f.getD k []).length = lx at *
          generalize (y.f.getD k []).length = ly at *
          generalize hd : decide (x.f.getD k [] = y.f.getD k []) = dq at *
          clear hd
          go_wp2_with fail
          refine wp_region_held_drew (S := (fun w' => w'.cell? ⟨w.heap.size, 0, none⟩ = some (.slice (some ⟨gf, of, none⟩) n fc) ∧ w'.cell? ⟨w.heap.size + 1, 0, none⟩ = some (.slice (some ⟨gg, og, none⟩) m gc) ∧ w'.cell? ⟨w.heap.size + 1, 1, none⟩ = some (.slice la ml lc) ∧ w'.cell? ⟨w.heap.size + 1, 2, none⟩ = some (.slice ra mr rc) ∧ w'.cell? ⟨gf, of + k, none⟩ = some (.slice ua lx uc) ∧ w'.cell? ⟨gg, og + k, none⟩ = some (.slice va ly vc) ∧ Below wr.heap.size wr w')) (by kernel_rfl) (⟨d0, e0, e1, e2, qu, qv, BD⟩) (fun hHeld => ?_)
          refine wpAnyH_take (i := 0) (v := ?va0x12) rfl (by kernel_rfl) (by kernel_rfl) (by kernel_rfl) (fun _ _ _ h => h) (Or.inl ⟨by rfl, ?hy0x12⟩) (by assumption) ?rest0x12
          case hy0x12 => (intro w hSw; (try dsimp only at hSw); go_simp; try with_reducible rfl)
          (try simp only [Act.put, List.getElem_toArray, List.getElem_cons_zero, List.setIfInBounds_toArray, List.set_cons_zero, List.set_cons_succ])
          refine wpAnyH_take (i := 1) (v := ?va1x13) rfl (by kernel_rfl) (by kernel_rfl) (by kernel_rfl) (fun _ _ _ h => h) (Or.inl ⟨by rfl, ?hy1x13⟩) (by assumption) ?rest1x13
          case hy1x13 => (intro w hSw; (try dsimp only at hSw); go_simp; try with_reducible rfl)
          (try simp only [Act.put, List.getElem_toArray, List.getElem_cons_zero, List.getElem_cons_succ, List.setIfInBounds_toArray, List.set_cons_zero, List.set_cons_succ])
          refine wpAnyH_take (i := 2) (v := ?va2x14) rfl (by kernel_rfl) (by kernel_rfl) (by kernel_rfl) (fun _ _ _ h => h) (Or.inl ⟨by rfl, ?hy2x14⟩) (by assumption) ?rest2x14
          case hy2x14 => (intro w hSw; (try dsimp only at hSw); go_simp; try with_reducible rfl)
          (try simp only [Act.put, List.getElem_toArray, List.getElem_cons_zero, List.getElem_cons_succ, List.setIfInBounds_toArray, List.set_cons_zero, List.set_cons_succ])
          refine wpAnyH_take (i := 3) (v := ?va3x15) rfl (by kernel_rfl) (by kernel_rfl) (by kernel_rfl) (fun _ _ _ h => h) (Or.inl ⟨by rfl, ?hy3x15⟩) (by assumption) ?rest3x15
          case hy3x15 => (intro w hSw; (try dsimp only at hSw); go_simp; try with_reducible rfl)
          (try simp only [Act.put, List.getElem_toArray, List.getElem_cons_zero, List.getElem_cons_succ, List.setIfInBounds_toArray, List.set_cons_zero, List.set_cons_succ])
          refine wpAnyH_ready (rs := [4]) (by kernel_rfl) (by simp) ?_
          refine AllReadyH.cons rfl (fun K hK => ?_) AllReadyH.nil
          go_simp
          refine (c_isLive _ _ _ y.l k _ (B1.out.l.below BD)).mono ?_
          rintro e w2 ⟨rfl, hb2⟩
          rw [HX.out]
          have hbx := bst BD hb2 BD.size
          replace d0 := cellBelow hb2 (Nat.le_refl _) d0
          replace e0 := cellBelow hb2 (Nat.le_refl _) e0
          replace e1 := cellBelow hb2 (Nat.le_refl _) e1
          replace e2 := cellBelow hb2 (Nat.le_refl _) e2
          replace qu := cellBelow hb2 (Nat.le_refl _) qu
          replace qv := cellBelow hb2 (Nat.le_refl _) qv
          refine hK.out _ _ ⟨d0, e0, e1, e2, qu, qv, hbx⟩ (fun hHeld => ?_)
          clear hK K
          (try simp only [Act.put, List.getElem_toArray, List.getElem_cons_zero, List.getElem_cons_succ, List.setIfInBounds_toArray, List.set_cons_zero, List.set_cons_succ])
          refine wpAnyH_take (i := 5) (v := ?va5x16) rfl (by kernel_rfl) (by kernel_rfl) (by kernel_rfl) (fun _ _ _ h => h) (Or.inl ⟨by rfl, ?hy5x16⟩) (by assumption) ?rest5x16
          case hy5x16 => (intro w hSw; (try dsimp only at hSw); go_simp; try with_reducible rfl)
          (try simp only [Act.put, List.getElem_toArray, List.getElem_cons_zero, List.getElem_cons_succ, List.setIfInBounds_toArray, List.set_cons_zero, List.set_cons_succ])
          refine wpAnyH_take (i := 6) (v := ?va6x17) rfl (by kernel_rfl) (by kernel_rfl) (by kernel_rfl) (fun _ _ _ h => h) (Or.inl ⟨by rfl, ?hy6x17⟩) (by assumption) ?rest6x17
          case hy6x17 => (intro w hSw; (try dsimp only at hSw); go_simp; try with_reducible rfl)
          (try simp only [Act.put, List.getElem_toArray, List.getElem_cons_zero, List.getElem_cons_succ, List.setIfInBounds_toArray, List.set_cons_zero, List.set_cons_succ])
          refine wpAnyH_take (i := 7) (v := ?va7x18) rfl (by kernel_rfl) (by kernel_rfl) (by kernel_rfl) (fun _ _ _ h => h) (Or.inl ⟨by rfl, ?hy7x18⟩) (by assumption) ?rest7x18
          case hy7x18 => (intro w hSw; (try dsimp only at hSw); go_simp; try with_reducible rfl)
          (try simp only [Act.put, List.getElem_toArray, List.getElem_cons_zero, List.getElem_cons_succ, List.setIfInBounds_toArray, List.set_cons_zero, List.set_cons_succ])
          refine wpAnyH_take (i := 8) (v := ?va8x19) rfl (by kernel_rfl) (by kernel_rfl) (by kernel_rfl) (fun _ _ _ h => h) (Or.inl ⟨by rfl, ?hy8x19⟩) (by assumption) ?rest8x19
          case hy8x19 => (intro w hSw; (try dsimp only at hSw); go_simp; try with_reducible rfl)
          (try simp only [Act.put, List.getElem_toArray, List.getElem_cons_zero, List.getElem_cons_succ, List.setIfInBounds_toArray, List.set_cons_zero, List.set_cons_succ])
          refine wpAnyH_take (i := 9) (v := ?va9x20) rfl (by kernel_rfl) (by kernel_rfl) (by kernel_rfl) (fun _ _ _ h => h) (Or.inl ⟨by rfl, ?hy9x20⟩) (by assumption) ?rest9x20
          case hy9x20 => (intro w hSw; (try dsimp only at hSw); go_simp; try with_reducible rfl)
          (try simp only [Act.put, List.getElem_toArray, List.getElem_cons_zero, List.getElem_cons_succ, List.setIfInBounds_toArray, List.set_cons_zero, List.set_cons_succ])
          refine wpAnyH_take (i := 10) (v := ?va10x21) rfl (by kernel_rfl) (by kernel_rfl) (by kernel_rfl) (fun _ _ _ h => h) (Or.inl ⟨by rfl, ?hy10x21⟩) (by assumption) ?rest10x21
          case hy10x21 => (intro w hSw; (try dsimp only at hSw); go_simp; try with_reducible rfl)
          (try simp only [Act.put, List.getElem_toArray, List.getElem_cons_zero, List.getElem_cons_succ, List.setIfInBounds_toArray, List.set_cons_zero, List.set_cons_succ])
          refine wpAnyH_take (i := 11) (v := ?va11x22) rfl (by kernel_rfl) (by kernel_rfl) (by kernel_rfl) (fun _ _ _ h => h) (Or.inl ⟨by rfl, ?hy11x22⟩) (by assumption) ?rest11x22
          case hy11x22 => (intro w hSw; (try dsimp only at hSw); go_simp; try with_reducible rfl)
          (try simp only [Act.put, List.getElem_toArray, List.getElem_cons_zero, List.getElem_cons_succ, List.setIfInBounds_toArray, List.set_cons_zero, List.set_cons_succ])
          refine wpAnyH_take (i := 12) (v := ?va12x23) rfl (by kernel_rfl) (by kernel_rfl) (by kernel_rfl) (fun _ _ _ h => h) (Or.inl ⟨by rfl, ?hy12x23⟩) (by assumption) ?rest12x23
          case hy12x23 => (intro w hSw; (try dsimp only at hSw); go_simp; try with_reducible rfl)
          (try simp only [Act.put, List.getElem_toArray, List.getElem_cons_zero, List.getElem_cons_succ, List.setIfInBounds_toArray, List.set_cons_zero, List.set_cons_succ])
          refine wpAnyH_take (i := 13) (v := ?va13x24) rfl (by kernel_rfl) (by kernel_rfl) (by kernel_rfl) (fun _ _ _ h => h) (Or.inl ⟨by rfl, ?hy13x24⟩) (by assumption) ?rest13x24
          case hy13x24 => (intro w hSw; (try dsimp only at hSw); go_simp; try with_reducible rfl)
          (try simp only [Act.put, List.getElem_toArray, List.getElem_cons_zero, List.getElem_cons_succ, List.setIfInBounds_toArray, List.set_cons_zero, List.set_cons_succ])
          refine wpAnyH_take (i := 14) (v := ?va14x25) rfl (by kernel_rfl) (by kernel_rfl) (by kernel_rfl) (fun _ _ _ h => h) (Or.inl ⟨by rfl, ?hy14x25⟩) (by assumption) ?rest14x25
          case hy14x25 => (intro w hSw; (try dsimp only at hSw); go_simp; try with_reducible rfl)
          (try simp only [Act.put, List.getElem_toArray, List.getElem_cons_zero, List.getElem_cons_succ, List.setIfInBounds_toArray, List.set_cons_zero, List.set_cons_succ])
          refine wpAnyH_take (i := 15) (v := ?va15x26) rfl (by kernel_rfl) (by kernel_rfl) (by kernel_rfl) (fun _ _ _ h => h) (Or.inl ⟨by rfl, ?hy15x26⟩) (by assumption) ?rest15x26
          case hy15x26 => (intro w hSw; (try dsimp only at hSw); go_simp; try with_reducible rfl)
          (try simp only [Act.put, List.getElem_toArray, List.getElem_cons_zero, List.getElem_cons_succ, List.setIfInBounds_toArray, List.set_cons_zero, List.set_cons_succ])
          refine wpAnyH_take (i := 16) (v := ?va16x27) rfl (by kernel_rfl) (by kernel_rfl) (by kernel_rfl) (fun _ _ _ h => h) (Or.inl ⟨by rfl, ?hy16x27⟩) (by assumption) ?rest16x27
          case hy16x27 => (intro w hSw; (try dsimp only at hSw); go_simp; try with_reducible rfl)
          (try simp only [Act.put, List.getElem_toArray, List.getElem_cons_zero, List.getElem_cons_succ, List.setIfInBounds_toArray, List.set_cons_zero, List.set_cons_succ])
          refine wpAnyH_ready (rs := [17]) (by kernel_rfl) (by simp) ?_
          refine AllReadyH.cons rfl (fun K hK => ?_) AllReadyH.nil
          go_simp
          refine (HEQ.out _ hbx).mono ?_
          rintro e w3 ⟨rfl, nd, rfl⟩
          replace hbx := below_drewN hbx nd
          have d0z : (w2.drewN nd).cell? ⟨w.heap.size, 0, none⟩ = some (.slice (some ⟨gf, of, none⟩) n fc) := d0
          have e0z : (w2.drewN nd).cell? ⟨w.heap.size + 1, 0, none⟩ = some (.slice (some ⟨gg, og, none⟩) m gc) := e0
          have e1z : (w2.drewN nd).cell? ⟨w.heap.size + 1, 1, none⟩ = some (.slice la ml lc) := e1
          have e2z : (w2.drewN nd).cell? ⟨w.heap.size + 1, 2, none⟩ = some (.slice ra mr rc) := e2
          have quz : (w2.drewN nd).cell? ⟨gf, of + k, none⟩ = some (.slice ua lx uc) := qu
          have qvz : (w2.drewN nd).cell? ⟨gg, og + k, none⟩ = some (.slice va ly vc) := qv
          refine hK.out _ _ ⟨d0z, e0z, e1z, e2z, quz, qvz, hbx⟩ (fun hHeld => ?_)
          clear hK K
          (try simp only [Act.put, List.getElem_toArray, List.getElem_cons_zero, List.getElem_cons_succ, List.setIfInBounds_toArray, List.set_cons_zero, List.set_cons_succ])
          refine wpAnyH_take (i := 18) (v := ?va18x28) rfl (by kernel_rfl) (by kernel_rfl) (by kernel_rfl) (fun _ _ _ h => h) (Or.inl ⟨by rfl, ?hy18x28⟩) (by assumption) ?rest18x28
          case hy18x28 => (intro w hSw; (try dsimp only at hSw); go_simp; try with_reducible rfl)
          (try simp only [Act.put, List.getElem_toArray, List.getElem_cons_zero, List.getElem_cons_succ, List.setIfInBounds_toArray, List.set_cons_zero, List.set_cons_succ])
          refine wpAnyH_take (i := 19) (v := ?va19x29) rfl (by kernel_rfl) (by kernel_rfl) (by kernel_rfl) (fun _ _ _ h => h) (Or.inl ⟨by rfl, ?hy19x29⟩) (by assumption) ?rest19x29
          case hy19x29 => (intro w hSw; (try dsimp only at hSw); go_simp; try with_reducible rfl)
          (try simp only [Act.put, List.getElem_toArray, List.getElem_cons_zero, List.getElem_cons_succ, List.setIfInBounds_toArray, List.set_cons_zero, List.set_cons_succ])
          refine wpAnyH_take (i := 20) (v := ?va20x30) rfl (by kernel_rfl) (by kernel_rfl) (by kernel_rfl) (fun _ _ _ h => h) (Or.inl ⟨by rfl, ?hy20x30⟩) (by assumption) ?rest20x30
          case hy20x30 => (intro w hSw; (try dsimp only at hSw); go_simp; try with_reducible rfl)
          (try simp only [Act.put, List.getElem_toArray, List.getElem_cons_zero, List.getElem_cons_succ, List.setIfInBounds_toArray, List.set_cons_zero, List.set_cons_succ])
          refine wpAnyH_done (by kernel_rfl) ?_ _
          cases dq
          · have HE : Hid (sfB x y ts n = false) := HF.out rfl
            go_wp2_with fail
            go_ret
            exact ⟨r_b HE.out.symm, bst BW.out hbx BW.out.size⟩
          · have HE : Hid (sfB x y ts (k + 1) = true) := by unfold Hid; rw [HS.out]; rfl
            go_wp2_with fail
            go_roundw
            case rel => exact ⟨k + 1, by omega, by go_num, HE, bst HBR.out hbx HBR.out.size⟩
            case measure => simp [intOf]; omega
    · obtain rfl : k = n := by omega
      go_wp2_with fail
      go_ret
      exact ⟨r_b ht.out.symm, BW.out⟩
end Go.Proofs.Ythanckifinfpiaa
namespace Go.Proofs.Ythanckifinfpiaa.Ph
theorem sfB_same {a b : H} (ga : Ph.Good a) (gb : Ph.Good b) (hr : a.r = b.r) : sfB a b (reachL a.f a.r) a.f.length = sameP a b := by
  rw [Bool.eq_iff_iff, sameP_iff]
  unfold sfB
  rw [List.all_eq_true]
  constructor
  · intro h
    refine same_of hr fun k hk => ?_
    have hl := reach_live ga hk
    have h1 := h k (by simpa using hl.2)
    rw [reachL_getD.2 ⟨hl.2, hk⟩] at h1
    simp only [Bool.not_true, Bool.false_or, Bool.and_eq_true, decide_eq_true_eq] at h1
    exact h1.2
  · rintro ⟨_, hs⟩ k hk
    by_cases hq : (reachL a.f a.r).getD k false = true
    · have hrk := (reachL_getD.1 hq).2
      have hl := reach_live gb ((hs k).1.1 hrk)
      rw [hq]
      simp only [Bool.not_true, Bool.false_or, Bool.and_eq_true, decide_eq_true_eq]
      exact ⟨liveB_iff.2 ⟨by omega, by simpa using hl.1⟩, (hs k).2 hrk⟩
    · have : (reachL a.f a.r).getD k false = false := by simpa using hq
      rw [this]; rfl
theorem sameP_roots {a b : H} (h : ¬ a.r = b.r) : sameP a b = false := sameP_false fun k => h k.1
def both (a b : H) : Bool := good a && good b
noncomputable def sameQ (a b : H) : Bool := both a b && sameP a b
end Go.Proofs.Ythanckifinfpiaa.Ph
namespace Go.Proofs.Ythanckifinfpiaa
open Go.RowKit Ph

theorem r_bb2 {a a' b b' : Bool} (h : a = a') (k : b = b') : Ending.returned (.tuple #[.bool a, .bool b]) = .returned (.tuple #[.bool a', .bool b']) := by rw [h, k]
set_option maxRecDepth 100000 in
set_option maxHeartbeats 6400000 in
theorem c_SameReached (a1 b1 c1 a2 b2 c2 : Value) (x y : H) (w : World) (hA : HeapAt w a1 b1 c1 x) (hB : HeapAt w a2 b2 c2 y) :
    Calls Try.prog 21 #[hv a1 b1 c1, hv a2 b2 c2] w fun e w' => e = .returned (.tuple #[.bool (sameQ x y), .bool (both x y)]) ∧ Below w.heap.size w w' := by
  have hb0 := (below1 w (.cells (c3 a1 b1 c1) 27)).alloc (by simp) (.cells (c3 a2 b2 c2) 27)
  have A0 := Lib.hid (hA.below hb0); have B0 := Lib.hid (hB.below hb0)
  have HB := Lib.hid hb0
  have P0 := Lib.hid (show RowH _ _ a1 b1 c1 from (Row.new w 27 (c3 a1 b1 c1)).alloc (.cells (c3 a2 b2 c2) 27))
  have Q0 := Lib.hid (show RowH _ (w.heap.size + 1) a2 b2 c2 from Row.new1 w (.cells (c3 a1 b1 c1) 27) 27 (c3 a2 b2 c2))
  have GA := Lib.hid (good_iff (h := x)).1; have GB := Lib.hid (good_iff (h := y)).1
  have h2 : both x y = (good x && good y) := rfl
  have h1 : sameQ x y = ((good x && good y) && sameP x y) := rfl
  have HCA : Hid (∀ w', HeapAt w' a1 b1 c1 x → Calls Try.prog 20 #[hv a1 b1 c1] w' fun e w'' => e = .returned (.bool (good x)) ∧ Below w'.heap.size w' w'') := fun w' h => c_GoodHeap a1 b1 c1 x w' h
  have HCB : Hid (∀ w', HeapAt w' a2 b2 c2 y → Calls Try.prog 20 #[hv a2 b2 c2] w' fun e w'' => e = .returned (.bool (good y)) ∧ Below w'.heap.size w' w'') := fun w' h => c_GoodHeap a2 b2 c2 y w' h
  have p0 := P0.out.c0
  have p1 := P0.out.c1
  have p2 := P0.out.c2
  have q0 := Q0.out.c0
  have q1 := Q0.out.c1
  have q2 := Q0.out.c2
  generalize both x y = r2 at *
  generalize sameQ x y = r1 at *
  generalize good x = gx at *
  generalize good y = gy at *
  cases gx
  · have H1 : Hid (r1 = false) := by unfold Hid; rw [h1]; rfl
    have H2 : Hid (r2 = false) := by unfold Hid; rw [h2]; rfl
    clear h1 h2 hA hB
    go_enter Try.func21, Try.ntmps21
    go_wp2_with (go_at_call 20; refine (HCA.out _ A0.out).mono ?_; rintro e w1 ⟨rfl, hb1⟩; have B1 := Lib.hid (bst HB.out hb1 HB.out.size); clear hb1)
    go_ret2
    exact ⟨r_bb2 H1.out.symm H2.out.symm, B1.out⟩
  · cases gy
    · have H1 : Hid (r1 = false) := by unfold Hid; rw [h1]; rfl
      have H2 : Hid (r2 = false) := by unfold Hid; rw [h2]; rfl
      clear h1 h2 hA hB
      go_enter Try.func21, Try.ntmps21
      go_wp2_with (first
        | (go_at_call 20; refine (HCB.out _ Y1.out).mono ?_; rintro e w2 ⟨rfl, hb2⟩; have B2 := Lib.hid (bst B1.out hb2 B1.out.size); clear hb2)
        | (go_at_call 20; refine (HCA.out _ A0.out).mono ?_; rintro e w1 ⟨rfl, hb1⟩; have B1 := Lib.hid (bst HB.out hb1 HB.out.size); have Y1 := Lib.hid (B0.out.below hb1); have Q1 := Lib.hid (Q0.out.below hb1); have s0 := Q1.out.c0; have s1 := Q1.out.c1; have s2 := Q1.out.c2; clear hb1))
      go_ret2
      exact ⟨r_bb2 H1.out.symm H2.out.symm, B2.out⟩
    · have H2 : Hid (r2 = true) := by unfold Hid; rw [h2]; rfl
      have H1 : Hid (r1 = sameP x y) := by unfold Hid; rw [h1]; rfl
      have GX := Lib.hid (GA.out rfl); have GY := Lib.hid (GB.out rfl)
      obtain ⟨fa, fc, rfl⟩ := hA.f.shape
      obtain ⟨la, lc, rfl⟩ := hA.l.shape
      obtain ⟨ra, rc, rfl⟩ := hA.r.shape
      obtain ⟨ga, gc, rfl⟩ := hB.f.shape
      obtain ⟨ma, mc, rfl⟩ := hB.l.shape
      obtain ⟨sa, sc, rfl⟩ := hB.r.shape
      clear h1 h2 hA hB
      go_enter Try.func21, Try.ntmps21
      go_wp2_with (first
        | (go_at_call 20; refine (HCB.out _ Y1.out).mono ?_; rintro e w2 ⟨rfl, hb2⟩; have B2 := Lib.hid (bst B1.out hb2 B1.out.size); have X2 := Lib.hid (X1.out.below hb2); have Y2 := Lib.hid (Y1.out.below hb2); have P2 := Lib.hid (P1.out.below hb2); have Q2 := Lib.hid (Q1.out.below hb2); clear hb2)
        | (go_at_call 20; refine (HCA.out _ A0.out).mono ?_; rintro e w1 ⟨rfl, hb1⟩; have B1 := Lib.hid (bst HB.out hb1 HB.out.size); have X1 := Lib.hid (A0.out.below hb1); have Y1 := Lib.hid (B0.out.below hb1); have P1 := Lib.hid (P0.out.below hb1); have Q1 := Lib.hid (Q0.out.below hb1); have s0 := Q1.out.c0; have s1 := Q1.out.c1; have s2 := Q1.out.c2; clear hb1))
      clear p0 p1 p2 q0 q1 q2 s0 s1 s2
      have BD := below_drew (Below.refl w2.heap.size w2)
      have c0 : w2.drew.cell? ⟨w.heap.size, 0, none⟩ = some (.slice fa x.f.length fc) := P2.out.c0
      have c1 : w2.drew.cell? ⟨w.heap.size, 1, none⟩ = some (.slice la x.l.length lc) := P2.out.c1
      have c2 : w2.drew.cell? ⟨w.heap.size, 2, none⟩ = some (.slice ra x.r.length rc) := P2.out.c2
      have d0 : w2.drew.cell? ⟨w.heap.size + 1, 0, none⟩ = some (.slice ga y.f.length gc) := Q2.out.c0
      have d1 : w2.drew.cell? ⟨w.heap.size + 1, 1, none⟩ = some (.slice ma y.l.length mc) := Q2.out.c1
      have d2 : w2.drew.cell? ⟨w.heap.size + 1, 2, none⟩ = some (.slice sa y.r.length sc) := Q2.out.c2
      have HEQ : Hid (∀ w', Below w2.heap.size w2 w' → Calls Try.prog 81 #[.slice ra x.r.length rc, .slice sa y.r.length sc] w' fun e w'' => e = .returned (.bool (decide (x.r = y.r))) ∧ ∃ n, w'' = w'.drewN n) := fun w' hb => c_slEqual _ _ _ _ w' (X2.out.r.below hb) (Y2.out.r.below hb) (by have := GX.out.rn; omega)
      have HSF : Hid (x.r = y.r → sfB x y (reachL x.f x.r) x.f.length = sameP x y) := sfB_same GX.out GY.out
      have HSN : Hid (¬ x.r = y.r → sameP x y = false) := sameP_roots
      by_cases hxy : x.r = y.r
      · have hd : decide (x.r = y.r) = true := decide_eq_true hxy
        have HSP := Lib.hid (HSF.out hxy)
        rw [hd] at HEQ
        clear hd hxy
        refine wp_region_held_drew (S := (fun w' => w'.cell? ⟨w.heap.size, 0, none⟩ = some (.slice fa x.f.length fc) ∧ w'.cell? ⟨w.heap.size, 1, none⟩ = some (.slice la x.l.length lc) ∧ w'.cell? ⟨w.heap.size, 2, none⟩ = some (.slice ra x.r.length rc) ∧ w'.cell? ⟨w.heap.size + 1, 0, none⟩ = some (.slice ga y.f.length gc) ∧ w'.cell? ⟨w.heap.size + 1, 1, none⟩ = some (.slice ma y.l.length mc) ∧ w'.cell? ⟨w.heap.size + 1, 2, none⟩ = some (.slice sa y.r.length sc) ∧ Below w2.heap.size w2 w')) (by kernel_rfl) (⟨c0, c1, c2, d0, d1, d2, BD⟩) (fun hHeld => ?_)
        refine wpAnyH_take (i := 0) (v := ?va0x9) rfl (by kernel_rfl) (by kernel_rfl) (by kernel_rfl) (fun _ _ _ h => h) (Or.inl ⟨by rfl, ?hy0x9⟩) (by assumption) ?rest0x9
        case hy0x9 => (intro w hSw; (try dsimp only at hSw); go_simp; try with_reducible rfl)
        (try simp only [Act.put, List.getElem_toArray, List.getElem_cons_zero, List.setIfInBounds_toArray, List.set_cons_zero, List.set_cons_succ])
        refine wpAnyH_take (i := 1) (v := ?va1x10) rfl (by kernel_rfl) (by kernel_rfl) (by kernel_rfl) (fun _ _ _ h => h) (Or.inl ⟨by rfl, ?hy1x10⟩) (by assumption) ?rest1x10
        case hy1x10 => (intro w hSw; (try dsimp only at hSw); go_simp; try with_reducible rfl)
        (try simp only [Act.put, List.getElem_toArray, List.getElem_cons_zero, List.getElem_cons_succ, List.setIfInBounds_toArray, List.set_cons_zero, List.set_cons_succ])
        refine wpAnyH_take (i := 2) (v := ?va2x11) rfl (by kernel_rfl) (by kernel_rfl) (by kernel_rfl) (fun _ _ _ h => h) (Or.inl ⟨by rfl, ?hy2x11⟩) (by assumption) ?rest2x11
        case hy2x11 => (intro w hSw; (try dsimp only at hSw); go_simp; try with_reducible rfl)
        (try simp only [Act.put, List.getElem_toArray, List.getElem_cons_zero, List.getElem_cons_succ, List.setIfInBounds_toArray, List.set_cons_zero, List.set_cons_succ])
        refine wpAnyH_take (i := 3) (v := ?va3x12) rfl (by kernel_rfl) (by kernel_rfl) (by kernel_rfl) (fun _ _ _ h => h) (Or.inl ⟨by rfl, ?hy3x12⟩) (by assumption) ?rest3x12
        case hy3x12 => (intro w hSw; (try dsimp only at hSw); go_simp; try with_reducible rfl)
        (try simp only [Act.put, List.getElem_toArray, List.getElem_cons_zero, List.getElem_cons_succ, List.setIfInBounds_toArray, List.set_cons_zero, List.set_cons_succ])
        refine wpAnyH_ready (rs := [4]) (by kernel_rfl) (by simp) ?_
        refine AllReadyH.cons rfl (fun K hK => ?_) AllReadyH.nil
        go_simp
        refine (HEQ.out _ BD).mono ?_
        rintro e w3 ⟨rfl, nd, rfl⟩
        have hbx := below_drewN BD nd
        replace c0 : (w2.drew.drewN nd).cell? ⟨w.heap.size, 0, none⟩ = some (.slice fa x.f.length fc) := c0
        replace c1 : (w2.drew.drewN nd).cell? ⟨w.heap.size, 1, none⟩ = some (.slice la x.l.length lc) := c1
        replace c2 : (w2.drew.drewN nd).cell? ⟨w.heap.size, 2, none⟩ = some (.slice ra x.r.length rc) := c2
        replace d0 : (w2.drew.drewN nd).cell? ⟨w.heap.size + 1, 0, none⟩ = some (.slice ga y.f.length gc) := d0
        replace d1 : (w2.drew.drewN nd).cell? ⟨w.heap.size + 1, 1, none⟩ = some (.slice ma y.l.length mc) := d1
        replace d2 : (w2.drew.drewN nd).cell? ⟨w.heap.size + 1, 2, none⟩ = some (.slice sa y.r.length sc) := d2
        refine hK.out _ _ ⟨c0, c1, c2, d0, d1, d2, hbx⟩ (fun hHeld => ?_)
        clear hK K
        (try simp only [Act.put, List.getElem_toArray, List.getElem_cons_zero, List.getElem_cons_succ, List.setIfInBounds_toArray, List.set_cons_zero, List.set_cons_succ])
        generalize w2.drew.drewN nd = w3 at *
        refine wpAnyH_take (i := 5) (v := ?va5x13) rfl (by kernel_rfl) (by kernel_rfl) (by kernel_rfl) (fun _ _ _ h => h) (Or.inl ⟨by rfl, ?hy5x13⟩) (by assumption) ?rest5x13
        case hy5x13 => (intro w hSw; (try dsimp only at hSw); go_simp; try with_reducible rfl)
        (try simp only [Act.put, List.getElem_toArray, List.getElem_cons_zero, List.getElem_cons_succ, List.setIfInBounds_toArray, List.set_cons_zero, List.set_cons_succ])
        refine wpAnyH_take (i := 6) (v := ?va6x14) rfl (by kernel_rfl) (by kernel_rfl) (by kernel_rfl) (fun _ _ _ h => h) (Or.inl ⟨by rfl, ?hy6x14⟩) (by assumption) ?rest6x14
        case hy6x14 => (intro w hSw; (try dsimp only at hSw); go_simp; try with_reducible rfl)
        (try simp only [Act.put, List.getElem_toArray, List.getElem_cons_zero, List.getElem_cons_succ, List.setIfInBounds_toArray, List.set_cons_zero, List.set_cons_succ])
        refine wpAnyH_take (i := 7) (v := ?va7x15) rfl (by kernel_rfl) (by kernel_rfl) (by kernel_rfl) (fun _ _ _ h => h) (Or.inl ⟨by rfl, ?hy7x15⟩) (by assumption) ?rest7x15
        case hy7x15 => (intro w hSw; (try dsimp only at hSw); go_simp; try with_reducible rfl)
        (try simp only [Act.put, List.getElem_toArray, List.getElem_cons_zero, List.getElem_cons_succ, List.setIfInBounds_toArray, List.set_cons_zero, List.set_cons_succ])
        refine wpAnyH_take (i := 8) (v := ?va8x16) rfl (by kernel_rfl) (by kernel_rfl) (by kernel_rfl) (fun _ _ _ h => h) (Or.inl ⟨by rfl, ?hy8x16⟩) (by assumption) ?rest8x16
        case hy8x16 => (intro w hSw; (try dsimp only at hSw); go_simp; try with_reducible rfl)
        (try simp only [Act.put, List.getElem_toArray, List.getElem_cons_zero, List.getElem_cons_succ, List.setIfInBounds_toArray, List.set_cons_zero, List.set_cons_succ])
        refine wpAnyH_take (i := 9) (v := ?va9x17) rfl (by kernel_rfl) (by kernel_rfl) (by kernel_rfl) (fun _ _ _ h => h) (Or.inl ⟨by rfl, ?hy9x17⟩) (by assumption) ?rest9x17
        case hy9x17 => (intro w hSw; (try dsimp only at hSw); go_simp; try with_reducible rfl)
        (try simp only [Act.put, List.getElem_toArray, List.getElem_cons_zero, List.getElem_cons_succ, List.setIfInBounds_toArray, List.set_cons_zero, List.set_cons_succ])
        refine wpAnyH_take (i := 10) (v := ?va10x18) rfl (by kernel_rfl) (by kernel_rfl) (by kernel_rfl) (fun _ _ _ h => h) (Or.inl ⟨by rfl, ?hy10x18⟩) (by assumption) ?rest10x18
        case hy10x18 => (intro w hSw; (try dsimp only at hSw); go_simp; try with_reducible rfl)
        (try simp only [Act.put, List.getElem_toArray, List.getElem_cons_zero, List.getElem_cons_succ, List.setIfInBounds_toArray, List.set_cons_zero, List.set_cons_succ])
        refine wpAnyH_ready (rs := [11]) (by kernel_rfl) (by simp) ?_
        refine AllReadyH.cons rfl (fun K hK => ?_) AllReadyH.nil
        go_simp
        refine (c_reachedOver _ _ _ _ x x.r _ (X2.out.below hbx) GX.out (X2.out.r.below hbx) (by have := GX.out.rn; omega) (fun z hz => (refs_bound GX.out GX.out.rr z hz).imp id (fun h => ⟨h.1, h.2.1⟩))).mono ?_
        rintro e w4 ⟨kv, rfl, hok, hb4⟩
        replace hbx := bst hbx hb4 hbx.size
        replace c0 := cellBelow hb4 (Nat.le_refl _) c0
        replace c1 := cellBelow hb4 (Nat.le_refl _) c1
        replace c2 := cellBelow hb4 (Nat.le_refl _) c2
        replace d0 := cellBelow hb4 (Nat.le_refl _) d0
        replace d1 := cellBelow hb4 (Nat.le_refl _) d1
        replace d2 := cellBelow hb4 (Nat.le_refl _) d2
        obtain ⟨pk, qk, hpk⟩ := (owns_bools hok).shape
        subst hpk
        have KB := Lib.hid (owns_bools hok)
        clear hok hb4
        refine hK.out _ _ ⟨c0, c1, c2, d0, d1, d2, hbx⟩ (fun hHeld => ?_)
        clear hK K
        (try simp only [Act.put, List.getElem_toArray, List.getElem_cons_zero, List.getElem_cons_succ, List.setIfInBounds_toArray, List.set_cons_zero, List.set_cons_succ])
        refine wpAnyH_ready (rs := [12]) (by kernel_rfl) (by simp) ?_
        refine AllReadyH.cons rfl (fun K hK => ?_) AllReadyH.nil
        go_simp
        refine (c_sameFields _ _ _ _ _ _ _ x y (reachL x.f x.r) _ (X2.out.below hbx) (Y2.out.below hbx) KB.out GX.out GY.out (reachL_length _ _)).mono ?_
        rintro e w5 ⟨rfl, hb5⟩
        replace hbx := bst hbx hb5 hbx.size
        replace c0 := cellBelow hb5 (Nat.le_refl _) c0
        replace c1 := cellBelow hb5 (Nat.le_refl _) c1
        replace c2 := cellBelow hb5 (Nat.le_refl _) c2
        replace d0 := cellBelow hb5 (Nat.le_refl _) d0
        replace d1 := cellBelow hb5 (Nat.le_refl _) d1
        replace d2 := cellBelow hb5 (Nat.le_refl _) d2
        refine hK.out _ _ ⟨c0, c1, c2, d0, d1, d2, hbx⟩ (fun hHeld => ?_)
        clear hK K hb5
        (try simp only [Act.put, List.getElem_toArray, List.getElem_cons_zero, List.getElem_cons_succ, List.setIfInBounds_toArray, List.set_cons_zero, List.set_cons_succ])
        refine wpAnyH_take (i := 13) (v := ?va13x19) rfl (by kernel_rfl) (by kernel_rfl) (by kernel_rfl) (fun _ _ _ h => h) (Or.inl ⟨by rfl, ?hy13x19⟩) (by assumption) ?rest13x19
        case hy13x19 => (intro w hSw; (try dsimp only at hSw); go_simp; try with_reducible rfl)
        (try simp only [Act.put, List.getElem_toArray, List.getElem_cons_zero, List.getElem_cons_succ, List.setIfInBounds_toArray, List.set_cons_zero, List.set_cons_succ])
        refine wpAnyH_take (i := 14) (v := ?va14x20) rfl (by kernel_rfl) (by kernel_rfl) (by kernel_rfl) (fun _ _ _ h => h) (Or.inl ⟨by rfl, ?hy14x20⟩) (by assumption) ?rest14x20
        case hy14x20 => (intro w hSw; (try dsimp only at hSw); go_simp; try with_reducible rfl)
        (try simp only [Act.put, List.getElem_toArray, List.getElem_cons_zero, List.getElem_cons_succ, List.setIfInBounds_toArray, List.set_cons_zero, List.set_cons_succ])
        refine wpAnyH_take (i := 15) (v := ?va15x21) rfl (by kernel_rfl) (by kernel_rfl) (by kernel_rfl) (fun _ _ _ h => h) (Or.inl ⟨by rfl, ?hy15x21⟩) (by assumption) ?rest15x21
        case hy15x21 => (intro w hSw; (try dsimp only at hSw); go_simp; try with_reducible rfl)
        (try simp only [Act.put, List.getElem_toArray, List.getElem_cons_zero, List.getElem_cons_succ, List.setIfInBounds_toArray, List.set_cons_zero, List.set_cons_succ])
        refine wpAnyH_done (by kernel_rfl) ?_ _
        go_wp2_with fail
        go_ret2
        exact ⟨r_bb2 (HSP.out.trans H1.out.symm) H2.out.symm, bst B2.out hbx B2.out.size⟩
      · have hd : decide (x.r = y.r) = false := decide_eq_false hxy
        have HSP := Lib.hid (HSN.out hxy)
        rw [hd] at HEQ
        clear hd hxy
        refine wp_region_held_drew (S := (fun w' => w'.cell? ⟨w.heap.size, 0, none⟩ = some (.slice fa x.f.length fc) ∧ w'.cell? ⟨w.heap.size, 1, none⟩ = some (.slice la x.l.length lc) ∧ w'.cell? ⟨w.heap.size, 2, none⟩ = some (.slice ra x.r.length rc) ∧ w'.cell? ⟨w.heap.size + 1, 0, none⟩ = some (.slice ga y.f.length gc) ∧ w'.cell? ⟨w.heap.size + 1, 1, none⟩ = some (.slice ma y.l.length mc) ∧ w'.cell? ⟨w.heap.size + 1, 2, none⟩ = some (.slice sa y.r.length sc) ∧ Below w2.heap.size w2 w')) (by kernel_rfl) (⟨c0, c1, c2, d0, d1, d2, BD⟩) (fun hHeld => ?_)
        refine wpAnyH_take (i := 0) (v := ?va0x1) rfl (by kernel_rfl) (by kernel_rfl) (by kernel_rfl) (fun _ _ _ h => h) (Or.inl ⟨by rfl, ?hy0x1⟩) (by assumption) ?rest0x1
        case hy0x1 => (intro w hSw; (try dsimp only at hSw); go_simp; try with_reducible rfl)
        (try simp only [Act.put, List.getElem_toArray, List.getElem_cons_zero, List.setIfInBounds_toArray, List.set_cons_zero, List.set_cons_succ])
        refine wpAnyH_take (i := 1) (v := ?va1x2) rfl (by kernel_rfl) (by kernel_rfl) (by kernel_rfl) (fun _ _ _ h => h) (Or.inl ⟨by rfl, ?hy1x2⟩) (by assumption) ?rest1x2
        case hy1x2 => (intro w hSw; (try dsimp only at hSw); go_simp; try with_reducible rfl)
        (try simp only [Act.put, List.getElem_toArray, List.getElem_cons_zero, List.getElem_cons_succ, List.setIfInBounds_toArray, List.set_cons_zero, List.set_cons_succ])
        refine wpAnyH_take (i := 2) (v := ?va2x3) rfl (by kernel_rfl) (by kernel_rfl) (by kernel_rfl) (fun _ _ _ h => h) (Or.inl ⟨by rfl, ?hy2x3⟩) (by assumption) ?rest2x3
        case hy2x3 => (intro w hSw; (try dsimp only at hSw); go_simp; try with_reducible rfl)
        (try simp only [Act.put, List.getElem_toArray, List.getElem_cons_zero, List.getElem_cons_succ, List.setIfInBounds_toArray, List.set_cons_zero, List.set_cons_succ])
        refine wpAnyH_take (i := 3) (v := ?va3x4) rfl (by kernel_rfl) (by kernel_rfl) (by kernel_rfl) (fun _ _ _ h => h) (Or.inl ⟨by rfl, ?hy3x4⟩) (by assumption) ?rest3x4
        case hy3x4 => (intro w hSw; (try dsimp only at hSw); go_simp; try with_reducible rfl)
        (try simp only [Act.put, List.getElem_toArray, List.getElem_cons_zero, List.getElem_cons_succ, List.setIfInBounds_toArray, List.set_cons_zero, List.set_cons_succ])
        refine wpAnyH_ready (rs := [4]) (by kernel_rfl) (by simp) ?_
        refine AllReadyH.cons rfl (fun K hK => ?_) AllReadyH.nil
        go_simp
        refine (HEQ.out _ BD).mono ?_
        rintro e w3 ⟨rfl, nd, rfl⟩
        have hbx := below_drewN BD nd
        replace c0 : (w2.drew.drewN nd).cell? ⟨w.heap.size, 0, none⟩ = some (.slice fa x.f.length fc) := c0
        replace c1 : (w2.drew.drewN nd).cell? ⟨w.heap.size, 1, none⟩ = some (.slice la x.l.length lc) := c1
        replace c2 : (w2.drew.drewN nd).cell? ⟨w.heap.size, 2, none⟩ = some (.slice ra x.r.length rc) := c2
        replace d0 : (w2.drew.drewN nd).cell? ⟨w.heap.size + 1, 0, none⟩ = some (.slice ga y.f.length gc) := d0
        replace d1 : (w2.drew.drewN nd).cell? ⟨w.heap.size + 1, 1, none⟩ = some (.slice ma y.l.length mc) := d1
        replace d2 : (w2.drew.drewN nd).cell? ⟨w.heap.size + 1, 2, none⟩ = some (.slice sa y.r.length sc) := d2
        refine hK.out _ _ ⟨c0, c1, c2, d0, d1, d2, hbx⟩ (fun hHeld => ?_)
        clear hK K
        (try simp only [Act.put, List.getElem_toArray, List.getElem_cons_zero, List.getElem_cons_succ, List.setIfInBounds_toArray, List.set_cons_zero, List.set_cons_succ])
        generalize w2.drew.drewN nd = w3 at *
        refine wpAnyH_take (i := 5) (v := ?va5x5) rfl (by kernel_rfl) (by kernel_rfl) (by kernel_rfl) (fun _ _ _ h => h) (Or.inl ⟨by rfl, ?hy5x5⟩) (by assumption) ?rest5x5
        case hy5x5 => (intro w hSw; (try dsimp only at hSw); go_simp; try with_reducible rfl)
        (try simp only [Act.put, List.getElem_toArray, List.getElem_cons_zero, List.getElem_cons_succ, List.setIfInBounds_toArray, List.set_cons_zero, List.set_cons_succ])
        refine wpAnyH_take (i := 6) (v := undef) rfl (by kernel_rfl) (by kernel_rfl) (by kernel_rfl) (fun _ _ _ h => h) (Or.inr ⟨by rfl, rfl⟩) (by assumption) ?_
        (try simp only [Act.put, List.getElem_toArray, List.getElem_cons_zero, List.getElem_cons_succ, List.setIfInBounds_toArray, List.set_cons_zero, List.set_cons_succ])
        refine wpAnyH_take (i := 7) (v := undef) rfl (by kernel_rfl) (by kernel_rfl) (by kernel_rfl) (fun _ _ _ h => h) (Or.inr ⟨by rfl, rfl⟩) (by assumption) ?_
        (try simp only [Act.put, List.getElem_toArray, List.getElem_cons_zero, List.getElem_cons_succ, List.setIfInBounds_toArray, List.set_cons_zero, List.set_cons_succ])
        refine wpAnyH_take (i := 8) (v := undef) rfl (by kernel_rfl) (by kernel_rfl) (by kernel_rfl) (fun _ _ _ h => h) (Or.inr ⟨by rfl, rfl⟩) (by assumption) ?_
        (try simp only [Act.put, List.getElem_toArray, List.getElem_cons_zero, List.getElem_cons_succ, List.setIfInBounds_toArray, List.set_cons_zero, List.set_cons_succ])
        refine wpAnyH_take (i := 9) (v := undef) rfl (by kernel_rfl) (by kernel_rfl) (by kernel_rfl) (fun _ _ _ h => h) (Or.inr ⟨by rfl, rfl⟩) (by assumption) ?_
        (try simp only [Act.put, List.getElem_toArray, List.getElem_cons_zero, List.getElem_cons_succ, List.setIfInBounds_toArray, List.set_cons_zero, List.set_cons_succ])
        refine wpAnyH_take (i := 10) (v := undef) rfl (by kernel_rfl) (by kernel_rfl) (by kernel_rfl) (fun _ _ _ h => h) (Or.inr ⟨by rfl, rfl⟩) (by assumption) ?_
        (try simp only [Act.put, List.getElem_toArray, List.getElem_cons_zero, List.getElem_cons_succ, List.setIfInBounds_toArray, List.set_cons_zero, List.set_cons_succ])
        refine wpAnyH_take (i := 11) (v := undef) rfl (by kernel_rfl) (by kernel_rfl) (by kernel_rfl) (fun _ _ _ h => h) (Or.inr ⟨by rfl, rfl⟩) (by assumption) ?_
        (try simp only [Act.put, List.getElem_toArray, List.getElem_cons_zero, List.getElem_cons_succ, List.setIfInBounds_toArray, List.set_cons_zero, List.set_cons_succ])
        refine wpAnyH_take (i := 12) (v := undef) rfl (by kernel_rfl) (by kernel_rfl) (by kernel_rfl) (fun _ _ _ h => h) (Or.inr ⟨by rfl, rfl⟩) (by assumption) ?_
        (try simp only [Act.put, List.getElem_toArray, List.getElem_cons_zero, List.getElem_cons_succ, List.setIfInBounds_toArray, List.set_cons_zero, List.set_cons_succ])
        refine wpAnyH_take (i := 13) (v := ?va13x6) rfl (by kernel_rfl) (by kernel_rfl) (by kernel_rfl) (fun _ _ _ h => h) (Or.inl ⟨by rfl, ?hy13x6⟩) (by assumption) ?rest13x6
        case hy13x6 => (intro w hSw; (try dsimp only at hSw); go_simp; try with_reducible rfl)
        (try simp only [Act.put, List.getElem_toArray, List.getElem_cons_zero, List.getElem_cons_succ, List.setIfInBounds_toArray, List.set_cons_zero, List.set_cons_succ])
        refine wpAnyH_take (i := 14) (v := ?va14x7) rfl (by kernel_rfl) (by kernel_rfl) (by kernel_rfl) (fun _ _ _ h => h) (Or.inl ⟨by rfl, ?hy14x7⟩) (by assumption) ?rest14x7
        case hy14x7 => (intro w hSw; (try dsimp only at hSw); go_simp; try with_reducible rfl)
        (try simp only [Act.put, List.getElem_toArray, List.getElem_cons_zero, List.getElem_cons_succ, List.setIfInBounds_toArray, List.set_cons_zero, List.set_cons_succ])
        refine wpAnyH_take (i := 15) (v := ?va15x8) rfl (by kernel_rfl) (by kernel_rfl) (by kernel_rfl) (fun _ _ _ h => h) (Or.inl ⟨by rfl, ?hy15x8⟩) (by assumption) ?rest15x8
        case hy15x8 => (intro w hSw; (try dsimp only at hSw); go_simp; try with_reducible rfl)
        (try simp only [Act.put, List.getElem_toArray, List.getElem_cons_zero, List.getElem_cons_succ, List.setIfInBounds_toArray, List.set_cons_zero, List.set_cons_succ])
        refine wpAnyH_done (by kernel_rfl) ?_ _
        go_wp2_with fail
        go_ret2
        exact ⟨r_bb2 (HSP.out.symm.trans H1.out.symm) H2.out.symm, bst B2.out hbx B2.out.size⟩
end Go.Proofs.Ythanckifinfpiaa
namespace Go.Proofs.Ythanckifinfpiaa.Ph
theorem keepTo_get (h : H) (ks : List Bool) (hll : h.l.length = h.f.length) (j : Nat) (hj : j ≤ h.f.length) : ∀ i, (keepTo h ks j).1.l.getD i false = (h.l.getD i false && (ks.getD i false || decide (j ≤ i))) ∧ (keepTo h ks j).1.f.getD i [] = if h.l.getD i false = true ∧ ks.getD i false = false ∧ i < j then [] else h.f.getD i [] := by
  induction j with
  | zero => exact fun i => ⟨by simp [keepTo], by rw [if_neg (by omega)]; rfl⟩
  | succ j ih =>
    have ih := ih (by omega)
    obtain ⟨e1, e2, _, _⟩ := keepTo_len h ks j
    have hlj : (keepTo h ks j).1.l.getD j false = h.l.getD j false := by rw [(ih j).1]; simp
    by_cases hy : h.l.getD j false = true ∧ ks.getD j false = false
    · rw [keepTo_yes (by rw [hlj]; exact hy.1) hy.2]
      intro i
      simp only
      rw [getD_set (by omega), getD_setL (by omega)]
      by_cases e : i = j
      · subst e
        rw [if_pos rfl, if_pos rfl, if_pos ⟨hy.1, hy.2, by omega⟩, hy.2]
        simp
      · rw [if_neg e, if_neg e, (ih i).1, (ih i).2]
        refine ⟨?_, ?_⟩
        · have : decide (j ≤ i) = decide (j + 1 ≤ i) := by
            by_cases q : j ≤ i
            · rw [decide_eq_true q, decide_eq_true (by omega)]
            · rw [decide_eq_false q, decide_eq_false (by omega)]
          rw [this]
        · by_cases q : h.l.getD i false = true ∧ ks.getD i false = false ∧ i < j
          · rw [if_pos q, if_pos ⟨q.1, q.2.1, by omega⟩]
          · rw [if_neg q, if_neg (fun k => q ⟨k.1, k.2.1, by omega⟩)]
    · have hn : (keepTo h ks j).1.l.getD j false = false ∨ ks.getD j false = true := by
        rw [hlj]
        cases hq : h.l.getD j false with
        | false => exact .inl rfl
        | true =>
          cases hq2 : ks.getD j false with
          | false => exact absurd ⟨hq, hq2⟩ hy
          | true => exact .inr rfl
      rw [keepTo_no hn]
      intro i
      rw [(ih i).1, (ih i).2]
      by_cases e : i = j
      · subst e
        refine ⟨?_, ?_⟩
        · cases hq : h.l.getD i false with
          | false => simp
          | true =>
            cases hq2 : ks.getD i false with
            | false => exact absurd ⟨hq, hq2⟩ hy
            | true => simp
        · rw [if_neg (by omega), if_neg (fun k => hy ⟨k.1, k.2.1⟩)]
      · refine ⟨?_, ?_⟩
        · have : decide (j ≤ i) = decide (j + 1 ≤ i) := by
            by_cases q : j ≤ i
            · rw [decide_eq_true q, decide_eq_true (by omega)]
            · rw [decide_eq_false q, decide_eq_false (by omega)]
          rw [this]
        · by_cases q : h.l.getD i false = true ∧ ks.getD i false = false ∧ i < j
          · rw [if_pos q, if_pos ⟨q.1, q.2.1, by omega⟩]
          · rw [if_neg q, if_neg (fun k => q ⟨k.1, k.2.1, by omega⟩)]
/-- Nothing goes where all that is live is kept. -/
theorem keepTo_all (h : H) (ks : List Bool) (hk : ∀ i, h.l.getD i false = true → ks.getD i false = true) (j : Nat) : keepTo h ks j = (h, 0) := by
  induction j with
  | zero => rfl
  | succ j ih =>
    rw [keepTo_no, ih]
    rw [ih]
    cases hq : h.l.getD j false with
    | false => exact .inl rfl
    | true => exact .inr (hk j hq)
theorem reach_in {h : H} (g : Good h) {k : Nat} (hr : Reach h.f h.r k) : k < h.f.length ∧ h.l.getD k false = true := by
  cases hr with
  | root hz => rcases refs_bound g g.rr _ hz with e | ⟨_, e1, e2⟩
               · omega
               · exact ⟨by omega, by simpa using e2⟩
  | step _ hz => rcases g.field hz with e | ⟨_, e1, e2⟩
                 · omega
                 · exact ⟨by omega, by simpa using e2⟩
structure Cln (h c : H) : Prop where
  l : c.l = reachL h.f h.r
  f : ∀ i, c.f.getD i [] = if (reachL h.f h.r).getD i false = true then h.f.getD i [] else []
  r : c.r = h.r
  n : c.f.length = h.f.length
theorem Cln.of {h : H} (g : Good h) : Cln h (cleanP h).1 := by
  rw [cleanP_yes (good_iff.2 g)]
  obtain ⟨e1, e2, e3, _⟩ := keepTo_len h (reachL h.f h.r) h.f.length
  have get := keepTo_get h (reachL h.f h.r) g.ll h.f.length (Nat.le_refl _)
  have rl : ∀ i, (reachL h.f h.r).getD i false = true → h.l.getD i false = true := fun i hi => (reach_in g (reachL_getD.1 hi).2).2
  refine ⟨?_, fun i => ?_, e3, e1⟩
  · refine eq_reachL (by rw [e2, g.ll]) fun k => ?_
    rw [(get k).1]
    constructor
    · intro q
      simp only [Bool.and_eq_true, Bool.or_eq_true, decide_eq_true_eq] at q
      have hk := getD_lt q.1
      rw [g.ll] at hk
      rcases q.2 with q2 | q2
      · exact reachL_getD.1 q2
      · omega
    · intro q
      have q1 := reachL_getD.2 q
      rw [rl k q1, q1]; rfl
  · rw [(get i).2]
    by_cases q : (reachL h.f h.r).getD i false = true
    · rw [if_pos q, if_neg (fun k => by rw [q] at k; cases k.2.1)]
    · rw [if_neg q]
      by_cases hi : i < h.f.length
      · rcases (g.row i hi).2.1 with hl | hl
        · rw [if_pos ⟨hl, by simpa using q, hi⟩]
        · rw [hl]; split <;> rfl
      · have : h.f.getD i [] = [] := by simp [List.getD, List.getElem?_eq_none (Nat.le_of_not_lt hi)]
        rw [this]; split <;> rfl
theorem Cln.reach {h c : H} (g : Good h) (k : Cln h c) (i : Nat) : Reach c.f c.r i ↔ Reach h.f h.r i := by
  constructor
  · intro q
    induction q with
    | root hz => rw [k.r] at hz; exact .root hz
    | step _ hz ih =>
      rw [k.f] at hz
      split at hz
      · exact .step ih hz
      · simp at hz
  · intro q
    induction q with
    | root hz => exact .root (by rw [k.r]; exact hz)
    | step hy hz ih => exact .step ih (by rw [k.f, if_pos (reachL_getD.2 ⟨(reach_in g hy).1, hy⟩)]; exact hz)
theorem Cln.reachL {h c : H} (g : Good h) (k : Cln h c) : Ph.reachL c.f c.r = Ph.reachL h.f h.r := by
  refine (eq_reachL (fs := c.f) (zs := c.r) (by rw [reachL_length, k.n]) fun i => ?_).symm
  rw [reachL_getD, k.n, k.reach g]
theorem Cln.good {h c : H} (g : Good h) (k : Cln h c) : Good c := by
  have live : ∀ z : Int, 0 ≤ z → Reach h.f h.r z.toNat → refB c.l z = true := fun z z0 hr => refB_iff.2 (.inr (liveB_iff.2 ⟨z0, by rw [k.l]; exact reachL_getD.2 ⟨(reach_in g hr).1, hr⟩⟩))
  have ref : ∀ (zs : List Int), (∀ z ∈ zs, z = -1 ∨ (0 ≤ z ∧ Reach h.f h.r z.toNat)) → refsB c.l zs = true := fun zs hz => refsB_iff.2 fun z q => by
    rcases hz z q with e | ⟨e1, e2⟩
    · exact refB_iff.2 (.inl e)
    · exact live z e1 e2
  refine ⟨by rw [k.n]; exact g.n, by rw [k.l, reachL_length, k.n], fun i hi => ?_, by rw [k.r]; exact g.rn, ?_⟩
  · rw [k.n] at hi
    rw [k.f]
    by_cases q : (Ph.reachL h.f h.r).getD i false = true
    · rw [if_pos q]
      refine ⟨(g.row i hi).1, .inl (by rw [k.l]; exact q), ref _ fun z hz => ?_⟩
      rcases g.field hz with e | ⟨e1, _, _⟩
      · exact .inl e
      · exact .inr ⟨e1, .step (reachL_getD.1 q).2 (by rw [Int.toNat_of_nonneg e1]; exact hz)⟩
    · rw [if_neg q]
      exact ⟨by simp, .inr rfl, rfl⟩
  · rw [k.r]
    refine ref _ fun z hz => ?_
    rcases refs_bound g g.rr z hz with e | ⟨e1, _, _⟩
    · exact .inl e
    · exact .inr ⟨e1, .root (by rw [Int.toNat_of_nonneg e1]; exact hz)⟩
/-- What the law asks of a collection. -/
theorem clean_facts {h : H} (hg : good h = true) : good (cleanP h).1 = true ∧ sameQ h (cleanP h).1 = true ∧ both h (cleanP h).1 = true ∧ reachR (cleanP h).1 = reachR h ∧ (cleanP h).1.l = reachR h ∧ ((cleanP (cleanP h).1).2 : Nat) = 0 ∧ (reachR h).length = h.f.length ∧ (∀ k, (reachR h).getD k false = true → ∀ y ∈ h.f.getD k [], 0 ≤ y → (reachR h).getD y.toNat false = true) := by
  have g := good_iff.1 hg
  have k := Cln.of g
  have gc := k.good g
  have hgc := good_iff.2 gc
  have hb : both h (cleanP h).1 = true := by unfold both; rw [hg, hgc]; rfl
  have hs : Same h (cleanP h).1 := ⟨k.r.symm, fun i => ⟨(k.reach g i).symm, fun q => by rw [k.f, if_pos (reachL_getD.2 ⟨(reach_in g q).1, q⟩)]⟩⟩
  have hr : reachR (cleanP h).1 = reachR h := by rw [reachR_yes hgc, reachR_yes hg]; exact k.reachL g
  refine ⟨hgc, by unfold sameQ; rw [hb, sameP_iff.2 hs]; rfl, hb, hr, by rw [reachR_yes hg]; exact k.l, ?_, by rw [reachR_yes hg, reachL_length], fun i hi y hy y0 => ?_⟩
  · rw [cleanP_yes hgc, keepTo_all _ _ (fun i hi => ?_)]
    rw [k.reachL g, ← k.l]; exact hi
  · rw [reachR_yes hg] at hi ⊢
    have hy' : ((y.toNat : Nat) : Int) ∈ h.f.getD i [] := by rw [Int.toNat_of_nonneg y0]; exact hy
    have hr : Reach h.f h.r y.toNat := .step (reachL_getD.1 hi).2 hy'
    exact reachL_getD.2 ⟨(reach_in g hr).1, hr⟩
end Go.Proofs.Ythanckifinfpiaa.Ph
namespace Go.Proofs.Ythanckifinfpiaa.Ph
noncomputable def smO (a b : H) (k : Nat) : Bool := ((reachL a.f a.r).getD k false == (reachL b.f b.r).getD k false) && (!((reachL a.f a.r).getD k false) || @decide (a.f.getD k [] = b.f.getD k []) (Classical.propDecidable _))
noncomputable def smB (a b : H) (n : Nat) : Bool := (List.range n).all (smO a b)
theorem smB_succ {a b : H} {n : Nat} : smB a b (n + 1) = (smB a b n && smO a b n) := by simp [smB, List.range_succ]
theorem smB_same {a b : H} (ga : Ph.Good a) (hr : a.r = b.r) {n : Nat} (h1 : a.f.length ≤ n) (hs : smB a b n = true) : sameP a b = true := by
  refine sameP_iff.2 (same_of hr fun k hk => ?_)
  have hl := reach_live ga hk
  have h3 := (List.all_eq_true.1 hs) k (by simp; omega)
  unfold smO at h3
  rw [reachL_getD.2 ⟨hl.2, hk⟩] at h3
  simp only [Bool.not_true, Bool.false_or, Bool.and_eq_true, decide_eq_true_eq] at h3
  exact h3.2
theorem sm_false {a b : H} (ga : Ph.Good a) (gb : Ph.Good b) {k : Nat} (hn : smO a b k = false) : sameP a b = false := by
  refine sameP_false fun ⟨hr, hs⟩ => ?_
  have : smO a b k = true := by
    unfold smO
    by_cases hq : (reachL a.f a.r).getD k false = true
    · have h1 := (reachL_getD.1 hq).2
      have h3 := (hs k).1.1 h1
      rw [hq, reachL_getD.2 ⟨(reach_live gb h3).2, h3⟩]; simp only [Bool.not_true, Bool.false_or, Bool.and_eq_true, decide_eq_true_eq]; exact ⟨rfl, (hs k).2 h1⟩
    · have hq' : (reachL a.f a.r).getD k false = false := by simpa using hq
      by_cases h2 : (reachL b.f b.r).getD k false = true
      · have h3 := (hs k).1.2 (reachL_getD.1 h2).2
        exact absurd (reachL_getD.2 ⟨(reach_live ga h3).2, h3⟩) hq
      · have h2' : (reachL b.f b.r).getD k false = false := by simpa using h2
        rw [hq', h2']; rfl
  rw [hn] at this; cases this
theorem smO_ne {a b : H} {k : Nat} (h : (reachL a.f a.r).getD k false ≠ (reachL b.f b.r).getD k false) : smO a b k = false := by
  unfold smO
  have : ((reachL a.f a.r).getD k false == (reachL b.f b.r).getD k false) = false := by simpa using h
  rw [this]; rfl
theorem smO_no {a b : H} {k : Nat} (h1 : (reachL a.f a.r).getD k false = false) (h2 : (reachL b.f b.r).getD k false = false) : smO a b k = true := by unfold smO; rw [h1, h2]; rfl
theorem smO_yes {a b : H} {k : Nat} (h1 : (reachL a.f a.r).getD k false = true) (h2 : (reachL b.f b.r).getD k false = true) : smO a b k = @decide (a.f.getD k [] = b.f.getD k []) (Classical.propDecidable _) := by unfold smO; rw [h1, h2]; rfl
end Go.Proofs.Ythanckifinfpiaa.Ph
namespace Go.Proofs.Ythanckifinfpiaa
open Go.RowKit Ph

set_option maxRecDepth 100000 in
set_option maxHeartbeats 6400000 in
theorem s_l5Same (a1 b1 c1 a2 b2 c2 : Value) (x y : H) (w : World) (hA : HeapAt w a1 b1 c1 x) (hB : HeapAt w a2 b2 c2 y) (hgx : Ph.Good x) (hgy : Ph.Good y) :
    Calls Try.prog 85 #[hv a1 b1 c1, hv a2 b2 c2] w fun e w' => e = .returned (.bool (sameP x y)) ∧ Below w.heap.size w w' := by
  have hb0 := (below1 w (.cells (c3 a1 b1 c1) 27)).alloc (by simp) (.cells (c3 a2 b2 c2) 27)
  have A0 := Lib.hid (hA.below hb0); have B0 := Lib.hid (hB.below hb0)
  have HB := Lib.hid hb0
  have P0 := Lib.hid (show RowH _ _ a1 b1 c1 from (Row.new w 27 (c3 a1 b1 c1)).alloc (.cells (c3 a2 b2 c2) 27))
  have Q0 := Lib.hid (show RowH _ (w.heap.size + 1) a2 b2 c2 from Row.new1 w (.cells (c3 a1 b1 c1) 27) 27 (c3 a2 b2 c2))
  have GX := Lib.hid hgx; have GY := Lib.hid hgy
  obtain ⟨fa, fc, rfl⟩ := hA.f.shape
  obtain ⟨ra, rc, rfl⟩ := hA.r.shape
  obtain ⟨ga, gc, rfl⟩ := hB.f.shape
  obtain ⟨sa, sc, rfl⟩ := hB.r.shape
  have hn12 := hgx.n
  have hm12 := hgy.n
  clear hA hB hgx hgy hb0
  have p0 := P0.out.c0
  have p1 := P0.out.c1
  have p2 := P0.out.c2
  go_enter Try.func85, Try.ntmps85
  go_wp2_with fail
  refine (s_l5Reached _ _ _ x _ A0.out GX.out).mono ?_
  rintro e w1 ⟨k1, rfl, ho1, hb1⟩
  obtain ⟨u1, v1, hk1⟩ := (owns_bools ho1).shape
  rw [reachL_length] at hk1
  subst hk1
  have X1 := Lib.hid (A0.out.below hb1); have Y1 := Lib.hid (B0.out.below hb1); have P1 := Lib.hid (P0.out.below hb1); have Q1 := Lib.hid (Q0.out.below hb1); have L1 := Lib.hid (bst HB.out hb1 HB.out.size); have K1 := Lib.hid (owns_bools ho1)
  clear ho1 hb1 p0 p1 p2
  have q0 := Q1.out.c0
  have q1 := Q1.out.c1
  have q2 := Q1.out.c2
  go_wp2_with fail
  refine (s_l5Reached _ _ _ y _ Y1.out GY.out).mono ?_
  rintro e w2 ⟨k2, rfl, ho2, hb2⟩
  obtain ⟨u2, v2, hk2⟩ := (owns_bools ho2).shape
  rw [reachL_length] at hk2
  subst hk2
  have X2 := Lib.hid (X1.out.below hb2); have Y2 := Lib.hid (Y1.out.below hb2); have P2 := Lib.hid (P1.out.below hb2); have Q2 := Lib.hid (Q1.out.below hb2); have L2 := Lib.hid (bst L1.out hb2 L1.out.size); have K2 := Lib.hid (owns_bools ho2); have K12 := Lib.hid (K1.out.below hb2)
  clear ho2 hb2 q0 q1 q2
  have HRS := Lib.hid (s_l1Same (.slice ra x.r.length rc) (.slice sa y.r.length sc) x.r y.r w2 X2.out.r Y2.out.r (by have := GX.out.rn; omega))
  have HSN : Hid (¬ x.r = y.r → sameP x y = false) := sameP_roots
  have c0 := P2.out.c2
  have d0 := Q2.out.c2
  by_cases hxy : ¬ x.r = y.r
  · have hd : decide (x.r = y.r) = false := decide_eq_false hxy
    have HSP := Lib.hid (HSN.out hxy)
    rw [hd] at HRS
    clear hd hxy
    go_wp2_with (go_at_call 134; refine HRS.out.mono ?_; rintro e w3 ⟨rfl, nd, rfl⟩)
    go_ret
    exact ⟨r_b HSP.out.symm, below_drewN L2.out nd⟩
  replace hxy := Classical.not_not.1 hxy
  have hd : decide (x.r = y.r) = true := decide_eq_true hxy
  have HXY := Lib.hid hxy
  rw [hd] at HRS
  clear hd hxy
  go_wp2_with (go_at_call 134; refine HRS.out.mono ?_; rintro e w3 ⟨rfl, nd, rfl⟩)
  clear c0 d0
  have B3 : Below w2.heap.size w2 (w2.drewN nd) := below_drewN (Below.refl _ _) nd
  have X3 := Lib.hid (X2.out.below B3); have Y3 := Lib.hid (Y2.out.below B3); have P3 := Lib.hid (P2.out.below B3); have Q3 := Lib.hid (Q2.out.below B3); have L3 := Lib.hid (bst L2.out B3 L2.out.size); have K13 := Lib.hid (K12.out.below B3); have K23 := Lib.hid (K2.out.below B3)
  clear B3
  generalize w2.drewN nd = w3 at *
  generalize hn : x.f.length = n at *
  generalize hm : y.f.length = m at *
  have HN := Lib.hid hn; have HM := Lib.hid hm
  clear hn hm
  go_loopw [7] (fun i wr => ∃ k : Nat, (k ≤ n ∨ k ≤ m) ∧ i = .int .i64 k ∧ Hid (smB x y k = true) ∧ ∃ nd, wr = w3.drewN nd) (fun i _ => n + m - (intOf i).toNat)
  case atStart => exact ⟨0, .inl (Nat.zero_le _), rfl, by simp [Hid, smB], drewN_refl _⟩
  case round =>
    obtain ⟨k, hk, rfl, ht, nr, rfl⟩ := hrel
    have hp : (w3.drewN nr).cell? ⟨w.heap.size, 0, none⟩ = some (.slice fa n fc) := P3.out.c0
    have hq : (w3.drewN nr).cell? ⟨w.heap.size + 1, 0, none⟩ = some (.slice ga m gc) := Q3.out.c0
    have hfx : ∀ b, (reachL x.f x.r).getD k false = b → b = true → k < n := fun b h1 h2 => by rw [h2] at h1; have := (reachL_getD.1 h1).1; rw [HN.out] at this; exact this
    have hfy : ∀ b, (reachL y.f y.r).getD k false = b → b = true → k < m := fun b h1 h2 => by rw [h2] at h1; have := (reachL_getD.1 h1).1; rw [HM.out] at this; exact this
    have hSU := smB_succ (a := x) (b := y) (n := k)
    rw [ht.out, Bool.true_and] at hSU
    have HSU := Lib.hid hSU
    have hne := smO_ne (a := x) (b := y) (k := k)
    have hno := smO_no (a := x) (b := y) (k := k)
    have hye := smO_yes (a := x) (b := y) (k := k)
    have HNE : Hid ((reachL x.f x.r).getD k false ≠ (reachL y.f y.r).getD k false → sameP x y = false) := fun h => sm_false GX.out GY.out (hne h)
    have HNO : Hid ((reachL x.f x.r).getD k false = false → (reachL y.f y.r).getD k false = false → smB x y (k + 1) = true) := fun h1 h2 => hSU.trans (hno h1 h2)
    have HYE : Hid ((reachL x.f x.r).getD k false = true → (reachL y.f y.r).getD k false = true → ((x.f.getD k [] = y.f.getD k [] → smB x y (k + 1) = true) ∧ (¬ x.f.getD k [] = y.f.getD k [] → sameP x y = false))) := fun h1 h2 => ⟨fun h3 => hSU.trans ((hye h1 h2).trans (by simpa using h3)), fun h3 => sm_false GX.out GY.out ((hye h1 h2).trans (by simpa using h3))⟩
    clear hSU hne hno hye
    have j1 : (0 : Int) ≤ (k : Int) := by omega
    have kb : k ≤ 12 := by omega
    have QX : Hid (k < n → ∃ b o, u1 = some ⟨b, o, none⟩ ∧ (w3.drewN nr).cell? ⟨b, o + k, none⟩ = some (.bool ((reachL x.f x.r).getD k false))) := fun h => by
      obtain ⟨b, o, hb, hc⟩ := K13.out.at' (by omega)
      exact ⟨b, o, hb, hc k h⟩
    have QY : Hid (k < m → ∃ b o, u2 = some ⟨b, o, none⟩ ∧ (w3.drewN nr).cell? ⟨b, o + k, none⟩ = some (.bool ((reachL y.f y.r).getD k false))) := fun h => by
      obtain ⟨b, o, hb, hc⟩ := K23.out.at' (by omega)
      exact ⟨b, o, hb, hc k h⟩
    have FX : Hid (k < n → ∃ b o u c, fa = some ⟨b, o, none⟩ ∧ (w3.drewN nr).cell? ⟨b, o + k, none⟩ = some (.slice u (x.f.getD k []).length c) ∧ IntsAt w3 (.slice u (x.f.getD k []).length c) (x.f.getD k [])) := fun h => by
      obtain ⟨b, o, hb, hc⟩ := X3.out.f.at' (by omega)
      obtain ⟨u, h1, h2⟩ := hc k h
      obtain ⟨p, c, rfl⟩ := h2.shape
      exact ⟨b, o, p, c, hb, h1, h2⟩
    have FY : Hid (k < m → ∃ b o u c, ga = some ⟨b, o, none⟩ ∧ (w3.drewN nr).cell? ⟨b, o + k, none⟩ = some (.slice u (y.f.getD k []).length c) ∧ IntsAt w3 (.slice u (y.f.getD k []).length c) (y.f.getD k [])) := fun h => by
      obtain ⟨b, o, hb, hc⟩ := Y3.out.f.at' (by omega)
      obtain ⟨u, h1, h2⟩ := hc k h
      obtain ⟨p, c, rfl⟩ := h2.shape
      exact ⟨b, o, p, c, hb, h1, h2⟩
    have HLX : Hid (k < n → (x.f.getD k []).length ≤ 3) := fun h => (GX.out.row k (by rw [HN.out]; exact h)).1
    generalize hpx : (reachL x.f x.r).getD k false = p at *
    generalize hpy : (reachL y.f y.r).getD k false = q at *
    have hpn : p = true → k < n := hfx p rfl
    have hqm : q = true → k < m := hfy q rfl
    have HPX := Lib.hid hpx; have HPY := Lib.hid hpy
    clear hpx hpy hfx hfy
    by_cases hx : k < n
    · obtain ⟨bx, ox, rfl, qx⟩ := QX.out hx
      have i1 : (k : Int) < (n : Int) := by omega
      by_cases hy : k < m
      · obtain ⟨bz, oy, rfl, qy⟩ := QY.out hy
        have i2 : (k : Int) < (m : Int) := by omega
        clear QX QY hpn hqm
        cases p
        · cases q
          · skip
            have HE := Lib.hid (HNO.out rfl rfl)
            go_wp2_with fail
            go_quiet (fail)
            go_wp2_with fail
            go_roundw
            case rel => exact ⟨k + 1, by omega, by go_num, HE, nr + nq, by simp⟩
            case measure => simp [intOf]; omega
          · skip
            have HE := Lib.hid (HNE.out (by simp))
            go_wp2_with fail
            go_quiet (fail)
            go_wp2_with fail
            go_ret
            exact ⟨r_b HE.out.symm, below_drewN (below_drewN L3.out _) _⟩
        · cases q
          · skip
            have HE := Lib.hid (HNE.out (by simp))
            go_wp2_with fail
            go_quiet (fail)
            go_wp2_with fail
            go_ret
            exact ⟨r_b HE.out.symm, below_drewN (below_drewN L3.out _) _⟩
          · skip
            have hye := HYE.out rfl rfl
            obtain ⟨fb, fo, fu, fw, rfl, qf, hf⟩ := FX.out hx
            obtain ⟨gb, go, gu, gw, rfl, qg, hg⟩ := FY.out hy
            have HCQ : Hid (∀ mm, Calls Try.prog 134 #[.slice fu (x.f.getD k []).length fw, .slice gu (y.f.getD k []).length gw] ((w3.drewN nr).drewN mm) fun e w' => e = .returned (.bool (decide (x.f.getD k [] = y.f.getD k []))) ∧ ∃ n, w' = ((w3.drewN nr).drewN mm).drewN n) := fun mm => s_l1Same _ _ _ _ _ ((hf.drewN nr).drewN mm) ((hg.drewN nr).drewN mm) (by have := HLX.out hx; omega)
            have HY1 := Lib.hid hye.1; have HY2 := Lib.hid hye.2
            clear hye hf hg
            generalize (x.f.getD k []).length = lx at *
            generalize (y.f.getD k []).length = ly at *
            by_cases hfe : x.f.getD k [] = y.f.getD k []
            · have HE := Lib.hid (HY1.out hfe)
              have hdq : decide (x.f.getD k [] = y.f.getD k []) = true := decide_eq_true hfe
              rw [hdq] at HCQ
              clear hdq hfe
              go_wp2_with fail
              generalize hwd : w3.drewN nr = wd at *
              have HWD := Lib.hid hwd; clear hwd
              go_quiet ((go_at_call 134; exact Calls.quiet_of (HCQ.out _)))
              go_wp2_with fail
              go_roundw
              case rel => exact ⟨k + 1, by omega, by go_num, HE, nr + nq, by rw [← HWD.out]; simp⟩
              case measure => simp [intOf]; omega
            · have HE := Lib.hid (HY2.out hfe)
              have hdq : decide (x.f.getD k [] = y.f.getD k []) = false := decide_eq_false hfe
              rw [hdq] at HCQ
              clear hdq hfe
              go_wp2_with fail
              generalize hwd : w3.drewN nr = wd at *
              have HWD := Lib.hid hwd; clear hwd
              go_quiet ((go_at_call 134; exact Calls.quiet_of (HCQ.out _)))
              go_wp2_with fail
              go_ret
              exact ⟨r_b HE.out.symm, by rw [← HWD.out]; exact below_drewN (below_drewN L3.out _) _⟩
      · have i2 : ¬ (k : Int) < (m : Int) := by omega
        cases q
        · clear QX QY hpn hqm
          cases p
          · skip
            have HE := Lib.hid (HNO.out rfl rfl)
            go_wp2_with fail
            go_quiet (fail)
            go_wp2_with fail
            go_roundw
            case rel => exact ⟨k + 1, by omega, by go_num, HE, nr + nq, by simp⟩
            case measure => simp [intOf]; omega
          · skip
            have HE := Lib.hid (HNE.out (by simp))
            go_wp2_with fail
            go_quiet (fail)
            go_wp2_with fail
            go_ret
            exact ⟨r_b HE.out.symm, below_drewN (below_drewN L3.out _) _⟩
        · exact absurd (hqm rfl) hy
    · have i1 : ¬ (k : Int) < (n : Int) := by omega
      cases p
      · by_cases hy : k < m
        · obtain ⟨bz, oy, rfl, qy⟩ := QY.out hy
          have i2 : (k : Int) < (m : Int) := by omega
          clear QX QY hpn hqm
          cases q
          · skip
            have HE := Lib.hid (HNO.out rfl rfl)
            go_wp2_with fail
            go_quiet (fail)
            go_wp2_with fail
            go_roundw
            case rel => exact ⟨k + 1, by omega, by go_num, HE, nr + nq, by simp⟩
            case measure => simp [intOf]; omega
          · skip
            have HE := Lib.hid (HNE.out (by simp))
            go_wp2_with fail
            go_quiet (fail)
            go_wp2_with fail
            go_ret
            exact ⟨r_b HE.out.symm, below_drewN (below_drewN L3.out _) _⟩
        · have i2 : ¬ (k : Int) < (m : Int) := by omega
          have HE := Lib.hid (smB_same GX.out HXY.out (by rw [HN.out]; omega) ht.out)
          go_wp2_with fail
          go_ret
          exact ⟨r_b HE.out.symm, below_drewN L3.out _⟩
      · exact absurd (hpn rfl) hx
end Go.Proofs.Ythanckifinfpiaa
namespace Go.Proofs.Ythanckifinfpiaa
open Go.RowKit Ph

set_option maxRecDepth 100000 in
set_option maxHeartbeats 6400000 in
theorem s_SameReached (a1 b1 c1 a2 b2 c2 : Value) (x y : H) (w : World) (hA : HeapAt w a1 b1 c1 x) (hB : HeapAt w a2 b2 c2 y) :
    Calls Try.prog 23 #[hv a1 b1 c1, hv a2 b2 c2] w fun e w' => e = .returned (.tuple #[.bool (sameQ x y), .bool (both x y)]) ∧ Below w.heap.size w w' := by
  have hb0 := (below1 w (.cells (c3 a1 b1 c1) 27)).alloc (by simp) (.cells (c3 a2 b2 c2) 27)
  have A0 := Lib.hid (hA.below hb0); have B0 := Lib.hid (hB.below hb0)
  have HB := Lib.hid hb0
  have P0 := Lib.hid (show RowH _ _ a1 b1 c1 from (Row.new w 27 (c3 a1 b1 c1)).alloc (.cells (c3 a2 b2 c2) 27))
  have Q0 := Lib.hid (show RowH _ (w.heap.size + 1) a2 b2 c2 from Row.new1 w (.cells (c3 a1 b1 c1) 27) 27 (c3 a2 b2 c2))
  have GA := Lib.hid (good_iff (h := x)).1; have GB := Lib.hid (good_iff (h := y)).1
  have h2 : both x y = (good x && good y) := rfl
  have h1 : sameQ x y = ((good x && good y) && sameP x y) := rfl
  have HCA : Hid (∀ w', HeapAt w' a1 b1 c1 x → Calls Try.prog 75 #[hv a1 b1 c1] w' fun e w'' => e = .returned (.bool (good x)) ∧ Below w'.heap.size w' w'') := fun w' h => s_GoodHeap a1 b1 c1 x w' h
  have HCB : Hid (∀ w', HeapAt w' a2 b2 c2 y → Calls Try.prog 75 #[hv a2 b2 c2] w' fun e w'' => e = .returned (.bool (good y)) ∧ Below w'.heap.size w' w'') := fun w' h => s_GoodHeap a2 b2 c2 y w' h
  have p0 := P0.out.c0
  have p1 := P0.out.c1
  have p2 := P0.out.c2
  have q0 := Q0.out.c0
  have q1 := Q0.out.c1
  have q2 := Q0.out.c2
  generalize both x y = r2 at *
  generalize sameQ x y = r1 at *
  generalize good x = gx at *
  generalize good y = gy at *
  cases gx
  · have H1 : Hid (r1 = false) := by unfold Hid; rw [h1]; rfl
    have H2 : Hid (r2 = false) := by unfold Hid; rw [h2]; rfl
    clear h1 h2 hA hB
    go_enter Try.func23, Try.ntmps23
    go_wp2_with (go_at_call 75; refine (HCA.out _ A0.out).mono ?_; rintro e w1 ⟨rfl, hb1⟩; have B1 := Lib.hid (bst HB.out hb1 HB.out.size); clear hb1)
    go_ret2
    exact ⟨r_bb2 H1.out.symm H2.out.symm, B1.out⟩
  · cases gy
    · have H1 : Hid (r1 = false) := by unfold Hid; rw [h1]; rfl
      have H2 : Hid (r2 = false) := by unfold Hid; rw [h2]; rfl
      clear h1 h2 hA hB
      go_enter Try.func23, Try.ntmps23
      go_wp2_with (first
        | (go_at_call 75; refine (HCB.out _ Y1.out).mono ?_; rintro e w2 ⟨rfl, hb2⟩; have B2 := Lib.hid (bst B1.out hb2 B1.out.size); clear hb2)
        | (go_at_call 75; refine (HCA.out _ A0.out).mono ?_; rintro e w1 ⟨rfl, hb1⟩; have B1 := Lib.hid (bst HB.out hb1 HB.out.size); have Y1 := Lib.hid (B0.out.below hb1); have Q1 := Lib.hid (Q0.out.below hb1); have s0 := Q1.out.c0; have s1 := Q1.out.c1; have s2 := Q1.out.c2; clear hb1))
      go_ret2
      exact ⟨r_bb2 H1.out.symm H2.out.symm, B2.out⟩
    · have H2 : Hid (r2 = true) := by unfold Hid; rw [h2]; rfl
      have H1 : Hid (r1 = sameP x y) := by unfold Hid; rw [h1]; rfl
      have GX := Lib.hid (GA.out rfl); have GY := Lib.hid (GB.out rfl)
      clear h1 h2 hA hB
      go_enter Try.func23, Try.ntmps23
      go_wp2_with (first
        | (go_at_call 75; refine (HCB.out _ Y1.out).mono ?_; rintro e w2 ⟨rfl, hb2⟩; have B2 := Lib.hid (bst B1.out hb2 B1.out.size); have X2 := Lib.hid (X1.out.below hb2); have Y2 := Lib.hid (Y1.out.below hb2); have P2 := Lib.hid (P1.out.below hb2); have Q2 := Lib.hid (Q1.out.below hb2); have t0 := P2.out.c0; have t1 := P2.out.c1; have t2 := P2.out.c2; have v0 := Q2.out.c0; have v1 := Q2.out.c1; have v2 := Q2.out.c2; clear hb2)
        | (go_at_call 75; refine (HCA.out _ A0.out).mono ?_; rintro e w1 ⟨rfl, hb1⟩; have B1 := Lib.hid (bst HB.out hb1 HB.out.size); have X1 := Lib.hid (A0.out.below hb1); have Y1 := Lib.hid (B0.out.below hb1); have P1 := Lib.hid (P0.out.below hb1); have Q1 := Lib.hid (Q0.out.below hb1); have s0 := Q1.out.c0; have s1 := Q1.out.c1; have s2 := Q1.out.c2; clear hb1)
        | (go_at_call 85; refine (s_l5Same a1 b1 c1 a2 b2 c2 x y _ X2.out Y2.out GX.out GY.out).mono ?_; rintro e w5 ⟨rfl, hb5⟩; have B5 := Lib.hid (bst B2.out hb5 B2.out.size); clear hb5))
      go_ret2
      exact ⟨r_bb2 H1.out.symm H2.out.symm, B5.out⟩
end Go.Proofs.Ythanckifinfpiaa
namespace Go.Proofs.Ythanckifinfpiaa
open Go.RowKit Ph

theorem keep_row3 {h : H} (g : Ph.Good h) (ks : List Bool) (n : Nat) : ∀ i, ((keepTo h ks n).1.f.getD i []).length ≤ 3 := by
  induction n with
  | zero =>
    intro i
    by_cases hi : i < h.f.length
    · exact (g.row i hi).1
    · show (h.f.getD i []).length ≤ 3
      rw [show h.f.getD i [] = [] by simp [List.getD, List.getElem?_eq_none (Nat.le_of_not_lt hi)]]; simp
  | succ n ih =>
    intro i
    simp only [keepTo, keepStep]
    split
    · simp only
      by_cases q : n < (keepTo h ks n).1.f.length
      · rw [getD_setL q]; split
        · simp
        · exact ih i
      · rw [List.set_eq_of_length_le (by omega)]; exact ih i
    · exact ih i
theorem cleanP_bounds (h : H) : (cleanP h).1.f.length ≤ 1000 ∧ (cleanP h).1.l.length ≤ 1000 ∧ (cleanP h).1.r.length ≤ 1000 ∧ ∀ i, ((cleanP h).1.f.getD i []).length ≤ 1000 := by
  cases hg : good h with
  | false => rw [cleanP_no hg]; exact ⟨by simp, by simp, by simp, fun i => by simp⟩
  | true =>
    have g := good_iff.1 hg
    rw [cleanP_yes hg]
    obtain ⟨e1, e2, e3, _⟩ := keepTo_len h (reachL h.f h.r) h.f.length
    have h1 := g.n; have h2 := g.ll; have h3 := g.rn
    exact ⟨by rw [e1]; omega, by rw [e2]; omega, by rw [e3]; omega, fun i => by have := keep_row3 g (reachL h.f h.r) h.f.length i; omega⟩
theorem EndHI.reads6 {h : H} {n : Int} {ok : Bool} {w w' : World} {e : Ending} (k : EndHI h n ok w e w') : ∃ a b c, e = .returned (.tuple #[hv a b c, .int .i64 n, .bool ok]) ∧ HeapAt w' a b c h ∧ Below w.heap.size w w' := by
  obtain ⟨a, b, c, h1, h2, h3⟩ := k
  exact ⟨a, b, c, h1, h2.reads, h3⟩
theorem EndB.reads6 {bs : List Bool} {ok : Bool} {w w' : World} {e : Ending} (h : EndB bs ok w e w') : ∃ v, e = .returned (.tuple #[v, .bool ok]) ∧ BoolsAt w' v bs ∧ Below w.heap.size w w' := by
  obtain ⟨v, h1, h2, h3⟩ := h
  exact ⟨v, h1, h2.reads.l, h3⟩
set_option maxHeartbeats 12800000 in
set_option maxRecDepth 100000 in
theorem walk_FnCleaned (v0 : Value) (z0 : List Int) (v1 : Value) (z1 : List Int) (w : World) (hz0 : BytesAt w v0 z0) (hz1 : BytesAt w v1 z1) : Calls Try.prog 3 #[v0, v1] w fun e w' => e = .returned (.bool true) ∧ Below w.heap.size w w' := by
  obtain ⟨_, _, a0, ca0, hv0, _⟩ := id hz0
  obtain ⟨_, _, a2, ca2, hv2, _⟩ := id hz1
  have HZ := Lib.hid hz0; have M1 := Lib.hid hz1; clear hz0 hz1
  subst hv0
  subst hv2
  generalize hn : z0.length = n at *
  generalize hn2 : z1.length = n2 at *
  clear hn hn2
  by_cases hm : 1048576 < Go.RowKit.wrap64 ((n : Int) + (n2 : Int))
  · go_enter Try.func3, Try.ntmps3
    go_wp2
    go_ret
    exact ⟨rfl, Below.refl _ _⟩
  have L := Lib.hid (Below.refl w.heap.size w)
  go_enter Try.func3, Try.ntmps3
  go_wp2_with fail
  refine (d_CleanHeap _ z0 _ HZ.out).mono ?_
  rintro e w1 ⟨a, b, cc, h, rfl, hsh, hA, hb⟩
  clear HZ
  obtain ⟨paH, qaH, rfl⟩ := hA.f.shape
  obtain ⟨pbH, qbH, rfl⟩ := hA.l.shape
  obtain ⟨pcH, qcH, rfl⟩ := hA.r.shape
  have HA := Lib.hid hA
  have FS := Lib.hid (clean_facts (h := h))
  have HSN := Lib.hid hsh.n; have HSR := Lib.hid hsh.row
  have HBS : Hid (∀ X : H, X = (cleanP h).1 → X.f.length ≤ 1000 ∧ X.l.length ≤ 1000 ∧ X.r.length ≤ 1000 ∧ ∀ i, (X.f.getD i []).length ≤ 1000) := fun X q => by rw [q]; exact cleanP_bounds h
  have HBR : Hid ((reachR h).length ≤ 9223372036854775806) := by unfold Hid; have := reachR_len h; omega
  have HC1 := Lib.hid (fun w' q1 => c_CleanHeap (.slice paH h.f.length qaH) (.slice pbH h.l.length qbH) (.slice pcH h.r.length qcH) h w' q1)
  have HC2 := Lib.hid (fun w' q1 => s_CleanHeap (.slice paH h.f.length qaH) (.slice pbH h.l.length qbH) (.slice pcH h.r.length qcH) h w' q1)
  have HR1 := Lib.hid (fun w' q1 => c_ReachedIn (.slice paH h.f.length qaH) (.slice pbH h.l.length qbH) (.slice pcH h.r.length qcH) h w' q1)
  have HR2 := Lib.hid (fun w' q1 => s_ReachedIn (.slice paH h.f.length qaH) (.slice pbH h.l.length qbH) (.slice pcH h.r.length qcH) h w' q1)
  have HG1 := Lib.hid (fun w' q1 => c_GoodHeap (.slice paH h.f.length qaH) (.slice pbH h.l.length qbH) (.slice pcH h.r.length qcH) h w' q1)
  have HSM := Lib.hid (fun a b c w' q1 q2 => c_SameReached (.slice paH h.f.length qaH) (.slice pbH h.l.length qbH) (.slice pcH h.r.length qcH) a b c h (cleanP h).1 w' q1 q2)
  clear hA hsh
  generalize (cleanP h).1 = s at *
  generalize ((cleanP h).2 : Int) = n1 at *
  generalize reachR h = rb at *
  generalize good h = ok at *
  generalize hfl : h.f.length = nfH at *
  have HFL := Lib.hid hfl; clear hfl
  generalize h.l.length = nlH at *
  generalize h.r.length = nrH at *
  obtain ⟨nfS, hnf⟩ : ∃ q, s.f.length = q := ⟨_, rfl⟩
  obtain ⟨nlS, hnl⟩ : ∃ q, s.l.length = q := ⟨_, rfl⟩
  obtain ⟨nrS, hnr⟩ : ∃ q, s.r.length = q := ⟨_, rfl⟩
  obtain ⟨nB, hnb⟩ : ∃ q, rb.length = q := ⟨_, rfl⟩
  have NSf := Lib.hid hnf; have NSl := Lib.hid hnl; have NSr := Lib.hid hnr; have NB := Lib.hid hnb
  clear hnf hnl hnr hnb
  replace M1 := Lib.hid (M1.out.below hb)
  replace L := Lib.hid (bst L.out hb L.out.size)
  clear hb
  have hbq := below1 w1 (.cells (c3 (.slice paH nfH qaH) (.slice pbH nlH qbH) (.slice pcH nrH qcH)) 27)
  replace M1 := Lib.hid (M1.out.below hbq)
  replace HA := Lib.hid (HA.out.below hbq)
  replace L := Lib.hid (bst L.out hbq L.out.size)
  clear hbq
  have VH := Lib.hid (show RowH _ _ _ _ _ from Row.new w1 27 (c3 (.slice paH nfH qaH) (.slice pbH nlH qbH) (.slice pcH nrH qcH)))
  have c0VH := VH.out.c0
  have c1VH := VH.out.c1
  have c2VH := VH.out.c2
  go_wp2_with fail
  clear c0VH c1VH c2VH
  refine (HC1.out _ HA.out).mono ?_
  intro e w2 hend
  obtain ⟨aG, bG, cG, rfl, hiG, hb⟩ := hend.reads6
  clear hend
  obtain ⟨paG, qaG, rfl⟩ := hiG.f.shape
  obtain ⟨pbG, qbG, rfl⟩ := hiG.l.shape
  obtain ⟨pcG, qcG, rfl⟩ := hiG.r.shape
  replace M1 := Lib.hid (M1.out.below hb)
  replace HA := Lib.hid (HA.out.below hb)
  replace VH := Lib.hid (VH.out.below hb)
  replace L := Lib.hid (bst L.out hb L.out.size)
  have IG := Lib.hid hiG
  clear hb hiG
  simp only [NSf.out, NSl.out, NSr.out] at IG ⊢
  have hbq := below1 w2 (.cells (c3 (.slice paG nfS qaG) (.slice pbG nlS qbG) (.slice pcG nrS qcG)) 27)
  replace M1 := Lib.hid (M1.out.below hbq)
  replace HA := Lib.hid (HA.out.below hbq)
  replace VH := Lib.hid (VH.out.below hbq)
  replace IG := Lib.hid (IG.out.below hbq)
  replace L := Lib.hid (bst L.out hbq L.out.size)
  clear hbq
  have VG := Lib.hid (show RowH _ _ _ _ _ from Row.new w2 27 (c3 (.slice paG nfS qaG) (.slice pbG nlS qbG) (.slice pcG nrS qcG)))
  have c0VH := VH.out.c0
  have c1VH := VH.out.c1
  have c2VH := VH.out.c2
  go_wp2_with fail
  clear c0VH c1VH c2VH
  refine (HC2.out _ HA.out).mono ?_
  intro e w3 hend
  obtain ⟨aW, bW, cW, rfl, hiW, hb⟩ := hend.reads6
  clear hend
  obtain ⟨paW, qaW, rfl⟩ := hiW.f.shape
  obtain ⟨pbW, qbW, rfl⟩ := hiW.l.shape
  obtain ⟨pcW, qcW, rfl⟩ := hiW.r.shape
  replace M1 := Lib.hid (M1.out.below hb)
  replace HA := Lib.hid (HA.out.below hb)
  replace VH := Lib.hid (VH.out.below hb)
  replace IG := Lib.hid (IG.out.below hb)
  replace VG := Lib.hid (VG.out.below hb)
  replace L := Lib.hid (bst L.out hb L.out.size)
  have IW := Lib.hid hiW
  clear hb hiW
  simp only [NSf.out, NSl.out, NSr.out] at IW ⊢
  have hbq := below1 w3 (.cells (c3 (.slice paW nfS qaW) (.slice pbW nlS qbW) (.slice pcW nrS qcW)) 27)
  replace M1 := Lib.hid (M1.out.below hbq)
  replace HA := Lib.hid (HA.out.below hbq)
  replace VH := Lib.hid (VH.out.below hbq)
  replace IG := Lib.hid (IG.out.below hbq)
  replace VG := Lib.hid (VG.out.below hbq)
  replace IW := Lib.hid (IW.out.below hbq)
  replace L := Lib.hid (bst L.out hbq L.out.size)
  clear hbq
  have VW := Lib.hid (show RowH _ _ _ _ _ from Row.new w3 27 (c3 (.slice paW nfS qaW) (.slice pbW nlS qbW) (.slice pcW nrS qcW)))
  have c0VH := VH.out.c0
  have c1VH := VH.out.c1
  have c2VH := VH.out.c2
  go_wp2_with fail
  clear c0VH c1VH c2VH
  refine (HR1.out _ HA.out).mono ?_
  intro e w4 hend
  obtain ⟨vP, rfl, hiP, hb⟩ := hend.reads6
  clear hend
  obtain ⟨pP, qP, rfl⟩ := hiP.shape
  replace M1 := Lib.hid (M1.out.below hb)
  replace HA := Lib.hid (HA.out.below hb)
  replace VH := Lib.hid (VH.out.below hb)
  replace IG := Lib.hid (IG.out.below hb)
  replace VG := Lib.hid (VG.out.below hb)
  replace IW := Lib.hid (IW.out.below hb)
  replace VW := Lib.hid (VW.out.below hb)
  replace L := Lib.hid (bst L.out hb L.out.size)
  have BP := Lib.hid hiP
  clear hb hiP
  simp only [NB.out] at BP ⊢
  have c0VH := VH.out.c0
  have c1VH := VH.out.c1
  have c2VH := VH.out.c2
  go_wp2_with fail
  clear c0VH c1VH c2VH
  refine (HR2.out _ HA.out).mono ?_
  intro e w5 hend
  obtain ⟨vQ, rfl, hiQ, hb⟩ := hend.reads6
  clear hend
  obtain ⟨pQ, qQ, rfl⟩ := hiQ.shape
  replace M1 := Lib.hid (M1.out.below hb)
  replace HA := Lib.hid (HA.out.below hb)
  replace VH := Lib.hid (VH.out.below hb)
  replace IG := Lib.hid (IG.out.below hb)
  replace VG := Lib.hid (VG.out.below hb)
  replace IW := Lib.hid (IW.out.below hb)
  replace VW := Lib.hid (VW.out.below hb)
  replace BP := Lib.hid (BP.out.below hb)
  replace L := Lib.hid (bst L.out hb L.out.size)
  have BQ := Lib.hid hiQ
  clear hb hiQ
  simp only [NB.out] at BQ ⊢
  have e1 : (ok != ok) = false := by simp
  have e2 : (n1 != n1) = false := by simp
  have c0VG := VG.out.c0
  have c1VG := VG.out.c1
  have c2VG := VG.out.c2
  have c0VW := VW.out.c0
  have c1VW := VW.out.c1
  have c2VW := VW.out.c2
  go_wp2_with fail
  clear c0VG c1VG c2VG c0VW c1VW c2VW
  obtain ⟨u1, u2, u3, u4⟩ := HBS.out _ rfl
  refine (c_sameHeap _ _ _ _ _ _ s _ IG.out IW.out u1 u2 u3 u4).mono ?_
  clear u1 u2 u3 u4
  rintro e w6 ⟨rfl, hb⟩
  replace M1 := Lib.hid (M1.out.below hb)
  replace HA := Lib.hid (HA.out.below hb)
  replace VH := Lib.hid (VH.out.below hb)
  replace IG := Lib.hid (IG.out.below hb)
  replace VG := Lib.hid (VG.out.below hb)
  replace IW := Lib.hid (IW.out.below hb)
  replace VW := Lib.hid (VW.out.below hb)
  replace BP := Lib.hid (BP.out.below hb)
  replace BQ := Lib.hid (BQ.out.below hb)
  replace L := Lib.hid (bst L.out hb L.out.size)
  clear hb
  go_wp2_with fail
  refine (c_sameBools _ _ rb _ BP.out BQ.out (by have := HBR.out; have := NB.out; omega)).mono ?_
  rintro e w7 ⟨rfl, nd, hnd⟩
  have hb : Below w6.heap.size w6 w7 := by rw [hnd]; exact below_drewN (Below.refl _ _) nd
  clear hnd
  replace M1 := Lib.hid (M1.out.below hb)
  replace HA := Lib.hid (HA.out.below hb)
  replace VH := Lib.hid (VH.out.below hb)
  replace IG := Lib.hid (IG.out.below hb)
  replace VG := Lib.hid (VG.out.below hb)
  replace IW := Lib.hid (IW.out.below hb)
  replace VW := Lib.hid (VW.out.below hb)
  replace BP := Lib.hid (BP.out.below hb)
  replace BQ := Lib.hid (BQ.out.below hb)
  replace L := Lib.hid (bst L.out hb L.out.size)
  clear hb nd
  have c0VH := VH.out.c0
  have c1VH := VH.out.c1
  have c2VH := VH.out.c2
  go_wp2_with fail
  clear c0VH c1VH c2VH
  refine (HG1.out _ HA.out).mono ?_
  rintro e w8 ⟨rfl, hb⟩
  replace M1 := Lib.hid (M1.out.below hb)
  replace HA := Lib.hid (HA.out.below hb)
  replace VH := Lib.hid (VH.out.below hb)
  replace IG := Lib.hid (IG.out.below hb)
  replace VG := Lib.hid (VG.out.below hb)
  replace IW := Lib.hid (IW.out.below hb)
  replace VW := Lib.hid (VW.out.below hb)
  replace BP := Lib.hid (BP.out.below hb)
  replace BQ := Lib.hid (BQ.out.below hb)
  replace L := Lib.hid (bst L.out hb L.out.size)
  clear hb
  cases ok
  · skip
    go_wp2_with fail
    refine (d_SameReached _ z1 _ M1.out).mono ?_
    rintro e x1a ⟨aU, bU, cU, hU, aV, bV, cV, hV, rfl, hAU, hAV, hb⟩
    obtain ⟨paU, qaU, rfl⟩ := hAU.f.shape
    obtain ⟨pbU, qbU, rfl⟩ := hAU.l.shape
    obtain ⟨pcU, qcU, rfl⟩ := hAU.r.shape
    obtain ⟨paV, qaV, rfl⟩ := hAV.f.shape
    obtain ⟨pbV, qbV, rfl⟩ := hAV.l.shape
    obtain ⟨pcV, qcV, rfl⟩ := hAV.r.shape
    replace M1 := Lib.hid (M1.out.below hb)
    replace HA := Lib.hid (HA.out.below hb)
    replace VH := Lib.hid (VH.out.below hb)
    replace IG := Lib.hid (IG.out.below hb)
    replace VG := Lib.hid (VG.out.below hb)
    replace IW := Lib.hid (IW.out.below hb)
    replace VW := Lib.hid (VW.out.below hb)
    replace BP := Lib.hid (BP.out.below hb)
    replace BQ := Lib.hid (BQ.out.below hb)
    replace L := Lib.hid (bst L.out hb L.out.size)
    have HU := Lib.hid hAU; have HV := Lib.hid hAV
    have HS1 := Lib.hid (fun w' q1 q2 => c_SameReached (.slice paU hU.f.length qaU) (.slice pbU hU.l.length qbU) (.slice pcU hU.r.length qcU) (.slice paV hV.f.length qaV) (.slice pbV hV.l.length qbV) (.slice pcV hV.r.length qcV) hU hV w' q1 q2)
    have HS2 := Lib.hid (fun w' q1 q2 => s_SameReached (.slice paU hU.f.length qaU) (.slice pbU hU.l.length qbU) (.slice pcU hU.r.length qcU) (.slice paV hV.f.length qaV) (.slice pbV hV.l.length qbV) (.slice pcV hV.r.length qcV) hU hV w' q1 q2)
    clear hb hAU hAV
    generalize sameQ hU hV = sq at *
    generalize Ph.both hU hV = bo at *
    generalize hU.f.length = nfU at *
    generalize hU.l.length = nlU at *
    generalize hU.r.length = nrU at *
    generalize hV.f.length = nfV at *
    generalize hV.l.length = nlV at *
    generalize hV.r.length = nrV at *
    have hbq := (below1 x1a (.cells (c3 (.slice paU nfU qaU) (.slice pbU nlU qbU) (.slice pcU nrU qcU)) 27)).alloc (by simp) (.cells (c3 (.slice paV nfV qaV) (.slice pbV nlV qbV) (.slice pcV nrV qcV)) 27)
    replace M1 := Lib.hid (M1.out.below hbq)
    replace HA := Lib.hid (HA.out.below hbq)
    replace VH := Lib.hid (VH.out.below hbq)
    replace IG := Lib.hid (IG.out.below hbq)
    replace VG := Lib.hid (VG.out.below hbq)
    replace IW := Lib.hid (IW.out.below hbq)
    replace VW := Lib.hid (VW.out.below hbq)
    replace BP := Lib.hid (BP.out.below hbq)
    replace BQ := Lib.hid (BQ.out.below hbq)
    replace HU := Lib.hid (HU.out.below hbq)
    replace HV := Lib.hid (HV.out.below hbq)
    replace L := Lib.hid (bst L.out hbq L.out.size)
    clear hbq
    have VU := Lib.hid (show RowH ((x1a.alloc (.cells (c3 (.slice paU nfU qaU) (.slice pbU nlU qbU) (.slice pcU nrU qcU)) 27)).alloc (.cells (c3 (.slice paV nfV qaV) (.slice pbV nlV qbV) (.slice pcV nrV qcV)) 27)) x1a.heap.size _ _ _ from (Row.new x1a 27 (c3 (.slice paU nfU qaU) (.slice pbU nlU qbU) (.slice pcU nrU qcU))).alloc (.cells (c3 (.slice paV nfV qaV) (.slice pbV nlV qbV) (.slice pcV nrV qcV)) 27))
    have VV := Lib.hid (show RowH ((x1a.alloc (.cells (c3 (.slice paU nfU qaU) (.slice pbU nlU qbU) (.slice pcU nrU qcU)) 27)).alloc (.cells (c3 (.slice paV nfV qaV) (.slice pbV nlV qbV) (.slice pcV nrV qcV)) 27)) (x1a.heap.size + 1) _ _ _ from Row.new1 x1a (.cells (c3 (.slice paU nfU qaU) (.slice pbU nlU qbU) (.slice pcU nrU qcU)) 27) 27 (c3 (.slice paV nfV qaV) (.slice pbV nlV qbV) (.slice pcV nrV qcV)))
    have c0VU := VU.out.c0
    have c1VU := VU.out.c1
    have c2VU := VU.out.c2
    have c0VV := VV.out.c0
    have c1VV := VV.out.c1
    have c2VV := VV.out.c2
    go_wp2_with fail
    clear c0VU c1VU c2VU c0VV c1VV c2VV
    refine (HS1.out _ HU.out HV.out).mono ?_
    rintro e x2a ⟨rfl, hb⟩
    replace M1 := Lib.hid (M1.out.below hb)
    replace HA := Lib.hid (HA.out.below hb)
    replace VH := Lib.hid (VH.out.below hb)
    replace IG := Lib.hid (IG.out.below hb)
    replace VG := Lib.hid (VG.out.below hb)
    replace IW := Lib.hid (IW.out.below hb)
    replace VW := Lib.hid (VW.out.below hb)
    replace BP := Lib.hid (BP.out.below hb)
    replace BQ := Lib.hid (BQ.out.below hb)
    replace HU := Lib.hid (HU.out.below hb)
    replace HV := Lib.hid (HV.out.below hb)
    replace VU := Lib.hid (VU.out.below hb)
    replace VV := Lib.hid (VV.out.below hb)
    replace L := Lib.hid (bst L.out hb L.out.size)
    clear hb
    have c0VU := VU.out.c0
    have c1VU := VU.out.c1
    have c2VU := VU.out.c2
    have c0VV := VV.out.c0
    have c1VV := VV.out.c1
    have c2VV := VV.out.c2
    go_wp2_with fail
    clear c0VU c1VU c2VU c0VV c1VV c2VV
    refine (HS2.out _ HU.out HV.out).mono ?_
    rintro e x3a ⟨rfl, hb⟩
    replace M1 := Lib.hid (M1.out.below hb)
    replace HA := Lib.hid (HA.out.below hb)
    replace VH := Lib.hid (VH.out.below hb)
    replace IG := Lib.hid (IG.out.below hb)
    replace VG := Lib.hid (VG.out.below hb)
    replace IW := Lib.hid (IW.out.below hb)
    replace VW := Lib.hid (VW.out.below hb)
    replace BP := Lib.hid (BP.out.below hb)
    replace BQ := Lib.hid (BQ.out.below hb)
    replace HU := Lib.hid (HU.out.below hb)
    replace HV := Lib.hid (HV.out.below hb)
    replace VU := Lib.hid (VU.out.below hb)
    replace VV := Lib.hid (VV.out.below hb)
    replace L := Lib.hid (bst L.out hb L.out.size)
    clear hb
    go_wp2_with fail
    refine (d_ReachFrom _ z1 _ M1.out).mono ?_
    rintro e x4a ⟨aT, bT, cT, hT, vF, lF, rfl, hshT, hlF, hAT, hIF, hb⟩
    obtain ⟨paT, qaT, rfl⟩ := hAT.f.shape
    obtain ⟨pbT, qbT, rfl⟩ := hAT.l.shape
    obtain ⟨pcT, qcT, rfl⟩ := hAT.r.shape
    obtain ⟨pF, qF, rfl⟩ := hIF.shape
    replace M1 := Lib.hid (M1.out.below hb)
    replace HA := Lib.hid (HA.out.below hb)
    replace VH := Lib.hid (VH.out.below hb)
    replace IG := Lib.hid (IG.out.below hb)
    replace VG := Lib.hid (VG.out.below hb)
    replace IW := Lib.hid (IW.out.below hb)
    replace VW := Lib.hid (VW.out.below hb)
    replace BP := Lib.hid (BP.out.below hb)
    replace BQ := Lib.hid (BQ.out.below hb)
    replace HU := Lib.hid (HU.out.below hb)
    replace HV := Lib.hid (HV.out.below hb)
    replace VU := Lib.hid (VU.out.below hb)
    replace VV := Lib.hid (VV.out.below hb)
    replace L := Lib.hid (bst L.out hb L.out.size)
    have HT := Lib.hid hAT; have HI := Lib.hid hIF
    have HF1 := Lib.hid (fun w' q1 q2 => c_ReachFrom (.slice paT hT.f.length qaT) (.slice pbT hT.l.length qbT) (.slice pcT hT.r.length qcT) (.slice pF lF.length qF) hT lF w' q1 q2)
    have HF2 := Lib.hid (fun w' q1 q2 => s_ReachFrom (.slice paT hT.f.length qaT) (.slice pbT hT.l.length qbT) (.slice pcT hT.r.length qcT) (.slice pF lF.length qF) hT lF w' q1 q2)
    have HFB : Hid ((reachF hT lF).length ≤ 9223372036854775806) := by unfold Hid; have := reachF_len hT lF; omega
    clear hb hAT hIF hshT hlF
    generalize reachF hT lF = fb at *
    generalize fromOk hT lF = fo at *
    generalize hT.f.length = nfT at *
    generalize hT.l.length = nlT at *
    generalize hT.r.length = nrT at *
    generalize lF.length = nF at *
    obtain ⟨nR, hnr⟩ : ∃ q, fb.length = q := ⟨_, rfl⟩
    have NR := Lib.hid hnr
    clear hnr
    have hbq := below1 x4a (.cells (c3 (.slice paT nfT qaT) (.slice pbT nlT qbT) (.slice pcT nrT qcT)) 27)
    replace M1 := Lib.hid (M1.out.below hbq)
    replace HA := Lib.hid (HA.out.below hbq)
    replace VH := Lib.hid (VH.out.below hbq)
    replace IG := Lib.hid (IG.out.below hbq)
    replace VG := Lib.hid (VG.out.below hbq)
    replace IW := Lib.hid (IW.out.below hbq)
    replace VW := Lib.hid (VW.out.below hbq)
    replace BP := Lib.hid (BP.out.below hbq)
    replace BQ := Lib.hid (BQ.out.below hbq)
    replace HU := Lib.hid (HU.out.below hbq)
    replace HV := Lib.hid (HV.out.below hbq)
    replace VU := Lib.hid (VU.out.below hbq)
    replace VV := Lib.hid (VV.out.below hbq)
    replace HT := Lib.hid (HT.out.below hbq)
    replace HI := Lib.hid (HI.out.below hbq)
    replace L := Lib.hid (bst L.out hbq L.out.size)
    clear hbq
    have VT := Lib.hid (show RowH _ _ _ _ _ from Row.new x4a 27 (c3 (.slice paT nfT qaT) (.slice pbT nlT qbT) (.slice pcT nrT qcT)))
    have c0VT := VT.out.c0
    have c1VT := VT.out.c1
    have c2VT := VT.out.c2
    go_wp2_with fail
    clear c0VT c1VT c2VT
    refine (HF1.out _ HT.out HI.out).mono ?_
    intro e x5a hend
    obtain ⟨vX, rfl, hiX, hb⟩ := hend.reads6
    clear hend
    obtain ⟨pX, qX, rfl⟩ := hiX.shape
    replace M1 := Lib.hid (M1.out.below hb)
    replace HA := Lib.hid (HA.out.below hb)
    replace VH := Lib.hid (VH.out.below hb)
    replace IG := Lib.hid (IG.out.below hb)
    replace VG := Lib.hid (VG.out.below hb)
    replace IW := Lib.hid (IW.out.below hb)
    replace VW := Lib.hid (VW.out.below hb)
    replace BP := Lib.hid (BP.out.below hb)
    replace BQ := Lib.hid (BQ.out.below hb)
    replace HU := Lib.hid (HU.out.below hb)
    replace HV := Lib.hid (HV.out.below hb)
    replace VU := Lib.hid (VU.out.below hb)
    replace VV := Lib.hid (VV.out.below hb)
    replace HT := Lib.hid (HT.out.below hb)
    replace HI := Lib.hid (HI.out.below hb)
    replace VT := Lib.hid (VT.out.below hb)
    replace L := Lib.hid (bst L.out hb L.out.size)
    have BX := Lib.hid hiX
    clear hb hiX
    simp only [NR.out] at BX ⊢
    have c0VT := VT.out.c0
    have c1VT := VT.out.c1
    have c2VT := VT.out.c2
    go_wp2_with fail
    clear c0VT c1VT c2VT
    refine (HF2.out _ HT.out HI.out).mono ?_
    intro e x6a hend
    obtain ⟨vY, rfl, hiY, hb⟩ := hend.reads6
    clear hend
    obtain ⟨pY, qY, rfl⟩ := hiY.shape
    replace M1 := Lib.hid (M1.out.below hb)
    replace HA := Lib.hid (HA.out.below hb)
    replace VH := Lib.hid (VH.out.below hb)
    replace IG := Lib.hid (IG.out.below hb)
    replace VG := Lib.hid (VG.out.below hb)
    replace IW := Lib.hid (IW.out.below hb)
    replace VW := Lib.hid (VW.out.below hb)
    replace BP := Lib.hid (BP.out.below hb)
    replace BQ := Lib.hid (BQ.out.below hb)
    replace HU := Lib.hid (HU.out.below hb)
    replace HV := Lib.hid (HV.out.below hb)
    replace VU := Lib.hid (VU.out.below hb)
    replace VV := Lib.hid (VV.out.below hb)
    replace HT := Lib.hid (HT.out.below hb)
    replace HI := Lib.hid (HI.out.below hb)
    replace VT := Lib.hid (VT.out.below hb)
    replace BX := Lib.hid (BX.out.below hb)
    replace L := Lib.hid (bst L.out hb L.out.size)
    have BY := Lib.hid hiY
    clear hb hiY
    simp only [NR.out] at BY ⊢
    have e3 : (bo == bo) = true := by simp
    have e4 : (sq == sq) = true := by simp
    have e5 : (fo == fo) = true := by simp
    go_wp2_with fail
    refine (c_sameBools _ _ fb _ BX.out BY.out (by have := HFB.out; have := NR.out; omega)).mono ?_
    rintro e x7a ⟨rfl, nd, hnd⟩
    have hb : Below x6a.heap.size x6a x7a := by rw [hnd]; exact below_drewN (Below.refl _ _) nd
    clear hnd
    replace M1 := Lib.hid (M1.out.below hb)
    replace HA := Lib.hid (HA.out.below hb)
    replace VH := Lib.hid (VH.out.below hb)
    replace IG := Lib.hid (IG.out.below hb)
    replace VG := Lib.hid (VG.out.below hb)
    replace IW := Lib.hid (IW.out.below hb)
    replace VW := Lib.hid (VW.out.below hb)
    replace BP := Lib.hid (BP.out.below hb)
    replace BQ := Lib.hid (BQ.out.below hb)
    replace HU := Lib.hid (HU.out.below hb)
    replace HV := Lib.hid (HV.out.below hb)
    replace VU := Lib.hid (VU.out.below hb)
    replace VV := Lib.hid (VV.out.below hb)
    replace HT := Lib.hid (HT.out.below hb)
    replace HI := Lib.hid (HI.out.below hb)
    replace VT := Lib.hid (VT.out.below hb)
    replace BX := Lib.hid (BX.out.below hb)
    replace BY := Lib.hid (BY.out.below hb)
    replace L := Lib.hid (bst L.out hb L.out.size)
    clear hb nd
    go_wp2_with fail
    go_ret
    exact ⟨rfl, L.out⟩
  obtain ⟨g1, g2, g3, g4, g5, g6, g7, g8⟩ := FS.out rfl
  have HC3 := Lib.hid (fun w' q1 => c_ReachedIn (.slice paG nfS qaG) (.slice pbG nlS qbG) (.slice pcG nrS qcG) s w' q1)
  have HC4 := Lib.hid (fun w' q1 => c_CleanHeap (.slice paG nfS qaG) (.slice pbG nlS qbG) (.slice pcG nrS qcG) s w' q1)
  have HC5 := Lib.hid (fun w' q1 => c_GoodHeap (.slice paG nfS qaG) (.slice pbG nlS qbG) (.slice pcG nrS qcG) s w' q1)
  rw [g2, g3] at HSM
  rw [g4, g1] at HC3
  rw [g1, g6] at HC4
  rw [g1] at HC5
  have G5 := Lib.hid g5; have G7 := Lib.hid g7; have G8 := Lib.hid g8
  clear g1 g2 g3 g4 g5 g6 g7 g8 FS
  generalize (cleanP s).1 = s2 at *
  obtain ⟨nf2, hnf⟩ : ∃ q, s2.f.length = q := ⟨_, rfl⟩
  obtain ⟨nl2, hnl⟩ : ∃ q, s2.l.length = q := ⟨_, rfl⟩
  obtain ⟨nr2, hnr⟩ : ∃ q, s2.r.length = q := ⟨_, rfl⟩
  have N2f := Lib.hid hnf; have N2l := Lib.hid hnl; have N2r := Lib.hid hnr
  clear hnf hnl hnr
  have c0VH := VH.out.c0
  have c1VH := VH.out.c1
  have c2VH := VH.out.c2
  have c0VG := VG.out.c0
  have c1VG := VG.out.c1
  have c2VG := VG.out.c2
  go_wp2_with fail
  clear c0VH c1VH c2VH c0VG c1VG c2VG
  refine (HSM.out _ _ _ _ HA.out IG.out).mono ?_
  rintro e w9 ⟨rfl, hb⟩
  replace M1 := Lib.hid (M1.out.below hb)
  replace HA := Lib.hid (HA.out.below hb)
  replace VH := Lib.hid (VH.out.below hb)
  replace IG := Lib.hid (IG.out.below hb)
  replace VG := Lib.hid (VG.out.below hb)
  replace IW := Lib.hid (IW.out.below hb)
  replace VW := Lib.hid (VW.out.below hb)
  replace BP := Lib.hid (BP.out.below hb)
  replace BQ := Lib.hid (BQ.out.below hb)
  replace L := Lib.hid (bst L.out hb L.out.size)
  clear hb
  have c0VG := VG.out.c0
  have c1VG := VG.out.c1
  have c2VG := VG.out.c2
  go_wp2_with fail
  clear c0VG c1VG c2VG
  refine (HC3.out _ IG.out).mono ?_
  intro e w10 hend
  obtain ⟨vC, rfl, hiC, hb⟩ := hend.reads6
  clear hend
  obtain ⟨pC, qC, rfl⟩ := hiC.shape
  replace M1 := Lib.hid (M1.out.below hb)
  replace HA := Lib.hid (HA.out.below hb)
  replace VH := Lib.hid (VH.out.below hb)
  replace IG := Lib.hid (IG.out.below hb)
  replace VG := Lib.hid (VG.out.below hb)
  replace IW := Lib.hid (IW.out.below hb)
  replace VW := Lib.hid (VW.out.below hb)
  replace BP := Lib.hid (BP.out.below hb)
  replace BQ := Lib.hid (BQ.out.below hb)
  replace L := Lib.hid (bst L.out hb L.out.size)
  have BC := Lib.hid hiC
  clear hb hiC
  simp only [NB.out] at BC ⊢
  have c0VG := VG.out.c0
  have c1VG := VG.out.c1
  have c2VG := VG.out.c2
  go_wp2_with fail
  clear c0VG c1VG c2VG
  refine (HC4.out _ IG.out).mono ?_
  intro e w11 hend
  obtain ⟨aD, bD, cD, rfl, hiD, hb⟩ := hend.reads6
  clear hend
  obtain ⟨paD, qaD, rfl⟩ := hiD.f.shape
  obtain ⟨pbD, qbD, rfl⟩ := hiD.l.shape
  obtain ⟨pcD, qcD, rfl⟩ := hiD.r.shape
  replace M1 := Lib.hid (M1.out.below hb)
  replace HA := Lib.hid (HA.out.below hb)
  replace VH := Lib.hid (VH.out.below hb)
  replace IG := Lib.hid (IG.out.below hb)
  replace VG := Lib.hid (VG.out.below hb)
  replace IW := Lib.hid (IW.out.below hb)
  replace VW := Lib.hid (VW.out.below hb)
  replace BP := Lib.hid (BP.out.below hb)
  replace BQ := Lib.hid (BQ.out.below hb)
  replace BC := Lib.hid (BC.out.below hb)
  replace L := Lib.hid (bst L.out hb L.out.size)
  have ID := Lib.hid hiD
  clear hb hiD
  simp only [N2f.out, N2l.out, N2r.out] at ID ⊢
  have hbq := below1 w11 (.cells (c3 (.slice paD nf2 qaD) (.slice pbD nl2 qbD) (.slice pcD nr2 qcD)) 27)
  replace M1 := Lib.hid (M1.out.below hbq)
  replace HA := Lib.hid (HA.out.below hbq)
  replace VH := Lib.hid (VH.out.below hbq)
  replace IG := Lib.hid (IG.out.below hbq)
  replace VG := Lib.hid (VG.out.below hbq)
  replace IW := Lib.hid (IW.out.below hbq)
  replace VW := Lib.hid (VW.out.below hbq)
  replace BP := Lib.hid (BP.out.below hbq)
  replace BQ := Lib.hid (BQ.out.below hbq)
  replace BC := Lib.hid (BC.out.below hbq)
  replace ID := Lib.hid (ID.out.below hbq)
  replace L := Lib.hid (bst L.out hbq L.out.size)
  clear hbq
  have VD := Lib.hid (show RowH _ _ _ _ _ from Row.new w11 27 (c3 (.slice paD nf2 qaD) (.slice pbD nl2 qbD) (.slice pcD nr2 qcD)))
  have e6 : (((0 : Nat) : Int) != 0) = false := by simp
  have c0VG := VG.out.c0
  have c1VG := VG.out.c1
  have c2VG := VG.out.c2
  go_wp2_with fail
  clear c0VG c1VG c2VG
  refine (HC5.out _ IG.out).mono ?_
  rintro e w12 ⟨rfl, hb⟩
  replace M1 := Lib.hid (M1.out.below hb)
  replace HA := Lib.hid (HA.out.below hb)
  replace VH := Lib.hid (VH.out.below hb)
  replace IG := Lib.hid (IG.out.below hb)
  replace VG := Lib.hid (VG.out.below hb)
  replace IW := Lib.hid (IW.out.below hb)
  replace VW := Lib.hid (VW.out.below hb)
  replace BP := Lib.hid (BP.out.below hb)
  replace BQ := Lib.hid (BQ.out.below hb)
  replace BC := Lib.hid (BC.out.below hb)
  replace ID := Lib.hid (ID.out.below hb)
  replace VD := Lib.hid (VD.out.below hb)
  replace L := Lib.hid (bst L.out hb L.out.size)
  clear hb
  go_wp2_with fail
  refine (c_sameBools _ _ rb _ BC.out BP.out (by have := HBR.out; have := NB.out; omega)).mono ?_
  rintro e w13 ⟨rfl, nd, hnd⟩
  have hb : Below w12.heap.size w12 w13 := by rw [hnd]; exact below_drewN (Below.refl _ _) nd
  clear hnd
  replace M1 := Lib.hid (M1.out.below hb)
  replace HA := Lib.hid (HA.out.below hb)
  replace VH := Lib.hid (VH.out.below hb)
  replace IG := Lib.hid (IG.out.below hb)
  replace VG := Lib.hid (VG.out.below hb)
  replace IW := Lib.hid (IW.out.below hb)
  replace VW := Lib.hid (VW.out.below hb)
  replace BP := Lib.hid (BP.out.below hb)
  replace BQ := Lib.hid (BQ.out.below hb)
  replace BC := Lib.hid (BC.out.below hb)
  replace ID := Lib.hid (ID.out.below hb)
  replace VD := Lib.hid (VD.out.below hb)
  replace L := Lib.hid (bst L.out hb L.out.size)
  clear hb nd
  have c0VG := VG.out.c0
  have c1VG := VG.out.c1
  have c2VG := VG.out.c2
  go_wp2_with fail
  clear c0VG c1VG c2VG
  refine (c_sameBools _ _ rb _ (by have := IG.out.l; rw [G5.out] at this; exact this) BP.out (by have := HBR.out; have := NB.out; omega)).mono ?_
  rintro e w14 ⟨rfl, nd, hnd⟩
  have hb : Below w13.heap.size w13 w14 := by rw [hnd]; exact below_drewN (Below.refl _ _) nd
  clear hnd
  replace M1 := Lib.hid (M1.out.below hb)
  replace HA := Lib.hid (HA.out.below hb)
  replace VH := Lib.hid (VH.out.below hb)
  replace IG := Lib.hid (IG.out.below hb)
  replace VG := Lib.hid (VG.out.below hb)
  replace IW := Lib.hid (IW.out.below hb)
  replace VW := Lib.hid (VW.out.below hb)
  replace BP := Lib.hid (BP.out.below hb)
  replace BQ := Lib.hid (BQ.out.below hb)
  replace BC := Lib.hid (BC.out.below hb)
  replace ID := Lib.hid (ID.out.below hb)
  replace VD := Lib.hid (VD.out.below hb)
  replace L := Lib.hid (bst L.out hb L.out.size)
  clear hb nd
  have hBH : nB = nfH := by rw [← NB.out, G7.out]
  subst hBH
  have hn12 := HSN.out
  have c0 := VH.out.c0
  go_wp2_with fail
  clear c0
  go_loopw [160] (fun i wr => ∃ k : Nat, k ≤ nB ∧ i = .int .i64 (k : Int) ∧ ∃ nd, wr = w14.drewN nd) (fun i _ => nB - (intOf i).toNat)
  case atStart => exact ⟨0, Nat.zero_le _, rfl, drewN_refl _⟩
  case round =>
    obtain ⟨k, hk, rfl, nd, rfl⟩ := hrel
    by_cases hkl : k < nB
    · obtain ⟨fb, fo, rfl, hcf⟩ := HA.out.f.at' (by omega)
      obtain ⟨u, quf, huf⟩ := hcf k hkl
      obtain ⟨ua, uc, rfl⟩ := huf.shape
      obtain ⟨rB, ro, rfl, hcr⟩ := BP.out.at' (by omega)
      have HCR := Lib.hid hcr
      have qr : (w14.drewN nd).cell? ⟨rB, ro + k, none⟩ = some (.bool (rb.getD k false)) := hcr k hkl
      have c0 : (w14.drewN nd).cell? ⟨w1.heap.size, 0, none⟩ = some (.slice (some ⟨fb, fo, none⟩) nB qaH) := VH.out.c0
      have cf : (w14.drewN nd).cell? ⟨fb, fo + k, none⟩ = some (.slice ua (h.f.getD k []).length uc) := quf
      have HUF := Lib.hid huf
      have hr3 := HSR.out k
      have HY := Lib.hid (G8.out k)
      have k1 : (k : Int) < (nB : Int) := by omega
      have k0 : (0 : Int) ≤ (k : Int) := by omega
      clear hcf hcr quf huf
      generalize h.f.getD k [] = row at *
      generalize hul : row.length = ul at *
      have HUL := Lib.hid hul; clear hul
      generalize rb.getD k false = is at *
      go_wp2_with fail
      clear c0 cf qr
      go_loopw [171] (fun i wr => ∃ i2 : Nat, i2 ≤ ul ∧ i = .int .i64 (i2 : Int) ∧ ∃ nd, wr = w14.drewN nd) (fun i _ => ul - (intOf i).toNat)
      case atStart => exact ⟨0, Nat.zero_le _, rfl, nd, rfl⟩
      case round =>
        obtain ⟨i, hi, rfl, nd, rfl⟩ := hrel
        by_cases hil : i < ul
        · obtain ⟨tb, to, rfl, hct⟩ := HUF.out.at' (by omega)
          have d5 : (w14.drewN nd).cell? ⟨tb, to + i, none⟩ = some (.int .i64 (row.getD i 0)) := hct i hil
          have i1 : (i : Int) < (ul : Int) := by omega
          have i0 : (0 : Int) ≤ (i : Int) := by omega
          have hy : Hid (is = true → 0 ≤ row.getD i 0 → rb.getD (row.getD i 0).toNat false = true) := fun q1 q2 => HY.out q1 _ (getD_memI (by rw [HUL.out]; exact hil)) q2
          clear hct
          generalize row.getD i 0 = y at *
          cases is
          · go_wp2_with fail
            go_roundw
            case rel => exact ⟨i + 1, by omega, by go_num, nd, rfl⟩
            case measure => simp [intOf]; omega
          · by_cases y0 : 0 ≤ y
            · obtain ⟨t, rfl⟩ : ∃ t : Nat, y = t := ⟨y.toNat, by omega⟩
              have hyt := hy.out rfl y0
              rw [Int.toNat_natCast] at hyt
              have htl : t < nB := by have := getD_lt hyt; rw [NB.out] at this; exact this
              have qy : (w14.drewN nd).cell? ⟨rB, ro + t, none⟩ = some (.bool (rb.getD t false)) := HCR.out t htl
              rw [hyt] at qy
              have t1 : (t : Int) < (nB : Int) := by omega
              clear hyt hy
              go_wp2_with fail
              go_roundw
              case rel => exact ⟨i + 1, by omega, by go_num, nd, rfl⟩
              case measure => simp [intOf]; omega
            · clear hy
              go_wp2_with fail
              go_roundw
              case rel => exact ⟨i + 1, by omega, by go_num, nd, rfl⟩
              case measure => simp [intOf]; omega
        · have in' : ¬ (i : Int) < (ul : Int) := by omega
          go_wp2_with fail
          go_roundw
          case rel => exact ⟨k + 1, by omega, by go_num, nd, rfl⟩
          case measure => simp [intOf]; omega
    · obtain rfl : k = nB := by omega
      have kn : ¬ (k : Int) < (k : Int) := by omega
      have hb : Below w14.heap.size w14 (w14.drewN nd) := below_drewN (Below.refl _ _) nd
      replace M1 := Lib.hid (M1.out.below hb)
      replace HA := Lib.hid (HA.out.below hb)
      replace VH := Lib.hid (VH.out.below hb)
      replace IG := Lib.hid (IG.out.below hb)
      replace VG := Lib.hid (VG.out.below hb)
      replace IW := Lib.hid (IW.out.below hb)
      replace VW := Lib.hid (VW.out.below hb)
      replace BP := Lib.hid (BP.out.below hb)
      replace BQ := Lib.hid (BQ.out.below hb)
      replace BC := Lib.hid (BC.out.below hb)
      replace ID := Lib.hid (ID.out.below hb)
      replace VD := Lib.hid (VD.out.below hb)
      replace L := Lib.hid (bst L.out hb L.out.size)
      clear hb
      generalize w14.drewN nd = w15 at *
      go_wp2_with fail
      refine (d_SameReached _ z1 _ M1.out).mono ?_
      rintro e x1b ⟨aU, bU, cU, hU, aV, bV, cV, hV, rfl, hAU, hAV, hb⟩
      obtain ⟨paU, qaU, rfl⟩ := hAU.f.shape
      obtain ⟨pbU, qbU, rfl⟩ := hAU.l.shape
      obtain ⟨pcU, qcU, rfl⟩ := hAU.r.shape
      obtain ⟨paV, qaV, rfl⟩ := hAV.f.shape
      obtain ⟨pbV, qbV, rfl⟩ := hAV.l.shape
      obtain ⟨pcV, qcV, rfl⟩ := hAV.r.shape
      replace M1 := Lib.hid (M1.out.below hb)
      replace HA := Lib.hid (HA.out.below hb)
      replace VH := Lib.hid (VH.out.below hb)
      replace IG := Lib.hid (IG.out.below hb)
      replace VG := Lib.hid (VG.out.below hb)
      replace IW := Lib.hid (IW.out.below hb)
      replace VW := Lib.hid (VW.out.below hb)
      replace BP := Lib.hid (BP.out.below hb)
      replace BQ := Lib.hid (BQ.out.below hb)
      replace BC := Lib.hid (BC.out.below hb)
      replace ID := Lib.hid (ID.out.below hb)
      replace VD := Lib.hid (VD.out.below hb)
      replace L := Lib.hid (bst L.out hb L.out.size)
      have HU := Lib.hid hAU; have HV := Lib.hid hAV
      have HS1 := Lib.hid (fun w' q1 q2 => c_SameReached (.slice paU hU.f.length qaU) (.slice pbU hU.l.length qbU) (.slice pcU hU.r.length qcU) (.slice paV hV.f.length qaV) (.slice pbV hV.l.length qbV) (.slice pcV hV.r.length qcV) hU hV w' q1 q2)
      have HS2 := Lib.hid (fun w' q1 q2 => s_SameReached (.slice paU hU.f.length qaU) (.slice pbU hU.l.length qbU) (.slice pcU hU.r.length qcU) (.slice paV hV.f.length qaV) (.slice pbV hV.l.length qbV) (.slice pcV hV.r.length qcV) hU hV w' q1 q2)
      clear hb hAU hAV
      generalize sameQ hU hV = sq at *
      generalize Ph.both hU hV = bo at *
      generalize hU.f.length = nfU at *
      generalize hU.l.length = nlU at *
      generalize hU.r.length = nrU at *
      generalize hV.f.length = nfV at *
      generalize hV.l.length = nlV at *
      generalize hV.r.length = nrV at *
      have hbq := (below1 x1b (.cells (c3 (.slice paU nfU qaU) (.slice pbU nlU qbU) (.slice pcU nrU qcU)) 27)).alloc (by simp) (.cells (c3 (.slice paV nfV qaV) (.slice pbV nlV qbV) (.slice pcV nrV qcV)) 27)
      replace M1 := Lib.hid (M1.out.below hbq)
      replace HA := Lib.hid (HA.out.below hbq)
      replace VH := Lib.hid (VH.out.below hbq)
      replace IG := Lib.hid (IG.out.below hbq)
      replace VG := Lib.hid (VG.out.below hbq)
      replace IW := Lib.hid (IW.out.below hbq)
      replace VW := Lib.hid (VW.out.below hbq)
      replace BP := Lib.hid (BP.out.below hbq)
      replace BQ := Lib.hid (BQ.out.below hbq)
      replace BC := Lib.hid (BC.out.below hbq)
      replace ID := Lib.hid (ID.out.below hbq)
      replace VD := Lib.hid (VD.out.below hbq)
      replace HU := Lib.hid (HU.out.below hbq)
      replace HV := Lib.hid (HV.out.below hbq)
      replace L := Lib.hid (bst L.out hbq L.out.size)
      clear hbq
      have VU := Lib.hid (show RowH ((x1b.alloc (.cells (c3 (.slice paU nfU qaU) (.slice pbU nlU qbU) (.slice pcU nrU qcU)) 27)).alloc (.cells (c3 (.slice paV nfV qaV) (.slice pbV nlV qbV) (.slice pcV nrV qcV)) 27)) x1b.heap.size _ _ _ from (Row.new x1b 27 (c3 (.slice paU nfU qaU) (.slice pbU nlU qbU) (.slice pcU nrU qcU))).alloc (.cells (c3 (.slice paV nfV qaV) (.slice pbV nlV qbV) (.slice pcV nrV qcV)) 27))
      have VV := Lib.hid (show RowH ((x1b.alloc (.cells (c3 (.slice paU nfU qaU) (.slice pbU nlU qbU) (.slice pcU nrU qcU)) 27)).alloc (.cells (c3 (.slice paV nfV qaV) (.slice pbV nlV qbV) (.slice pcV nrV qcV)) 27)) (x1b.heap.size + 1) _ _ _ from Row.new1 x1b (.cells (c3 (.slice paU nfU qaU) (.slice pbU nlU qbU) (.slice pcU nrU qcU)) 27) 27 (c3 (.slice paV nfV qaV) (.slice pbV nlV qbV) (.slice pcV nrV qcV)))
      have c0VU := VU.out.c0
      have c1VU := VU.out.c1
      have c2VU := VU.out.c2
      have c0VV := VV.out.c0
      have c1VV := VV.out.c1
      have c2VV := VV.out.c2
      go_wp2_with fail
      clear c0VU c1VU c2VU c0VV c1VV c2VV
      refine (HS1.out _ HU.out HV.out).mono ?_
      rintro e x2b ⟨rfl, hb⟩
      replace M1 := Lib.hid (M1.out.below hb)
      replace HA := Lib.hid (HA.out.below hb)
      replace VH := Lib.hid (VH.out.below hb)
      replace IG := Lib.hid (IG.out.below hb)
      replace VG := Lib.hid (VG.out.below hb)
      replace IW := Lib.hid (IW.out.below hb)
      replace VW := Lib.hid (VW.out.below hb)
      replace BP := Lib.hid (BP.out.below hb)
      replace BQ := Lib.hid (BQ.out.below hb)
      replace BC := Lib.hid (BC.out.below hb)
      replace ID := Lib.hid (ID.out.below hb)
      replace VD := Lib.hid (VD.out.below hb)
      replace HU := Lib.hid (HU.out.below hb)
      replace HV := Lib.hid (HV.out.below hb)
      replace VU := Lib.hid (VU.out.below hb)
      replace VV := Lib.hid (VV.out.below hb)
      replace L := Lib.hid (bst L.out hb L.out.size)
      clear hb
      have c0VU := VU.out.c0
      have c1VU := VU.out.c1
      have c2VU := VU.out.c2
      have c0VV := VV.out.c0
      have c1VV := VV.out.c1
      have c2VV := VV.out.c2
      go_wp2_with fail
      clear c0VU c1VU c2VU c0VV c1VV c2VV
      refine (HS2.out _ HU.out HV.out).mono ?_
      rintro e x3b ⟨rfl, hb⟩
      replace M1 := Lib.hid (M1.out.below hb)
      replace HA := Lib.hid (HA.out.below hb)
      replace VH := Lib.hid (VH.out.below hb)
      replace IG := Lib.hid (IG.out.below hb)
      replace VG := Lib.hid (VG.out.below hb)
      replace IW := Lib.hid (IW.out.below hb)
      replace VW := Lib.hid (VW.out.below hb)
      replace BP := Lib.hid (BP.out.below hb)
      replace BQ := Lib.hid (BQ.out.below hb)
      replace BC := Lib.hid (BC.out.below hb)
      replace ID := Lib.hid (ID.out.below hb)
      replace VD := Lib.hid (VD.out.below hb)
      replace HU := Lib.hid (HU.out.below hb)
      replace HV := Lib.hid (HV.out.below hb)
      replace VU := Lib.hid (VU.out.below hb)
      replace VV := Lib.hid (VV.out.below hb)
      replace L := Lib.hid (bst L.out hb L.out.size)
      clear hb
      go_wp2_with fail
      refine (d_ReachFrom _ z1 _ M1.out).mono ?_
      rintro e x4b ⟨aT, bT, cT, hT, vF, lF, rfl, hshT, hlF, hAT, hIF, hb⟩
      obtain ⟨paT, qaT, rfl⟩ := hAT.f.shape
      obtain ⟨pbT, qbT, rfl⟩ := hAT.l.shape
      obtain ⟨pcT, qcT, rfl⟩ := hAT.r.shape
      obtain ⟨pF, qF, rfl⟩ := hIF.shape
      replace M1 := Lib.hid (M1.out.below hb)
      replace HA := Lib.hid (HA.out.below hb)
      replace VH := Lib.hid (VH.out.below hb)
      replace IG := Lib.hid (IG.out.below hb)
      replace VG := Lib.hid (VG.out.below hb)
      replace IW := Lib.hid (IW.out.below hb)
      replace VW := Lib.hid (VW.out.below hb)
      replace BP := Lib.hid (BP.out.below hb)
      replace BQ := Lib.hid (BQ.out.below hb)
      replace BC := Lib.hid (BC.out.below hb)
      replace ID := Lib.hid (ID.out.below hb)
      replace VD := Lib.hid (VD.out.below hb)
      replace HU := Lib.hid (HU.out.below hb)
      replace HV := Lib.hid (HV.out.below hb)
      replace VU := Lib.hid (VU.out.below hb)
      replace VV := Lib.hid (VV.out.below hb)
      replace L := Lib.hid (bst L.out hb L.out.size)
      have HT := Lib.hid hAT; have HI := Lib.hid hIF
      have HF1 := Lib.hid (fun w' q1 q2 => c_ReachFrom (.slice paT hT.f.length qaT) (.slice pbT hT.l.length qbT) (.slice pcT hT.r.length qcT) (.slice pF lF.length qF) hT lF w' q1 q2)
      have HF2 := Lib.hid (fun w' q1 q2 => s_ReachFrom (.slice paT hT.f.length qaT) (.slice pbT hT.l.length qbT) (.slice pcT hT.r.length qcT) (.slice pF lF.length qF) hT lF w' q1 q2)
      have HFB : Hid ((reachF hT lF).length ≤ 9223372036854775806) := by unfold Hid; have := reachF_len hT lF; omega
      clear hb hAT hIF hshT hlF
      generalize reachF hT lF = fb at *
      generalize fromOk hT lF = fo at *
      generalize hT.f.length = nfT at *
      generalize hT.l.length = nlT at *
      generalize hT.r.length = nrT at *
      generalize lF.length = nF at *
      obtain ⟨nR, hnr⟩ : ∃ q, fb.length = q := ⟨_, rfl⟩
      have NR := Lib.hid hnr
      clear hnr
      have hbq := below1 x4b (.cells (c3 (.slice paT nfT qaT) (.slice pbT nlT qbT) (.slice pcT nrT qcT)) 27)
      replace M1 := Lib.hid (M1.out.below hbq)
      replace HA := Lib.hid (HA.out.below hbq)
      replace VH := Lib.hid (VH.out.below hbq)
      replace IG := Lib.hid (IG.out.below hbq)
      replace VG := Lib.hid (VG.out.below hbq)
      replace IW := Lib.hid (IW.out.below hbq)
      replace VW := Lib.hid (VW.out.below hbq)
      replace BP := Lib.hid (BP.out.below hbq)
      replace BQ := Lib.hid (BQ.out.below hbq)
      replace BC := Lib.hid (BC.out.below hbq)
      replace ID := Lib.hid (ID.out.below hbq)
      replace VD := Lib.hid (VD.out.below hbq)
      replace HU := Lib.hid (HU.out.below hbq)
      replace HV := Lib.hid (HV.out.below hbq)
      replace VU := Lib.hid (VU.out.below hbq)
      replace VV := Lib.hid (VV.out.below hbq)
      replace HT := Lib.hid (HT.out.below hbq)
      replace HI := Lib.hid (HI.out.below hbq)
      replace L := Lib.hid (bst L.out hbq L.out.size)
      clear hbq
      have VT := Lib.hid (show RowH _ _ _ _ _ from Row.new x4b 27 (c3 (.slice paT nfT qaT) (.slice pbT nlT qbT) (.slice pcT nrT qcT)))
      have c0VT := VT.out.c0
      have c1VT := VT.out.c1
      have c2VT := VT.out.c2
      go_wp2_with fail
      clear c0VT c1VT c2VT
      refine (HF1.out _ HT.out HI.out).mono ?_
      intro e x5b hend
      obtain ⟨vX, rfl, hiX, hb⟩ := hend.reads6
      clear hend
      obtain ⟨pX, qX, rfl⟩ := hiX.shape
      replace M1 := Lib.hid (M1.out.below hb)
      replace HA := Lib.hid (HA.out.below hb)
      replace VH := Lib.hid (VH.out.below hb)
      replace IG := Lib.hid (IG.out.below hb)
      replace VG := Lib.hid (VG.out.below hb)
      replace IW := Lib.hid (IW.out.below hb)
      replace VW := Lib.hid (VW.out.below hb)
      replace BP := Lib.hid (BP.out.below hb)
      replace BQ := Lib.hid (BQ.out.below hb)
      replace BC := Lib.hid (BC.out.below hb)
      replace ID := Lib.hid (ID.out.below hb)
      replace VD := Lib.hid (VD.out.below hb)
      replace HU := Lib.hid (HU.out.below hb)
      replace HV := Lib.hid (HV.out.below hb)
      replace VU := Lib.hid (VU.out.below hb)
      replace VV := Lib.hid (VV.out.below hb)
      replace HT := Lib.hid (HT.out.below hb)
      replace HI := Lib.hid (HI.out.below hb)
      replace VT := Lib.hid (VT.out.below hb)
      replace L := Lib.hid (bst L.out hb L.out.size)
      have BX := Lib.hid hiX
      clear hb hiX
      simp only [NR.out] at BX ⊢
      have c0VT := VT.out.c0
      have c1VT := VT.out.c1
      have c2VT := VT.out.c2
      go_wp2_with fail
      clear c0VT c1VT c2VT
      refine (HF2.out _ HT.out HI.out).mono ?_
      intro e x6b hend
      obtain ⟨vY, rfl, hiY, hb⟩ := hend.reads6
      clear hend
      obtain ⟨pY, qY, rfl⟩ := hiY.shape
      replace M1 := Lib.hid (M1.out.below hb)
      replace HA := Lib.hid (HA.out.below hb)
      replace VH := Lib.hid (VH.out.below hb)
      replace IG := Lib.hid (IG.out.below hb)
      replace VG := Lib.hid (VG.out.below hb)
      replace IW := Lib.hid (IW.out.below hb)
      replace VW := Lib.hid (VW.out.below hb)
      replace BP := Lib.hid (BP.out.below hb)
      replace BQ := Lib.hid (BQ.out.below hb)
      replace BC := Lib.hid (BC.out.below hb)
      replace ID := Lib.hid (ID.out.below hb)
      replace VD := Lib.hid (VD.out.below hb)
      replace HU := Lib.hid (HU.out.below hb)
      replace HV := Lib.hid (HV.out.below hb)
      replace VU := Lib.hid (VU.out.below hb)
      replace VV := Lib.hid (VV.out.below hb)
      replace HT := Lib.hid (HT.out.below hb)
      replace HI := Lib.hid (HI.out.below hb)
      replace VT := Lib.hid (VT.out.below hb)
      replace BX := Lib.hid (BX.out.below hb)
      replace L := Lib.hid (bst L.out hb L.out.size)
      have BY := Lib.hid hiY
      clear hb hiY
      simp only [NR.out] at BY ⊢
      have e3 : (bo == bo) = true := by simp
      have e4 : (sq == sq) = true := by simp
      have e5 : (fo == fo) = true := by simp
      go_wp2_with fail
      refine (c_sameBools _ _ fb _ BX.out BY.out (by have := HFB.out; have := NR.out; omega)).mono ?_
      rintro e x7b ⟨rfl, nd, hnd⟩
      have hb : Below x6b.heap.size x6b x7b := by rw [hnd]; exact below_drewN (Below.refl _ _) nd
      clear hnd
      replace M1 := Lib.hid (M1.out.below hb)
      replace HA := Lib.hid (HA.out.below hb)
      replace VH := Lib.hid (VH.out.below hb)
      replace IG := Lib.hid (IG.out.below hb)
      replace VG := Lib.hid (VG.out.below hb)
      replace IW := Lib.hid (IW.out.below hb)
      replace VW := Lib.hid (VW.out.below hb)
      replace BP := Lib.hid (BP.out.below hb)
      replace BQ := Lib.hid (BQ.out.below hb)
      replace BC := Lib.hid (BC.out.below hb)
      replace ID := Lib.hid (ID.out.below hb)
      replace VD := Lib.hid (VD.out.below hb)
      replace HU := Lib.hid (HU.out.below hb)
      replace HV := Lib.hid (HV.out.below hb)
      replace VU := Lib.hid (VU.out.below hb)
      replace VV := Lib.hid (VV.out.below hb)
      replace HT := Lib.hid (HT.out.below hb)
      replace HI := Lib.hid (HI.out.below hb)
      replace VT := Lib.hid (VT.out.below hb)
      replace BX := Lib.hid (BX.out.below hb)
      replace BY := Lib.hid (BY.out.below hb)
      replace L := Lib.hid (bst L.out hb L.out.size)
      clear hb nd
      go_wp2_with fail
      go_ret
      exact ⟨rfl, L.out⟩
end Go.Proofs.Ythanckifinfpiaa
namespace Go.Proofs.Ythanckifinfpiaa.xCleaned
open Go.ChangeShapes Go.WideShapes Go.ChangeAt Go.RowKit

set_option maxRecDepth 100000 in
theorem contract (H : Type) (enc : TypeId × Value → H) (W : World) (base : Nat) (args : Array Value) (ds gs : List (DataW H)) (before : List MemPlace)
    (hval : ∀ (j : Nat) t v, Try.f3.params[j]? = some t → args[j]? = some v → Value.okWide Try.prog W .any base t v)
    (hW : DataW.Whole enc Try.prog Try.f3.params.toList Rows.fnCleanedSpec.vars false W args.toList ds gs before) :
    Calls Try.prog 3 args W fun e W' => ∃ v, e = .returned v ∧ Rows.fnCleanedSpec.post enc Try.prog Try.f3 false true false false W args v W' := by
  have hW' := hW
  obtain ⟨p, q, hA0, hV, rfl, hfz, hnd⟩ := hW
  have hA : DataW.TrodAll enc Try.prog W 0 (fun _ => true) true Try.f3.params.toList args.toList ds p := hA0
  have hpar : ∀ t ∈ Try.f3.params.toList, Try.prog.readableRec t = true ∧ t < Try.prog.types.size := by
    rw [Try.params3]; intro t ht; simp at ht; subst ht; exact r_bytes
  rw [Try.params3] at hA hval
  obtain ⟨v0, vs0, d0, ds0, p0, q0, hargs, rfl, rfl, h0, r0⟩ := trodAll_cons hA
  obtain ⟨v1, vs1, d1, ds1, p1, q1, rfl, rfl, rfl, h1, r1⟩ := trodAll_cons r0
  obtain ⟨rfl, rfl, rfl⟩ := trodAll_nil r1
  obtain rfl : args = #[v0, v1] := by cases args; simp_all
  obtain ⟨rfl, rfl⟩ := trodVars_none hV
  obtain ⟨z0, hz0⟩ := bytes_of_arg (hval 0 22 v0 rfl rfl) h0
  obtain ⟨z1, hz1⟩ := bytes_of_arg (hval 1 22 v1 rfl rfl) h1
  refine (walk_FnCleaned v0 z0 v1 z1 W hz0 hz1).mono fun e W' ⟨he, hb⟩ => ?_
  subst he
  exact ⟨_, rfl, law_post laidOut hpar (fun n hn => by cases hn) hW' hb rfl (by kernel_rfl) Try.underlying4⟩

set_option maxRecDepth 100000 in
theorem lifted (os : Os) (started : os.Started) (H : Type) (enc : TypeId × Value → H) :
    ReturnsInHanded {} Try.checked os 3 .any (Rows.fnCleanedSpec.pre6 enc Try.prog Try.f3 Rows.fnCleanedRow.domain false) (Rows.fnCleanedSpec.post enc Try.prog Try.f3 false true false false) := by
  refine returnsInHanded_of_change (C := Try.checked) own started (by kernel_rfl) Try.func3
    (ChangeSpec.witness6 (enc := enc) (C := Try.checked) false ⟨#[], #[.slice none 0 0, .slice none 0 0], []⟩ 8 (by kernel_rfl) (by kernel_rfl) (by kernel_rfl) (by kernel_rfl)) ?_
  intro W base args ds gs before hval hW _ _
  exact contract H enc W base args ds gs before hval hW
end Go.Proofs.Ythanckifinfpiaa.xCleaned
namespace Go.Proofs.Ythanckifinfpiaa
theorem xCleaned_said : Rows.FnCleanedSaid :=
  OpenClaim.holds_of_wide 3 Try.f3 rfl rfl rfl rfl rfl rfl rfl ⟨rfl, rfl, rfl, rfl, rfl⟩ rfl rfl rfl rfl rfl (by kernel_rfl) Try.func3 (by kernel_rfl)
    (of_decide_eq_true (by kernel_rfl)) (by unfold Func.isWrapper; first | (rw [if_pos (by decide +kernel)]; kernel_rfl) | (rw [if_neg (by decide +kernel)]; exact ⟨rfl, rfl⟩))
    (fun os started H enc _ => xCleaned.lifted os started H enc)
end Go.Proofs.Ythanckifinfpiaa
