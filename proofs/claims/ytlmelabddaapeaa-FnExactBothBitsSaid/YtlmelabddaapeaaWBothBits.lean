/- The walk of laws.FnExactBothBits. -/
import Derived.Test.YtlmelabddaapeaaBi7
import Derived.Test.YtlmelabddaapeaaBs6
import Derived.Test.YtlmelabddaapeaaBe1
namespace Go.Proofs.Ytlmelabddaapeaa
open Go.RowKit Pb

set_option maxHeartbeats 6400000 in
set_option maxRecDepth 100000 in
theorem core_FnExactBothBits (la : Int) (va : Value) (za : List Int) (lb : Int) (vb : Value) (zb : List Int) (lr : Int) (rs : List Int) (ok : Bool) (w : World) (hza : IntsAt w va za) (hzb : IntsAt w vb zb) (hm : za.length + zb.length ≤ 1048576) (hrs : rs.length ≤ 1000)
    (hS : ∀ (w : World) (va : Value) (vb : Value), IntsAt w va za → IntsAt w vb zb → Calls Try.prog 25 #[bm la va, bm lb vb] w (BitsEnd lr rs ok w))
    (hI : ∀ (w : World) (va : Value) (vb : Value), IntsAt w va za → IntsAt w vb zb → Calls Try.prog 26 #[bm la va, bm lb vb] w (BitsEnd lr rs ok w)) :
    Calls Try.prog 8 #[bm la va, bm lb vb] w fun e w' => e = .returned (.bool true) ∧ Below w.heap.size w w' := by
  have HZa := Lib.hid hza
  have HZb := Lib.hid hzb
  have HS := Lib.hid hS; have HI := Lib.hid hI
  obtain ⟨nr, hnr⟩ : ∃ n, n = rs.length := ⟨_, rfl⟩
  have HNR : Hid (rs.length = nr) := hnr.symm
  rw [← hnr] at hrs
  clear hnr hS hI
  obtain ⟨aa, caa, rfl, _⟩ := id hza
  obtain ⟨ab, cab, rfl, _⟩ := id hzb
  obtain ⟨na, hna⟩ : ∃ n, n = za.length := ⟨_, rfl⟩
  have HNa : Hid (za.length = na) := hna.symm
  obtain ⟨nb, hnb⟩ : ∃ n, n = zb.length := ⟨_, rfl⟩
  have HNb : Hid (zb.length = nb) := hnb.symm
  rw [← hna, ← hnb] at hm
  rw [← hna] at HZa
  rw [← hnb] at HZb
  rw [← hna, ← hnb]
  clear hza hna hzb hnb
  have HMa : Hid (za.length ≤ 1048576) := by unfold Hid; rw [HNa.out]; omega
  have HMb : Hid (zb.length ≤ 1048576) := by unfold Hid; rw [HNb.out]; omega
  have e2 : (ok != ok) = false := by simp
  have ek : ¬ (1 : Int) + (nr : Int) < 0 := by omega
  have em : ((1 : Int) + (nr : Int) != 1 + (nr : Int)) = false := by simp
  have hl0 : ¬ (1048576 - (na : Int)) < 0 := by omega
  have hl1 : ¬ (1048576 - (na : Int) - (nb : Int)) < 0 := by omega
  have ex : ¬ (1 : Int) + (na : Int) + (nb : Int) < 0 := by omega
  have L := ((Below.refl w.heap.size w).alloc (Nat.le_refl _) (.cells (cb la (.slice aa na caa)) 30)).alloc (by simp) (.cells (cb lb (.slice ab nb cab)) 30)
  have R0 : Row _ w.heap.size 30 (cb la (.slice aa na caa)) := (Row.new w _ _).alloc (.cells (cb lb (.slice ab nb cab)) 30)
  have R1 : Row ((w.alloc (.cells (cb la (.slice aa na caa)) 30)).alloc (.cells (cb lb (.slice ab nb cab)) 30)) (w.heap.size + 1) 30 (cb lb (.slice ab nb cab)) := Row.new1 w _ _ _
  go_enter Try.func8, Try.ntmps8
  go_wp2_with fail
  refine (c_szBits_yes la aa na caa (1048576) _ (by omega) (by omega)).mono ?_
  rintro e sa ⟨rfl, hb⟩
  replace R0 := Row.below R0 hb
  replace R1 := Row.below R1 hb
  have hs0 := hb.size
  try simp only [World.size_alloc] at hs0
  replace L := bst L hb L.size
  clear hb
  have c00 := Row.cell R0 0
  have c10 := Row.cell R0 1
  have lt0 := Row.lt R0
  have c01 := Row.cell R1 0
  have c11 := Row.cell R1 1
  have lt1 := Row.lt R1
  go_wp2_with fail
  clear c00 c10 lt0 c01 c11 lt1
  refine (c_szBits_yes lb ab nb cab (1048576 - (na : Int)) _ (by omega) (by omega)).mono ?_
  rintro e sb ⟨rfl, hb⟩
  replace R0 := Row.below R0 hb
  replace R1 := Row.below R1 hb
  have hs1 := hb.size
  try simp only [World.size_alloc] at hs1
  replace L := bst L hb L.size
  clear hb
  have c00 := Row.cell R0 0
  have c10 := Row.cell R0 1
  have lt0 := Row.lt R0
  have c01 := Row.cell R1 0
  have c11 := Row.cell R1 1
  have lt1 := Row.lt R1
  go_wp2_with fail
  have IZa : IntsAt sb (.slice aa na caa) za := IntsAt.below HZa.out L
  have IZb : IntsAt sb (.slice ab nb cab) zb := IntsAt.below HZb.out L
  have KS : Hid (∀ X, Below sb.heap.size sb X → X.cell? ⟨w.heap.size, 0, none⟩ = some (.int .i64 la) ∧ X.cell? ⟨w.heap.size, 1, none⟩ = some (.slice aa na caa) ∧ X.cell? ⟨w.heap.size + 1, 0, none⟩ = some (.int .i64 lb) ∧ X.cell? ⟨w.heap.size + 1, 1, none⟩ = some (.slice ab nb cab) ∧ Below sb.heap.size sb X) := fun X hX => ⟨Row.cell (Row.below R0 hX) 0, Row.cell (Row.below R0 hX) 1, Row.cell (Row.below R1 hX) 0, Row.cell (Row.below R1 hX) 1, hX⟩
  have BD := below_drew (Below.refl sb.heap.size sb)
  clear c00 c10 lt0 c01 c11 lt1
  go_region_held3 (fun w' => w'.cell? ⟨w.heap.size, 0, none⟩ = some (.int .i64 la) ∧ w'.cell? ⟨w.heap.size, 1, none⟩ = some (.slice aa na caa) ∧ w'.cell? ⟨w.heap.size + 1, 0, none⟩ = some (.int .i64 lb) ∧ w'.cell? ⟨w.heap.size + 1, 1, none⟩ = some (.slice ab nb cab) ∧ Below sb.heap.size sb w')
    (first
      | exact KS.out _ BD
      | exact KS.out _ (bst (by go_split_ands; assumption) hbk (Below.size (by go_split_ands; assumption)))
      | exact KS.out _ (Below.alloc (by go_split_ands; assumption) (Below.size (by go_split_ands; assumption)) _)
      | exact KS.out _ (Below.alloc LB3 LB3.size _)
      | exact KS.out _ (Below.setCell (Below.setCell LB3 (by first | exact Nat.le_refl _ | (simp; omega)) _) (by first | exact Nat.le_refl _ | (simp; omega)) _)
      | (go_split_ands; refine ⟨?_, ?_, ?_, ?_, ?_⟩ <;> assumption))
    (first
      | (go_at_call 17; ((with_reducible refine (c_toBits la (.slice aa na caa) za _ (IntsAt.below IZa (by go_split_ands; assumption)) HMa.out).mono ?_); rintro e pS1 ⟨vapS, rfl, hoa, hbk⟩; have hq1 := hbk.size; (try simp at hq1); (try (have RZ : RowB pS1 sb.heap.size 0 (.slice none 0 0) := Row.below (Row.new sb.drew _ _) hbk)); have HOa := Lib.hid hoa; clear hoa))
      | (go_at_call 17; ((with_reducible refine (c_toBits lb (.slice ab nb cab) zb _ (IntsAt.below IZb (by go_split_ands; assumption)) HMb.out).mono ?_); rintro e pS2 ⟨vbpS, rfl, hob, hbk⟩; have hq2 := hbk.size; (try simp at hq2); ((first | (replace RZ := Row.below RZ hbk) | (have RZ : RowB pS2 pS1.heap.size 0 (.slice none 0 0) := Row.below (Row.new pS1 _ _) hbk) | skip)); have PB : Below pS1.heap.size pS1 pS2 := (by first | exact hbk | exact bst ((Below.refl _ _).alloc (Nat.le_refl _) _) hbk (by simp)); have IA := Lib.hid (HOa.out.below PB).ints; have IB := Lib.hid hob.ints; clear hob PB))
      | (go_at_call 25; (refine (HS.out _ _ _ (IntsAt.below IA.out (by first | exact Below.refl _ _ | exact (Below.refl _ _).alloc (Nat.le_refl _) _)) (IntsAt.below IB.out (by first | exact Below.refl _ _ | exact (Below.refl _ _).alloc (Nat.le_refl _) _))).mono ?_; rintro e pS3 ⟨vW, rfl, ho, hbk⟩; have hq3 := hbk.size; (try simp at hq3); ((first | (replace RZ := Row.below RZ hbk) | (have RZ : RowB pS3 pS2.heap.size 0 (.slice none 0 0) := Row.below (Row.new pS2 _ _) hbk) | skip)); (try (have dz0 := RowB.c0 RZ; have dz1 := RowB.c1 RZ; have fz0 := Row.frozen RZ 0; have fz1 := Row.frozen RZ 1)); have LB3 : Below sb.heap.size sb pS3 := bst (by go_split_ands; assumption) hbk (Below.size (by go_split_ands; assumption)); have hU := World.ownsRow.lt ho; (try simp only [World.size_alloc] at hU); have UW := Lib.hid hU; clear hU; obtain ⟨gW, cW, hvs, _⟩ := ho.shape; rw [HNR.out] at hvs; subst hvs; have HOW := Lib.hid ho; clear ho)))
  all_goals
    first
      | (have RW : RowB _ pS3.heap.size lr (.slice gW nr cW) := Row.new pS3 _ _
         replace R0 := (Row.below R0 LB3).alloc (.cells (cb lr (.slice gW nr cW)) 24)
         replace R1 := (Row.below R1 LB3).alloc (.cells (cb lr (.slice gW nr cW)) 24)
         have OW := HOW.out.below ((Below.refl _ _).alloc (Nat.le_refl _) (.cells (cb lr (.slice gW nr cW)) 24))
         replace L := bst L LB3 L.size
         replace L := L.alloc L.size (.cells (cb lr (.slice gW nr cW)) 24)
         replace UW : Hid (∀ k, (Value.slice gW nr cW).ownBlock = some k → sb.heap.size ≤ k ∧ k < (pS3.alloc (.cells (cb lr (.slice gW nr cW)) 24)).heap.size) := fun k hk => by have := UW.out k hk; simp; omega
         have hs2 : pS3.heap.size < (pS3.alloc (.cells (cb lr (.slice gW nr cW)) 24)).heap.size := by simp
         have hs3 : sb.heap.size ≤ pS3.heap.size := LB3.size
         have hs4 : sb.heap.size ≤ (pS3.alloc (.cells (cb lr (.slice gW nr cW)) 24)).heap.size := by simp; omega
         change Exit.then _ _ Exit.normal _ (pS3.alloc (.cells (cb lr (.slice gW nr cW)) 24))
         clear HOW hbk LB3
         generalize pS3.alloc (.cells (cb lr (.slice gW nr cW)) 24) = pSN at *
         generalize pS3.heap.size = gBW at *)
      | (have hgz : sb.heap.size ≤ pS2.heap.size := by omega
         have RW : RowB ((pS3.setCell ⟨pS2.heap.size, 0, none⟩ (.int .i64 lr)).setCell ⟨pS2.heap.size, 1, none⟩ (.slice gW nr cW)) pS2.heap.size lr (.slice gW nr cW) := rowB_set2 RZ lr (.slice gW nr cW)
         replace R0 := ((Row.below R0 LB3).other ⟨pS2.heap.size, 0, none⟩ (by have := Row.lt R0; simp; omega) (.int .i64 lr)).other ⟨pS2.heap.size, 1, none⟩ (by have := Row.lt R0; simp; omega) (.slice gW nr cW)
         replace R1 := ((Row.below R1 LB3).other ⟨pS2.heap.size, 0, none⟩ (by have := Row.lt R1; simp; omega) (.int .i64 lr)).other ⟨pS2.heap.size, 1, none⟩ (by have := Row.lt R1; simp; omega) (.slice gW nr cW)
         have OW := Own.setApart HOW.out (pS2.heap.size) lr (.slice gW nr cW) (rowApart UW.out (by omega))
         replace L := bst L LB3 L.size
         replace L := (L.setCell (p := ⟨pS2.heap.size, 0, none⟩) (by first | exact Nat.le_refl _ | (simp; omega)) (.int .i64 lr)).setCell (p := ⟨pS2.heap.size, 1, none⟩) (by first | exact Nat.le_refl _ | (simp; omega)) (.slice gW nr cW)
         have hsz : ((pS3.setCell ⟨pS2.heap.size, 0, none⟩ (.int .i64 lr)).setCell ⟨pS2.heap.size, 1, none⟩ (.slice gW nr cW)).heap.size = pS3.heap.size := by simp [World.setCell]
         replace UW : Hid (∀ k, (Value.slice gW nr cW).ownBlock = some k → sb.heap.size ≤ k ∧ k < ((pS3.setCell ⟨pS2.heap.size, 0, none⟩ (.int .i64 lr)).setCell ⟨pS2.heap.size, 1, none⟩ (.slice gW nr cW)).heap.size) := fun k hk => by have := UW.out k hk; rw [hsz]; omega
         have hs2 : pS2.heap.size < ((pS3.setCell ⟨pS2.heap.size, 0, none⟩ (.int .i64 lr)).setCell ⟨pS2.heap.size, 1, none⟩ (.slice gW nr cW)).heap.size := by rw [hsz]; omega
         have hs3 : sb.heap.size ≤ pS2.heap.size := hgz
         have hs4 : sb.heap.size ≤ ((pS3.setCell ⟨pS2.heap.size, 0, none⟩ (.int .i64 lr)).setCell ⟨pS2.heap.size, 1, none⟩ (.slice gW nr cW)).heap.size := by rw [hsz]; omega
         change Exit.then _ _ Exit.normal _ ((pS3.setCell ⟨pS2.heap.size, 0, none⟩ (.int .i64 lr)).setCell ⟨pS2.heap.size, 1, none⟩ (.slice gW nr cW))
         clear hsz dz0 dz1 fz0 fz1 RZ HOW hbk LB3 hgz
         generalize ((pS3.setCell ⟨pS2.heap.size, 0, none⟩ (.int .i64 lr)).setCell ⟨pS2.heap.size, 1, none⟩ (.slice gW nr cW)) = pSN at *
         obtain ⟨gBW, hgn⟩ : ∃ g, g = pS2.heap.size := ⟨_, rfl⟩
         rw [← hgn] at RW hs2 hs3 ⊢
         clear hgn)
      | (have hgz : sb.heap.size ≤ pS1.heap.size := by omega
         have RW : RowB ((pS3.setCell ⟨pS1.heap.size, 0, none⟩ (.int .i64 lr)).setCell ⟨pS1.heap.size, 1, none⟩ (.slice gW nr cW)) pS1.heap.size lr (.slice gW nr cW) := rowB_set2 RZ lr (.slice gW nr cW)
         replace R0 := ((Row.below R0 LB3).other ⟨pS1.heap.size, 0, none⟩ (by have := Row.lt R0; simp; omega) (.int .i64 lr)).other ⟨pS1.heap.size, 1, none⟩ (by have := Row.lt R0; simp; omega) (.slice gW nr cW)
         replace R1 := ((Row.below R1 LB3).other ⟨pS1.heap.size, 0, none⟩ (by have := Row.lt R1; simp; omega) (.int .i64 lr)).other ⟨pS1.heap.size, 1, none⟩ (by have := Row.lt R1; simp; omega) (.slice gW nr cW)
         have OW := Own.setApart HOW.out (pS1.heap.size) lr (.slice gW nr cW) (rowApart UW.out (by omega))
         replace L := bst L LB3 L.size
         replace L := (L.setCell (p := ⟨pS1.heap.size, 0, none⟩) (by first | exact Nat.le_refl _ | (simp; omega)) (.int .i64 lr)).setCell (p := ⟨pS1.heap.size, 1, none⟩) (by first | exact Nat.le_refl _ | (simp; omega)) (.slice gW nr cW)
         have hsz : ((pS3.setCell ⟨pS1.heap.size, 0, none⟩ (.int .i64 lr)).setCell ⟨pS1.heap.size, 1, none⟩ (.slice gW nr cW)).heap.size = pS3.heap.size := by simp [World.setCell]
         replace UW : Hid (∀ k, (Value.slice gW nr cW).ownBlock = some k → sb.heap.size ≤ k ∧ k < ((pS3.setCell ⟨pS1.heap.size, 0, none⟩ (.int .i64 lr)).setCell ⟨pS1.heap.size, 1, none⟩ (.slice gW nr cW)).heap.size) := fun k hk => by have := UW.out k hk; rw [hsz]; omega
         have hs2 : pS1.heap.size < ((pS3.setCell ⟨pS1.heap.size, 0, none⟩ (.int .i64 lr)).setCell ⟨pS1.heap.size, 1, none⟩ (.slice gW nr cW)).heap.size := by rw [hsz]; omega
         have hs3 : sb.heap.size ≤ pS1.heap.size := hgz
         have hs4 : sb.heap.size ≤ ((pS3.setCell ⟨pS1.heap.size, 0, none⟩ (.int .i64 lr)).setCell ⟨pS1.heap.size, 1, none⟩ (.slice gW nr cW)).heap.size := by rw [hsz]; omega
         change Exit.then _ _ Exit.normal _ ((pS3.setCell ⟨pS1.heap.size, 0, none⟩ (.int .i64 lr)).setCell ⟨pS1.heap.size, 1, none⟩ (.slice gW nr cW))
         clear hsz dz0 dz1 fz0 fz1 RZ HOW hbk LB3 hgz
         generalize ((pS3.setCell ⟨pS1.heap.size, 0, none⟩ (.int .i64 lr)).setCell ⟨pS1.heap.size, 1, none⟩ (.slice gW nr cW)) = pSN at *
         obtain ⟨gBW, hgn⟩ : ∃ g, g = pS1.heap.size := ⟨_, rfl⟩
         rw [← hgn] at RW hs2 hs3 ⊢
         clear hgn)
      | (have hgz : sb.heap.size ≤ sb.heap.size := by omega
         have RW : RowB ((pS3.setCell ⟨sb.heap.size, 0, none⟩ (.int .i64 lr)).setCell ⟨sb.heap.size, 1, none⟩ (.slice gW nr cW)) sb.heap.size lr (.slice gW nr cW) := rowB_set2 RZ lr (.slice gW nr cW)
         replace R0 := ((Row.below R0 LB3).other ⟨sb.heap.size, 0, none⟩ (by have := Row.lt R0; simp; omega) (.int .i64 lr)).other ⟨sb.heap.size, 1, none⟩ (by have := Row.lt R0; simp; omega) (.slice gW nr cW)
         replace R1 := ((Row.below R1 LB3).other ⟨sb.heap.size, 0, none⟩ (by have := Row.lt R1; simp; omega) (.int .i64 lr)).other ⟨sb.heap.size, 1, none⟩ (by have := Row.lt R1; simp; omega) (.slice gW nr cW)
         have OW := Own.setApart HOW.out (sb.heap.size) lr (.slice gW nr cW) (rowApart UW.out (by omega))
         replace L := bst L LB3 L.size
         replace L := (L.setCell (p := ⟨sb.heap.size, 0, none⟩) (by first | exact Nat.le_refl _ | (simp; omega)) (.int .i64 lr)).setCell (p := ⟨sb.heap.size, 1, none⟩) (by first | exact Nat.le_refl _ | (simp; omega)) (.slice gW nr cW)
         have hsz : ((pS3.setCell ⟨sb.heap.size, 0, none⟩ (.int .i64 lr)).setCell ⟨sb.heap.size, 1, none⟩ (.slice gW nr cW)).heap.size = pS3.heap.size := by simp [World.setCell]
         replace UW : Hid (∀ k, (Value.slice gW nr cW).ownBlock = some k → sb.heap.size ≤ k ∧ k < ((pS3.setCell ⟨sb.heap.size, 0, none⟩ (.int .i64 lr)).setCell ⟨sb.heap.size, 1, none⟩ (.slice gW nr cW)).heap.size) := fun k hk => by have := UW.out k hk; rw [hsz]; omega
         have hs2 : sb.heap.size < ((pS3.setCell ⟨sb.heap.size, 0, none⟩ (.int .i64 lr)).setCell ⟨sb.heap.size, 1, none⟩ (.slice gW nr cW)).heap.size := by rw [hsz]; omega
         have hs3 : sb.heap.size ≤ sb.heap.size := hgz
         have hs4 : sb.heap.size ≤ ((pS3.setCell ⟨sb.heap.size, 0, none⟩ (.int .i64 lr)).setCell ⟨sb.heap.size, 1, none⟩ (.slice gW nr cW)).heap.size := by rw [hsz]; omega
         change Exit.then _ _ Exit.normal _ ((pS3.setCell ⟨sb.heap.size, 0, none⟩ (.int .i64 lr)).setCell ⟨sb.heap.size, 1, none⟩ (.slice gW nr cW))
         clear hsz dz0 dz1 fz0 fz1 RZ HOW hbk LB3 hgz
         generalize ((pS3.setCell ⟨sb.heap.size, 0, none⟩ (.int .i64 lr)).setCell ⟨sb.heap.size, 1, none⟩ (.slice gW nr cW)) = pSN at *
         obtain ⟨gBW, hgn⟩ : ∃ g, g = sb.heap.size := ⟨_, rfl⟩
         rw [← hgn] at RW hs2 hs3 ⊢
         clear hgn)
    clear IZa IZb KS BD HOa IA IB hq1 hq2 hq3
    have c00 := Row.cell R0 0
    have c10 := Row.cell R0 1
    have lt0 := Row.lt R0
    have c01 := Row.cell R1 0
    have c11 := Row.cell R1 1
    have lt1 := Row.lt R1
    have c0W := Row.cell RW 0
    have c1W := Row.cell RW 1
    have ltW := Row.lt RW
    go_wp2_with fail
    clear c00 c10 lt0 c01 c11 lt1 c0W c1W ltW
    refine (c_toBits la (.slice aa na caa) za _ (IntsAt.below HZa.out L) HMa.out).mono ?_
    rintro e wXa ⟨vXa, rfl, ho, hb⟩
    have hU := World.ownsRow.lt ho
    try simp only [World.size_alloc] at hU
    have UXa := Lib.hid hU
    clear hU
    obtain ⟨gXa, cXa, hvs, _⟩ := ho.shape
    rw [HNa.out] at hvs
    subst hvs
    replace R0 := Row.below R0 hb
    replace R1 := Row.below R1 hb
    replace RW := Row.below RW hb
    replace OW := Own.below OW hb
    have hs5 := hb.size
    try simp only [World.size_alloc] at hs5
    replace L := bst L hb L.size
    clear hb
    have OXa := ho
    clear ho
    have c00 := Row.cell R0 0
    have c10 := Row.cell R0 1
    have lt0 := Row.lt R0
    have c01 := Row.cell R1 0
    have c11 := Row.cell R1 1
    have lt1 := Row.lt R1
    have c0W := Row.cell RW 0
    have c1W := Row.cell RW 1
    have ltW := Row.lt RW
    go_wp2_with fail
    clear c00 c10 lt0 c01 c11 lt1 c0W c1W ltW
    replace R0 := Row.alloc R0 (.cells (cb la (.slice gXa na cXa)) 24)
    replace R1 := Row.alloc R1 (.cells (cb la (.slice gXa na cXa)) 24)
    replace RW := Row.alloc RW (.cells (cb la (.slice gXa na cXa)) 24)
    have RXa := Row.new wXa 24 (cb la (.slice gXa na cXa))
    replace OW := Own.below OW ((Below.refl _ _).alloc (Nat.le_refl _) (.cells (cb la (.slice gXa na cXa)) 24))
    replace OXa := Own.below OXa ((Below.refl _ _).alloc (Nat.le_refl _) (.cells (cb la (.slice gXa na cXa)) 24))
    replace L := Below.alloc L L.size (.cells (cb la (.slice gXa na cXa)) 24)
    refine (c_toBits lb (.slice ab nb cab) zb _ (IntsAt.below HZb.out L) HMb.out).mono ?_
    rintro e wXb ⟨vXb, rfl, ho, hb⟩
    have hU := World.ownsRow.lt ho
    try simp only [World.size_alloc] at hU
    have UXb := Lib.hid hU
    clear hU
    obtain ⟨gXb, cXb, hvs, _⟩ := ho.shape
    rw [HNb.out] at hvs
    subst hvs
    replace R0 := Row.below R0 hb
    replace R1 := Row.below R1 hb
    replace RW := Row.below RW hb
    replace RXa := Row.below RXa hb
    replace OW := Own.below OW hb
    replace OXa := Own.below OXa hb
    have hs6 := hb.size
    try simp only [World.size_alloc] at hs6
    replace L := bst L hb L.size
    clear hb
    have OXb := ho
    clear ho
    have c00 := Row.cell R0 0
    have c10 := Row.cell R0 1
    have lt0 := Row.lt R0
    have c01 := Row.cell R1 0
    have c11 := Row.cell R1 1
    have lt1 := Row.lt R1
    have c0W := Row.cell RW 0
    have c1W := Row.cell RW 1
    have ltW := Row.lt RW
    have c0Xa := Row.cell RXa 0
    have c1Xa := Row.cell RXa 1
    have ltXa := Row.lt RXa
    go_wp2_with fail
    clear c00 c10 lt0 c01 c11 lt1 c0W c1W ltW c0Xa c1Xa ltXa
    replace R0 := Row.alloc R0 (.cells (cb lb (.slice gXb nb cXb)) 24)
    replace R1 := Row.alloc R1 (.cells (cb lb (.slice gXb nb cXb)) 24)
    replace RW := Row.alloc RW (.cells (cb lb (.slice gXb nb cXb)) 24)
    replace RXa := Row.alloc RXa (.cells (cb lb (.slice gXb nb cXb)) 24)
    have RXb := Row.new wXb 24 (cb lb (.slice gXb nb cXb))
    replace OW := Own.below OW ((Below.refl _ _).alloc (Nat.le_refl _) (.cells (cb lb (.slice gXb nb cXb)) 24))
    replace OXa := Own.below OXa ((Below.refl _ _).alloc (Nat.le_refl _) (.cells (cb lb (.slice gXb nb cXb)) 24))
    replace OXb := Own.below OXb ((Below.refl _ _).alloc (Nat.le_refl _) (.cells (cb lb (.slice gXb nb cXb)) 24))
    replace L := Below.alloc L L.size (.cells (cb lb (.slice gXb nb cXb)) 24)
    refine (HI.out _ (.slice gXa na cXa) (.slice gXb nb cXb) OXa.ints OXb.ints).mono ?_
    rintro e wG ⟨vG, rfl, ho, hb⟩
    have hU := World.ownsRow.lt ho
    try simp only [World.size_alloc] at hU
    have UG := Lib.hid hU
    clear hU
    obtain ⟨gG, cG, hvs, _⟩ := ho.shape
    rw [HNR.out] at hvs
    subst hvs
    replace R0 := Row.below R0 hb
    replace R1 := Row.below R1 hb
    replace RW := Row.below RW hb
    replace RXa := Row.below RXa hb
    replace RXb := Row.below RXb hb
    replace OW := Own.below OW hb
    replace OXa := Own.below OXa hb
    replace OXb := Own.below OXb hb
    have hs7 := hb.size
    try simp only [World.size_alloc] at hs7
    replace L := bst L hb L.size
    clear hb
    have OG := ho
    clear ho
    have c00 := Row.cell R0 0
    have c10 := Row.cell R0 1
    have lt0 := Row.lt R0
    have c01 := Row.cell R1 0
    have c11 := Row.cell R1 1
    have lt1 := Row.lt R1
    have c0W := Row.cell RW 0
    have c1W := Row.cell RW 1
    have ltW := Row.lt RW
    have c0Xa := Row.cell RXa 0
    have c1Xa := Row.cell RXa 1
    have ltXa := Row.lt RXa
    have c0Xb := Row.cell RXb 0
    have c1Xb := Row.cell RXb 1
    have ltXb := Row.lt RXb
    go_wp2_with fail
    clear c00 c10 lt0 c01 c11 lt1 c0W c1W ltW c0Xa c1Xa ltXa c0Xb c1Xb ltXb
    replace R0 := Row.alloc R0 (.cells (cb lr (.slice gG nr cG)) 24)
    replace R1 := Row.alloc R1 (.cells (cb lr (.slice gG nr cG)) 24)
    replace RW := Row.alloc RW (.cells (cb lr (.slice gG nr cG)) 24)
    replace RXa := Row.alloc RXa (.cells (cb lr (.slice gG nr cG)) 24)
    replace RXb := Row.alloc RXb (.cells (cb lr (.slice gG nr cG)) 24)
    have RG := Row.new wG 24 (cb lr (.slice gG nr cG))
    replace OW := Own.below OW ((Below.refl _ _).alloc (Nat.le_refl _) (.cells (cb lr (.slice gG nr cG)) 24))
    replace OXa := Own.below OXa ((Below.refl _ _).alloc (Nat.le_refl _) (.cells (cb lr (.slice gG nr cG)) 24))
    replace OXb := Own.below OXb ((Below.refl _ _).alloc (Nat.le_refl _) (.cells (cb lr (.slice gG nr cG)) 24))
    replace OG := Own.below OG ((Below.refl _ _).alloc (Nat.le_refl _) (.cells (cb lr (.slice gG nr cG)) 24))
    replace L := Below.alloc L L.size (.cells (cb lr (.slice gG nr cG)) 24)
    refine (c_eqBits lr (.slice gG nr cG) (.slice gW nr cW) rs _ OG.ints OW.ints (by rw [HNR.out]; omega)).mono ?_
    rintro e w1e ⟨rfl, hb⟩
    replace R0 := Row.below R0 hb
    replace R1 := Row.below R1 hb
    replace RW := Row.below RW hb
    replace RXa := Row.below RXa hb
    replace RXb := Row.below RXb hb
    replace RG := Row.below RG hb
    replace OW := Own.below OW hb
    replace OXa := Own.below OXa hb
    replace OXb := Own.below OXb hb
    replace OG := Own.below OG hb
    have hs8 := hb.size
    try simp only [World.size_alloc] at hs8
    replace L := bst L hb L.size
    clear hb
    have c00 := Row.cell R0 0
    have c10 := Row.cell R0 1
    have lt0 := Row.lt R0
    have c01 := Row.cell R1 0
    have c11 := Row.cell R1 1
    have lt1 := Row.lt R1
    have c0W := Row.cell RW 0
    have c1W := Row.cell RW 1
    have ltW := Row.lt RW
    have c0Xa := Row.cell RXa 0
    have c1Xa := Row.cell RXa 1
    have ltXa := Row.lt RXa
    have c0Xb := Row.cell RXb 0
    have c1Xb := Row.cell RXb 1
    have ltXb := Row.lt RXb
    have c0G := Row.cell RG 0
    have c1G := Row.cell RG 1
    have ltG := Row.lt RG
    go_wp2_with fail
    have IZ : IntsAt w1e.drew (.slice aa na caa) za := IntsAt.below HZa.out (below_drew L)
    have IX : IntsAt w1e.drew (.slice gXa na cXa) za := OXa.ints
    have RR0 : w1e.drew.cell? ⟨w.heap.size, 0, none⟩ = some (.int .i64 la) := Row.cell R0 0
    have RR1 : w1e.drew.cell? ⟨w.heap.size, 1, none⟩ = some (.slice aa na caa) := Row.cell R0 1
    have RX0 : w1e.drew.cell? ⟨wXa.heap.size, 0, none⟩ = some (.int .i64 la) := Row.cell RXa 0
    have RX1 : w1e.drew.cell? ⟨wXa.heap.size, 1, none⟩ = some (.slice gXa na cXa) := Row.cell RXa 1
    have BD := Below.refl w1e.heap.size w1e
    replace BD := below_drew BD
    clear c00 c10 lt0 c01 c11 lt1 c0W c1W ltW c0Xa c1Xa ltXa c0Xb c1Xb ltXb c0G c1G ltG
    go_region_held3 (fun w' => w'.cell? ⟨w.heap.size, 0, none⟩ = some (.int .i64 la) ∧ w'.cell? ⟨w.heap.size, 1, none⟩ = some (.slice aa na caa) ∧ w'.cell? ⟨wXa.heap.size, 0, none⟩ = some (.int .i64 la) ∧ w'.cell? ⟨wXa.heap.size, 1, none⟩ = some (.slice gXa na cXa) ∧ Below w1e.heap.size w1e w')
      (first
        | (with_reducible exact ⟨RR0, RR1, RX0, RX1, BD⟩)
        | (go_split_ands
           exact ⟨cellBelow hbk (by assumption), cellBelow hbk (by assumption), cellBelow hbk (by assumption), cellBelow hbk (by assumption), bst (by assumption) hbk (Below.size (by assumption))⟩)
        | (go_split_ands; refine ⟨?_, ?_, ?_, ?_, ?_⟩ <;> assumption))
      (first
        | (go_at_call 17; refine (c_toBits la (.slice aa na caa) za _ IZ HMa.out).mono ?_; rintro e wad1 ⟨vDa, rfl, hoD, hbk⟩; have OD := Lib.hid hoD.ints; have XD := Lib.hid (IX.below hbk); clear hoD)
        | (go_at_call 12; refine (c_eqBits la _ _ za _ XD.out OD.out HMa.out).mono ?_; rintro e wad2 ⟨rfl, hbk⟩))
    have hb : Below w1e.heap.size w1e wad2 := by go_split_ands; assumption
    clear OD XD IZ IX RR0 RR1 RX0 RX1 BD
    replace R0 := Row.below R0 hb
    replace R1 := Row.below R1 hb
    replace RW := Row.below RW hb
    replace RXa := Row.below RXa hb
    replace RXb := Row.below RXb hb
    replace RG := Row.below RG hb
    replace OW := Own.below OW hb
    replace OXa := Own.below OXa hb
    replace OXb := Own.below OXb hb
    replace OG := Own.below OG hb
    have hs9 := hb.size
    try simp only [World.size_alloc] at hs9
    replace L := bst L hb L.size
    clear hb
    have c00 := Row.cell R0 0
    have c10 := Row.cell R0 1
    have lt0 := Row.lt R0
    have c01 := Row.cell R1 0
    have c11 := Row.cell R1 1
    have lt1 := Row.lt R1
    have c0W := Row.cell RW 0
    have c1W := Row.cell RW 1
    have ltW := Row.lt RW
    have c0Xa := Row.cell RXa 0
    have c1Xa := Row.cell RXa 1
    have ltXa := Row.lt RXa
    have c0Xb := Row.cell RXb 0
    have c1Xb := Row.cell RXb 1
    have ltXb := Row.lt RXb
    have c0G := Row.cell RG 0
    have c1G := Row.cell RG 1
    have ltG := Row.lt RG
    go_wp2_with fail
    have IZ : IntsAt wad2.drew (.slice ab nb cab) zb := IntsAt.below HZb.out (below_drew L)
    have IX : IntsAt wad2.drew (.slice gXb nb cXb) zb := OXb.ints
    have RR0 : wad2.drew.cell? ⟨w.heap.size + 1, 0, none⟩ = some (.int .i64 lb) := Row.cell R1 0
    have RR1 : wad2.drew.cell? ⟨w.heap.size + 1, 1, none⟩ = some (.slice ab nb cab) := Row.cell R1 1
    have RX0 : wad2.drew.cell? ⟨wXb.heap.size, 0, none⟩ = some (.int .i64 lb) := Row.cell RXb 0
    have RX1 : wad2.drew.cell? ⟨wXb.heap.size, 1, none⟩ = some (.slice gXb nb cXb) := Row.cell RXb 1
    have BD := Below.refl wad2.heap.size wad2
    replace BD := below_drew BD
    clear c00 c10 lt0 c01 c11 lt1 c0W c1W ltW c0Xa c1Xa ltXa c0Xb c1Xb ltXb c0G c1G ltG
    go_region_held3 (fun w' => w'.cell? ⟨w.heap.size + 1, 0, none⟩ = some (.int .i64 lb) ∧ w'.cell? ⟨w.heap.size + 1, 1, none⟩ = some (.slice ab nb cab) ∧ w'.cell? ⟨wXb.heap.size, 0, none⟩ = some (.int .i64 lb) ∧ w'.cell? ⟨wXb.heap.size, 1, none⟩ = some (.slice gXb nb cXb) ∧ Below wad2.heap.size wad2 w')
      (first
        | (with_reducible exact ⟨RR0, RR1, RX0, RX1, BD⟩)
        | (go_split_ands
           exact ⟨cellBelow hbk (by assumption), cellBelow hbk (by assumption), cellBelow hbk (by assumption), cellBelow hbk (by assumption), bst (by assumption) hbk (Below.size (by assumption))⟩)
        | (go_split_ands; refine ⟨?_, ?_, ?_, ?_, ?_⟩ <;> assumption))
      (first
        | (go_at_call 17; refine (c_toBits lb (.slice ab nb cab) zb _ IZ HMb.out).mono ?_; rintro e wbd1 ⟨vDb, rfl, hoD, hbk⟩; have OD := Lib.hid hoD.ints; have XD := Lib.hid (IX.below hbk); clear hoD)
        | (go_at_call 12; refine (c_eqBits lb _ _ zb _ XD.out OD.out HMb.out).mono ?_; rintro e wbd2 ⟨rfl, hbk⟩))
    have hb : Below wad2.heap.size wad2 wbd2 := by go_split_ands; assumption
    clear OD XD IZ IX RR0 RR1 RX0 RX1 BD
    replace R0 := Row.below R0 hb
    replace R1 := Row.below R1 hb
    replace RW := Row.below RW hb
    replace RXa := Row.below RXa hb
    replace RXb := Row.below RXb hb
    replace RG := Row.below RG hb
    replace OW := Own.below OW hb
    replace OXa := Own.below OXa hb
    replace OXb := Own.below OXb hb
    replace OG := Own.below OG hb
    have hs10 := hb.size
    try simp only [World.size_alloc] at hs10
    replace L := bst L hb L.size
    clear hb
    have c00 := Row.cell R0 0
    have c10 := Row.cell R0 1
    have lt0 := Row.lt R0
    have c01 := Row.cell R1 0
    have c11 := Row.cell R1 1
    have lt1 := Row.lt R1
    have c0W := Row.cell RW 0
    have c1W := Row.cell RW 1
    have ltW := Row.lt RW
    have c0Xa := Row.cell RXa 0
    have c1Xa := Row.cell RXa 1
    have ltXa := Row.lt RXa
    have c0Xb := Row.cell RXb 0
    have c1Xb := Row.cell RXb 1
    have ltXb := Row.lt RXb
    have c0G := Row.cell RG 0
    have c1G := Row.cell RG 1
    have ltG := Row.lt RG
    go_wp2_with fail
    clear c00 c10 lt0 c01 c11 lt1 c0W c1W ltW c0Xa c1Xa ltXa c0Xb c1Xb ltXb c0G c1G ltG
    refine (c_markBits la (.slice gXa na cXa) za _ (1) _ OXa (by omega) (by rw [HNa.out]; omega)).mono ?_
    rintro e wma ⟨rfl, ho, hg⟩
    rw [HNa.out] at ho
    rw [HNa.out]
    replace R0 := Row.grownBy R0 hg (rowApart UXa.out (by omega))
    replace R1 := Row.grownBy R1 hg (rowApart UXa.out (by omega))
    replace RW := Row.grownBy RW hg (rowApart UXa.out (by omega))
    replace RXa := Row.grownBy RXa hg (rowApart UXa.out (by omega))
    replace RXb := Row.grownBy RXb hg (rowApart UXa.out (by omega))
    replace RG := Row.grownBy RG hg (rowApart UXa.out (by omega))
    replace OW : Own _ _ _ _ := World.ownsRow.kept OW hg (ownApart UW.out UXa.out (by omega))
    replace OXb : Own _ _ _ _ := World.ownsRow.kept OXb hg (ownApart UXb.out UXa.out (by omega))
    replace OG : Own _ _ _ _ := World.ownsRow.kept OG hg (ownApart UG.out UXa.out (by omega))
    have hs11 := hg.size
    replace L := Below.grown L hg L.size (fun k hk => by have := UXa.out k hk; omega)
    clear hg
    clear OXa ho
    have c00 := Row.cell R0 0
    have c10 := Row.cell R0 1
    have lt0 := Row.lt R0
    have c01 := Row.cell R1 0
    have c11 := Row.cell R1 1
    have lt1 := Row.lt R1
    have c0W := Row.cell RW 0
    have c1W := Row.cell RW 1
    have ltW := Row.lt RW
    have c0Xa := Row.cell RXa 0
    have c1Xa := Row.cell RXa 1
    have ltXa := Row.lt RXa
    have c0Xb := Row.cell RXb 0
    have c1Xb := Row.cell RXb 1
    have ltXb := Row.lt RXb
    have c0G := Row.cell RG 0
    have c1G := Row.cell RG 1
    have ltG := Row.lt RG
    go_wp2_with fail
    clear c00 c10 lt0 c01 c11 lt1 c0W c1W ltW c0Xa c1Xa ltXa c0Xb c1Xb ltXb c0G c1G ltG
    refine (c_markBits lb (.slice gXb nb cXb) zb _ (1 + (na : Int)) _ OXb (by omega) (by rw [HNb.out]; omega)).mono ?_
    rintro e wmb ⟨rfl, ho, hg⟩
    rw [HNb.out] at ho
    rw [HNb.out]
    replace R0 := Row.grownBy R0 hg (rowApart UXb.out (by omega))
    replace R1 := Row.grownBy R1 hg (rowApart UXb.out (by omega))
    replace RW := Row.grownBy RW hg (rowApart UXb.out (by omega))
    replace RXa := Row.grownBy RXa hg (rowApart UXb.out (by omega))
    replace RXb := Row.grownBy RXb hg (rowApart UXb.out (by omega))
    replace RG := Row.grownBy RG hg (rowApart UXb.out (by omega))
    replace OW : Own _ _ _ _ := World.ownsRow.kept OW hg (ownApart UW.out UXb.out (by omega))
    replace OG : Own _ _ _ _ := World.ownsRow.kept OG hg (ownApart UG.out UXb.out (by omega))
    have hs12 := hg.size
    replace L := Below.grown L hg L.size (fun k hk => by have := UXb.out k hk; omega)
    clear hg
    clear OXb ho
    have c00 := Row.cell R0 0
    have c10 := Row.cell R0 1
    have lt0 := Row.lt R0
    have c01 := Row.cell R1 0
    have c11 := Row.cell R1 1
    have lt1 := Row.lt R1
    have c0W := Row.cell RW 0
    have c1W := Row.cell RW 1
    have ltW := Row.lt RW
    have c0Xa := Row.cell RXa 0
    have c1Xa := Row.cell RXa 1
    have ltXa := Row.lt RXa
    have c0Xb := Row.cell RXb 0
    have c1Xb := Row.cell RXb 1
    have ltXb := Row.lt RXb
    have c0G := Row.cell RG 0
    have c1G := Row.cell RG 1
    have ltG := Row.lt RG
    go_wp2_with fail
    clear c00 c10 lt0 c01 c11 lt1 c0W c1W ltW c0Xa c1Xa ltXa c0Xb c1Xb ltXb c0G c1G ltG
    refine (c_eqBits lr (.slice gG nr cG) (.slice gW nr cW) rs _ OG.ints OW.ints (by rw [HNR.out]; omega)).mono ?_
    rintro e w2e ⟨rfl, hb⟩
    replace R0 := Row.below R0 hb
    replace R1 := Row.below R1 hb
    replace RW := Row.below RW hb
    replace RXa := Row.below RXa hb
    replace RXb := Row.below RXb hb
    replace RG := Row.below RG hb
    replace OW := Own.below OW hb
    replace OG := Own.below OG hb
    have hs13 := hb.size
    try simp only [World.size_alloc] at hs13
    replace L := bst L hb L.size
    clear hb
    have c00 := Row.cell R0 0
    have c10 := Row.cell R0 1
    have lt0 := Row.lt R0
    have c01 := Row.cell R1 0
    have c11 := Row.cell R1 1
    have lt1 := Row.lt R1
    have c0W := Row.cell RW 0
    have c1W := Row.cell RW 1
    have ltW := Row.lt RW
    have c0Xa := Row.cell RXa 0
    have c1Xa := Row.cell RXa 1
    have ltXa := Row.lt RXa
    have c0Xb := Row.cell RXb 0
    have c1Xb := Row.cell RXb 1
    have ltXb := Row.lt RXb
    have c0G := Row.cell RG 0
    have c1G := Row.cell RG 1
    have ltG := Row.lt RG
    go_wp2_with fail
    clear c00 c10 lt0 c01 c11 lt1 c0W c1W ltW c0Xa c1Xa ltXa c0Xb c1Xb ltXb c0G c1G ltG
    refine (c_markBits lr (.slice gG nr cG) rs _ (1) _ OG (by omega) (by rw [HNR.out]; omega)).mono ?_
    rintro e wmG ⟨rfl, ho, hg⟩
    rw [HNR.out] at ho
    rw [HNR.out]
    replace R0 := Row.grownBy R0 hg (rowApart UG.out (by omega))
    replace R1 := Row.grownBy R1 hg (rowApart UG.out (by omega))
    replace RW := Row.grownBy RW hg (rowApart UG.out (by omega))
    replace RXa := Row.grownBy RXa hg (rowApart UG.out (by omega))
    replace RXb := Row.grownBy RXb hg (rowApart UG.out (by omega))
    replace RG := Row.grownBy RG hg (rowApart UG.out (by omega))
    replace OW : Own _ _ _ _ := World.ownsRow.kept OW hg (ownApart UW.out UG.out (by omega))
    have hs14 := hg.size
    replace L := Below.grown L hg L.size (fun k hk => by have := UG.out k hk; omega)
    clear hg
    replace OG := ho
    clear ho
    have c00 := Row.cell R0 0
    have c10 := Row.cell R0 1
    have lt0 := Row.lt R0
    have c01 := Row.cell R1 0
    have c11 := Row.cell R1 1
    have lt1 := Row.lt R1
    have c0W := Row.cell RW 0
    have c1W := Row.cell RW 1
    have ltW := Row.lt RW
    have c0Xa := Row.cell RXa 0
    have c1Xa := Row.cell RXa 1
    have ltXa := Row.lt RXa
    have c0Xb := Row.cell RXb 0
    have c1Xb := Row.cell RXb 1
    have ltXb := Row.lt RXb
    have c0G := Row.cell RG 0
    have c1G := Row.cell RG 1
    have ltG := Row.lt RG
    go_wp2_with fail
    clear c00 c10 lt0 c01 c11 lt1 c0W c1W ltW c0Xa c1Xa ltXa c0Xb c1Xb ltXb c0G c1G ltG
    refine (c_heldBits lr (.slice gG nr cG) nr 1 _ OG.ints (by omega) (by omega)).mono ?_
    rintro e wh1 ⟨rfl, hb⟩
    replace R0 := Row.below R0 hb
    replace R1 := Row.below R1 hb
    replace RW := Row.below RW hb
    replace RXa := Row.below RXa hb
    replace RXb := Row.below RXb hb
    replace RG := Row.below RG hb
    replace OW := Own.below OW hb
    replace OG := Own.below OG hb
    have hs15 := hb.size
    try simp only [World.size_alloc] at hs15
    replace L := bst L hb L.size
    clear hb
    have c00 := Row.cell R0 0
    have c10 := Row.cell R0 1
    have lt0 := Row.lt R0
    have c01 := Row.cell R1 0
    have c11 := Row.cell R1 1
    have lt1 := Row.lt R1
    have c0W := Row.cell RW 0
    have c1W := Row.cell RW 1
    have ltW := Row.lt RW
    have c0Xa := Row.cell RXa 0
    have c1Xa := Row.cell RXa 1
    have ltXa := Row.lt RXa
    have c0Xb := Row.cell RXb 0
    have c1Xb := Row.cell RXb 1
    have ltXb := Row.lt RXb
    have c0G := Row.cell RG 0
    have c1G := Row.cell RG 1
    have ltG := Row.lt RG
    go_wp2_with fail
    have IZa : IntsAt wh1 (.slice aa na caa) za := IntsAt.below HZa.out L
    have IZb : IntsAt wh1 (.slice ab nb cab) zb := IntsAt.below HZb.out L
    have KS : Hid (∀ X, Below wh1.heap.size wh1 X → X.cell? ⟨w.heap.size, 0, none⟩ = some (.int .i64 la) ∧ X.cell? ⟨w.heap.size, 1, none⟩ = some (.slice aa na caa) ∧ X.cell? ⟨w.heap.size + 1, 0, none⟩ = some (.int .i64 lb) ∧ X.cell? ⟨w.heap.size + 1, 1, none⟩ = some (.slice ab nb cab) ∧ Below wh1.heap.size wh1 X) := fun X hX => ⟨Row.cell (Row.below R0 hX) 0, Row.cell (Row.below R0 hX) 1, Row.cell (Row.below R1 hX) 0, Row.cell (Row.below R1 hX) 1, hX⟩
    have BD := below_drew (Below.refl wh1.heap.size wh1)
    clear c00 c10 lt0 c01 c11 lt1 c0W c1W ltW c0Xa c1Xa ltXa c0Xb c1Xb ltXb c0G c1G ltG
    go_region_held3 (fun w' => w'.cell? ⟨w.heap.size, 0, none⟩ = some (.int .i64 la) ∧ w'.cell? ⟨w.heap.size, 1, none⟩ = some (.slice aa na caa) ∧ w'.cell? ⟨w.heap.size + 1, 0, none⟩ = some (.int .i64 lb) ∧ w'.cell? ⟨w.heap.size + 1, 1, none⟩ = some (.slice ab nb cab) ∧ Below wh1.heap.size wh1 w')
      (first
        | exact KS.out _ BD
        | exact KS.out _ (bst (by go_split_ands; assumption) hbk (Below.size (by go_split_ands; assumption)))
        | exact KS.out _ (Below.alloc (by go_split_ands; assumption) (Below.size (by go_split_ands; assumption)) _)
        | exact KS.out _ (Below.alloc LB3 LB3.size _)
        | exact KS.out _ (Below.setCell (Below.setCell LB3 (by first | exact Nat.le_refl _ | (simp; omega)) _) (by first | exact Nat.le_refl _ | (simp; omega)) _)
        | (go_split_ands; refine ⟨?_, ?_, ?_, ?_, ?_⟩ <;> assumption))
      (first
        | (go_at_call 17; ((with_reducible refine (c_toBits la (.slice aa na caa) za _ (IntsAt.below IZa (by go_split_ands; assumption)) HMa.out).mono ?_); rintro e pI1 ⟨vapI, rfl, hoa, hbk⟩; have hq1 := hbk.size; (try simp at hq1); (try (have RZ : RowB pI1 wh1.heap.size 0 (.slice none 0 0) := Row.below (Row.new wh1.drew _ _) hbk)); have HOa := Lib.hid hoa; clear hoa))
        | (go_at_call 17; ((with_reducible refine (c_toBits lb (.slice ab nb cab) zb _ (IntsAt.below IZb (by go_split_ands; assumption)) HMb.out).mono ?_); rintro e pI2 ⟨vbpI, rfl, hob, hbk⟩; have hq2 := hbk.size; (try simp at hq2); ((first | (replace RZ := Row.below RZ hbk) | (have RZ : RowB pI2 pI1.heap.size 0 (.slice none 0 0) := Row.below (Row.new pI1 _ _) hbk) | skip)); have PB : Below pI1.heap.size pI1 pI2 := (by first | exact hbk | exact bst ((Below.refl _ _).alloc (Nat.le_refl _) _) hbk (by simp)); have IA := Lib.hid (HOa.out.below PB).ints; have IB := Lib.hid hob.ints; clear hob PB))
        | (go_at_call 26; (refine (HI.out _ _ _ (IntsAt.below IA.out (by first | exact Below.refl _ _ | exact (Below.refl _ _).alloc (Nat.le_refl _) _)) (IntsAt.below IB.out (by first | exact Below.refl _ _ | exact (Below.refl _ _).alloc (Nat.le_refl _) _))).mono ?_; rintro e pI3 ⟨vH, rfl, ho, hbk⟩; have hq3 := hbk.size; (try simp at hq3); ((first | (replace RZ := Row.below RZ hbk) | (have RZ : RowB pI3 pI2.heap.size 0 (.slice none 0 0) := Row.below (Row.new pI2 _ _) hbk) | skip)); (try (have dz0 := RowB.c0 RZ; have dz1 := RowB.c1 RZ; have fz0 := Row.frozen RZ 0; have fz1 := Row.frozen RZ 1)); have LB3 : Below wh1.heap.size wh1 pI3 := bst (by go_split_ands; assumption) hbk (Below.size (by go_split_ands; assumption)); have hU := World.ownsRow.lt ho; (try simp only [World.size_alloc] at hU); have UH := Lib.hid hU; clear hU; obtain ⟨gH, cH, hvs, _⟩ := ho.shape; rw [HNR.out] at hvs; subst hvs; have HOW := Lib.hid ho; clear ho)))
    all_goals
      first
        | (have RH : RowB _ pI3.heap.size lr (.slice gH nr cH) := Row.new pI3 _ _
           replace R0 := (Row.below R0 LB3).alloc (.cells (cb lr (.slice gH nr cH)) 24)
           replace R1 := (Row.below R1 LB3).alloc (.cells (cb lr (.slice gH nr cH)) 24)
           replace RW := (Row.below RW LB3).alloc (.cells (cb lr (.slice gH nr cH)) 24)
           replace RXa := (Row.below RXa LB3).alloc (.cells (cb lr (.slice gH nr cH)) 24)
           replace RXb := (Row.below RXb LB3).alloc (.cells (cb lr (.slice gH nr cH)) 24)
           replace RG := (Row.below RG LB3).alloc (.cells (cb lr (.slice gH nr cH)) 24)
           replace OW := (Own.below OW LB3).below ((Below.refl _ _).alloc (Nat.le_refl _) (.cells (cb lr (.slice gH nr cH)) 24))
           replace OG := (Own.below OG LB3).below ((Below.refl _ _).alloc (Nat.le_refl _) (.cells (cb lr (.slice gH nr cH)) 24))
           have OH := HOW.out.below ((Below.refl _ _).alloc (Nat.le_refl _) (.cells (cb lr (.slice gH nr cH)) 24))
           replace L := bst L LB3 L.size
           replace L := L.alloc L.size (.cells (cb lr (.slice gH nr cH)) 24)
           replace UH : Hid (∀ k, (Value.slice gH nr cH).ownBlock = some k → wh1.heap.size ≤ k ∧ k < (pI3.alloc (.cells (cb lr (.slice gH nr cH)) 24)).heap.size) := fun k hk => by have := UH.out k hk; simp; omega
           have hs16 : pI3.heap.size < (pI3.alloc (.cells (cb lr (.slice gH nr cH)) 24)).heap.size := by simp
           have hs17 : wh1.heap.size ≤ pI3.heap.size := LB3.size
           have hs18 : wh1.heap.size ≤ (pI3.alloc (.cells (cb lr (.slice gH nr cH)) 24)).heap.size := by simp; omega
           change Exit.then _ _ Exit.normal _ (pI3.alloc (.cells (cb lr (.slice gH nr cH)) 24))
           clear HOW hbk LB3
           generalize pI3.alloc (.cells (cb lr (.slice gH nr cH)) 24) = pIN at *
           generalize pI3.heap.size = gBH at *)
        | (have hgz : wh1.heap.size ≤ pI2.heap.size := by omega
           have RH : RowB ((pI3.setCell ⟨pI2.heap.size, 0, none⟩ (.int .i64 lr)).setCell ⟨pI2.heap.size, 1, none⟩ (.slice gH nr cH)) pI2.heap.size lr (.slice gH nr cH) := rowB_set2 RZ lr (.slice gH nr cH)
           replace R0 := ((Row.below R0 LB3).other ⟨pI2.heap.size, 0, none⟩ (by have := Row.lt R0; simp; omega) (.int .i64 lr)).other ⟨pI2.heap.size, 1, none⟩ (by have := Row.lt R0; simp; omega) (.slice gH nr cH)
           replace R1 := ((Row.below R1 LB3).other ⟨pI2.heap.size, 0, none⟩ (by have := Row.lt R1; simp; omega) (.int .i64 lr)).other ⟨pI2.heap.size, 1, none⟩ (by have := Row.lt R1; simp; omega) (.slice gH nr cH)
           replace RW := ((Row.below RW LB3).other ⟨pI2.heap.size, 0, none⟩ (by have := Row.lt RW; simp; omega) (.int .i64 lr)).other ⟨pI2.heap.size, 1, none⟩ (by have := Row.lt RW; simp; omega) (.slice gH nr cH)
           replace RXa := ((Row.below RXa LB3).other ⟨pI2.heap.size, 0, none⟩ (by have := Row.lt RXa; simp; omega) (.int .i64 lr)).other ⟨pI2.heap.size, 1, none⟩ (by have := Row.lt RXa; simp; omega) (.slice gH nr cH)
           replace RXb := ((Row.below RXb LB3).other ⟨pI2.heap.size, 0, none⟩ (by have := Row.lt RXb; simp; omega) (.int .i64 lr)).other ⟨pI2.heap.size, 1, none⟩ (by have := Row.lt RXb; simp; omega) (.slice gH nr cH)
           replace RG := ((Row.below RG LB3).other ⟨pI2.heap.size, 0, none⟩ (by have := Row.lt RG; simp; omega) (.int .i64 lr)).other ⟨pI2.heap.size, 1, none⟩ (by have := Row.lt RG; simp; omega) (.slice gH nr cH)
           replace OW := Own.setApart (Own.below OW LB3) (pI2.heap.size) lr (.slice gH nr cH) (rowApart UW.out (by omega))
           replace OG := Own.setApart (Own.below OG LB3) (pI2.heap.size) lr (.slice gH nr cH) (rowApart UG.out (by omega))
           have OH := Own.setApart HOW.out (pI2.heap.size) lr (.slice gH nr cH) (rowApart UH.out (by omega))
           replace L := bst L LB3 L.size
           replace L := (L.setCell (p := ⟨pI2.heap.size, 0, none⟩) (by first | exact Nat.le_refl _ | (simp; omega)) (.int .i64 lr)).setCell (p := ⟨pI2.heap.size, 1, none⟩) (by first | exact Nat.le_refl _ | (simp; omega)) (.slice gH nr cH)
           have hsz : ((pI3.setCell ⟨pI2.heap.size, 0, none⟩ (.int .i64 lr)).setCell ⟨pI2.heap.size, 1, none⟩ (.slice gH nr cH)).heap.size = pI3.heap.size := by simp [World.setCell]
           replace UH : Hid (∀ k, (Value.slice gH nr cH).ownBlock = some k → wh1.heap.size ≤ k ∧ k < ((pI3.setCell ⟨pI2.heap.size, 0, none⟩ (.int .i64 lr)).setCell ⟨pI2.heap.size, 1, none⟩ (.slice gH nr cH)).heap.size) := fun k hk => by have := UH.out k hk; rw [hsz]; omega
           have hs16 : pI2.heap.size < ((pI3.setCell ⟨pI2.heap.size, 0, none⟩ (.int .i64 lr)).setCell ⟨pI2.heap.size, 1, none⟩ (.slice gH nr cH)).heap.size := by rw [hsz]; omega
           have hs17 : wh1.heap.size ≤ pI2.heap.size := hgz
           have hs18 : wh1.heap.size ≤ ((pI3.setCell ⟨pI2.heap.size, 0, none⟩ (.int .i64 lr)).setCell ⟨pI2.heap.size, 1, none⟩ (.slice gH nr cH)).heap.size := by rw [hsz]; omega
           change Exit.then _ _ Exit.normal _ ((pI3.setCell ⟨pI2.heap.size, 0, none⟩ (.int .i64 lr)).setCell ⟨pI2.heap.size, 1, none⟩ (.slice gH nr cH))
           clear hsz dz0 dz1 fz0 fz1 RZ HOW hbk LB3 hgz
           generalize ((pI3.setCell ⟨pI2.heap.size, 0, none⟩ (.int .i64 lr)).setCell ⟨pI2.heap.size, 1, none⟩ (.slice gH nr cH)) = pIN at *
           obtain ⟨gBH, hgn⟩ : ∃ g, g = pI2.heap.size := ⟨_, rfl⟩
           rw [← hgn] at RH hs16 hs17 ⊢
           clear hgn)
        | (have hgz : wh1.heap.size ≤ pI1.heap.size := by omega
           have RH : RowB ((pI3.setCell ⟨pI1.heap.size, 0, none⟩ (.int .i64 lr)).setCell ⟨pI1.heap.size, 1, none⟩ (.slice gH nr cH)) pI1.heap.size lr (.slice gH nr cH) := rowB_set2 RZ lr (.slice gH nr cH)
           replace R0 := ((Row.below R0 LB3).other ⟨pI1.heap.size, 0, none⟩ (by have := Row.lt R0; simp; omega) (.int .i64 lr)).other ⟨pI1.heap.size, 1, none⟩ (by have := Row.lt R0; simp; omega) (.slice gH nr cH)
           replace R1 := ((Row.below R1 LB3).other ⟨pI1.heap.size, 0, none⟩ (by have := Row.lt R1; simp; omega) (.int .i64 lr)).other ⟨pI1.heap.size, 1, none⟩ (by have := Row.lt R1; simp; omega) (.slice gH nr cH)
           replace RW := ((Row.below RW LB3).other ⟨pI1.heap.size, 0, none⟩ (by have := Row.lt RW; simp; omega) (.int .i64 lr)).other ⟨pI1.heap.size, 1, none⟩ (by have := Row.lt RW; simp; omega) (.slice gH nr cH)
           replace RXa := ((Row.below RXa LB3).other ⟨pI1.heap.size, 0, none⟩ (by have := Row.lt RXa; simp; omega) (.int .i64 lr)).other ⟨pI1.heap.size, 1, none⟩ (by have := Row.lt RXa; simp; omega) (.slice gH nr cH)
           replace RXb := ((Row.below RXb LB3).other ⟨pI1.heap.size, 0, none⟩ (by have := Row.lt RXb; simp; omega) (.int .i64 lr)).other ⟨pI1.heap.size, 1, none⟩ (by have := Row.lt RXb; simp; omega) (.slice gH nr cH)
           replace RG := ((Row.below RG LB3).other ⟨pI1.heap.size, 0, none⟩ (by have := Row.lt RG; simp; omega) (.int .i64 lr)).other ⟨pI1.heap.size, 1, none⟩ (by have := Row.lt RG; simp; omega) (.slice gH nr cH)
           replace OW := Own.setApart (Own.below OW LB3) (pI1.heap.size) lr (.slice gH nr cH) (rowApart UW.out (by omega))
           replace OG := Own.setApart (Own.below OG LB3) (pI1.heap.size) lr (.slice gH nr cH) (rowApart UG.out (by omega))
           have OH := Own.setApart HOW.out (pI1.heap.size) lr (.slice gH nr cH) (rowApart UH.out (by omega))
           replace L := bst L LB3 L.size
           replace L := (L.setCell (p := ⟨pI1.heap.size, 0, none⟩) (by first | exact Nat.le_refl _ | (simp; omega)) (.int .i64 lr)).setCell (p := ⟨pI1.heap.size, 1, none⟩) (by first | exact Nat.le_refl _ | (simp; omega)) (.slice gH nr cH)
           have hsz : ((pI3.setCell ⟨pI1.heap.size, 0, none⟩ (.int .i64 lr)).setCell ⟨pI1.heap.size, 1, none⟩ (.slice gH nr cH)).heap.size = pI3.heap.size := by simp [World.setCell]
           replace UH : Hid (∀ k, (Value.slice gH nr cH).ownBlock = some k → wh1.heap.size ≤ k ∧ k < ((pI3.setCell ⟨pI1.heap.size, 0, none⟩ (.int .i64 lr)).setCell ⟨pI1.heap.size, 1, none⟩ (.slice gH nr cH)).heap.size) := fun k hk => by have := UH.out k hk; rw [hsz]; omega
           have hs16 : pI1.heap.size < ((pI3.setCell ⟨pI1.heap.size, 0, none⟩ (.int .i64 lr)).setCell ⟨pI1.heap.size, 1, none⟩ (.slice gH nr cH)).heap.size := by rw [hsz]; omega
           have hs17 : wh1.heap.size ≤ pI1.heap.size := hgz
           have hs18 : wh1.heap.size ≤ ((pI3.setCell ⟨pI1.heap.size, 0, none⟩ (.int .i64 lr)).setCell ⟨pI1.heap.size, 1, none⟩ (.slice gH nr cH)).heap.size := by rw [hsz]; omega
           change Exit.then _ _ Exit.normal _ ((pI3.setCell ⟨pI1.heap.size, 0, none⟩ (.int .i64 lr)).setCell ⟨pI1.heap.size, 1, none⟩ (.slice gH nr cH))
           clear hsz dz0 dz1 fz0 fz1 RZ HOW hbk LB3 hgz
           generalize ((pI3.setCell ⟨pI1.heap.size, 0, none⟩ (.int .i64 lr)).setCell ⟨pI1.heap.size, 1, none⟩ (.slice gH nr cH)) = pIN at *
           obtain ⟨gBH, hgn⟩ : ∃ g, g = pI1.heap.size := ⟨_, rfl⟩
           rw [← hgn] at RH hs16 hs17 ⊢
           clear hgn)
        | (have hgz : wh1.heap.size ≤ wh1.heap.size := by omega
           have RH : RowB ((pI3.setCell ⟨wh1.heap.size, 0, none⟩ (.int .i64 lr)).setCell ⟨wh1.heap.size, 1, none⟩ (.slice gH nr cH)) wh1.heap.size lr (.slice gH nr cH) := rowB_set2 RZ lr (.slice gH nr cH)
           replace R0 := ((Row.below R0 LB3).other ⟨wh1.heap.size, 0, none⟩ (by have := Row.lt R0; simp; omega) (.int .i64 lr)).other ⟨wh1.heap.size, 1, none⟩ (by have := Row.lt R0; simp; omega) (.slice gH nr cH)
           replace R1 := ((Row.below R1 LB3).other ⟨wh1.heap.size, 0, none⟩ (by have := Row.lt R1; simp; omega) (.int .i64 lr)).other ⟨wh1.heap.size, 1, none⟩ (by have := Row.lt R1; simp; omega) (.slice gH nr cH)
           replace RW := ((Row.below RW LB3).other ⟨wh1.heap.size, 0, none⟩ (by have := Row.lt RW; simp; omega) (.int .i64 lr)).other ⟨wh1.heap.size, 1, none⟩ (by have := Row.lt RW; simp; omega) (.slice gH nr cH)
           replace RXa := ((Row.below RXa LB3).other ⟨wh1.heap.size, 0, none⟩ (by have := Row.lt RXa; simp; omega) (.int .i64 lr)).other ⟨wh1.heap.size, 1, none⟩ (by have := Row.lt RXa; simp; omega) (.slice gH nr cH)
           replace RXb := ((Row.below RXb LB3).other ⟨wh1.heap.size, 0, none⟩ (by have := Row.lt RXb; simp; omega) (.int .i64 lr)).other ⟨wh1.heap.size, 1, none⟩ (by have := Row.lt RXb; simp; omega) (.slice gH nr cH)
           replace RG := ((Row.below RG LB3).other ⟨wh1.heap.size, 0, none⟩ (by have := Row.lt RG; simp; omega) (.int .i64 lr)).other ⟨wh1.heap.size, 1, none⟩ (by have := Row.lt RG; simp; omega) (.slice gH nr cH)
           replace OW := Own.setApart (Own.below OW LB3) (wh1.heap.size) lr (.slice gH nr cH) (rowApart UW.out (by omega))
           replace OG := Own.setApart (Own.below OG LB3) (wh1.heap.size) lr (.slice gH nr cH) (rowApart UG.out (by omega))
           have OH := Own.setApart HOW.out (wh1.heap.size) lr (.slice gH nr cH) (rowApart UH.out (by omega))
           replace L := bst L LB3 L.size
           replace L := (L.setCell (p := ⟨wh1.heap.size, 0, none⟩) (by first | exact Nat.le_refl _ | (simp; omega)) (.int .i64 lr)).setCell (p := ⟨wh1.heap.size, 1, none⟩) (by first | exact Nat.le_refl _ | (simp; omega)) (.slice gH nr cH)
           have hsz : ((pI3.setCell ⟨wh1.heap.size, 0, none⟩ (.int .i64 lr)).setCell ⟨wh1.heap.size, 1, none⟩ (.slice gH nr cH)).heap.size = pI3.heap.size := by simp [World.setCell]
           replace UH : Hid (∀ k, (Value.slice gH nr cH).ownBlock = some k → wh1.heap.size ≤ k ∧ k < ((pI3.setCell ⟨wh1.heap.size, 0, none⟩ (.int .i64 lr)).setCell ⟨wh1.heap.size, 1, none⟩ (.slice gH nr cH)).heap.size) := fun k hk => by have := UH.out k hk; rw [hsz]; omega
           have hs16 : wh1.heap.size < ((pI3.setCell ⟨wh1.heap.size, 0, none⟩ (.int .i64 lr)).setCell ⟨wh1.heap.size, 1, none⟩ (.slice gH nr cH)).heap.size := by rw [hsz]; omega
           have hs17 : wh1.heap.size ≤ wh1.heap.size := hgz
           have hs18 : wh1.heap.size ≤ ((pI3.setCell ⟨wh1.heap.size, 0, none⟩ (.int .i64 lr)).setCell ⟨wh1.heap.size, 1, none⟩ (.slice gH nr cH)).heap.size := by rw [hsz]; omega
           change Exit.then _ _ Exit.normal _ ((pI3.setCell ⟨wh1.heap.size, 0, none⟩ (.int .i64 lr)).setCell ⟨wh1.heap.size, 1, none⟩ (.slice gH nr cH))
           clear hsz dz0 dz1 fz0 fz1 RZ HOW hbk LB3 hgz
           generalize ((pI3.setCell ⟨wh1.heap.size, 0, none⟩ (.int .i64 lr)).setCell ⟨wh1.heap.size, 1, none⟩ (.slice gH nr cH)) = pIN at *
           obtain ⟨gBH, hgn⟩ : ∃ g, g = wh1.heap.size := ⟨_, rfl⟩
           rw [← hgn] at RH hs16 hs17 ⊢
           clear hgn)
      clear IZa IZb KS BD HOa IA IB hq1 hq2 hq3
      have c00 := Row.cell R0 0
      have c10 := Row.cell R0 1
      have lt0 := Row.lt R0
      have c01 := Row.cell R1 0
      have c11 := Row.cell R1 1
      have lt1 := Row.lt R1
      have c0W := Row.cell RW 0
      have c1W := Row.cell RW 1
      have ltW := Row.lt RW
      have c0Xa := Row.cell RXa 0
      have c1Xa := Row.cell RXa 1
      have ltXa := Row.lt RXa
      have c0Xb := Row.cell RXb 0
      have c1Xb := Row.cell RXb 1
      have ltXb := Row.lt RXb
      have c0G := Row.cell RG 0
      have c1G := Row.cell RG 1
      have ltG := Row.lt RG
      have c0H := Row.cell RH 0
      have c1H := Row.cell RH 1
      have ltH := Row.lt RH
      go_wp2_with fail
      clear c00 c10 lt0 c01 c11 lt1 c0W c1W ltW c0Xa c1Xa ltXa c0Xb c1Xb ltXb c0G c1G ltG c0H c1H ltH
      refine (c_eqBits lr (.slice gH nr cH) (.slice gW nr cW) rs _ OH.ints OW.ints (by rw [HNR.out]; omega)).mono ?_
      rintro e w3e ⟨rfl, hb⟩
      replace R0 := Row.below R0 hb
      replace R1 := Row.below R1 hb
      replace RW := Row.below RW hb
      replace RXa := Row.below RXa hb
      replace RXb := Row.below RXb hb
      replace RG := Row.below RG hb
      replace RH := Row.below RH hb
      replace OW := Own.below OW hb
      replace OG := Own.below OG hb
      replace OH := Own.below OH hb
      have hs19 := hb.size
      try simp only [World.size_alloc] at hs19
      replace L := bst L hb L.size
      clear hb
      have c00 := Row.cell R0 0
      have c10 := Row.cell R0 1
      have lt0 := Row.lt R0
      have c01 := Row.cell R1 0
      have c11 := Row.cell R1 1
      have lt1 := Row.lt R1
      have c0W := Row.cell RW 0
      have c1W := Row.cell RW 1
      have ltW := Row.lt RW
      have c0Xa := Row.cell RXa 0
      have c1Xa := Row.cell RXa 1
      have ltXa := Row.lt RXa
      have c0Xb := Row.cell RXb 0
      have c1Xb := Row.cell RXb 1
      have ltXb := Row.lt RXb
      have c0G := Row.cell RG 0
      have c1G := Row.cell RG 1
      have ltG := Row.lt RG
      have c0H := Row.cell RH 0
      have c1H := Row.cell RH 1
      have ltH := Row.lt RH
      go_wp2_with fail
      clear c00 c10 lt0 c01 c11 lt1 c0W c1W ltW c0Xa c1Xa ltXa c0Xb c1Xb ltXb c0G c1G ltG c0H c1H ltH
      refine (c_heldBits lr (.slice gG nr cG) nr 1 _ OG.ints (by omega) (by omega)).mono ?_
      rintro e wh2 ⟨rfl, hb⟩
      replace R0 := Row.below R0 hb
      replace R1 := Row.below R1 hb
      replace RW := Row.below RW hb
      replace RXa := Row.below RXa hb
      replace RXb := Row.below RXb hb
      replace RG := Row.below RG hb
      replace RH := Row.below RH hb
      replace OW := Own.below OW hb
      replace OG := Own.below OG hb
      replace OH := Own.below OH hb
      have hs20 := hb.size
      try simp only [World.size_alloc] at hs20
      replace L := bst L hb L.size
      clear hb
      have c00 := Row.cell R0 0
      have c10 := Row.cell R0 1
      have lt0 := Row.lt R0
      have c01 := Row.cell R1 0
      have c11 := Row.cell R1 1
      have lt1 := Row.lt R1
      have c0W := Row.cell RW 0
      have c1W := Row.cell RW 1
      have ltW := Row.lt RW
      have c0Xa := Row.cell RXa 0
      have c1Xa := Row.cell RXa 1
      have ltXa := Row.lt RXa
      have c0Xb := Row.cell RXb 0
      have c1Xb := Row.cell RXb 1
      have ltXb := Row.lt RXb
      have c0G := Row.cell RG 0
      have c1G := Row.cell RG 1
      have ltG := Row.lt RG
      have c0H := Row.cell RH 0
      have c1H := Row.cell RH 1
      have ltH := Row.lt RH
      go_wp2
      go_ret
      exact ⟨rfl, L⟩
set_option maxHeartbeats 800000 in
set_option maxRecDepth 100000 in
theorem walk_FnExactBothBits (la : Int) (va : Value) (za : List Int) (lb : Int) (vb : Value) (zb : List Int) (w : World) (hza : IntsAt w va za) (hna : za.length ≤ 9223372036854775807) (hzb : IntsAt w vb zb) (hnb : zb.length ≤ 9223372036854775807) : Calls Try.prog 8 #[bm la va, bm lb vb] w fun e w' => e = .returned (.bool true) ∧ Below w.heap.size w w' := by
  by_cases hm : za.length + zb.length ≤ 1048576
  · by_cases hB : Bok la za ∧ Bok lb zb ∧ la = lb
    · obtain ⟨ga, gb, hl⟩ := hB
      have h1 := ga.2.2.1
      have h2 := ga.2.1
      refine core_FnExactBothBits la va za lb vb zb la (zipW .and za zb) true w hza hzb hm (by unfold zipW; rw [wl_length]; omega) (fun w va vb ha hb => c_sBothBits_yes la lb va vb za zb w ha hb ga gb hl) (fun w va vb ha hb => ?_)
      rw [zipW_and ga gb]
      exact c_iBothBits_yes la lb va vb za zb w ha hb ga gb hl
    · exact core_FnExactBothBits la va za lb vb zb 0 [] false w hza hzb hm (by simp) (fun w va vb ha hb => (c_sBothBits_no la lb va vb za zb w ha hb hB).mono fun _ _ ⟨he, hb⟩ => bitsEnd_none he hb) (fun w va vb ha hb => (c_iBothBits_no la lb va vb za zb w ha hb hB).mono fun _ _ ⟨he, hb⟩ => bitsEnd_none he hb)
  · have HB0 := Lib.hid (((Below.refl w.heap.size w).alloc (Nat.le_refl _) (.cells (cb la va) 30)).alloc (by simp) (.cells (cb lb vb) 30))
    by_cases h1 : za.length ≤ 1048576
    · obtain ⟨a, ca, rfl, _⟩ := hza
      obtain ⟨b, cbb, rfl, _⟩ := hzb
      generalize za.length = n at *
      generalize zb.length = m at *
      have R1 := Row.new1 w (.cells (cb la (.slice a n ca)) 30) 30 (cb lb (.slice b m cbb))
      have hl0 : ¬ (1048576 - (n : Int)) < 0 := by omega
      go_enter Try.func8, Try.ntmps8
      go_wp2_with fail
      refine (c_szBits_yes la a n ca 1048576 _ (by omega) (by omega)).mono ?_
      rintro e w1 ⟨rfl, hb1⟩
      have HB1 := Lib.hid (bst HB0.out hb1 HB0.out.size)
      have R2 := Row.below R1 hb1
      have c0 := Row.cell R2 0
      have c1 := Row.cell R2 1
      clear hb1 R1
      go_wp2_with fail
      refine (c_szBits_no lb b m cbb (1048576 - (n : Int)) _ (by omega) (by omega) hnb (by omega)).mono ?_
      rintro e w2 ⟨rfl, hb2⟩
      have HB2 := Lib.hid (bst HB1.out hb2 HB1.out.size)
      clear hb2 c0 c1
      go_wp2
      go_ret
      exact ⟨rfl, HB2.out⟩
    · obtain ⟨a, ca, rfl, _⟩ := hza
      generalize za.length = n at *
      go_enter Try.func8, Try.ntmps8
      go_wp2_with fail
      refine (c_szBits_no la a n ca 1048576 _ (by omega) (by omega) hna (by omega)).mono ?_
      rintro e w1 ⟨rfl, hb1⟩
      have HB1 := Lib.hid (bst HB0.out hb1 HB0.out.size)
      clear hb1
      go_wp2
      go_ret
      exact ⟨rfl, HB1.out⟩
end Go.Proofs.Ytlmelabddaapeaa
