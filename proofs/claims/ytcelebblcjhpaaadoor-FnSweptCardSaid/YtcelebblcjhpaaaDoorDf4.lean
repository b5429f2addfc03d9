/- The pairs of functions of chapter 4, project and reference, as the drawn laws ask of them. -/
import Derived.Test.YtcelebblcjhpaaaDoorSw7
import Derived.Test.YtcelebblcjhpaaaDoorSs3
import Derived.Test.YtcelebblcjhpaaaDoorSe1
import Derived.Test.YtcelebblcjhpaaaDoorTabs
import Derived.Test.YtcelebblcjhpaaaDoorBd3
namespace Go.Proofs.YtcelebblcjhpaaaDoor
open Go.RowKit Pb

/-- The call answers v, and what lay in memory before lies there as it did. -/
def Ans (f : FuncId) (args : Array Value) (v : Value) (w : World) : Prop := Calls Tryd.prog f args w fun r w' => r = .returned v ∧ Below w.heap.size w w'
theorem Ans.go {f : FuncId} {args : Array Value} {v : Value} {w : World} {Q : Ending → World → Prop} (h : Ans f args v w) (k : ∀ w', Below w.heap.size w w' → Q (.returned v) w') : Calls Tryd.prog f args w Q :=
  Calls.mono h fun e w' ⟨he, hb⟩ => by subst he; exact k w' hb
def IntsEnd (rs : List Int) (ok : Bool) (w : World) (e : Ending) (w' : World) : Prop := ∃ v', e = .returned (.tuple #[v', .bool ok]) ∧ Own w' w.heap.size v' rs ∧ Below w.heap.size w w'

theorem good_facts (f k l : Int) (zs : List Int) : ∃ g : Bool,
    (∀ w v, IntsAt w v zs → TabW w → Ans 16 #[sp f k l v] (.bool g) w) ∧ (∀ w v, IntsAt w v zs → Ans 17 #[sp f k l v] (.bool g) w) := by
  by_cases hS : Sok f k l zs
  · exact ⟨true, fun w v h ht => c_iGoodSpan_yes f k l v zs w ht h hS, fun w v h => c_sGoodSpan_yes f k l v zs w h hS⟩
  · exact ⟨false, fun w v h ht => c_iGoodSpan_no f k l v zs w ht h hS, fun w v h => c_sGoodSpan_no f k l v zs w h hS⟩
theorem list_of {l : Int} {zs : List Int} (hB : Bok l zs) : ∀ w v, IntsAt w v zs → TabB w → Calls Tryd.prog 34 #[bm l v] w (IntsEnd (ups (bitL zs) l.toNat) true w) := fun w v h ht => by
  have := c_iSetList_yes l v zs w h hB ht
  rwa [ups_all hB (L := l.toNat) (by have := hB.1; omega)] at this
theorem sweep_again {f c l m : Int} {zs ys : List Int} (hS : Sok f c l zs) (hM : Bok m ys) (hl : l = m) (rs : List Int) (hr : rs = zipW .and zs ys) :
    ∀ w v u, IntsAt w v zs → IntsAt w u ys → TabW w → Calls Tryd.prog 32 #[sp f c l v, bm m u] w (SpanEnd3 f c l rs (countTo (bitL zs) l.toNat - countTo (bitL rs) l.toNat) true w) := fun w v u h k ht => by
  rw [hr, ← freed_eq hS.2.2.2 hM (L := l.toNat) (by have := hS.long; omega), zipW_and hS.2.2.2 hM]
  exact c_iSweep_yes f c l v zs m u ys w ht h k hS hM hl.symm _ rfl
/-- A sweep. -/
theorem sweep_facts (f c l m : Int) (zs ys : List Int) : ∃ (fr cr lr : Int) (rs : List Int) (nn : Int) (ok : Bool), rs.length ≤ 1000 ∧
    (∀ w v u, IntsAt w v zs → IntsAt w u ys → TabW w → Calls Tryd.prog 32 #[sp f c l v, bm m u] w (SpanEnd3 fr cr lr rs nn ok w)) ∧
    (∀ w v u, IntsAt w v zs → IntsAt w u ys → Calls Tryd.prog 33 #[sp f c l v, bm m u] w (SpanEnd3 fr cr lr rs nn ok w)) ∧
    (ok = true → ∃ A B C : List Int, A.length ≤ 96 ∧ B.length ≤ 96 ∧ C.length ≤ 96 ∧ (0 ≤ nn ∧ nn ≤ 96) ∧
      (∀ w v, IntsAt w v zs → TabB w → Calls Tryd.prog 34 #[bm l v] w (IntsEnd A true w)) ∧
      (∀ w v, IntsAt w v rs → TabB w → Calls Tryd.prog 34 #[bm lr v] w (IntsEnd B true w)) ∧
      (∀ w v, IntsAt w v ys → TabB w → Calls Tryd.prog 34 #[bm m v] w (IntsEnd C true w)) ∧
      (∀ w v, IntsAt w v rs → TabW w → Ans 16 #[sp fr cr lr v] (.bool true) w) ∧
      (∀ w v u, IntsAt w v rs → IntsAt w u ys → TabW w → Calls Tryd.prog 32 #[sp fr cr lr v, bm m u] w (SpanEnd3 fr cr lr rs 0 true w)) ∧
      ((B.length : Int) = A.length - nn) ∧ ∀ i, i < A.length → (decide (A.getD i 0 ∈ B) = decide (A.getD i 0 ∈ C))) := by
  by_cases hS : Sok f c l zs
  · by_cases hM : Bok m ys
    · by_cases hl : l = m
      · have hz := zip_ok hS.2.2.2 hM
        have hzb := fun k => by have := zand_bits hS.2.2.2 hM k; rwa [← zipW_and hS.2.2.2 hM] at this
        refine ⟨f, c, l, zipW .and zs ys, countTo (bitL zs) l.toNat - countTo (bitL (zipW .and zs ys)) l.toNat, true, by rw [zip_length]; have := hS.len; omega, sweep_again hS hM hl _ rfl, fun w v u h k => c_sSweep_yes f c l v zs m u ys w h k hS hM hl _ _ rfl rfl, fun _ => ?_⟩
        have hag := zip_again hS.2.2.2 hM
        generalize zipW .and zs ys = rs at *
        have hll := hS.long
        have le := fun p => ups_length_le p l.toNat
        have hcd := countTo_sub_bd (bitL zs) (bitL rs) l.toNat (fun i _ hi => by have := hzb i; rw [hi] at this; cases hq : bitL zs i <;> simp [hq] at this ⊢)
        refine ⟨ups (bitL zs) l.toNat, ups (bitL rs) l.toNat, ups (bitL ys) m.toNat, by have := le (bitL zs); omega, by have := le (bitL rs); omega, by rw [← hl]; have := le (bitL ys); omega, by omega, list_of hS.2.2.2, list_of hz, list_of hM, fun w v h ht => c_iGoodSpan_yes f c l v rs w ht h (hS.put hz), fun w v u h k ht => ?_, by rw [ups_length, ups_length]; omega, fun i hi => ?_⟩
        · have := sweep_again (hS.put hz) hM hl rs hag.symm w v u h k ht
          rwa [Int.sub_self] at this
        · have hm : (ups (bitL zs) l.toNat).getD i 0 ∈ ups (bitL zs) l.toNat := by
            rw [List.getD_eq_getElem?_getD, List.getElem?_eq_getElem hi]; exact List.getElem_mem hi
          generalize (ups (bitL zs) l.toNat).getD i 0 = x at *
          obtain ⟨k, k1, k2, rfl⟩ := (mem_ups _ _ _).1 hm
          simp only [mem_ups_nat, hzb, k2, k1, true_and, Bool.true_and, ← hl]
      · exact ⟨0, 0, 0, [], 0, false, by simp, fun w v u h k ht => (c_iSweep_long f c l v zs m u ys w ht h k hS hM (fun h => hl h.symm)).mono fun _ _ ⟨he, hb⟩ => spanEnd3_none he hb, fun w v u h k => (c_sSweep_marks f c l v zs m u ys w h k hS (fun h => hl h.2.2)).mono fun _ _ ⟨he, hb⟩ => spanEnd3_none he hb, fun h => by cases h⟩
    · exact ⟨0, 0, 0, [], 0, false, by simp, fun w v u h k ht => (c_iSweep_marks f c l v zs m u ys w ht h k hS hM).mono fun _ _ ⟨he, hb⟩ => spanEnd3_none he hb, fun w v u h k => (c_sSweep_marks f c l v zs m u ys w h k hS (fun h => hM h.2.1)).mono fun _ _ ⟨he, hb⟩ => spanEnd3_none he hb, fun h => by cases h⟩
  · exact ⟨0, 0, 0, [], 0, false, by simp, fun w v u h k ht => (c_iSweep_bad f c l v zs m u ys w ht h k hS).mono fun _ _ ⟨he, hb⟩ => spanEnd3_none he hb, fun w v u h k => (c_sSweep_bad f c l v zs m u ys w h k hS).mono fun _ _ ⟨he, hb⟩ => spanEnd3_none he hb, fun h => by cases h⟩
end Go.Proofs.YtcelebblcjhpaaaDoor
