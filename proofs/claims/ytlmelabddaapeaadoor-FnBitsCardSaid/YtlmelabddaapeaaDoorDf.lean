/- The pairs of functions of chapter 2, project and reference, as the drawn laws ask of them. -/
import Derived.Test.YtlmelabddaapeaaDoorPe
import Derived.Test.YtlmelabddaapeaaDoorBd2
import Derived.Test.YtlmelabddaapeaaDoorBd3
import Derived.Test.YtlmelabddaapeaaDoorBe2
import Derived.Test.YtlmelabddaapeaaDoorBi2
import Derived.Test.YtlmelabddaapeaaDoorBi3
import Derived.Test.YtlmelabddaapeaaDoorBi4
import Derived.Test.YtlmelabddaapeaaDoorBi7
import Derived.Test.YtlmelabddaapeaaDoorBs6
namespace Go.Proofs.YtlmelabddaapeaaDoor
open Go.RowKit Pb

/-- The call answers e, and what lay in memory before lies there as it did. -/
def Ans (f : FuncId) (args : Array Value) (e : Value) (w : World) : Prop := Calls Tryd.prog f args w fun r w' => r = .returned e ∧ Below w.heap.size w w'

theorem good_facts (long : Int) (zs : List Int) : ∃ g : Bool,
    (∀ w v, IntsAt w v zs → Ans 12 #[bm long v] (.bool g) w) ∧ (∀ w v, IntsAt w v zs → Ans 11 #[bm long v] (.bool g) w) := by
  by_cases hB : Bok long zs
  · exact ⟨true, fun w v h => c_sGoodBits_yes long v zs w h hB, fun w v h => c_iGoodBits_yes long v zs w h hB⟩
  · exact ⟨false, fun w v h => c_sGoodBits_no long v zs w h hB, fun w v h => c_iGoodBits_no long v zs w h hB⟩
theorem isset_facts (long : Int) (zs : List Int) (p : Int) : ∃ x ok : Bool,
    (∀ w v, IntsAt w v zs → Ans 19 #[bm long v, .int .i64 p] (.tuple #[.bool x, .bool ok]) w) ∧ (∀ w v, IntsAt w v zs → Ans 13 #[bm long v, .int .i64 p] (.tuple #[.bool x, .bool ok]) w) := by
  by_cases hB : Bok long zs ∧ 0 ≤ p ∧ p < long
  · obtain ⟨hB, h0, h1⟩ := hB
    obtain ⟨m, rfl⟩ : ∃ m : Nat, p = m := ⟨p.toNat, by omega⟩
    refine ⟨bitL zs m, true, fun w v h => c_sIsSet_yes long v zs m w h hB h1, fun w v h => ?_⟩
    have := c_iIsSet_yes long v zs m w h hB h0 h1
    rwa [Int.toNat_natCast] at this
  · exact ⟨false, false, fun w v h => c_sIsSet_no long v zs p w h hB, fun w v h => c_iIsSet_no long v zs p w h hB⟩
theorem count_facts (long : Int) (zs : List Int) (a b : Int) : ∃ (n : Int) (ok : Bool),
    (∀ w v, IntsAt w v zs → Ans 17 #[bm long v, .int .i64 a, .int .i64 b] (.tuple #[.int .i64 n, .bool ok]) w) ∧ (∀ w v, IntsAt w v zs → Ans 14 #[bm long v, .int .i64 a, .int .i64 b] (.tuple #[.int .i64 n, .bool ok]) w) := by
  by_cases hB : Bok long zs ∧ InRun long a b
  · obtain ⟨hB, hR⟩ := hB
    obtain ⟨m, rfl⟩ : ∃ m : Nat, a = m := ⟨a.toNat, by have := hR.1; omega⟩
    obtain ⟨k, rfl⟩ : ∃ k : Nat, b = k := ⟨b.toNat, by have := hR.1; have := hR.2.1; omega⟩
    refine ⟨_, true, fun w v h => c_sCountSet_yes long v zs m k w h hB hR, fun w v h => ?_⟩
    have := c_iCountSet_yes long v zs m k w h hB hR
    rwa [count_eq hB hR] at this
  · exact ⟨0, false, fun w v h => c_sCountSet_no long v zs a b w h hB, fun w v h => c_iCountSet_no long v zs a b w h hB⟩
theorem list_facts (long : Int) (zs : List Int) : ∃ (rs : List Int) (ok : Bool), rs.length ≤ 96 ∧
    (∀ w v, IntsAt w v zs → Calls Tryd.prog 21 #[bm long v] w (IntsEnd rs ok w)) ∧ (∀ w v, IntsAt w v zs → TabB w → Calls Tryd.prog 15 #[bm long v] w (IntsEnd rs ok w)) := by
  by_cases hB : Bok long zs
  · obtain ⟨L, rfl⟩ : ∃ L : Nat, long = L := ⟨long.toNat, by have := hB.1; omega⟩
    have hl := ups_length_le (bitL zs) L
    refine ⟨ups (bitL zs) L, true, by have := hB.2.1; omega, fun w v h => c_sSetList_yes L v zs w h hB, fun w v h ht => ?_⟩
    have := c_iSetList_yes L v zs w h hB ht
    rwa [ups_all hB rfl] at this
  · exact ⟨[], false, by simp, fun w v h => (c_sSetList_no long v zs w h hB).mono fun e w' ⟨he, hb⟩ => intsEnd_none he hb, fun w v h _ => (c_iSetList_no long v zs w h hB).mono fun e w' ⟨he, hb⟩ => intsEnd_none he hb⟩
theorem new_facts (long : Int) : ∃ (lr : Int) (rs : List Int) (ok : Bool), rs.length ≤ 6 ∧
    (∀ w, Calls Tryd.prog 24 #[.int .i64 long] w (BitsEnd lr rs ok w)) ∧ (∀ w, Calls Tryd.prog 23 #[.int .i64 long] w (BitsEnd lr rs ok w)) := by
  by_cases hB : 0 ≤ long ∧ long ≤ 96
  · refine ⟨long, wl ((long + 15) / 16).toNat fun _ => 0, true, by rw [wl_length]; omega, fun w => c_sNewBits_yes long w hB.1 hB.2, fun w => c_iNewBits_yes long w hB.1 hB.2⟩
  · exact ⟨0, [], false, by simp, fun w => (c_sNewBits_no long w hB).mono fun e w' ⟨he, hb⟩ => bitsEnd_none he hb, fun w => (c_iNewBits_no long w hB).mono fun e w' ⟨he, hb⟩ => bitsEnd_none he hb⟩
/-- The first that is free: the bit itself is not set, and all between are. -/
theorem free_facts (long : Int) (zs : List Int) (p : Int) : ∃ (c : Int) (ok : Bool), (0 ≤ c ∧ c ≤ 96) ∧
    (∀ w v, IntsAt w v zs → Ans 28 #[bm long v, .int .i64 p] (.tuple #[.int .i64 c, .bool ok]) w) ∧ (∀ w v, IntsAt w v zs → TabB w → Ans 27 #[bm long v, .int .i64 p] (.tuple #[.int .i64 c, .bool ok]) w) ∧
    (ok = true → (∀ w v, IntsAt w v zs → Ans 13 #[bm long v, .int .i64 c] (.tuple #[.bool false, .bool true]) w) ∧ (∀ w v, IntsAt w v zs → Ans 14 #[bm long v, .int .i64 p, .int .i64 c] (.tuple #[.int .i64 (c - p), .bool true]) w)) := by
  by_cases hB : Bok long zs ∧ 0 ≤ p ∧ p ≤ long
  · obtain ⟨hB, h0, h1⟩ := hB
    obtain ⟨m, rfl⟩ : ∃ m : Nat, p = m := ⟨p.toNat, by omega⟩
    obtain ⟨L, rfl⟩ : ∃ L : Nat, long = L := ⟨long.toNat, by omega⟩
    have h96 := hB.2.1
    have hS := fun w v h => c_sNextFree_yes L v zs m w h hB (by omega)
    have hI := fun w v h ht => c_iNextFree_yes L v zs m w h hB h0 h1 ht
    rw [free_eq hB rfl (show m ≤ L by omega)] at hI
    cases hf : findP (fun k => !bitL zs k) m (L - m) with
    | none =>
      rw [hf] at hS hI
      exact ⟨0, false, by omega, fun w v h => hS w v h, fun w v h ht => hI w v h ht, fun h => by cases h⟩
    | some j =>
      rw [hf] at hS hI
      obtain ⟨j1, j2, j3, j4⟩ := findP_some hf
      have j3' : bitL zs j = false := by simpa using j3
      refine ⟨j, true, by omega, fun w v h => hS w v h, fun w v h ht => hI w v h ht, fun _ => ⟨fun w v h => ?_, fun w v h => ?_⟩⟩
      · have := c_iIsSet_yes L v zs j w h hB (by omega) (by omega)
        rwa [Int.toNat_natCast, j3'] at this
      · have hR : InRun L m j := ⟨by omega, by omega, by omega⟩
        have := c_iCountSet_yes L v zs m j w h hB hR
        rw [count_eq hB hR, countTo_true _ (fun i hi => by have := j4 (m + i) (by omega) (by omega); simpa using this), show ((j - m : Nat) : Int) = (j : Int) - m by omega] at this
        exact this
  · exact ⟨0, false, by omega, fun w v h => c_sNextFree_no long v zs p w h hB, fun w v h _ => c_iNextFree_no long v zs p w h hB, fun h => by cases h⟩
/-- Bits in both, and in the first alone. -/
theorem pair_facts (la lb : Int) (za zb : List Int) : ∃ (lr : Int) (rp rq : List Int) (ok : Bool), rp.length ≤ za.length ∧ rq.length ≤ za.length ∧
    (∀ w va vb, IntsAt w va za → IntsAt w vb zb → Calls Tryd.prog 30 #[bm la va, bm lb vb] w (BitsEnd lr rp ok w)) ∧
    (∀ w va vb, IntsAt w va za → IntsAt w vb zb → Calls Tryd.prog 31 #[bm la va, bm lb vb] w (BitsEnd lr rp ok w)) ∧
    (∀ w va vb, IntsAt w va za → IntsAt w vb zb → Calls Tryd.prog 32 #[bm la va, bm lb vb] w (BitsEnd lr rq ok w)) ∧
    (∀ w va vb, IntsAt w va za → IntsAt w vb zb → Calls Tryd.prog 33 #[bm la va, bm lb vb] w (BitsEnd lr rq ok w)) ∧
    (ok = true → ∃ A C D E : List Int, A.length ≤ 96 ∧ C.length ≤ 96 ∧ D.length ≤ 96 ∧ E.length ≤ 96 ∧
      (∀ w v, IntsAt w v za → TabB w → Calls Tryd.prog 15 #[bm la v] w (IntsEnd A true w)) ∧
      (∀ w v, IntsAt w v rp → TabB w → Calls Tryd.prog 15 #[bm lr v] w (IntsEnd C true w)) ∧
      (∀ w v, IntsAt w v rq → TabB w → Calls Tryd.prog 15 #[bm lr v] w (IntsEnd D true w)) ∧
      (∀ w v, IntsAt w v zb → TabB w → Calls Tryd.prog 15 #[bm lb v] w (IntsEnd E true w)) ∧
      (∀ w v, IntsAt w v rp → Ans 11 #[bm lr v] (.bool true) w) ∧ (∀ w v, IntsAt w v rq → Ans 11 #[bm lr v] (.bool true) w) ∧
      ((C.length : Int) + D.length = A.length) ∧ ∀ i, i < A.length → (decide (A.getD i 0 ∈ C) = decide (A.getD i 0 ∈ E)) ∧ (decide (A.getD i 0 ∈ D) = !decide (A.getD i 0 ∈ E))) := by
  by_cases hB : Bok la za ∧ Bok lb zb ∧ la = lb
  · obtain ⟨ga, gb, hl⟩ := hB
    have gp := zand_ok ga gb
    have gq := zandNot_ok ga gb
    obtain ⟨L, hL⟩ : ∃ L : Nat, la = L := ⟨la.toNat, by have := ga.1; omega⟩
    have h96 := ga.2.1
    refine ⟨la, wl za.length (fun k => bits .and .u16 (za.getD k 0) (zb.getD k 0)), wl za.length (fun k => bits .andNot .u16 (za.getD k 0) (zb.getD k 0)), true, by rw [wl_length]; exact Nat.le_refl _, by rw [wl_length]; exact Nat.le_refl _, fun w va vb ha hb => c_iBothBits_yes la lb va vb za zb w ha hb ga gb hl, fun w va vb ha hb => ?_, fun w va vb ha hb => c_iWithoutBits_yes la lb va vb za zb w ha hb ga gb hl, fun w va vb ha hb => ?_, fun _ => ?_⟩
    · have := c_sBothBits_yes la lb va vb za zb w ha hb ga gb hl
      rwa [zipW_and ga gb] at this
    · have := c_sWithoutBits_yes la lb va vb za zb w ha hb ga gb hl
      rwa [zipW_andNot ga gb] at this
    · have pb := zand_bits ga gb
      have qb := zandNot_bits ga gb
      generalize wl za.length (fun k => bits .and .u16 (za.getD k 0) (zb.getD k 0)) = rp at *
      generalize wl za.length (fun k => bits .andNot .u16 (za.getD k 0) (zb.getD k 0)) = rq at *
      have le := fun p => ups_length_le p L
      have sl : ∀ (l : Int) (zs : List Int), Bok l zs → l = L → ∀ w v, IntsAt w v zs → TabB w → Calls Tryd.prog 15 #[bm l v] w (IntsEnd (ups (bitL zs) L) true w) := fun l zs g e w v h ht => by
        have := c_iSetList_yes l v zs w h g ht
        rwa [ups_all g e] at this
      refine ⟨ups (bitL za) L, ups (bitL rp) L, ups (bitL rq) L, ups (bitL zb) L, by have := le (bitL za); omega, by have := le (bitL rp); omega, by have := le (bitL rq); omega, by have := le (bitL zb); omega, sl la za ga hL, sl la rp gp hL, sl la rq gq hL, sl lb zb gb (by omega), fun w v h => c_iGoodBits_yes la v rp w h gp, fun w v h => c_iGoodBits_yes la v rq w h gq, ?_, fun i hi => ?_⟩
      · rw [ups_length, ups_length, ups_length, ← countTo_part (bitL za) (bitL zb) L, countTo_congr L (fun i _ => pb i), countTo_congr L (fun i _ => qb i)]
      · have hm : (ups (bitL za) L).getD i 0 ∈ ups (bitL za) L := by
          rw [List.getD_eq_getElem?_getD, List.getElem?_eq_getElem hi]; exact List.getElem_mem hi
        generalize (ups (bitL za) L).getD i 0 = x at *
        obtain ⟨k, k1, k2, rfl⟩ := (mem_ups _ _ _).1 hm
        simp only [mem_ups_nat, pb, qb, k2, k1, true_and, Bool.true_and]
        cases bitL zb k <;> simp
  · exact ⟨0, [], [], false, by simp, by simp, fun w va vb ha hb => (c_iBothBits_no la lb va vb za zb w ha hb hB).mono fun e w' ⟨he, hb⟩ => bitsEnd_none he hb, fun w va vb ha hb => (c_sBothBits_no la lb va vb za zb w ha hb hB).mono fun e w' ⟨he, hb⟩ => bitsEnd_none he hb, fun w va vb ha hb => (c_iWithoutBits_no la lb va vb za zb w ha hb hB).mono fun e w' ⟨he, hb⟩ => bitsEnd_none he hb, fun w va vb ha hb => (c_sWithoutBits_no la lb va vb za zb w ha hb hB).mono fun e w' ⟨he, hb⟩ => bitsEnd_none he hb, fun h => by cases h⟩
/-- A run that is set. -/
theorem run_facts (long : Int) (zs : List Int) (a b : Int) (on : Bool) : ∃ (lr : Int) (rs : List Int) (ok : Bool), rs.length ≤ zs.length ∧
    (∀ w v, IntsAt w v zs → Calls Tryd.prog 8 #[bm long v, .int .i64 a, .int .i64 b, .bool on] w (BitsEnd lr rs ok w)) ∧
    (∀ w v, IntsAt w v zs → Calls Tryd.prog 9 #[bm long v, .int .i64 a, .int .i64 b, .bool on] w (BitsEnd lr rs ok w)) ∧
    (ok = true → lr = long ∧ (0 ≤ a ∧ a ≤ b ∧ b ≤ 96) ∧ ∃ (n : Int) (l : List Int), l.length ≤ 96 ∧
      (∀ p : Int, 0 ≤ p → p < long → ∃ x y : Bool, (∀ w v, IntsAt w v zs → Ans 13 #[bm long v, .int .i64 p] (.tuple #[.bool x, .bool true]) w) ∧ (∀ w v, IntsAt w v rs → Ans 13 #[bm long v, .int .i64 p] (.tuple #[.bool y, .bool true]) w) ∧ (a ≤ p ∧ p < b → y = on) ∧ (¬ (a ≤ p ∧ p < b) → x = y)) ∧
      (∀ w v, IntsAt w v rs → Ans 14 #[bm long v, .int .i64 a, .int .i64 b] (.tuple #[.int .i64 n, .bool true]) w) ∧
      (∀ w v, IntsAt w v rs → TabB w → Calls Tryd.prog 15 #[bm long v] w (IntsEnd l true w)) ∧
      (∀ w v, IntsAt w v rs → Ans 14 #[bm long v, .int .i64 0, .int .i64 long] (.tuple #[.int .i64 l.length, .bool true]) w) ∧
      (∀ w v, IntsAt w v rs → Ans 11 #[bm long v] (.bool true) w) ∧ n = if on then b - a else 0) := by
  by_cases hB : Bok long zs ∧ InRun long a b
  · obtain ⟨hB, hR⟩ := hB
    obtain ⟨m, rfl⟩ : ∃ m : Nat, a = m := ⟨a.toNat, by have := hR.1; omega⟩
    obtain ⟨k, rfl⟩ : ∃ k : Nat, b = k := ⟨b.toNat, by have := hR.1; have := hR.2.1; omega⟩
    obtain ⟨L, hL⟩ : ∃ L : Nat, long = L := ⟨long.toNat, by have := hB.1; omega⟩
    have h96 := hB.2.1
    have hr2 := hR.2.1
    have hr3 := hR.2.2
    have gb := runL_ok hB hR on
    have rb := runL_bits hB hR on
    refine ⟨long, runL zs m on (k - m), true, by rw [runL_length]; exact Nat.le_refl _, fun w v h => ?_, fun w v h => c_sSetRun_yes long v zs m k on w h hB hR, fun _ => ⟨rfl, ⟨by omega, by omega, by omega⟩, ?_⟩⟩
    · have := c_iSetRun_yes long v zs m k on w h hB hR
      rwa [← runL_eq hB hR on] at this
    · generalize runL zs m on (k - m) = rs at *
      refine ⟨_, ups (bitL rs) L, by have := ups_length_le (bitL rs) L; omega, fun p p0 p1 => ?_, fun w v h => ?_, fun w v h ht => ?_, fun w v h => ?_, fun w v h => c_iGoodBits_yes long v rs w h gb, rfl⟩
      · refine ⟨bitL zs p.toNat, bitL rs p.toNat, fun w v h => c_iIsSet_yes long v zs p w h hB p0 p1, fun w v h => c_iIsSet_yes long v rs p w h gb p0 p1, fun ⟨h1, h2⟩ => ?_, fun h1 => ?_⟩
        · rw [rb, if_pos (by omega)]
        · rw [rb, if_neg (by omega)]
      · have := c_iCountSet_yes long v rs m k w h gb hR
        rw [count_eq gb hR] at this
        have e : countTo (fun i => bitL rs (m + i)) (k - m) = if on = true then (k : Int) - m else 0 := by
          cases on
          · rw [countTo_false _ (fun i hi => by rw [rb, if_pos (by omega)])]; simp
          · rw [countTo_true _ (fun i hi => by rw [rb, if_pos (by omega)])]; simp; omega
        rwa [e] at this
      · have := c_iSetList_yes long v rs w h gb ht
        rwa [ups_all gb hL] at this
      · have hR0 : InRun long (0 : Nat) (L : Nat) := ⟨by omega, by omega, by omega⟩
        have := c_iCountSet_yes long v rs (0 : Nat) (L : Nat) w h gb hR0
        rw [count_eq gb hR0] at this
        rw [ups_length, hL]
        rw [hL] at this
        unfold Ans
        simpa using this
  · exact ⟨0, [], false, by simp, fun w v h => (c_iSetRun_no long v zs a b on w h hB).mono fun e w' ⟨he, hb⟩ => bitsEnd_none he hb, fun w v h => (c_sSetRun_no long v zs a b on w h hB).mono fun e w' ⟨he, hb⟩ => bitsEnd_none he hb, fun h => by cases h⟩
end Go.Proofs.YtlmelabddaapeaaDoor
