/- The pairs of functions of chapter 4, project and reference, as the drawn laws ask of them. -/
import Derived.Test.YtcelebblcjhpaaaDoorSw7
import Derived.Test.YtcelebblcjhpaaaDoorSs3
import Derived.Test.YtcelebblcjhpaaaDoorSe1
import Derived.Test.YtcelebblcjhpaaaDoorTabs
import Derived.Test.YtcelebblcjhpaaaDoorBd3
import Derived.Test.YtcelebblcjhpaaaDoorCtr2
namespace Go.Proofs.YtcelebblcjhpaaaDoor
open Go.RowKit Pb

/-- The call answers v, and what lay in memory before lies there as it did. -/
def Ans (f : FuncId) (args : Array Value) (v : Value) (w : World) : Prop := Calls Tryd.prog f args w fun r w' => r = .returned v ∧ Below w.heap.size w w'
theorem Ans.go {f : FuncId} {args : Array Value} {v : Value} {w : World} {Q : Ending → World → Prop} (h : Ans f args v w) (k : ∀ w', Below w.heap.size w w' → Q (.returned v) w') : Calls Tryd.prog f args w Q :=
  Calls.mono h fun e w' ⟨he, hb⟩ => by subst he; exact k w' hb
def IntsEnd (rs : List Int) (ok : Bool) (w : World) (e : Ending) (w' : World) : Prop := ∃ v', e = .returned (.tuple #[v', .bool ok]) ∧ Own w' w.heap.size v' rs ∧ Below w.heap.size w w'

theorem good_facts (f k l : Int) (zs : List Int) : ∃ g : Bool,
    (∀ w v, IntsAt w v zs → TabW w → Ans 16 #[sp f k l v] (.bool g) w) ∧ (∀ w v, IntsAt w v zs → Ans 17 #[sp f k l v] (.bool g) w) := by
  by_cases hS : Sok f k l zs
  · exact ⟨true, fun w v h ht => c_iGoodSpan_yes f k l v zs w ht h hS, fun w v h => c_sGoodSpan_yes f k l v zs w h hS⟩
  · exact ⟨false, fun w v h ht => c_iGoodSpan_no f k l v zs w ht h hS, fun w v h => c_sGoodSpan_no f k l v zs w h hS⟩
theorem list_of {l : Int} {zs : List Int} (hB : Bok l zs) : ∀ w v, IntsAt w v zs → TabB w → Calls Tryd.prog 34 #[bm l v] w (IntsEnd (ups (bitL zs) l.toNat) true w) := fun w v h ht => by
  have := c_iSetList_yes l v zs w h hB ht
  rwa [ups_all hB (L := l.toNat) (by have := hB.1; omega)] at this
theorem sweep_again {f c l m : Int} {zs ys : List Int} (hS : Sok f c l zs) (hM : Bok m ys) (hl : l = m) (rs : List Int) (hr : rs = zipW .and zs ys) :
    ∀ w v u, IntsAt w v zs → IntsAt w u ys → TabW w → Calls Tryd.prog 32 #[sp f c l v, bm m u] w (SpanEnd3 f c l rs (countTo (bitL zs) l.toNat - countTo (bitL rs) l.toNat) true w) := fun w v u h k ht => by
  rw [hr, ← freed_eq hS.2.2.2 hM (L := l.toNat) (by have := hS.long; omega), zipW_and hS.2.2.2 hM]
  exact c_iSweep_yes f c l v zs m u ys w ht h k hS hM hl.symm _ rfl
/-- A sweep. -/
theorem sweep_facts (f c l m : Int) (zs ys : List Int) : ∃ (fr cr lr : Int) (rs : List Int) (nn : Int) (ok : Bool), rs.length ≤ 1000 ∧
    (∀ w v u, IntsAt w v zs → IntsAt w u ys → TabW w → Calls Tryd.prog 32 #[sp f c l v, bm m u] w (SpanEnd3 fr cr lr rs nn ok w)) ∧
    (∀ w v u, IntsAt w v zs → IntsAt w u ys → Calls Tryd.prog 33 #[sp f c l v, bm m u] w (SpanEnd3 fr cr lr rs nn ok w)) ∧
    (ok = true → ∃ A B C : List Int, A.length ≤ 96 ∧ B.length ≤ 96 ∧ C.length ≤ 96 ∧ (0 ≤ nn ∧ nn ≤ 96) ∧
      (∀ w v, IntsAt w v zs → TabB w → Calls Tryd.prog 34 #[bm l v] w (IntsEnd A true w)) ∧
      (∀ w v, IntsAt w v rs → TabB w → Calls Tryd.prog 34 #[bm lr v] w (IntsEnd B true w)) ∧
      (∀ w v, IntsAt w v ys → TabB w → Calls Tryd.prog 34 #[bm m v] w (IntsEnd C true w)) ∧
      (∀ w v, IntsAt w v rs → TabW w → Ans 16 #[sp fr cr lr v] (.bool true) w) ∧
      (∀ w v u, IntsAt w v rs → IntsAt w u ys → TabW w → Calls Tryd.prog 32 #[sp fr cr lr v, bm m u] w (SpanEnd3 fr cr lr rs 0 true w)) ∧
      ((B.length : Int) = A.length - nn) ∧ ∀ i, i < A.length → (decide (A.getD i 0 ∈ B) = decide (A.getD i 0 ∈ C))) := by
  by_cases hS : Sok f c l zs
  · by_cases hM : Bok m ys
    · by_cases hl : l = m
      · have hz := zip_ok hS.2.2.2 hM
        have hzb := fun k => by have := zand_bits hS.2.2.2 hM k; rwa [← zipW_and hS.2.2.2 hM] at this
        refine ⟨f, c, l, zipW .and zs ys, countTo (bitL zs) l.toNat - countTo (bitL (zipW .and zs ys)) l.toNat, true, by rw [zip_length]; have := hS.len; omega, sweep_again hS hM hl _ rfl, fun w v u h k => c_sSweep_yes f c l v zs m u ys w h k hS hM hl _ _ rfl rfl, fun _ => ?_⟩
        have hag := zip_again hS.2.2.2 hM
        generalize zipW .and zs ys = rs at *
        have hll := hS.long
        have le := fun p => ups_length_le p l.toNat
        have hcd := countTo_sub_bd (bitL zs) (bitL rs) l.toNat (fun i _ hi => by have := hzb i; rw [hi] at this; cases hq : bitL zs i <;> simp [hq] at this ⊢)
        refine ⟨ups (bitL zs) l.toNat, ups (bitL rs) l.toNat, ups (bitL ys) m.toNat, by have := le (bitL zs); omega, by have := le (bitL rs); omega, by rw [← hl]; have := le (bitL ys); omega, by omega, list_of hS.2.2.2, list_of hz, list_of hM, fun w v h ht => c_iGoodSpan_yes f c l v rs w ht h (hS.put hz), fun w v u h k ht => ?_, by rw [ups_length, ups_length]; omega, fun i hi => ?_⟩
        · have := sweep_again (hS.put hz) hM hl rs hag.symm w v u h k ht
          rwa [Int.sub_self] at this
        · have hm : (ups (bitL zs) l.toNat).getD i 0 ∈ ups (bitL zs) l.toNat := by
            rw [List.getD_eq_getElem?_getD, List.getElem?_eq_getElem hi]; exact List.getElem_mem hi
          generalize (ups (bitL zs) l.toNat).getD i 0 = x at *
          obtain ⟨k, k1, k2, rfl⟩ := (mem_ups _ _ _).1 hm
          simp only [mem_ups_nat, hzb, k2, k1, true_and, Bool.true_and, ← hl]
      · exact ⟨0, 0, 0, [], 0, false, by simp, fun w v u h k ht => (c_iSweep_long f c l v zs m u ys w ht h k hS hM (fun h => hl h.symm)).mono fun _ _ ⟨he, hb⟩ => spanEnd3_none he hb, fun w v u h k => (c_sSweep_marks f c l v zs m u ys w h k hS (fun h => hl h.2.2)).mono fun _ _ ⟨he, hb⟩ => spanEnd3_none he hb, fun h => by cases h⟩
    · exact ⟨0, 0, 0, [], 0, false, by simp, fun w v u h k ht => (c_iSweep_marks f c l v zs m u ys w ht h k hS hM).mono fun _ _ ⟨he, hb⟩ => spanEnd3_none he hb, fun w v u h k => (c_sSweep_marks f c l v zs m u ys w h k hS (fun h => hM h.2.1)).mono fun _ _ ⟨he, hb⟩ => spanEnd3_none he hb, fun h => by cases h⟩
  · exact ⟨0, 0, 0, [], 0, false, by simp, fun w v u h k ht => (c_iSweep_bad f c l v zs m u ys w ht h k hS).mono fun _ _ ⟨he, hb⟩ => spanEnd3_none he hb, fun w v u h k => (c_sSweep_bad f c l v zs m u ys w h k hS).mono fun _ _ ⟨he, hb⟩ => spanEnd3_none he hb, fun h => by cases h⟩
theorem thing_facts (f k l : Int) (zs : List Int) (x : Int) (hx : x ≤ 9223372036854775807) : ∃ (y : Int) (ok : Bool),
    (∀ w v, IntsAt w v zs → TabW w → Ans 22 #[sp f k l v, .int .i64 x] (.tuple #[.int .i64 y, .bool ok]) w) ∧ (∀ w v, IntsAt w v zs → Ans 24 #[sp f k l v, .int .i64 x] (.tuple #[.int .i64 y, .bool ok]) w) := by
  by_cases hB : Sok f k l zs
  · by_cases h1 : x < f * 64
    · exact ⟨0, false, fun w v h ht => c_iThingAt_before f k l v zs x w ht h hB h1, fun w v h => c_sThingAt_before f k l v zs x w h hB h1⟩
    · by_cases h2 : (x - f * 64) / Pl.szOf k < l
      · have h3 : x ≤ 2048 := thing_near hB h1 h2
        cases hu : bitL zs ((x - f * 64) / Pl.szOf k).toNat with
        | true => exact ⟨_, true, fun w v h ht => c_iThingAt_in f k l v zs x w ht h hB h1 hx _ rfl h2 hu, fun w v h => c_sThingAt_in f k l v zs x w h hB h1 h3 _ rfl h2 hu⟩
        | false => exact ⟨0, false, fun w v h ht => c_iThingAt_unused f k l v zs x w ht h hB h1 hx _ rfl h2 hu, fun w v h => c_sThingAt_unused f k l v zs x w h hB h1 h3 _ rfl h2 hu⟩
      · by_cases h3 : x ≤ 2048
        · exact ⟨0, false, fun w v h ht => c_iThingAt_behind f k l v zs x w ht h hB h1 hx _ rfl h2, fun w v h => c_sThingAt_behind f k l v zs x w h hB h1 h3 _ rfl h2⟩
        · exact ⟨0, false, fun w v h ht => c_iThingAt_behind f k l v zs x w ht h hB h1 hx _ rfl h2, fun w v h => c_sThingAt_far f k l v zs x w h hB h1 (by omega)⟩
  · exact ⟨0, false, fun w v h ht => c_iThingAt_bad f k l v zs x w ht h hB, fun w v h => c_sThingAt_bad f k l v zs x w h hB⟩
theorem word_facts (f k l : Int) (zs : List Int) (x : Int) : ∃ (y : Int) (ok : Bool),
    (∀ w v, IntsAt w v zs → TabW w → Ans 19 #[sp f k l v, .int .i64 x] (.tuple #[.int .i64 y, .bool ok]) w) ∧ (∀ w v, IntsAt w v zs → Ans 27 #[sp f k l v, .int .i64 x] (.tuple #[.int .i64 y, .bool ok]) w) := by
  by_cases hB : Sok f k l zs
  · by_cases hs : 0 ≤ x ∧ x < l
    · exact ⟨_, true, fun w v h ht => c_iWordOf_in f k l v zs x w ht h hB hs.1 hs.2, fun w v h => c_sWordOf_in f k l v zs x w h hB hs.1 hs.2⟩
    · exact ⟨0, false, fun w v h ht => c_iWordOf_out f k l v zs x w ht h hB hs, fun w v h => c_sWordOf_out f k l v zs x w h hB hs⟩
  · exact ⟨0, false, fun w v h ht => c_iWordOf_bad f k l v zs x w ht h hB, fun w v h => c_sWordOf_bad f k l v zs x w h hB⟩
theorem free4_facts (f k l : Int) (zs : List Int) (s : Int) : ∃ (fr cr lr : Int) (rs : List Int) (ok : Bool), rs.length ≤ 1000 ∧
    (∀ w v, IntsAt w v zs → TabW w → Calls Tryd.prog 20 #[sp f k l v, .int .i64 s] w (SpanEnd fr cr lr rs ok w)) ∧ (∀ w v, IntsAt w v zs → Calls Tryd.prog 26 #[sp f k l v, .int .i64 s] w (SpanEnd fr cr lr rs ok w)) := by
  by_cases hB : Sok f k l zs
  · have hz4 := hB.len
    by_cases hs : 0 ≤ s ∧ s < l
    · obtain ⟨p, rfl⟩ : ∃ p : Nat, s = p := ⟨s.toNat, by omega⟩
      cases hu : bitL zs p with
      | true => exact ⟨f, k, l, setBit zs p false, true, by rw [setBit_length]; omega, fun w v h ht => c_iFreeSlot_yes f k l v zs p w ht h hB hs.2 hu false rfl, fun w v h => c_sFreeSlot_yes f k l v zs p w h hB hs.2 hu⟩
      | false => exact ⟨0, 0, 0, [], false, by simp, fun w v h ht => (c_iFreeSlot_unused f k l v zs p w ht h hB hs.1 hs.2 (by rw [Int.toNat_natCast]; exact hu)).mono fun _ _ ⟨he, hb⟩ => spanEnd_none he hb, fun w v h => (c_sFreeSlot_unused f k l v zs p w h hB hs.2 hu).mono fun _ _ ⟨he, hb⟩ => spanEnd_none he hb⟩
    · exact ⟨0, 0, 0, [], false, by simp, fun w v h ht => (c_iFreeSlot_out f k l v zs s w ht h hB hs).mono fun _ _ ⟨he, hb⟩ => spanEnd_none he hb, fun w v h => (c_sFreeSlot_out f k l v zs s w h hB hs).mono fun _ _ ⟨he, hb⟩ => spanEnd_none he hb⟩
  · exact ⟨0, 0, 0, [], false, by simp, fun w v h ht => (c_iFreeSlot_bad f k l v zs s w ht h hB).mono fun _ _ ⟨he, hb⟩ => spanEnd_none he hb, fun w v h => (c_sFreeSlot_bad f k l v zs s w h hB).mono fun _ _ ⟨he, hb⟩ => spanEnd_none he hb⟩
theorem new4_facts (x y : Int) : ∃ (fr cr lr : Int) (rs : List Int) (ok : Bool), rs.length ≤ 1000 ∧
    (∀ w, TabW w → Calls Tryd.prog 29 #[.int .i64 x, .int .i64 y] w (SpanEnd fr cr lr rs ok w)) ∧ (∀ w, Calls Tryd.prog 30 #[.int .i64 x, .int .i64 y] w (SpanEnd fr cr lr rs ok w)) := by
  by_cases hc : Pl.isCl y = true
  · by_cases hf : 0 ≤ x ∧ x ≤ 32 - Pl.pgOf y
    · have hl := sl_bd hc
      exact ⟨x, y, Pl.slOf y, wl ((Pl.slOf y + 15) / 16).toNat fun _ => 0, true, by rw [wl_length]; omega, fun w ht => c_iNewSpan_yes x y w ht hc hf, fun w => c_sNewSpan_yes x y w hc hf⟩
    · exact ⟨0, 0, 0, [], false, by simp, fun w ht => (c_iNewSpan_no x y w ht (fun h => hf h.2)).mono fun _ _ ⟨he, hb⟩ => spanEnd_none he hb, fun w => (c_sNewSpan_from x y w hc hf).mono fun _ _ ⟨he, hb⟩ => spanEnd_none he hb⟩
  · have hc' : Pl.isCl y = false := by simpa using hc
    exact ⟨0, 0, 0, [], false, by simp, fun w ht => (c_iNewSpan_no x y w ht (fun h => hc h.1)).mono fun _ _ ⟨he, hb⟩ => spanEnd_none he hb, fun w => (c_sNewSpan_class x y w hc').mono fun _ _ ⟨he, hb⟩ => spanEnd_none he hb⟩
/-- A slot that is taken: its words, and it freed again. -/
theorem take_facts (f k l : Int) (zs : List Int) : ∃ (fr cr lr : Int) (rs : List Int) (pp : Int) (ok : Bool), rs.length ≤ 1000 ∧
    (∀ w v, IntsAt w v zs → Tabs w → Calls Tryd.prog 13 #[sp f k l v] w (SpanEnd3 fr cr lr rs pp ok w)) ∧ (∀ w v, IntsAt w v zs → Calls Tryd.prog 14 #[sp f k l v] w (SpanEnd3 fr cr lr rs pp ok w)) ∧
    (ok = true → (0 ≤ k ∧ k < 41) ∧ ∃ (z wd y : Int) (five : Bool), Pl.szOf k = z ∧ (1 ≤ z ∧ z ≤ 256) ∧ (0 ≤ pp ∧ pp ≤ 96) ∧ (0 ≤ wd ∧ wd ≤ 20000) ∧
      (∀ w v, IntsAt w v rs → TabW w → Ans 19 #[sp fr cr lr v, .int .i64 pp] (.tuple #[.int .i64 wd, .bool true]) w) ∧
      (∀ w v, IntsAt w v rs → TabW w → Calls Tryd.prog 20 #[sp fr cr lr v, .int .i64 pp] w (SpanEnd f k l zs true w)) ∧
      (∀ kk, 0 ≤ kk → kk < z → (∀ w v, IntsAt w v rs → TabW w → Ans 22 #[sp fr cr lr v, .int .i64 (wd + kk)] (.tuple #[.int .i64 pp, .bool true]) w) ∧ (∀ w v, IntsAt w v zs → TabW w → Ans 22 #[sp f k l v, .int .i64 (wd + kk)] (.tuple #[.int .i64 0, .bool false]) w)) ∧
      (∀ w v, IntsAt w v rs → TabW w → Ans 16 #[sp fr cr lr v] (.bool true) w) ∧
      (∀ w v, IntsAt w v rs → TabW w → Ans 22 #[sp fr cr lr v, .int .i64 (wd + z)] (.tuple #[.int .i64 y, .bool five]) w) ∧ (five = true → y = pp + 1)) := by
  by_cases hB : Sok f k l zs
  · obtain ⟨L, hL⟩ : ∃ L : Nat, l = L := ⟨l.toNat, by have := hB.long; omega⟩
    have hz4 := hB.len
    cases hf : findP (fun k => !bitL zs k) 0 L with
    | none => exact ⟨0, 0, 0, [], 0, false, by simp, fun w v h ht => (c_iTakeSlot_full f k l v zs w ht.1 ht.2 h hB L hL hf).mono fun _ _ ⟨he, hb⟩ => spanEnd3_none he hb, fun w v h => (c_sTakeSlot_full f k l v zs w h hB L hL hf).mono fun _ _ ⟨he, hb⟩ => spanEnd3_none he hb, fun h => by cases h⟩
    | some p =>
      obtain ⟨_, p2, p3, _⟩ := findP_some hf
      have hp : (p : Int) < l := by omega
      have p3' : bitL zs p = false := by simpa using p3
      have hB2 := hB.put (setBit_ok hB.2.2.2 hp true)
      have hbit := setBit_bits hB.2.2.2 hp true
      have hback := back_eq hB.2.2.2 hp p3'
      refine ⟨f, k, l, setBit zs p true, p, true, by rw [setBit_length]; omega, fun w v h ht => c_iTakeSlot_yes f k l v zs w ht.1 ht.2 h hB L hL p true rfl hf, fun w v h => c_sTakeSlot_yes f k l v zs w h hB L hL p hf, fun _ => ⟨Pl.isCl_iff.1 hB.1, ?_⟩⟩
      generalize setBit zs p true = rs at *
      have hz := Pl.szOf_bd hB.1
      have hfb := hB.from
      have hll := hB.long
      have hmul := mul_bd (s := (p : Int)) (L := l) (by omega) hp hz.1
      have hlz : l * Pl.szOf k ≤ 64 * 256 := Int.mul_le_mul (by omega) hz.2 (by omega) (by omega)
      have hq : ∀ kk, 0 ≤ kk → kk < Pl.szOf k → (p : Int) = (f * 64 + (p : Int) * Pl.szOf k + kk - f * 64) / Pl.szOf k := fun kk h0 h1 => by
        rw [show f * 64 + (p : Int) * Pl.szOf k + kk - f * 64 = (p : Int) * Pl.szOf k + kk by omega, slot_of hz.1 h0 h1]
      have hq2 : ((p : Int) + 1) = (f * 64 + (p : Int) * Pl.szOf k + Pl.szOf k - f * 64) / Pl.szOf k := by
        rw [show f * 64 + (p : Int) * Pl.szOf k + Pl.szOf k - f * 64 = ((p : Int) + 1) * Pl.szOf k + 0 by rw [Int.add_mul]; omega, slot_of hz.1 (by omega) (by omega)]
      have hlast : ∃ (y : Int) (five : Bool), (∀ w v, IntsAt w v rs → TabW w → Ans 22 #[sp f k l v, .int .i64 (f * 64 + (p : Int) * Pl.szOf k + Pl.szOf k)] (.tuple #[.int .i64 y, .bool five]) w) ∧ (five = true → y = p + 1) := by
        by_cases h2 : (p : Int) + 1 < l
        · cases hu : bitL rs ((p : Int) + 1).toNat with
          | true => exact ⟨(p : Int) + 1, true, fun w v h ht => c_iThingAt_in f k l v rs _ w ht h hB2 (by omega) (by omega) _ hq2 h2 hu, fun _ => rfl⟩
          | false => exact ⟨0, false, fun w v h ht => c_iThingAt_unused f k l v rs _ w ht h hB2 (by omega) (by omega) _ hq2 h2 hu, fun h => by cases h⟩
        · exact ⟨0, false, fun w v h ht => c_iThingAt_behind f k l v rs _ w ht h hB2 (by omega) (by omega) _ hq2 h2, fun h => by cases h⟩
      obtain ⟨y, five, hla, hlb⟩ := hlast
      refine ⟨Pl.szOf k, f * 64 + (p : Int) * Pl.szOf k, y, five, rfl, hz, ⟨by omega, by omega⟩, ⟨by omega, by omega⟩, fun w v h ht => c_iWordOf_in f k l v rs p w ht h hB2 (by omega) hp, fun w v h ht => ?_, fun kk h0 h1 => ⟨fun w v h ht => c_iThingAt_in f k l v rs _ w ht h hB2 (by omega) (by omega) _ (hq kk h0 h1) hp (by rw [Int.toNat_natCast, hbit, if_pos rfl]), fun w v h ht => c_iThingAt_unused f k l v zs _ w ht h hB (by omega) (by omega) _ (hq kk h0 h1) hp (by rw [Int.toNat_natCast]; exact p3')⟩, fun w v h ht => c_iGoodSpan_yes f k l v rs w ht h hB2, hla, hlb⟩
      have := c_iFreeSlot_yes f k l v rs p w ht h hB2 hp (by rw [hbit, if_pos rfl]) false rfl
      rwa [hback] at this
  · exact ⟨0, 0, 0, [], 0, false, by simp, fun w v h ht => (c_iTakeSlot_bad f k l v zs w ht.1 h hB).mono fun _ _ ⟨he, hb⟩ => spanEnd3_none he hb, fun w v h => (c_sTakeSlot_bad f k l v zs w h hB).mono fun _ _ ⟨he, hb⟩ => spanEnd3_none he hb, fun h => by cases h⟩
end Go.Proofs.YtcelebblcjhpaaaDoor
