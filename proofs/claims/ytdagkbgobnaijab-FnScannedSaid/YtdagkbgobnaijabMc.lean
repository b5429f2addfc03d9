/- What the laws of chapter 6 draw: colours; the laws' own 'has'. The draws of chapter 6's laws. -/
import Derived.Test.YtdagkbgobnaijabMb
import Derived.Test.YtdagkbgobnaijabCs3
namespace Go.Proofs.Ytdagkbgobnaijab
open Go.RowKit Ph

theorem mem_of_getD {zs : List Int} {k : Nat} {x : Int} (h : k < zs.length) (e : zs.getD k 0 = x) : x ∈ zs := by
  rw [← e, List.getD, List.getElem?_eq_getElem h]; simp
theorem not_mem_all {zs : List Int} {x : Int} (h : ∀ i, i < zs.length → zs.getD i 0 ≠ x) : ¬ x ∈ zs := fun hm => by
  obtain ⟨i, hi, e⟩ := List.mem_iff_getElem.1 hm
  exact h i hi (by rw [List.getD, List.getElem?_eq_getElem hi]; simpa using e)

set_option maxHeartbeats 800000 in
theorem c_has (v : Value) (zs : List Int) (x : Int) (w : World) (hv : IntsAt w v zs) (hm : zs.length ≤ 1000) :
    Calls Try.prog 36 #[v, .int .i64 x] w fun e w' => e = .returned (.bool (decide (x ∈ zs))) ∧ w = w' := by
  obtain ⟨a, ca, rfl, hA⟩ := hv
  generalize hn : zs.length = n at *
  have HN := Lib.hid hn; clear hn
  by_cases h0 : n = 0
  · subst h0
    obtain rfl : zs = [] := List.eq_nil_of_length_eq_zero HN.out
    clear hA
    go_enter Try.func36, Try.ntmps36
    go_wp2
    refine wp_loop_rounds 1 ?_
    rw [rounds_succ]
    go_wp2
    go_ret
    exact ⟨r_b (by simp), rfl⟩
  · obtain ⟨ba, oa, rfl, hca⟩ := hA (by omega)
    clear hA
    have HCA := Lib.hid hca; clear hca
    go_enter Try.func36, Try.ntmps36
    go_wp2
    go_loopw [9] (fun i wr => ∃ k : Nat, k ≤ n ∧ i = .int .i64 k ∧ Hid (∀ i, i < k → zs.getD i 0 ≠ x) ∧ wr = w) (fun i _ => n - (intOf i).toNat)
    case atStart => exact ⟨0, Nat.zero_le _, rfl, fun i hi => absurd hi (Nat.not_lt_zero _), rfl⟩
    case round =>
      obtain ⟨k, hk, rfl, ht, rfl⟩ := hrel
      by_cases hlt : k < n
      · have q1 := HCA.out k hlt
        have i1 : (k : Int) < (n : Int) := by omega
        generalize hx : zs.getD k 0 = y at q1
        have HX := Lib.hid hx; clear hx
        by_cases exy : y = x
        · subst exy
          have HE : Hid (decide (y ∈ zs) = true) := decide_eq_true (mem_of_getD (by rw [HN.out]; exact hlt) HX.out)
          go_wp2
          go_ret
          exact ⟨r_b HE.out.symm, rfl⟩
        · have HNE := Lib.hid exy
          have hbq : (y == x) = false := by simpa using exy
          clear exy
          go_wp2
          go_roundw
          case rel => exact ⟨k + 1, by omega, by go_num, fun i hi => by
            rcases Nat.lt_succ_iff_lt_or_eq.1 hi with h | h
            · exact ht.out i h
            · rw [h, HX.out]; exact HNE.out, trivial⟩
          case measure => simp [intOf]; omega
      · have HE : Hid (decide (x ∈ zs) = false) := decide_eq_false (not_mem_all (fun i hi => ht.out i (by rw [HN.out] at hi; omega)))
        have i1 : ¬ (k : Int) < (n : Int) := by omega
        go_wp2
        go_ret
        exact ⟨r_b HE.out.symm, rfl⟩

theorem own_ints22 (w : World) (B : Nat) (hB : B ≤ w.heap.size) : Own (w.alloc (.cells #[.int .i64 (-1), .int .i64 3] 3)) B (.slice (some ⟨w.heap.size, 0, none⟩) 2 2) [-1, 3] :=
  ⟨rfl, .inr ⟨w.heap.size, 2, _, rfl, hB, heap_alloc_new _ _, Nat.le_refl _, by decide, rfl, rfl⟩⟩
set_option maxRecDepth 100000 in
set_option maxHeartbeats 3200000 in
theorem c_colours (c n many : Nat) (w : World) (hc : CurIs w c n) (hn : n ≤ 999990000) (hm : many ≤ 20) :
    Calls Try.prog 113 #[.pointer (some ⟨c, 0, none⟩), .int .i64 (many : Int)] w fun e w' => ∃ v l, e = .returned v ∧ l.length = many ∧ Own w' w.heap.size v l ∧ CurIs w' c (n + 100) ∧ w.grownBy w' (some c) := by
  obtain ⟨i0, hi, hz0, hz1, hz2⟩ := info_parts info_int
  have HD := Lib.hid (Dv.start hc)
  have hcw := hc.lt
  clear hc
  go_enter Try.func113, Try.ntmps113
  go_wp2_with fail
  go_loopw [5, 6] (fun t i wr => ∃ (j : Nat) (l : List Int), j ≤ many ∧ i = .int .i64 (j : Int) ∧ Hid (l.length = j) ∧ Hid (Own wr w.heap.size t l) ∧ Hid (Dv w c (n + 2 * j) wr)) (fun _ i _ => many - (intOf i).toNat)
  case atStart => exact ⟨0, [], Nat.zero_le _, rfl, rfl, Own.nil _ _, HD⟩
  case round =>
    obtain ⟨j, l, hj, rfl, hl, how, hD⟩ := hrel
    by_cases hlt : j < many
    · have i1 : (j : Int) < (many : Int) := by omega
      go_wp2_with fail
      refine (c_pick c (n + 2 * j) 3 _ hD.out.1 (by omega) (by omega) (by omega)).mono ?_
      rintro e w6 ⟨x, hx, rfl, hc6, hg6⟩
      have D6 := Lib.hid (hD.out.step hc6 hg6)
      have O6 : Own w6 w.heap.size u5 l := Own.chg how.out (chgC hg6) (fun g e => .inr (by have := (owns_lt how.out e).1; omega))
      have HO1 := Lib.hid (O6.below (below1 w6 (.cells #[.int .i64 x] 3)))
      have HB1 := Lib.hid ((Below.refl w.heap.size w6).alloc D6.out.size (.cells #[.int .i64 x] 3))
      have HS := Lib.hid (src_int w6 x)
      have HLN : Hid ((l.map (Value.int .i64)).length ≤ 20) := by unfold Hid; rw [List.length_map, hl.out]; omega
      have HL2 : Hid (l.length ≤ 20) := by unfold Hid; rw [hl.out]; omega
      have HWS : Hid (w.heap.size ≤ (w6.alloc (.cells #[.int .i64 x] 3)).heap.size) := by unfold Hid; have := D6.out.size; simp; omega
      clear hc6 hg6 O6
      go_wp2_with (at_builtin; refine wl_appOwn _ rfl _ _ 25 rfl w.heap.size 3 i0 (.int .i64 0) 8 Try.underlying25 hi hz0 hz1 hz2 rfl u5 _ _ rfl HO1.out _ _ rfl HS.out (by have := HL2.out; simp; unfold maxLen; omega) (by have := HL2.out; simp; omega) HWS.out ?_; intro v1 w1 ho1 hg1 hbl; have O1 : Hid (Own w1 w.heap.size v1 (l ++ [x])) := (by { unfold Hid Own; rw [List.map_append, List.length_append]; exact ho1 }); have D1 := Lib.hid (D6.out.low (HB1.out.grown hg1 HWS.out (fun g' hg' => (owns_lt HO1.out hg').1))); clear ho1 hg1 hbl)
      go_roundw
      case rel => exact ⟨j + 1, l ++ [x], by omega, by go_num, by unfold Hid; rw [List.length_append, hl.out]; rfl, O1, D1⟩
      case measure => simp [intOf]; omega
    · obtain rfl : j = many := by omega
      have i1 : ¬ (j : Int) < (j : Int) := by omega
      by_cases h0 : j = 0
      · subst h0
        obtain rfl : l = [] := List.eq_nil_of_length_eq_zero hl.out
        obtain ⟨pv, qv, hv⟩ := how.out.ints.shape
        subst hv
        have hnn : ¬ (0 : Int) < ((([] : List Int).length : Nat) : Int) := by simp
        go_wp2_with fail
        go_ret
        first | exact ⟨_, rfl, how.out, hD.out.1.mono (by omega), hD.out.2.1⟩ | exact ⟨_, [], rfl, rfl, how.out, hD.out.1.mono (by omega), hD.out.2.1⟩
      · rcases how.out.shape' with ⟨_, q⟩ | ⟨g, cap, hv⟩
        · rw [q] at hl; exact absurd hl.out.symm h0
        subst hv
        have hlj := hl.out
        rw [hlj] at how
        have h0' : (0 : Int) < (j : Int) := by omega
        rw [hlj]
        have HLJ := Lib.hid hlj
        clear hlj
        rw [← HLJ.out] at how
        rw [HLJ.out] at how
        go_wp2_with fail
        refine (c_one c (n + 2 * j) 30 _ hD.out.1 (by omega) (by omega) (by omega)).mono ?_
        rintro e w6 ⟨bo, rfl, hc6, hg6⟩
        have D6 := Lib.hid (hD.out.step hc6 hg6)
        have O6 := Lib.hid (Own.chg how.out (chgC hg6) (fun g e => .inr (by have := (owns_lt how.out e).1; omega)))
        clear hc6 hg6
        cases bo
        · go_wp2_with fail
          go_ret
          exact ⟨_, l, rfl, HLJ.out, O6.out, D6.out.1.mono (by omega), D6.out.2.1⟩
        · have hbI := below1 w6 (.cells #[.int .i64 (-1), .int .i64 3] 3)
          have OI := Lib.hid (own_ints22 w6 (c + 1) (by have := D6.out.size; omega))
          have D7 := Lib.hid (D6.out.low (hbI.mono D6.out.size))
          have O7 := Lib.hid (O6.out.below hbI)
          clear hbI
          go_wp2_with fail
          refine (c_among c (n + 2 * j + 2) _ _ (-1) 3 _ D7.out.1 (by omega) OI.out (by decide) (by decide) (by decide)).mono ?_
          rintro e w8 ⟨x, hx, rfl, hc8, hg8⟩
          have D8 := D7.out.step hc8 hg8
          have O8 := Own.chg O7.out (chgC hg8) (fun g e => .inr (by have := (owns_lt O7.out e).1; omega))
          obtain ⟨s1, s2, s3, s4⟩ := O8.store1 HLJ.out (z := 0) (by omega) x
          have hgW : w.heap.size ≤ g := (owns_lt O8 rfl).1
          have D9 := Lib.hid (D8.low ((Below.refl w.heap.size w8).setCell (p := ⟨g, 0, none⟩) hgW (.int .i64 x)))
          have S1 := Lib.hid s1
          clear hc8 hg8 D8 O8 s1 s2
          generalize l.getD 0 0 = y at *
          go_wp2_with fail
          go_ret
          exact ⟨_, l.set 0 x, rfl, by rw [List.length_set]; exact HLJ.out, S1.out, D9.out.1.mono (by omega), D9.out.2.1⟩
end Go.Proofs.Ytdagkbgobnaijab
namespace Go.Proofs.Ytdagkbgobnaijab
open Go.RowKit Ph

theorem dv_new {w : World} {v : Value} {zs : List Int} (h : BytesAt w v zs) : Dv (w.alloc (.cells #[v, .int .i64 0, .int .u64 0] 75)) w.heap.size 0 (w.alloc (.cells #[v, .int .i64 0, .int .u64 0] 75)) := Dv.start (cur_new h)
theorem dv_below {w X : World} {v : Value} {m : Nat} (h : Dv (w.alloc (.cells #[v, .int .i64 0, .int .u64 0] 75)) w.heap.size m X) : Below w.heap.size w X := below_of_cur h.2.1
theorem Own.stepC {X Y : World} {B c : Nat} {v : Value} {zs : List Int} (h : Own X B v zs) (hB : c < B) (hg : X.grownBy Y (some c)) : Own Y B v zs := Own.chg h (chgC hg) (fun g e => .inr (by have := (owns_lt h e).1; omega))
theorem OwnH.stepC {X Y : World} {B c hi : Nat} {a b cc : Value} {h : H} (k : OwnH X B hi a b cc h) (hB : c < B) (hg : X.grownBy Y (some c)) : OwnH Y B hi a b cc h := k.chg (chgC hg) (.inr (by omega))
set_option maxRecDepth 100000 in
set_option maxHeartbeats 3200000 in
theorem d_GreysIn (v : Value) (zs : List Int) (w : World) (hby : BytesAt w v zs) : Calls Try.prog 59 #[v] w fun e w' => ∃ v' l, e = .returned v' ∧ l.length ≤ 20 ∧ IntsAt w' v' l ∧ Below w.heap.size w w' := by
  have D0 := Lib.hid (dv_new hby)
  have hcs : w.heap.size < (w.alloc (.cells #[v, .int .i64 0, .int .u64 0] 75)).heap.size := by simp
  have OI := Lib.hid (show Own ((w.alloc (.cells #[v, .int .i64 0, .int .u64 0] 75)).alloc (.cells #[.int .i64 0, .int .i64 3, .int .i64 7, .int .i64 12, .int .i64 13] 3)) (w.heap.size + 1) (.slice (some ⟨(w.alloc (.cells #[v, .int .i64 0, .int .u64 0] 75)).heap.size, 0, none⟩) 5 5) [0, 3, 7, 12, 13] from ⟨rfl, .inr ⟨_, 5, _, rfl, by simp, heap_alloc_new _ _, Nat.le_refl _, by decide, rfl, rfl⟩⟩)
  have D1 := Lib.hid (D0.out.low (below1 (w.alloc (.cells #[v, .int .i64 0, .int .u64 0] 75)) (.cells #[.int .i64 0, .int .i64 3, .int .i64 7, .int .i64 12, .int .i64 13] 3)))
  rw [show (w.alloc (.cells #[v, .int .i64 0, .int .u64 0] 75)).heap.size = w.heap.size + 1 from World.size_alloc _ _] at OI
  obtain ⟨_, _, va, vc, rfl, _⟩ := hby

  go_enter Try.func59, Try.ntmps59
  go_wp2_with fail
  refine (c_among w.heap.size 0 _ _ 0 13 _ D1.out.1 (by omega) OI.out (by decide) (by decide) (by decide)).mono ?_
  rintro e w2 ⟨x, hx, rfl, hc2, hg2⟩
  have D2 := Lib.hid (D1.out.step hc2 hg2)
  obtain ⟨m, rfl⟩ : ∃ k : Nat, x = k := ⟨x.toNat, by omega⟩
  clear hc2 hg2
  go_wp2_with fail
  refine (c_colours w.heap.size (0 + 2) m _ D2.out.1 (by omega) (by omega)).mono ?_
  rintro e w3 ⟨v3, l, rfl, hl, ho3, hc3, hg3⟩
  have D3 := Lib.hid (D2.out.step hc3 hg3)
  have O3 := Lib.hid ho3.ints
  have HL : Hid (l.length ≤ 20) := by unfold Hid; omega
  clear hc3 hg3 ho3 hl
  go_wp2_with fail
  go_ret
  exact ⟨_, l, rfl, HL.out, O3.out, dv_below D3.out⟩
set_option maxRecDepth 100000 in
set_option maxHeartbeats 3200000 in
theorem d_ShadeThing (v : Value) (zs : List Int) (w : World) (hby : BytesAt w v zs) : Calls Try.prog 63 #[v] w fun e w' => ∃ v' l k, e = .returned (.tuple #[v', .int .i64 k]) ∧ l.length ≤ 20 ∧ IntsAt w' v' l ∧ Below w.heap.size w w' := by
  have D0 := Lib.hid (dv_new hby)
  obtain ⟨_, _, va, vc, rfl, _⟩ := hby

  go_enter Try.func63, Try.ntmps63
  go_wp2_with fail
  refine (c_colours w.heap.size 0 7 _ D0.out.1 (by omega) (by omega)).mono ?_
  rintro e w3 ⟨v3, l, rfl, hl, ho3, hc3, hg3⟩
  have D3 := Lib.hid (D0.out.step hc3 hg3)
  have O3 := Lib.hid ho3
  have HL : Hid (l.length ≤ 20) := by unfold Hid; omega
  clear hc3 hg3 ho3 hl
  go_wp2_with fail
  refine (c_pick w.heap.size (0 + 100) 9 _ D3.out.1 (by omega) (by omega) (by omega)).mono ?_
  rintro e w4 ⟨x, hx, rfl, hc4, hg4⟩
  have D4 := Lib.hid (D3.out.step hc4 hg4)
  have O4 := Lib.hid (Own.stepC O3.out (by simp) hg4)
  clear hc4 hg4
  go_wp2_with fail
  go_ret2
  exact ⟨_, l, _, rfl, HL.out, O4.out.ints, dv_below D4.out⟩

theorem row_stepC {X Y : World} {c g : Nat} {cs : Array Value} (h : Row X g 27 cs) (hn : g ≠ c) (hg : X.grownBy Y (some c)) : Row Y g 27 cs := Row.chg h (chgC hg) (by omega)
set_option maxRecDepth 100000 in
set_option maxHeartbeats 6400000 in
theorem d_ScanThing (v : Value) (zs : List Int) (w : World) (hby : BytesAt w v zs) : Calls Try.prog 56 #[v] w fun e w' => ∃ a b cc h v' l k, e = .returned (.tuple #[hv a b cc, v', .int .i64 k]) ∧ Sh h ∧ l.length ≤ 20 ∧ HeapAt w' a b cc h ∧ IntsAt w' v' l ∧ (-1 ≤ k ∧ k ≤ 20) ∧ Below w.heap.size w w' := by
  have hb1 := below1 w (.cells (c3 (.slice none 0 0) (.slice none 0 0) (.slice none 0 0)) 27)
  have D0 := Lib.hid (dv_new (hby.below hb1))
  have hs1 : (w.alloc (.cells (c3 (.slice none 0 0) (.slice none 0 0) (.slice none 0 0)) 27)).heap.size = w.heap.size + 1 := World.size_alloc _ _
  have hsW : ((w.alloc (.cells (c3 (.slice none 0 0) (.slice none 0 0) (.slice none 0 0)) 27)).alloc (.cells #[v, .int .i64 0, .int .u64 0] 75)).heap.size = w.heap.size + 1 + 1 := by simp
  rw [hs1] at D0
  have R0 := Lib.hid (show zrow ((w.alloc (.cells (c3 (.slice none 0 0) (.slice none 0 0) (.slice none 0 0)) 27)).alloc (.cells #[v, .int .i64 0, .int .u64 0] 75)) w.heap.size from (Row.new w 27 (c3 (.slice none 0 0) (.slice none 0 0) (.slice none 0 0))).alloc (.cells #[v, .int .i64 0, .int .u64 0] 75))
  have HB1 := Lib.hid hb1
  have HS1 := Lib.hid hs1; have HSW := Lib.hid hsW
  obtain ⟨_, _, va, vc, rfl, _⟩ := hby
  clear hb1 hs1 hsW
  go_enter Try.func56, Try.ntmps56
  go_wp2_with fail
  refine (c_heap (w.heap.size + 1) 0 _ D0.out.1 (by omega)).mono ?_
  rintro e w2 ⟨a, b, cc, h, rfl, hsh, hf1, ho2, hc2, hg2⟩
  obtain ⟨⟨pa, qa, rfl⟩, ⟨pb, qb, rfl⟩, ⟨pc, qc, rfl⟩⟩ := ho2.shapes
  rw [HSW.out] at ho2
  have SH := Lib.hid hsh
  have hf12 := hsh.n
  generalize hnf : h.f.length = nf at *
  generalize h.l.length = nl at *
  generalize h.r.length = nr at *
  have hba := below1 w2 (.cells (c3 (.slice pa nf qa) (.slice pb nl qb) (.slice pc nr qc)) 27)
  have D2 := D0.out.step hc2 hg2
  have R2 : zrow w2 w.heap.size := row_stepC R0.out (by omega) hg2
  have hs2 := D2.size
  rw [HSW.out] at hs2
  have DA := Lib.hid (D2.low (hba.mono D2.size))
  have RA := Lib.hid (show zrow _ _ from Row.alloc R2 (.cells (c3 (.slice pa nf qa) (.slice pb nl qb) (.slice pc nr qc)) 27))
  have VA := Lib.hid (show RowH _ _ _ _ _ from Row.new w2 27 (c3 (.slice pa nf qa) (.slice pb nl qb) (.slice pc nr qc)))
  have OA := Lib.hid (ho2.below hba)
  have LV : Hid (w.heap.size + 1 + 1 ≤ w2.heap.size) := hs2
  clear hnf hsh ho2 hc2 hg2 hba D2 R2 hs2 D0 R0
  go_wp2_with fail
  generalize hgv : w2.heap.size = gv at *
  clear hgv
  generalize w2.alloc (.cells (c3 (.slice pa nf qa) (.slice pb nl qb) (.slice pc nr qc)) 27) = w3 at *
  have DD := Lib.hid (DA.out.low (below_drew (Below.refl _ w3)))
  have RD : Hid (zrow w3.drew w.heap.size) := RA.out
  have VD : Hid (RowH w3.drew gv (.slice pa nf qa) (.slice pb nl qb) (.slice pc nr qc)) := VA.out
  have OD := Lib.hid (OA.out.below (below_drew (Below.refl w3.heap.size w3)))
  have d0 := VD.out.c0
  have d1 := VD.out.c1
  have d2 := VD.out.c2
  have hwn : IntKind.i64.wrap ((nf : Int) + 1) = (nf : Int) + 1 := IntWalk.i64_in _ (by omega)
  refine wp_region_held_drew (S := (fun w' => w'.cell? ⟨gv, 0, none⟩ = some (.slice pa nf qa) ∧ w'.cell? ⟨gv, 1, none⟩ = some (.slice pb nl qb) ∧ w'.cell? ⟨gv, 2, none⟩ = some (.slice pc nr qc))) (by kernel_rfl) (⟨d0, d1, d2⟩) (fun hHeld => ?_)
  refine wpAnyH_take (i := 0) (v := ?va0x1) rfl (by kernel_rfl) (by kernel_rfl) (by kernel_rfl) (fun _ _ _ h => h) (Or.inl ⟨by rfl, ?hy0x1⟩) (by assumption) ?rest0x1
  case hy0x1 => (intro w hSw; (try dsimp only at hSw); go_simp; try with_reducible rfl)
  (try simp only [Act.put, List.getElem_toArray, List.getElem_cons_zero, List.setIfInBounds_toArray, List.set_cons_zero, List.set_cons_succ])
  refine wpAnyH_take (i := 1) (v := ?va1x2) rfl (by kernel_rfl) (by kernel_rfl) (by kernel_rfl) (fun _ _ _ h => h) (Or.inl ⟨by rfl, ?hy1x2⟩) (by assumption) ?rest1x2
  case hy1x2 => (intro w hSw; (try dsimp only at hSw); go_simp; try with_reducible rfl)
  (try simp only [Act.put, List.getElem_toArray, List.getElem_cons_zero, List.getElem_cons_succ, List.setIfInBounds_toArray, List.set_cons_zero, List.set_cons_succ])
  refine wpAnyH_take (i := 2) (v := ?va2x3) rfl (by kernel_rfl) (by kernel_rfl) (by kernel_rfl) (fun _ _ _ h => h) (Or.inl ⟨by rfl, ?hy2x3⟩) (by assumption) ?rest2x3
  case hy2x3 => (intro w hSw; (try dsimp only at hSw); go_simp; try with_reducible rfl)
  (try simp only [Act.put, List.getElem_toArray, List.getElem_cons_zero, List.getElem_cons_succ, List.setIfInBounds_toArray, List.set_cons_zero, List.set_cons_succ])
  refine wpAnyH_take (i := 3) (v := ?va3x4) rfl (by kernel_rfl) (by kernel_rfl) (by kernel_rfl) (fun _ _ _ h => h) (Or.inl ⟨by rfl, ?hy3x4⟩) (by assumption) ?rest3x4
  case hy3x4 => (intro w hSw; (try dsimp only at hSw); go_simp; try with_reducible rfl)
  (try simp only [Act.put, List.getElem_toArray, List.getElem_cons_zero, List.getElem_cons_succ, List.setIfInBounds_toArray, List.set_cons_zero, List.set_cons_succ])
  refine wpAnyH_take (i := 4) (v := ?va4x5) rfl (by kernel_rfl) (by kernel_rfl) (by kernel_rfl) (fun _ _ _ h => h) (Or.inl ⟨by rfl, ?hy4x5⟩) (by assumption) ?rest4x5
  case hy4x5 => (intro w hSw; (try dsimp only at hSw); go_simp; try with_reducible rfl)
  (try simp only [Act.put, List.getElem_toArray, List.getElem_cons_zero, List.getElem_cons_succ, List.setIfInBounds_toArray, List.set_cons_zero, List.set_cons_succ])
  refine wpAnyH_take (i := 6) (v := ?va6x6) rfl (by kernel_rfl) (by kernel_rfl) (by kernel_rfl) (fun _ _ _ h => h) (Or.inl ⟨by rfl, ?hy6x6⟩) (by assumption) ?rest6x6
  case hy6x6 => (intro w hSw; (try dsimp only at hSw); go_simp; try with_reducible rfl)
  (try simp only [Act.put, List.getElem_toArray, List.getElem_cons_zero, List.getElem_cons_succ, List.setIfInBounds_toArray, List.set_cons_zero, List.set_cons_succ])
  refine wpAnyH_take (i := 7) (v := ?va7x7) rfl (by kernel_rfl) (by kernel_rfl) (by kernel_rfl) (fun _ _ _ h => h) (Or.inl ⟨by rfl, ?hy7x7⟩) (by assumption) ?rest7x7
  case hy7x7 => (intro w hSw; (try dsimp only at hSw); go_simp; try with_reducible rfl)
  (try simp only [Act.put, List.getElem_toArray, List.getElem_cons_zero, List.getElem_cons_succ, List.setIfInBounds_toArray, List.set_cons_zero, List.set_cons_succ])
  refine wpAnyH_take (i := 8) (v := ?va8x8) rfl (by kernel_rfl) (by kernel_rfl) (by kernel_rfl) (fun _ _ _ h => h) (Or.inl ⟨by rfl, ?hy8x8⟩) (by assumption) ?rest8x8
  case hy8x8 => (intro w hSw; (try dsimp only at hSw); go_simp; try with_reducible rfl)
  (try simp only [Act.put, List.getElem_toArray, List.getElem_cons_zero, List.getElem_cons_succ, List.setIfInBounds_toArray, List.set_cons_zero, List.set_cons_succ])
  refine wpAnyH_take (i := 9) (v := ?va9x9) rfl (by kernel_rfl) (by kernel_rfl) (by kernel_rfl) (fun _ _ _ h => h) (Or.inl ⟨by rfl, ?hy9x9⟩) (by assumption) ?rest9x9
  case hy9x9 => (intro w hSw; (try dsimp only at hSw); go_simp; try with_reducible rfl)
  (try simp only [Act.put, List.getElem_toArray, List.getElem_cons_zero, List.getElem_cons_succ, List.setIfInBounds_toArray, List.set_cons_zero, List.set_cons_succ])
  refine wpAnyH_take (i := 10) (v := ?va10x10) rfl (by kernel_rfl) (by kernel_rfl) (by kernel_rfl) (fun _ _ _ h => h) (Or.inl ⟨by rfl, ?hy10x10⟩) (by assumption) ?rest10x10
  case hy10x10 => (intro w hSw; (try dsimp only at hSw); go_simp; try with_reducible rfl)
  (try simp only [Act.put, List.getElem_toArray, List.getElem_cons_zero, List.getElem_cons_succ, List.setIfInBounds_toArray, List.set_cons_zero, List.set_cons_succ])
  refine wpAnyH_take (i := 12) (v := ?va12x11) rfl (by kernel_rfl) (by kernel_rfl) (by kernel_rfl) (fun _ _ _ h => h) (Or.inl ⟨by rfl, ?hy12x11⟩) (by assumption) ?rest12x11
  case hy12x11 => (intro w hSw; (try dsimp only at hSw); go_simp; try with_reducible rfl)
  (try simp only [Act.put, List.getElem_toArray, List.getElem_cons_zero, List.getElem_cons_succ, List.setIfInBounds_toArray, List.set_cons_zero, List.set_cons_succ])
  generalize w3.drew = wd at *
  clear d0 d1 d2
  refine wpAnyH_ready (rs := [5]) (by kernel_rfl) (by simp) ?_
  refine AllReadyH.cons rfl (fun K hK => ?_) AllReadyH.nil
  go_simp
  refine (c_colours (w.heap.size + 1) (0 + 200) nf _ DD.out.1 (by omega) (by omega)).mono ?_
  rintro e w5 ⟨v5, l, rfl, hl, ho5, hc5, hg5⟩
  have D5 := Lib.hid (DD.out.step hc5 hg5)
  have R5 := Lib.hid (show zrow _ _ from row_stepC RD.out (by omega) hg5)
  have V5 := Lib.hid (show RowH _ _ _ _ _ from row_stepC VD.out (by have := LV.out; omega) hg5)
  have O5 := Lib.hid (OD.out.stepC (by omega) hg5)
  have U5 := Lib.hid (ho5.mono (show w.heap.size + 1 + 1 ≤ wd.heap.size by have := VD.out.lt; have := LV.out; omega))
  have HL : Hid (l.length ≤ 20) := by unfold Hid; omega
  clear hc5 hg5 ho5 hl
  refine hK.out _ _ ⟨V5.out.c0, V5.out.c1, V5.out.c2⟩ (fun hHeld => ?_)
  clear hK K
  (try simp only [Act.put, List.getElem_toArray, List.getElem_cons_zero, List.getElem_cons_succ, List.setIfInBounds_toArray, List.set_cons_zero, List.set_cons_succ])
  refine wpAnyH_ready (rs := [11]) (by kernel_rfl) (by simp) ?_
  refine AllReadyH.cons rfl (fun K hK => ?_) AllReadyH.nil
  go_simp
  refine (c_pick (w.heap.size + 1) (0 + 200 + 100) ((nf : Int) + 1) _ D5.out.1 (by omega) (by omega) (by omega)).mono ?_
  rintro e w6 ⟨x6, hx6, rfl, hc5, hg5⟩
  have D6 := Lib.hid (D5.out.step hc5 hg5)
  have R6 := Lib.hid (show zrow _ _ from row_stepC R5.out (by omega) hg5)
  have V6 := Lib.hid (show RowH _ _ _ _ _ from row_stepC V5.out (by have := LV.out; omega) hg5)
  have O6 := Lib.hid (O5.out.stepC (by omega) hg5)
  have U6 := Lib.hid (Own.stepC U5.out (by omega) hg5)
  clear hc5 hg5
  refine hK.out _ _ ⟨V6.out.c0, V6.out.c1, V6.out.c2⟩ (fun hHeld => ?_)
  clear hK K
  (try simp only [Act.put, List.getElem_toArray, List.getElem_cons_zero, List.getElem_cons_succ, List.setIfInBounds_toArray, List.set_cons_zero, List.set_cons_succ])
  refine wpAnyH_ready (rs := [13]) (by kernel_rfl) (by simp) ?_
  refine AllReadyH.cons rfl (fun K hK => ?_) AllReadyH.nil
  go_simp
  refine (c_pick (w.heap.size + 1) (0 + 200 + 100 + 2) (9) _ D6.out.1 (by omega) (by omega) (by omega)).mono ?_
  rintro e w7 ⟨x7, hx7, rfl, hc5, hg5⟩
  have D7 := Lib.hid (D6.out.step hc5 hg5)
  have R7 := Lib.hid (show zrow _ _ from row_stepC R6.out (by omega) hg5)
  have V7 := Lib.hid (show RowH _ _ _ _ _ from row_stepC V6.out (by have := LV.out; omega) hg5)
  have O7 := Lib.hid (O6.out.stepC (by omega) hg5)
  have U7 := Lib.hid (Own.stepC U6.out (by omega) hg5)
  clear hc5 hg5
  refine hK.out _ _ ⟨V7.out.c0, V7.out.c1, V7.out.c2⟩ (fun hHeld => ?_)
  clear hK K
  (try simp only [Act.put, List.getElem_toArray, List.getElem_cons_zero, List.getElem_cons_succ, List.setIfInBounds_toArray, List.set_cons_zero, List.set_cons_succ])
  have q8 : 0 ≤ x7 / 8 ∧ x7 / 8 ≤ 1 := by omega
  have hq7 : x7.tdiv 8 = x7 / 8 := Int.tdiv_eq_ediv_of_nonneg hx7.1
  generalize hy8 : x7 / 8 = y8 at *
  have HY8 := Lib.hid hy8; clear hy8
  have hwy : IntKind.i64.wrap y8 = y8 := IntWalk.i64_in _ (by omega)
  have hws : IntKind.i64.wrap (x6 - y8) = x6 - y8 := IntWalk.i64_in _ (by omega)
  refine wpAnyH_take (i := 14) (v := ?va14x12) rfl (by kernel_rfl) (by kernel_rfl) (by kernel_rfl) (fun _ _ _ h => h) (Or.inl ⟨by rfl, ?hy14x12⟩) (by assumption) ?rest14x12
  case hy14x12 => (intro w hSw; (try dsimp only at hSw); go_simp; try with_reducible rfl)
  (try simp only [Act.put, List.getElem_toArray, List.getElem_cons_zero, List.getElem_cons_succ, List.setIfInBounds_toArray, List.set_cons_zero, List.set_cons_succ])
  refine wpAnyH_take (i := 15) (v := ?va15x13) rfl (by kernel_rfl) (by kernel_rfl) (by kernel_rfl) (fun _ _ _ h => h) (Or.inl ⟨by rfl, ?hy15x13⟩) (by assumption) ?rest15x13
  case hy15x13 => (intro w hSw; (try dsimp only at hSw); go_simp; try with_reducible rfl)
  (try simp only [Act.put, List.getElem_toArray, List.getElem_cons_zero, List.getElem_cons_succ, List.setIfInBounds_toArray, List.set_cons_zero, List.set_cons_succ])
  refine wpAnyH_ready (rs := [16]) (by kernel_rfl) (by simp) ?_
  refine AllReadyH.cons rfl (fun K hK => ?_) AllReadyH.nil
  have hch := chgRow w7 w.heap.size (c3 (.slice pa nf qa) (.slice pb nl qb) (.slice pc nr qc))
  have VN := Lib.hid (show RowH _ _ _ _ _ from Row.chg V7.out hch (.inr (by have := LV.out; omega)))
  have ON := Lib.hid (O7.out.chg hch (.inr (by omega)))
  have UN := Lib.hid (Own.chg U7.out hch (fun g e => .inr (by have := (owns_lt U7.out e).1; omega)))
  have BN := Lib.hid (below_setRow (g := w.heap.size) (HB1.out.trans ((show Below (w.alloc (.cells (c3 (.slice none 0 0) (.slice none 0 0) (.slice none 0 0)) 27)).heap.size (w.alloc (.cells (c3 (.slice none 0 0) (.slice none 0 0) (.slice none 0 0)) 27)) w7 from by have := dv_below (w := w.alloc (.cells (c3 (.slice none 0 0) (.slice none 0 0) (.slice none 0 0)) 27)) (v := .slice va zs.length vc) (m := 0 + 200 + 100 + 2 + 2) (X := w7) (by rw [HS1.out]; exact D7.out); exact this).mono HB1.out.size)) (Nat.le_refl _) (c3 (.slice pa nf qa) (.slice pb nl qb) (.slice pc nr qc)))
  clear hch
  refine wp_store_row 27 _ _ rfl w.heap.size (c3 (.slice pa nf qa) (.slice pb nl qb) (.slice pc nr qc)) rfl rfl 27 _ R7.out info_heap rfl (by simp [Value.oneCell']) ?_
  refine hK.out _ _ ⟨VN.out.c0, VN.out.c1, VN.out.c2⟩ (fun hHeld => ?_)
  clear hK K
  (try simp only [Act.put, List.getElem_toArray, List.getElem_cons_zero, List.getElem_cons_succ])
  refine wpAnyH_take (i := 17) (v := ?va17x14) rfl (by kernel_rfl) (by kernel_rfl) (by kernel_rfl) (fun _ _ _ h => h) (Or.inl ⟨by rfl, ?hy17x14⟩) (by assumption) ?rest17x14
  case hy17x14 => (intro w hSw; (try dsimp only at hSw); go_simp; try with_reducible rfl)
  (try simp only [Act.put, List.getElem_toArray, List.getElem_cons_zero, List.getElem_cons_succ, List.setIfInBounds_toArray, List.set_cons_zero, List.set_cons_succ])
  refine wpAnyH_take (i := 18) (v := ?va18x15) rfl (by kernel_rfl) (by kernel_rfl) (by kernel_rfl) (fun _ _ _ h => h) (Or.inl ⟨by rfl, ?hy18x15⟩) (by assumption) ?rest18x15
  case hy18x15 => (intro w hSw; (try dsimp only at hSw); go_simp; try with_reducible rfl)
  (try simp only [Act.put, List.getElem_toArray, List.getElem_cons_zero, List.getElem_cons_succ, List.setIfInBounds_toArray, List.set_cons_zero, List.set_cons_succ])
  refine wpAnyH_done (by kernel_rfl) ?_ _
  clear hHeld
  go_wp2_with fail
  refine bodyPost_ret (res_row_slot2 Try.results56 (Row.put R7.out (c3 (.slice pa nf qa) (.slice pb nl qb) (.slice pc nr qc))) rfl rfl rfl Try.underlying27 rfl info_heap) rfl ⟨_, _, _, h, _, l, x6 - y8, rfl, SH.out, HL.out, ON.out.reads, UN.out.ints, by omega, BN.out⟩
end Go.Proofs.Ytdagkbgobnaijab
