/- What the laws rest on, part 2. -/
import Derived.Test.YtejaebmbhcgngaaHB1
import Derived.Deep.Cut
import Derived.Lib.AppendZerosOnto
import Derived.Shelf.Slices.In.SortNone
import Derived.Sort.OwnSortedInts
namespace Go.Proofs.Ytejaebmbhcgngaa
open Go.RowKit Ph

theorem src_int (W : World) (x : Int) : SrcAt (W.alloc (.cells #[.int .i64 x] 3)) (.slice (some ⟨W.heap.size, 0, none⟩) 1 1) ([x].map (Value.int .i64)) :=
  ⟨_, 1, rfl, fun u hu => by simp at hu; rw [hu]; rfl, fun _ => ⟨W.heap.size, 0, rfl, fun j hj => by simp at hj; subst hj; exact Row.cell (Row.new W 3 #[.int .i64 x]) 0⟩⟩
theorem inB_iff {lo hi z : Int} : inB lo hi z = true ↔ lo ≤ z ∧ z ≤ hi := by unfold inB; rw [Bool.and_eq_true, decide_eq_true_eq, decide_eq_true_eq]
theorem inB_no {lo hi z : Int} (h : ¬ (lo ≤ z ∧ z ≤ hi)) : inB lo hi z = false := by
  cases hq : inB lo hi z with
  | false => rfl
  | true => exact absurd (inB_iff.1 hq) h
set_option maxHeartbeats 1600000 in
theorem c_areWithin (v : Value) (zs : List Int) (lo hi : Int) (w : World) (hz : IntsAt w v zs) (hm : zs.length ≤ 9223372036854775806) : Calls Try.prog 88 #[v, .int .i64 lo, .int .i64 hi] w fun e w' => e = .returned (.bool (zs.all (inB lo hi))) ∧ w = w' := by
  obtain ⟨va, vc, rfl, hA⟩ := hz
  have HA := Lib.hid hA
  clear hA
  generalize hn : zs.length = n at *
  have HN := Lib.hid hn; clear hn
  go_enter Try.func88, Try.ntmps88
  go_wp2
  go_loop [11] (fun i => ∃ k : Nat, k ≤ n ∧ i = .int .i64 k ∧ Hid ((zs.take k).all (inB lo hi) = true)) (fun i => n - (intOf i).toNat)
  case atStart => exact ⟨0, Nat.zero_le _, rfl, by simp [Hid]⟩
  case round =>
    obtain ⟨k, hk, rfl, ht⟩ := hrel
    by_cases hlt : k < n
    · obtain ⟨g, off, rfl, hc⟩ := HA.out (by omega)
      have q := hc k hlt
      have i1 : (k : Int) < (n : Int) := by omega
      have hs := inAll_take_succ (lo := lo) (hi := hi) (zs := zs) (k := k) (by rw [HN.out]; exact hlt)
      have hf := inAll_false (lo := lo) (hi := hi) (zs := zs) (k := k) (by rw [HN.out]; exact hlt)
      have HS := Lib.hid hs; have HF := Lib.hid hf
      clear hc hs hf
      generalize zs.getD k 0 = z at *
      by_cases h1 : z < lo
      · have HE : Hid (zs.all (inB lo hi) = false) := HF.out (inB_no (by omega))
        clear HS HF
        go_wp2
        go_ret
        exact ⟨r_b HE.out.symm, rfl⟩
      · by_cases h2 : hi < z
        · have HE : Hid (zs.all (inB lo hi) = false) := HF.out (inB_no (by omega))
          clear HS HF
          go_wp2
          go_ret
          exact ⟨r_b HE.out.symm, rfl⟩
        · have HE : Hid ((zs.take (k + 1)).all (inB lo hi) = true) := by unfold Hid; rw [HS.out, ht.out, inB_iff.2 ⟨by omega, by omega⟩]; rfl
          clear HS HF
          go_wp2
          go_round
          case rel => exact ⟨k + 1, by omega, by go_num, HE.out⟩
          case measure => simp [intOf]; omega
    · have HE : Hid (zs.all (inB lo hi) = true) := by
        unfold Hid
        have := ht.out
        rwa [List.take_of_length_le (by rw [HN.out]; omega)] at this
      go_wp2
      go_ret
      exact ⟨r_b HE.out.symm, rfl⟩
end Go.Proofs.Ytejaebmbhcgngaa
namespace Go.Proofs.Ytejaebmbhcgngaa
open Go.RowKit Ph Tr
theorem c_hasFalse (v : Value) (l : List Bool) (w : World) (hA : BoolsAt w v l) (hm : l.length ≤ 1000) : Calls Try.prog 140 #[v, .bool false] w fun e w' => e = .returned (.bool (decide (placeOf l < l.length))) ∧ w = w' := by
  have hc := c_slIndex v l w hA hm
  by_cases h : placeOf l < l.length
  · rw [if_pos h] at hc
    have HE : Hid (decide (placeOf l < l.length) = true) := decide_eq_true h
    have HC := Lib.hid hc
    clear hc h hA
    generalize placeOf l = p at *
    have i1 : (p : Int) ≥ 0 := by omega
    go_enter Try.func140, Try.ntmps140
    go_wp2_with fail
    refine HC.out.mono ?_
    rintro e w1 ⟨rfl, rfl⟩
    go_wp2_with fail
    go_ret
    exact ⟨r_b HE.out.symm, rfl⟩
  · rw [if_neg h] at hc
    have HE : Hid (decide (placeOf l < l.length) = false) := decide_eq_false h
    have HC := Lib.hid hc
    clear hc h hA
    generalize placeOf l = p at *
    go_enter Try.func140, Try.ntmps140
    go_wp2_with fail
    refine HC.out.mono ?_
    rintro e w1 ⟨rfl, rfl⟩
    go_wp2_with fail
    go_ret
    exact ⟨r_b HE.out.symm, rfl⟩
set_option maxHeartbeats 800000 in
theorem c_takeLastO (g m c : Nat) (z : Int) (w : World) (q : w.cell? ⟨g, m, none⟩ = some (.int .i64 z)) (hc : m + 1 ≤ c) (hm : m ≤ 1000) : Calls Try.prog 139 #[.slice (some ⟨g, 0, none⟩) (m + 1) c] w fun e w' => e = .returned (.tuple #[.slice (some ⟨g, 0, none⟩) m c, .int .i64 z]) ∧ ∃ n, w' = w.drewN n := by
  have i1 : (((m + 1 : Nat) : Int) - 1) = (m : Int) := by omega
  have i2 : IntKind.i64.wrap (((m + 1 : Nat) : Int) - 1) = (m : Int) := by rw [i1]; exact IntWalk.i64_in (m : Int) (by omega)
  have i3 : (0 : Int) ≤ (m : Int) := by omega
  have i4 : (m : Int) < ((m + 1 : Nat) : Int) := by omega
  have i5 : m ≤ c := by omega
  clear hc
  go_enter Try.func139, Try.ntmps139
  go_wp2
  go_quiet (fail)
  go_wp2
  go_ret2
  exact ⟨rfl, _, rfl⟩
theorem own_take {w : World} {B g m c : Nat} {zs : List Int} {z : Int} (h : Own w B (.slice (some ⟨g, 0, none⟩) (m + 1) c) (zs ++ [z])) (hl : zs.length = m) : Own w B (.slice (some ⟨g, 0, none⟩) m c) zs ∧ w.cell? ⟨g, m, none⟩ = some (.int .i64 z) ∧ m + 1 ≤ c := by
  have h' := h
  obtain ⟨h1, h2⟩ := h
  rcases h2 with ⟨h2, _⟩ | ⟨g', cap, cur, hv, hb, hh, hle, hmax, hsz, htk⟩
  · cases h2
  · obtain ⟨rfl, _, rfl⟩ : g = g' ∧ m + 1 = (zs ++ [z]).length ∧ c = cap := by simpa using hv
    have hln : (zs ++ [z]).length = m + 1 := by rw [List.length_append]; simp [hl]
    rw [hln] at htk hle
    have h'' : w.ownsRow B 3 1 (.slice (some ⟨g, 0, none⟩) (m + 1) c) (m + 1) ((zs ++ [z]).map (Value.int .i64)) := by unfold Own at h'; rw [hln] at h'; exact h'
    refine ⟨⟨by simp, .inr ⟨g, c, cur, by rw [hl], hb, hh, by omega, hmax, hsz, ?_⟩⟩, ?_, hle⟩
    · have e : cur.toList.take (zs.length * 1) = (cur.toList.take ((m + 1) * 1)).take m := by rw [List.take_take, hl]; congr 1; omega
      rw [e, htk, List.map_append, List.take_left' (by rw [List.length_map]; exact hl)]
    · rw [World.ownsRow.cellAt h'' m (by omega), List.getElem?_map, List.getElem?_append_right (by omega)]
      simp [hl]
theorem place_all {l : List Bool} : placeOf l < l.length ↔ ¬ ∀ i, i < l.length → l.getD i false = true := by
  constructor
  · intro h k
    have := place_none k
    omega
  · intro h
    have hle := place_le l
    by_cases e : placeOf l < l.length
    · exact e
    · exfalso
      refine h fun i hi => ?_
      cases hg : l.getD i false with
      | true => rfl
      | false =>
        exfalso
        have : placeOf l < l.length := by
          unfold placeOf
          refine List.findIdx_lt_length_of_exists ⟨l[i], List.getElem_mem hi, ?_⟩
          rw [List.getD, List.getElem?_eq_getElem hi] at hg
          simp at hg; simp [hg]
        exact e this
theorem getD_setB {mt : List Bool} {i : Nat} (hi : i < mt.length) : (fun j => (mt.set i true).getD j false) = fun j => if j = i then true else mt.getD j false := by
  funext j
  rw [List.getD, List.getElem?_set]
  by_cases e : i = j
  · subst e; simp [hi]
  · rw [if_neg e, if_neg (fun h => e h.symm)]; rfl
theorem getD_repB (n : Nat) : (fun j => (List.replicate n false).getD j false) = fun _ => false := by
  funext j
  rw [List.getD, List.getElem?_replicate]
  split <;> rfl
theorem src_pair (W : World) (x y : Int) : SrcAt (W.alloc (.cells #[.int .i64 x, .int .i64 y] 3)).drew (.slice (some ⟨W.heap.size, 0, none⟩) 2 2) ([x, y].map (Value.int .i64)) :=
  ⟨_, 2, rfl, fun u hu => by simp at hu; rcases hu with rfl | rfl <;> rfl, fun _ => ⟨W.heap.size, 0, rfl, fun j hj => by
    have R : Row (W.alloc (.cells #[.int .i64 x, .int .i64 y] 3)).drew W.heap.size 3 #[.int .i64 x, .int .i64 y] := Row.new W _ _
    simp at hj
    have : j = 0 ∨ j = 1 := by omega
    rcases this with rfl | rfl
    · exact Row.cell R 0
    · exact Row.cell R 1⟩⟩
set_option maxHeartbeats 12800000 in
set_option maxRecDepth 100000 in
theorem c_isTree (v : Value) (x : T) (w : World) (hA : NodesAt w v x) (hs : Shp x) : Calls Try.prog 117 #[qv v x.t] w fun e w' => ∃ tb, e = .returned (.bool tb) ∧ (tb = true ↔ IsT x) ∧ Below w.heap.size w w' := by
  obtain ⟨ib, hib, hbz0, hbz1, hbz2⟩ := info_parts info_boolz
  obtain ⟨i0, hi, hz0, hz1, hz2⟩ := info_parts info_int
  obtain ⟨p, q, rfl, hpq⟩ := hA.shape
  have HB := Lib.hid (below1 w (.cells (q2 (.slice p x.k.length q) x.t) 91))
  have R0 := Lib.hid (show RowQ _ _ (.slice p x.k.length q) x.t from Row.new w 91 (q2 (.slice p x.k.length q) x.t))
  have HA := Lib.hid hA
  have SHP := Lib.hid hs
  have HN20 : Hid (x.k.length ≤ 20) := hs.n
  have HT := Lib.hid hs.t
  have HFI := Lib.hid (isT_fin (x := x) hs.l)
  clear hA hpq hs
  generalize hn : x.k.length = n at *
  have HN := Lib.hid hn; clear hn
  generalize htt : x.t = tt at *
  clear htt
  have c0 := R0.out.c0
  have hn20 := HN20.out
  go_enter Try.func117, Try.ntmps117
  go_wp2_with (first
    | (at_make; refine wpList_make_full _ rfl _ _ 65 rfl (w.heap.size + 1) 4 ib (.bool false) 1 Try.underlying65 hib hbz0 hbz1 .i64 .i64 _ _ n rfl rfl rfl rfl (by rw [hbz2]; omega) (by unfold maxLen; omega) (by simp) ?_; intro w1 hown hgr
       rw [rep_bools] at hown
       have hsz0 : (w.alloc (.cells (q2 (.slice p n q) tt) 91)).heap.size = w.heap.size + 1 := by simp
       rw [hsz0] at hown
       have O1 : Hid (OwnBs w1 (w.heap.size + 1) (.slice (some ⟨w.heap.size + 1, 0, none⟩) n n) (List.replicate n false)) := (by { unfold Hid OwnBs; rw [List.length_replicate]; exact hown })
       have B1 := Lib.hid (HB.out.grown hgr HB.out.size (fun k hk => by cases hk))
       have rr : Hid (RowQ w1 w.heap.size (.slice p n q) tt) := Row.grown R0.out hgr
       have q0 := rr.out.c0; have q1 := rr.out.c1
       have GL := Lib.hid (owns_lt (g := w.heap.size + 1) O1.out rfl).2
       clear hown hgr hsz0))
  clear q0 q1 c0
  have ba := below1 w1 (.cells #[.int .i64 tt] 3)
  have O2 := Lib.hid (OwnBs.below O1.out ba)
  have B2 := Lib.hid (bst B1.out ba B1.out.size)
  have R2 : Hid (RowQ _ _ _ _) := RowQ.below rr.out ba
  have S2 : Hid (Own (w1.alloc (.cells #[.int .i64 tt] 3)) w1.heap.size (.slice (some ⟨w1.heap.size, 0, none⟩) 1 1) [tt]) := ⟨rfl, .inr ⟨w1.heap.size, 1, #[.int .i64 tt], rfl, Nat.le_refl _, heap_alloc_new _ _, Nat.le_refl _, by unfold maxLen; omega, rfl, rfl⟩⟩
  have Z2 : Hid (w1.heap.size ≤ (w1.alloc (.cells #[.int .i64 tt] 3)).heap.size) := ba.size
  clear ba O1 B1 rr R0 HB hn20
  generalize w1.alloc (.cells #[.int .i64 tt] 3) = w2 at *
  generalize w1.heap.size = lq at *
  have HK0 : Hid (3 * left (List.replicate n false) + 1 ≤ 100) := by unfold Hid; rw [left_rep]; have := HN20.out; omega
  go_loopg [4] (3 * left (List.replicate n false) + 1) (fun k u wr => ∃ (st : List Int) (mt : List Bool), Hid (k = 3 * left mt + st.length) ∧ Hid (st.length + 2 * left mt ≤ 41) ∧ Hid (Own wr lq u st) ∧ Hid (OwnBs wr (w.heap.size + 1) (.slice (some ⟨w.heap.size + 1, 0, none⟩) n n) mt) ∧ Hid (mt.length = n) ∧ Hid (IsT x ↔ Fin x.l x.r n (fun j => mt.getD j false) st.reverse) ∧ Hid (∀ z ∈ st, -1 ≤ z ∧ z ≤ (n : Int) - 1) ∧ Hid (Below w.heap.size w wr) ∧ Hid (RowQ wr w.heap.size (.slice p n q) tt) ∧ Hid (lq ≤ wr.heap.size))
  case atStart => exact ⟨[tt], List.replicate n false, rfl, by unfold Hid; rw [left_rep]; have := HN20.out; simp; omega, S2, O2, by simp [Hid], by unfold Hid; rw [getD_repB]; exact HFI.out, fun z hz => by (rw [List.mem_singleton] at hz; rw [hz]; exact HT.out), B2, R2, Z2⟩
  case round =>
    clear S2 O2 B2 R2 Z2 HFI HK0
    obtain ⟨st, mt, hgk, hlen, hst, hmt, hml, hfin, hrg, hb, hrow, hlq⟩ := hrel
    rcases List.eq_nil_or_concat st with rfl | ⟨zs, z, hcc⟩
    · obtain ⟨sp, sc, rfl⟩ := hst.out.ints.shape
      have HBA := Lib.hid (owns_bools hmt.out)
      have HE : Hid ((! decide (placeOf mt < mt.length)) = true ↔ IsT x) := by
        unfold Hid
        rw [hfin.out, List.reverse_nil, fin_nil]
        have := place_all (l := mt)
        rw [hml.out] at this ⊢
        by_cases h : placeOf mt < n
        · rw [decide_eq_true h]
          exact ⟨fun q => absurd q (by decide), fun q => absurd q (this.1 h)⟩
        · rw [decide_eq_false h]
          refine ⟨fun _ => Classical.byContradiction fun q => h (this.2 q), fun _ => rfl⟩
      simp only [List.length_nil]
      go_wp2_with fail
      refine (c_hasFalse _ mt _ HBA.out (by rw [hml.out]; have := HN20.out; omega)).mono ?_
      rintro e w5 ⟨rfl, rfl⟩
      generalize decide (placeOf mt < mt.length) = db at *
      go_wp2_with fail
      go_ret
      exact ⟨_, rfl, HE.out, hb.out⟩
    · rw [List.concat_eq_append] at hcc
      subst hcc
      obtain ⟨sg, sc, hu⟩ : ∃ g c, u4 = .slice (some ⟨g, 0, none⟩) (zs.length + 1) c := by
        rcases Own.shape' hst.out with ⟨_, h⟩ | ⟨g, c, h⟩
        · simp at h
        · exact ⟨g, c, by rw [h]; simp⟩
      subst hu
      have HLZ : Hid (zs.length ≤ 41) := by have := hlen.out; rw [List.length_append] at this; unfold Hid; omega
      have hsg := owns_lt (g := sg) hst.out rfl
      have HSG := Lib.hid hsg
      have hg0 := hgk.out
      rw [List.length_append, List.length_singleton] at hg0
      have hgk' := Lib.hid hg0
      clear hg0
      have hlen' : Hid (zs.length + 1 + 2 * left mt ≤ 41) := by have := hlen.out; rw [List.length_append] at this; exact this
      have hrz : Hid (∀ y ∈ zs, -1 ≤ y ∧ y ≤ (n : Int) - 1) := fun y hy => hrg.out y (by simp [hy])
      have hz := hrg.out z (by simp)
      have hfz : Hid (IsT x ↔ Fin x.l x.r n (fun j => mt.getD j false) (z :: zs.reverse)) := by have := hfin.out; rw [List.reverse_append] at this; exact this
      obtain ⟨m, hm⟩ : ∃ m, m = zs.length := ⟨_, rfl⟩
      have HM := Lib.hid hm
      rw [← hm] at hst hgk' hlen' HLZ ⊢
      obtain ⟨ot, qz, hle⟩ := own_take hst.out hm.symm
      have OT := Lib.hid ot
      have ipos : ((m + 1 : Nat) : Int) > 0 := by omega
      clear hm ot hst hgk hlen hrg hfin hsg
      go_wp2_with fail
      refine (c_takeLastO sg m sc z wr qz hle (by have := HLZ.out; omega)).mono ?_
      rintro e w5 ⟨rfl, nd, rfl⟩
      have OT5 := Lib.hid (Own.drewN OT.out nd)
      have M5 : Hid (OwnBs (wr.drewN nd) (w.heap.size + 1) (.slice (some ⟨w.heap.size + 1, 0, none⟩) n n) mt) := hmt
      have B5 := Lib.hid (below_drewN hb.out nd)
      have R5 : Hid (RowQ (wr.drewN nd) w.heap.size (.slice p n q) tt) := hrow
      have Z5 : Hid (lq ≤ (wr.drewN nd).heap.size) := hlq
      have L5 : Hid (sg < (wr.drewN nd).heap.size) := HSG.out.2
      clear OT hmt hb hrow hlq qz
      generalize wr.drewN nd = w5 at *
      by_cases h0 : z = -1
      · subst h0
        have j1 : ((-1 : Int) == -1) = true := by decide
        have HF1 : Hid (IsT x ↔ Fin x.l x.r n (fun j => mt.getD j false) zs.reverse) := hfz.out.trans fin_skip
        clear hz
        go_wp2_with fail
        go_roundg (3 * left mt + m)
        case measure => have := hgk'.out; omega
        case rel => exact ⟨zs, mt, by rw [← HM.out]; rfl, by rw [← HM.out]; unfold Hid; have := hlen'.out; omega, OT5, M5, hml, HF1, hrz, B5, R5, Z5⟩
      · obtain ⟨i, rfl⟩ : ∃ i : Nat, z = i := ⟨z.toNat, by omega⟩
        have hin : i < n := by omega
        have j1 : ((i : Int) == -1) = false := by simp <;> omega
        have i3 : (i : Int) < (n : Int) := by omega
        have i4 : (0 : Int) ≤ (i : Int) := by omega
        obtain ⟨s1, s2, s3, s4⟩ := OwnBs.stored M5.out hml.out hin true
        have HIN := Lib.hid hin
        generalize hx : mt.getD i false = y at *
        have HX := Lib.hid hx
        clear hz h0 hx hin
        cases y
        · have HLS : Hid (left (mt.set i true) + 1 = left mt) := left_set (S := mt) (z := i) (by rw [hml.out]; exact HIN.out) HX.out
          have hil : Hid (i < x.l.length) := by unfold Hid; rw [SHP.out.l, HN.out]; exact HIN.out
          have hir : Hid (i < x.r.length) := by unfold Hid; rw [SHP.out.r, HN.out]; exact HIN.out
          have HF2 : Hid (IsT x ↔ Fin x.l x.r n (fun j => (mt.set i true).getD j false) (x.r.getD i 0 :: x.l.getD i 0 :: zs.reverse)) := by
            unfold Hid
            rw [getD_setB (by rw [hml.out]; exact HIN.out)]
            exact hfz.out.trans (fin_new HX.out hil.out hir.out)
          have HZL : Hid (-1 ≤ x.l.getD i 0 ∧ x.l.getD i 0 ≤ (n : Int) - 1) := by have := SHP.out.ls i (by rw [HN.out]; exact HIN.out); rw [HN.out] at this; exact this
          have HZR : Hid (-1 ≤ x.r.getD i 0 ∧ x.r.getD i 0 ≤ (n : Int) - 1) := by have := SHP.out.rs i (by rw [HN.out]; exact HIN.out); rw [HN.out] at this; exact this
          obtain ⟨b, off, rfl, hcc⟩ := NodesAt.at' HA.out (by rw [HN.out]; omega)
          obtain ⟨_, hq1, hq2⟩ := hcc i (by rw [HN.out]; exact HIN.out)
          have KS : Hid (∀ Y, Below w.heap.size w Y → RowQ Y w.heap.size (.slice (some ⟨b, off, none⟩) n q) tt → Y.cell? ⟨w.heap.size, 0, none⟩ = some (.slice (some ⟨b, off, none⟩) n q) ∧ Y.cell? ⟨b, off + i * 3 + 1, none⟩ = some (.int .i64 (x.l.getD i 0)) ∧ Y.cell? ⟨b, off + i * 3 + 2, none⟩ = some (.int .i64 (x.r.getD i 0))) := fun Y hY hR => ⟨hR.c0, cellBelow hY (Nat.le_refl _) hq1, cellBelow hY (Nat.le_refl _) hq2⟩
          clear hcc hq1 hq2 hfz HX hil hir
          generalize x.l.getD i 0 = zl at *
          generalize x.r.getD i 0 = zr at *
          have S1 := Lib.hid s1
          have O6 : Hid (Own (w5.setCell ⟨w.heap.size + 1, i, none⟩ (.bool true)) lq (.slice (some ⟨sg, 0, none⟩) m sc) zs) := owns_block OT5.out (fun g hg => s2.block g (by have := owns_lt OT5.out hg; exact this.2) (by have h1 := owns_lt OT5.out hg; have := GL.out; intro e; injection e with e; omega))
          have B6 : Hid (Below w.heap.size w (w5.setCell ⟨w.heap.size + 1, i, none⟩ (.bool true))) := B5.out.setCell (p := ⟨w.heap.size + 1, i, none⟩) (by simp) (.bool true)
          have R6 : Hid (RowQ (w5.setCell ⟨w.heap.size + 1, i, none⟩ (.bool true)) w.heap.size (.slice (some ⟨b, off, none⟩) n q) tt) := Row.grownBy R5.out s2 (by intro e; injection e with e; omega)
          have Z6 : Hid (lq ≤ (w5.setCell ⟨w.heap.size + 1, i, none⟩ (.bool true)).heap.size) := Nat.le_trans Z5.out s2.size
          clear s1 s2
          go_upto_region 10 with fail
          generalize w5.setCell ⟨w.heap.size + 1, i, none⟩ (.bool true) = w6 at *
          clear s3 s4 OT5 M5 B5 R5 Z5 L5
          refine wp_region_held_drew (S := (fun w' => w'.cell? ⟨w.heap.size, 0, none⟩ = some (.slice (some ⟨b, off, none⟩) n q) ∧ w'.cell? ⟨b, off + i * 3 + 1, none⟩ = some (.int .i64 zl) ∧ w'.cell? ⟨b, off + i * 3 + 2, none⟩ = some (.int .i64 zr))) (by kernel_rfl) (KS.out _ (below_drew B6.out) R6.out) (fun hHeld => ?_)
          refine wpAnyH_take (i := 0) (v := ?va0x1) rfl (by kernel_rfl) (by kernel_rfl) (by kernel_rfl) (fun _ _ _ h => h) (Or.inl ⟨by rfl, ?hy0x1⟩) (by assumption) ?rest0x1
          case hy0x1 => (intro w hSw; (try dsimp only at hSw); go_simp; try with_reducible rfl)
          (try simp only [Act.put, List.getElem_toArray, List.getElem_cons_zero, List.setIfInBounds_toArray, List.set_cons_zero, List.set_cons_succ])
          refine wpAnyH_take (i := 1) (v := ?va1x2) rfl (by kernel_rfl) (by kernel_rfl) (by kernel_rfl) (fun _ _ _ h => h) (Or.inl ⟨by rfl, ?hy1x2⟩) (by assumption) ?rest1x2
          case hy1x2 => (intro w hSw; (try dsimp only at hSw); go_simp; try with_reducible rfl)
          (try simp only [Act.put, List.getElem_toArray, List.getElem_cons_zero, List.getElem_cons_succ, List.setIfInBounds_toArray, List.set_cons_zero, List.set_cons_succ])
          refine wpAnyH_take (i := 2) (v := ?va2x3) rfl (by kernel_rfl) (by kernel_rfl) (by kernel_rfl) (fun _ _ _ h => h) (Or.inl ⟨by rfl, ?hy2x3⟩) (by assumption) ?rest2x3
          case hy2x3 => (intro w hSw; (try dsimp only at hSw); go_simp; try with_reducible rfl)
          (try simp only [Act.put, List.getElem_toArray, List.getElem_cons_zero, List.getElem_cons_succ, List.setIfInBounds_toArray, List.set_cons_zero, List.set_cons_succ])
          refine wpAnyH_take (i := 3) (v := ?va3x4) rfl (by kernel_rfl) (by kernel_rfl) (by kernel_rfl) (fun _ _ _ h => h) (Or.inl ⟨by rfl, ?hy3x4⟩) (by assumption) ?rest3x4
          case hy3x4 => (intro w hSw; (try dsimp only at hSw); go_simp; try with_reducible rfl)
          (try simp only [Act.put, List.getElem_toArray, List.getElem_cons_zero, List.getElem_cons_succ, List.setIfInBounds_toArray, List.set_cons_zero, List.set_cons_succ])
          refine wpAnyH_take (i := 4) (v := ?va4x5) rfl (by kernel_rfl) (by kernel_rfl) (by kernel_rfl) (fun _ _ _ h => h) (Or.inl ⟨by rfl, ?hy4x5⟩) (by assumption) ?rest4x5
          case hy4x5 => (intro w hSw; (try dsimp only at hSw); go_simp; try with_reducible rfl)
          (try simp only [Act.put, List.getElem_toArray, List.getElem_cons_zero, List.getElem_cons_succ, List.setIfInBounds_toArray, List.set_cons_zero, List.set_cons_succ])
          refine wpAnyH_take (i := 5) (v := ?va5x6) rfl (by kernel_rfl) (by kernel_rfl) (by kernel_rfl) (fun _ _ _ h => h) (Or.inl ⟨by rfl, ?hy5x6⟩) (by assumption) ?rest5x6
          case hy5x6 => (intro w hSw; (try dsimp only at hSw); go_simp; try with_reducible rfl)
          (try simp only [Act.put, List.getElem_toArray, List.getElem_cons_zero, List.getElem_cons_succ, List.setIfInBounds_toArray, List.set_cons_zero, List.set_cons_succ])
          refine wpAnyH_take (i := 6) (v := ?va6x7) rfl (by kernel_rfl) (by kernel_rfl) (by kernel_rfl) (fun _ _ _ h => h) (Or.inl ⟨by rfl, ?hy6x7⟩) (by assumption) ?rest6x7
          case hy6x7 => (intro w hSw; (try dsimp only at hSw); go_simp; try with_reducible rfl)
          (try simp only [Act.put, List.getElem_toArray, List.getElem_cons_zero, List.getElem_cons_succ, List.setIfInBounds_toArray, List.set_cons_zero, List.set_cons_succ])
          refine wpAnyH_take (i := 7) (v := ?va7x8) rfl (by kernel_rfl) (by kernel_rfl) (by kernel_rfl) (fun _ _ _ h => h) (Or.inl ⟨by rfl, ?hy7x8⟩) (by assumption) ?rest7x8
          case hy7x8 => (intro w hSw; (try dsimp only at hSw); go_simp; try with_reducible rfl)
          (try simp only [Act.put, List.getElem_toArray, List.getElem_cons_zero, List.getElem_cons_succ, List.setIfInBounds_toArray, List.set_cons_zero, List.set_cons_succ])
          refine wpAnyH_take (i := 8) (v := ?va8x9) rfl (by kernel_rfl) (by kernel_rfl) (by kernel_rfl) (fun _ _ _ h => h) (Or.inl ⟨by rfl, ?hy8x9⟩) (by assumption) ?rest8x9
          case hy8x9 => (intro w hSw; (try dsimp only at hSw); go_simp; try with_reducible rfl)
          (try simp only [Act.put, List.getElem_toArray, List.getElem_cons_zero, List.getElem_cons_succ, List.setIfInBounds_toArray, List.set_cons_zero, List.set_cons_succ])
          refine wpAnyH_take (i := 9) (v := ?va9x10) rfl (by kernel_rfl) (by kernel_rfl) (by kernel_rfl) (fun _ _ _ h => h) (Or.inl ⟨by rfl, ?hy9x10⟩) (by assumption) ?rest9x10
          case hy9x10 => (intro w hSw; (try dsimp only at hSw); go_simp; try with_reducible rfl)
          (try simp only [Act.put, List.getElem_toArray, List.getElem_cons_zero, List.getElem_cons_succ, List.setIfInBounds_toArray, List.set_cons_zero, List.set_cons_succ])
          refine wpAnyH_take (i := 10) (v := ?va10x11) rfl (by kernel_rfl) (by kernel_rfl) (by kernel_rfl) (fun _ _ _ h => h) (Or.inl ⟨by rfl, ?hy10x11⟩) (by assumption) ?rest10x11
          case hy10x11 => (intro w hSw; (try dsimp only at hSw); go_simp; try with_reducible rfl)
          (try simp only [Act.put, List.getElem_toArray, List.getElem_cons_zero, List.getElem_cons_succ, List.setIfInBounds_toArray, List.set_cons_zero, List.set_cons_succ])
          refine wpAnyH_take (i := 11) (v := ?va11x12) rfl (by kernel_rfl) (by kernel_rfl) (by kernel_rfl) (fun _ _ _ h => h) (Or.inl ⟨by rfl, ?hy11x12⟩) (by assumption) ?rest11x12
          case hy11x12 => (intro w hSw; (try dsimp only at hSw); go_simp; try with_reducible rfl)
          (try simp only [Act.put, List.getElem_toArray, List.getElem_cons_zero, List.getElem_cons_succ, List.setIfInBounds_toArray, List.set_cons_zero, List.set_cons_succ])
          refine wpAnyH_take (i := 12) (v := ?va12x13) rfl (by kernel_rfl) (by kernel_rfl) (by kernel_rfl) (fun _ _ _ h => h) (Or.inl ⟨by rfl, ?hy12x13⟩) (by assumption) ?rest12x13
          case hy12x13 => (intro w hSw; (try dsimp only at hSw); go_simp; try with_reducible rfl)
          (try simp only [Act.put, List.getElem_toArray, List.getElem_cons_zero, List.getElem_cons_succ, List.setIfInBounds_toArray, List.set_cons_zero, List.set_cons_succ])
          refine wpAnyH_ready (rs := [13]) (by kernel_rfl) (by simp) ?_
          refine AllReadyH.cons rfl (fun K hK => ?_) AllReadyH.nil
          clear hHeld
          have SR := Lib.hid (src_pair w6 zl zr)
          obtain ⟨x1, hx1⟩ : ∃ y, y = World.drew (w6.alloc (.cells #[.int .i64 zl, .int .i64 zr] 3)) := ⟨_, rfl⟩
          have hb1 : Below w6.heap.size w6 x1 := by rw [hx1]; exact below_drew (below1 w6 _)
          rw [← hx1] at SR
          go_simp
          rw [← hx1]
          have O7 := Lib.hid (Own.below O6.out hb1)
          have B7 := Lib.hid (bst B6.out hb1 B6.out.size)
          have R7 : Hid (RowQ x1 w.heap.size _ _) := RowQ.below R6.out hb1
          have M7 := Lib.hid (OwnBs.below S1.out hb1)
          have Z7 : Hid (lq ≤ x1.heap.size) := Nat.le_trans Z6.out hb1.size
          clear hb1 hx1 O6 B6 R6 S1 Z6
          refine hK.out _ _ (KS.out _ B7.out R7.out) (fun hHeld => ?_)
          clear hK K
          (try simp only [Act.put, List.getElem_toArray, List.getElem_cons_zero, List.getElem_cons_succ, List.setIfInBounds_toArray, List.set_cons_zero, List.set_cons_succ])
          refine wpAnyH_ready (rs := [14]) (by kernel_rfl) (by simp) ?_
          refine AllReadyH.cons rfl (fun K hK => ?_) AllReadyH.nil
          clear hHeld
          obtain ⟨v8, x8, hrun, ho8, hg8, hbl8⟩ := run_appOwn (P := Try.prog) x1 lq 22 22 3 i0 (.int .i64 0) 8 Try.underlying22 hi hz0 hz1 hz2 rfl (.slice (some ⟨sg, 0, none⟩) m sc) m (zs.map (Value.int .i64)) (by have h9 := O7.out; unfold Own at h9; rw [← HM.out] at h9; exact h9) (.slice (some ⟨w6.heap.size, 0, none⟩) 2 2) _ SR.out (by have := HLZ.out; simp; unfold maxLen; omega) (by have := HLZ.out; simp; omega) Z7.out
          have O8 : Hid (Own x8 lq v8 (zs ++ [zl, zr])) := by unfold Hid Own; rw [List.map_append, List.length_append, ← HM.out]; exact ho8
          have M8 : Hid (OwnBs x8 (w.heap.size + 1) (.slice (some ⟨w.heap.size + 1, 0, none⟩) n n) (mt.set i true)) := owns_block M7.out (fun g hg => hg8.block g (owns_lt M7.out hg).2 (fun e => by have e1 : w.heap.size + 1 = g := Option.some.inj hg; have e2 : g = sg := Option.some.inj e; have := GL.out; have := HSG.out.1; omega))
          have B8 := Lib.hid (B7.out.grown hg8 B7.out.size (fun k hk => by have e1 : sg = k := Option.some.inj hk; have := GL.out; have := HSG.out.1; omega))
          have R8 : Hid (RowQ x8 w.heap.size _ _) := Row.grownBy R7.out hg8 (fun e => by have e2 : sg = w.heap.size := Option.some.inj e; have := GL.out; have := HSG.out.1; omega)
          have Z8 : Hid (lq ≤ x8.heap.size) := Nat.le_trans Z7.out hg8.size
          rw [if_pos (by rfl)]
          refine op_app _ _ _ rfl rfl rfl hrun ?_
          refine hK.out _ _ (KS.out _ B8.out R8.out) (fun hHeld => ?_)
          clear hK K hrun ho8 hg8 hbl8 O7 M7 B7 R7 Z7 SR
          (try simp only [Act.put, List.getElem_toArray, List.getElem_cons_zero, List.getElem_cons_succ, List.setIfInBounds_toArray, List.set_cons_zero, List.set_cons_succ])
          refine wpAnyH_take (i := 15) (v := ?va15x14) rfl (by kernel_rfl) (by kernel_rfl) (by kernel_rfl) (fun _ _ _ h => h) (Or.inl ⟨by rfl, ?hy15x14⟩) (by assumption) ?rest15x14
          case hy15x14 => (intro w hSw; (try dsimp only at hSw); go_simp; try with_reducible rfl)
          (try simp only [Act.put, List.getElem_toArray, List.getElem_cons_zero, List.getElem_cons_succ, List.setIfInBounds_toArray, List.set_cons_zero, List.set_cons_succ])
          refine wpAnyH_done (by kernel_rfl) ?_ _
          clear hHeld KS
          have HRV : Hid (∀ y ∈ zs ++ [zl, zr], -1 ≤ y ∧ y ≤ (n : Int) - 1) := fun y hy => by
            rw [List.mem_append] at hy
            rcases hy with hy | hy
            · exact hrz.out y hy
            · simp at hy
              rcases hy with rfl | rfl
              · exact HZL.out
              · exact HZR.out
          go_wp2_with fail
          go_roundg (3 * left (mt.set i true) + (m + 2))
          case measure => have := hgk'.out; have := HLS.out; omega
          case rel => exact ⟨zs ++ [zl, zr], mt.set i true, by rw [List.length_append, ← HM.out]; rfl, by rw [List.length_append, ← HM.out]; unfold Hid; simp; have := hlen'.out; have := HLS.out; omega, O8, M8, by unfold Hid; rw [List.length_set]; exact hml.out, by unfold Hid; rw [List.reverse_append]; exact HF2.out, HRV, B8, R8, Z8⟩
        · have HE : Hid (¬ IsT x) := fun h => fin_met (i := i) HX.out (hfz.out.1 h)
          clear s1 s2
          go_wp2_with fail
          go_ret
          exact ⟨false, rfl, ⟨fun h => absurd h (by decide), fun h => absurd h HE.out⟩, B5.out⟩
end Go.Proofs.Ytejaebmbhcgngaa
namespace Go.Proofs.Ytejaebmbhcgngaa
open Go.RowKit Ph Tr
section
variable {w : World} {B g n c : Nat} {ms : List N3}
theorem there3 (h : w.ownsRow B 133 3 (.slice (some ⟨g, 0, none⟩) n c) n (flatN ms)) (hl : ms.length = n) (k : Nat) (hk : k < n) : w.there g (k * 3) 3 := fun j hj => by
  refine ⟨?_, h.frozenAt _⟩
  rw [h.cellAt _ (by omega), flatN_get ms k j (by omega) hj]; rfl
theorem stored3 (h : w.ownsRow B 133 3 (.slice (some ⟨g, 0, none⟩) n c) n (flatN ms)) (hl : ms.length = n) (k : Nat) (hk : k < n) (m : N3) : (w.setCells g (k * 3) [.int .i64 m.1, .int .i64 m.2.1, .int .i64 m.2.2]).ownsRow B 133 3 (.slice (some ⟨g, 0, none⟩) n c) n (flatN (ms.set k m)) ∧ w.grownBy (w.setCells g (k * 3) [.int .i64 m.1, .int .i64 m.2.1, .int .i64 m.2.2]) (some g) := by
  obtain ⟨h1, g1⟩ := h.stored (k * 3) (.int .i64 m.1)
  obtain ⟨h2, g2⟩ := h1.stored (k * 3 + 1) (.int .i64 m.2.1)
  obtain ⟨h3, g3⟩ := h2.stored (k * 3 + 2) (.int .i64 m.2.2)
  rw [flatN_set ms k m (by omega)] at h3
  exact ⟨h3, g1.trans (g2.trans g3)⟩
end
theorem ownsk_block {w w' : World} {B sz : Nat} {T : TypeId} {v : Value} {n : Nat} {xs : List Value} (h : w.ownsRow B T sz v n xs) (hb : ∀ g, v.ownBlock = some g → w'.heap[g]? = w.heap[g]?) : w'.ownsRow B T sz v n xs := by
  refine ⟨h.1, ?_⟩
  rcases h.2 with h2 | ⟨g, cap, cur, hv, hg, hh, r⟩
  · exact .inl h2
  · exact .inr ⟨g, cap, cur, hv, hg, by rw [hb g (by rw [hv]; rfl)]; exact hh, r⟩
theorem OwnN.nodes {w : World} {B : Nat} {v : Value} {x : T} (h : OwnN w B v x) : NodesAt w v x := by
  unfold OwnN at h
  have h' := h
  rcases h'.2 with ⟨hv, h0⟩ | ⟨g, cap, cur, hv, hb, hh, hle, hmax, hsz, htk⟩
  · exact ⟨none, 0, by rw [hv, h0], by omega, fun hp => by omega⟩
  · subst hv
    refine ⟨some ⟨g, 0, none⟩, cap, rfl, hle, fun h0 => ⟨g, 0, rfl, fun i hi => ?_⟩⟩
    have K : ∀ j, j < 3 → w.cell? ⟨g, 0 + i * 3 + j, none⟩ = some (.int .i64 (ndc ((nds x).getD i zN) j)) := fun j hj => by
      rw [Nat.zero_add, h.cellAt _ (by omega), flatN_get _ i j (by rw [nds_length]; exact hi) hj]
    rw [nds_get x i hi] at K
    exact ⟨K 0 (by omega), K 1 (by omega), K 2 (by omega)⟩
theorem OwnN.below {w w' : World} {B : Nat} {v : Value} {x : T} (h : OwnN w B v x) (hb : Below w.heap.size w w') : OwnN w' B v x := by
  unfold OwnN at h ⊢
  exact ownsk_block h fun g hg => hb.block g (h.lt g hg).2
/-- The nodes up to k, zeros behind. -/
def fillN (x : T) (k : Nat) : List N3 := (nds x).take k ++ List.replicate (x.k.length - k) zN
theorem fillN_length {x : T} {k : Nat} (hk : k ≤ x.k.length) : (fillN x k).length = x.k.length := by
  unfold fillN; rw [List.length_append, List.length_take, nds_length, List.length_replicate]; omega
theorem fillN_zero (x : T) : fillN x 0 = List.replicate x.k.length zN := by simp [fillN]
theorem fillN_all (x : T) : fillN x x.k.length = nds x := by
  unfold fillN; rw [Nat.sub_self, List.replicate_zero, List.append_nil, List.take_of_length_le (by rw [nds_length]; exact Nat.le_refl _)]
theorem fillN_set {x : T} {k : Nat} (hk : k < x.k.length) : (fillN x k).set k (x.k.getD k 0, x.l.getD k 0, x.r.getD k 0) = fillN x (k + 1) := by
  have e := nds_get x k hk
  have hk' : k < (nds x).length := by rw [nds_length]; exact hk
  have e1 : (nds x)[k] = (x.k.getD k 0, x.l.getD k 0, x.r.getD k 0) := by rw [← e, List.getD, List.getElem?_eq_getElem hk']; rfl
  unfold fillN
  rw [List.set_append_right _ _ (by rw [List.length_take]; omega), List.length_take, Nat.min_eq_left (Nat.le_of_lt hk'), Nat.sub_self, show x.k.length - k = (x.k.length - (k + 1)) + 1 by omega, List.replicate_succ, List.set_cons_zero, List.take_add_one, List.getElem?_eq_getElem hk', e1]
  simp
theorem made_zN (n : Nat) : (madeCells #[.int .i64 0, .int .i64 0, .int .i64 0] (n * 3)).toList = flatN (List.replicate n zN) := by
  apply List.ext_getElem?
  intro j
  by_cases hj : j < n * 3
  · have h2 := flatN_get (List.replicate n zN) (j / 3) (j % 3) (by rw [List.length_replicate]; omega) (by omega)
    rw [show j / 3 * 3 + j % 3 = j by omega] at h2
    rw [h2]
    have e : (List.replicate n zN).getD (j / 3) zN = zN := by
      rw [List.getD, List.getElem?_replicate]; split <;> rfl
    rw [e]
    have hc : j % 3 = 0 ∨ j % 3 = 1 ∨ j % 3 = 2 := by omega
    rcases hc with q | q | q <;> simp [madeCells, hj, q, ndc]
  · rw [List.getElem?_eq_none (by simp [madeCells]; omega), List.getElem?_eq_none (by rw [flatN_length, List.length_replicate]; omega)]
end Go.Proofs.Ytejaebmbhcgngaa
namespace Go.Proofs.Ytejaebmbhcgngaa
open Go.RowKit Ph Go.Sort

set_option maxRecDepth 100000 in
set_option maxHeartbeats 1600000 in
theorem c_growNil (n : Nat) (w : World) (hn : n ≤ 4000000) : Calls Try.prog 138 #[.slice none 0 0, .int .i64 n] w fun e w' => ∃ v, e = .returned v ∧ Own w' w.heap.size v [] ∧ w.grownBy w' none := by
  obtain ⟨i0, hi, hz0, hz1, hz2⟩ := info_parts info_int
  have h1 : ¬ ((n : Int) < 0) := by omega
  have h3 : IntKind.i64.wrap ((n : Int) - 0) = (n : Int) := by rw [Int.sub_zero]; exact IntWalk.i64_in _ (by omega)
  by_cases h0 : n = 0
  · subst h0
    go_enter Try.func138, Try.ntmps138
    go_wp2
    go_ret
    exact ⟨_, rfl, Own.nil _ _, World.grownBy.refl _ _⟩
  · have h4 : (n : Int) > 0 := by omega
    have hrun := fun ty => Lib.run_append_grow_zeros (P := Try.prog) w 22 3 ty 3 i0 (.int .i64 0) .i64 .i64 Try.underlying22 Try.underlying3 hi hz0 none 0 0 [] (run_firstCells_none w.drew i0.size 0 0 0) n (by omega) (by rw [hz1]; omega) (by omega) (by omega) (by rw [hz2]; omega)
      (growslice_fits (by omega) (by rw [hz2]; omega))
    simp only [Nat.zero_add] at hrun
    have hGn : n ≤ grownCap w n 0 3 := grownCap_ge w _ _ _
    have hGm : grownCap w n 0 3 ≤ maxLen := grownCap_le_maxLen w n 0 3 (by unfold maxLen; omega)
    generalize grownCap w n 0 3 = G at *
    have HGM := Lib.hid hGm; have HGN := Lib.hid hGn
    clear hGm h0
    go_enter Try.func138, Try.ntmps138
    go_wp2_with (at_builtin; refine Lib.wpList_append_run _ rfl _ _ _ _ rfl _ _ rfl rfl _ _ (hrun _) ?_)
    go_ret
    refine ⟨_, rfl, ⟨rfl, .inr ⟨w.heap.size, G, _, rfl, Nat.le_refl _, heap_alloc_new w.drew _, Nat.zero_le _, HGM.out, ?_, rfl⟩⟩, ⟨rfl, rfl, rfl, by simp, fun k hk _ => heap_alloc_old w.drew _ hk⟩⟩
    have := HGN.out
    simp [size_zeroCells]
    omega
theorem flat_succ {fs : List (List Int)} {k : Nat} (h : k < fs.length) : (fs.take (k + 1)).flatten = (fs.take k).flatten ++ fs.getD k [] := by
  rw [List.take_succ_eq_append_getElem h, List.flatten_append]
  simp [List.getD, h]
theorem flat_len : ∀ {fs : List (List Int)} {k : Nat}, k ≤ fs.length → (fs.take k).flatten.length = sumL fs k
  | _, 0, _ => by simp [sumL]
  | fs, k + 1, h => by
    rw [flat_succ (by omega), sumL_succ (by omega), List.length_append, flat_len (by omega)]
set_option maxRecDepth 100000 in
set_option maxHeartbeats 1600000 in
theorem c_concat (v : Value) (fs : List (List Int)) (w : World) (hA : RowsAt w v fs) (hl : fs.length ≤ 1000) (hm : sumL fs fs.length ≤ 1000000) : Calls Try.prog 116 #[v] w fun e w' => ∃ v', e = .returned v' ∧ Own w' w.heap.size v' fs.flatten ∧ Below w.heap.size w w' := by
  obtain ⟨i0, hi, hz0, hz1, hz2⟩ := info_parts info_int
  have HLE := Lib.hid (fun k => sumL_mono fs (j := k) (k := fs.length))
  have HSU := Lib.hid (fun k hk => sumL_succ (fs := fs) (k := k) hk)
  have HFL := Lib.hid (fun k hk => flat_succ (fs := fs) (k := k) hk)
  have HFN := Lib.hid (fun k hk => flat_len (fs := fs) (k := k) hk)
  have HTK := Lib.hid (show fs.take fs.length = fs from List.take_length)
  obtain ⟨a, c, rfl, hc⟩ := hA
  generalize hn : fs.length = n at *
  have HN := Lib.hid hn; have HC := Lib.hid hc; have HMM := Lib.hid hm
  clear hn hc hm
  go_enter Try.func116, Try.ntmps116
  go_wp2_with fail
  go_loopw [3, 11] (fun s i wr => ∃ k : Nat, k ≤ n ∧ i = .int .i64 k ∧ s = .int .i64 (sumL fs k) ∧ wr = w) (fun _ i _ => n - (intOf i).toNat)
  case atStart => exact ⟨0, Nat.zero_le _, rfl, by rw [sumL_zero]; rfl, rfl⟩
  case round =>
    obtain ⟨k, hk, rfl, rfl, hw⟩ := hrel
    replace hw := hw.symm
    subst hw
    by_cases hlt : k < n
    · obtain ⟨b, off, rfl, hcc⟩ := HC.out (by omega)
      obtain ⟨u, q, hu⟩ := hcc k hlt
      obtain ⟨p, cp, rfl⟩ := hu.shape
      have e1 := HSU.out k hlt
      have e2 := HLE.out (k + 1) (by omega)
      have e3 := HMM.out
      have i1 : IntKind.i64.wrap (((sumL fs k : Nat) : Int) + ((fs.getD k []).length : Int)) = ((sumL fs (k + 1) : Nat) : Int) := by rw [IntWalk.i64_in _ (by omega), e1]; omega
      have i2 : ¬ ((sumL fs (k + 1) : Nat) : Int) < 0 := by omega
      have i3 : (k : Int) < (n : Int) := by omega
      clear hcc hu e1 e2 e3
      generalize (fs.getD k []).length = m at *
      generalize hs1 : sumL fs (k + 1) = s1 at *
      have HS1 := Lib.hid hs1; clear hs1
      generalize sumL fs k = s0 at *
      go_wp2_with fail
      go_roundw
      case rel => exact ⟨k + 1, by omega, by go_num, by rw [HS1.out], by first | rfl | trivial⟩
      case measure => simp [intOf]; omega
    · obtain rfl : k = n := by omega
      go_wp2_with (go_at_call 138; refine (c_growNil (sumL fs k) _ (by have := HMM.out; omega)).mono ?_; rintro e w1 ⟨v1, rfl, ho1, hg1⟩; have O1 := Lib.hid ho1; have B1 := Lib.hid ((Below.refl w.heap.size w).grown hg1 (Nat.le_refl _) (fun k hk => by cases hk)); clear ho1 hg1)
      go_loopw [6, 27] (fun s i wr => ∃ j : Nat, j ≤ k ∧ i = .int .i64 j ∧ Hid (Own wr w.heap.size s (fs.take j).flatten) ∧ Hid (Below w.heap.size w wr)) (fun _ i _ => k - (intOf i).toNat)
      case atStart => exact ⟨0, Nat.zero_le _, rfl, by rw [List.take_zero]; exact O1, B1⟩
      case round =>
        obtain ⟨j, hj, rfl, how, hbw⟩ := hrel
        by_cases hlt : j < k
        · obtain ⟨b, off, rfl, hcc⟩ := HC.out (by omega)
          obtain ⟨u, q0, hu⟩ := hcc j hlt
          have q := cellBelow hbw.out (Nat.le_refl _) q0
          have hsrc := Lib.hid (hu.below hbw.out).src
          have e1 := HFL.out j hlt
          have e2 := HFN.out j (by omega)
          have e3 := HFN.out (j + 1) (by omega)
          have e4 := HLE.out (j + 1) (by omega)
          rw [e1] at e3
          have HE1 := Lib.hid e1
          have HLN : Hid ((fs.take j).flatten.length + ((fs.getD j []).map (Value.int .i64)).length ≤ 1000000) := by
            unfold Hid; rw [List.length_map, ← List.length_append, e3]; exact Nat.le_trans e4 HMM.out
          have i3 : (j : Int) < (k : Int) := by omega
          have hws := hbw.out.size
          clear hcc hu q0 e1 e2 e3 e4
          generalize (fs.take j).flatten = ys at *
          generalize fs.getD j [] = zs at *
          go_wp2_with (at_builtin; refine wl_appOwn _ rfl _ _ 22 rfl w.heap.size 3 i0 (.int .i64 0) 8 Try.underlying22 hi hz0 hz1 hz2 rfl u6 ys.length (ys.map (Value.int .i64)) rfl how.out u (zs.map (Value.int .i64)) rfl hsrc.out (by have := HLN.out; unfold maxLen; omega) (by have := HLN.out; omega) hws ?_; intro v2 w2 ho hg hbl; have O2 := Lib.hid ho; have G2 := Lib.hid hg; clear ho hg hbl)
          go_roundw
          case rel =>
            refine ⟨j + 1, by omega, by go_num, ?_, ?_⟩
            · have h := O2.out
              unfold Hid
              rw [HE1.out]
              unfold Own
              rw [List.length_append, List.map_append]
              rw [List.length_map] at h
              exact h
            · exact hbw.out.grown G2.out hws (fun g hg => (owns_lt how.out hg).1)
          case measure => simp [intOf]; omega
        · obtain rfl : j = k := by omega
          go_wp2_with fail
          go_ret
          refine ⟨_, rfl, ?_, hbw.out⟩
          have h := how.out
          rw [HTK.out] at h
          exact h
end Go.Proofs.Ytejaebmbhcgngaa
namespace Go.Proofs.Ytejaebmbhcgngaa
open Go.RowKit
theorem op_make {P : Program} {o : Oper} {q : Act} {w : World} {K : Act → World → Prop} {Q : Exit → Act → World → Prop} (l c : Operand) (t : TypeId) (hop : o.op = Op.makeSlice t l c) (base : Nat) (e : TypeId) (i : TypeInfo) (z : Value) (size : Nat) (h1 : P.underlying t = some (.slice e)) (h2 : P.info? e = some i) (h3 : i.zero = some z) (h4 : i.size = size)
    (kl kc : IntKind) (n : Nat) (hl : q.eval l = .int kl (n : Int)) (hc : q.eval c = .int kc (n : Int)) (b2 : i.bytes * n ≤ 281474976710656) (b3 : n ≤ maxLen) (b4 : base ≤ w.heap.size)
    (hK : ∀ w', w'.ownsRow base e size (.slice (some ⟨w.heap.size, 0, none⟩) n n) n (madeCells z.cells (n * size)).toList → w.grownBy w' none → K (q.put o.dst (.slice (some ⟨w.heap.size, 0, none⟩) n n)) w') : Oper.wp P o q w K Q := by
  obtain ⟨w', hrun, r1, r2⟩ := run_make_full (P := P) w base t e i z size h1 h2 h3 h4 kl kc n b2 b3 b4
  unfold Oper.wp
  simp [execOp, hop, hl, hc, hrun, Result.andThen]
  exact hK w' r1 r2
end Go.Proofs.Ytejaebmbhcgngaa
namespace Go.Proofs.Ytejaebmbhcgngaa
open Go.RowKit Ph Tr
/-- A call ends with the queue of a tree, if that is valid. -/
def EndQ (x : T) (w : World) (e : Ending) (w' : World) : Prop := ∃ v t, e = .returned (.tuple #[qv v t, .bool (goodB x)]) ∧ v.oneCell' = true ∧ (goodB x = true → t = x.t ∧ OwnN w' w.heap.size v x) ∧ Below w.heap.size w w'
theorem endQ_no {x : T} {w w' : World} (h : ¬ Tr.Good x) (hb : Below w.heap.size w w') : EndQ x w (.returned (.tuple #[qv nilT 0, .bool false])) w' :=
  ⟨nilT, 0, by rw [not_good h], rfl, fun e => absurd (goodB_iff.1 e) h, hb⟩
theorem good_of {x : T} (s : Shp x) (i : IsT x) {gb : Bool} (h : gb = true ↔ ∀ i, i < x.k.length → OrdAt x i ∧ LeanAt x i) : goodB x = gb := by
  cases gb
  · exact not_good fun g => absurd (h.2 fun i hi => ⟨g.o i hi, g.n i hi⟩) (by decide)
  · exact goodB_iff.2 ⟨s, i, fun i hi => (h.1 rfl i hi).1, fun i hi => (h.1 rfl i hi).2⟩
theorem r_q {x : T} {b : Bool} (v : Value) (t : Int) (h : goodB x = b) : Ending.returned (.tuple #[qv v t, .bool b]) = .returned (.tuple #[qv v t, .bool (goodB x)]) := by rw [h]
theorem good_no {x : T} (h : ¬ IsT x) : goodB x = false := not_good fun g => h g.i
theorem ownN_of {w : World} {B n : Nat} {v : Value} {x : T} (h : w.ownsRow B 133 3 v n (flatN (fillN x n))) (hn : x.k.length = n) : OwnN w B v x := by
  subst hn; rw [fillN_all] at h; exact h
theorem OwnN.row {w : World} {B g : Nat} {v : Value} {x : T} (h : OwnN w B v x) (hne : v.ownBlock ≠ some g) (cs : Array Value) : OwnN (w.setRow g cs) B v x := by
  unfold OwnN at h ⊢
  exact ownsk_block h fun i hi => setRow_other w g i cs (fun e => hne (by rw [hi, e]))
theorem OwnN.mono {w : World} {B B' : Nat} {v : Value} {x : T} (h : OwnN w B v x) (hB : B' ≤ B) : OwnN w B' v x := World.ownsRow.mono h hB
theorem rows_pair (W : World) (b c : Value) (y z : List Int) (h1 : IntsAt W b y) (h2 : IntsAt W c z) : RowsAt (W.alloc (.cells #[b, c] 22)) (.slice (some ⟨W.heap.size, 0, none⟩) 2 2) [y, z] :=
  ⟨some ⟨W.heap.size, 0, none⟩, 2, rfl, fun _ => ⟨W.heap.size, 0, rfl, fun i hi => by
    have R : Row (W.alloc (.cells #[b, c] 22)) W.heap.size 22 #[b, c] := Row.new W _ _
    have hb := below1 W (.cells #[b, c] 22)
    simp at hi
    have : i = 0 ∨ i = 1 := by omega
    rcases this with rfl | rfl
    · exact ⟨b, Row.cell R 0, h1.below hb⟩
    · exact ⟨c, Row.cell R 1, h2.below hb⟩⟩⟩
theorem ints_one (W : World) (z : Int) : IntsAt (W.alloc (.cells #[.int .i64 z] 3)) (.slice (some ⟨W.heap.size, 0, none⟩) 1 1) [z] :=
  ⟨some ⟨W.heap.size, 0, none⟩, 1, rfl, fun _ => ⟨W.heap.size, 0, rfl, fun i hi => by
    have R : Row (W.alloc (.cells #[.int .i64 z] 3)) W.heap.size 3 #[.int .i64 z] := Row.new W _ _
    simp at hi
    subst hi
    exact Row.cell R 0⟩⟩
theorem own3_below {w w' : World} {B n sz : Nat} {e : TypeId} {v : Value} {xs : List Value} (h : w.ownsRow B e sz v n xs) (hb : Below w.heap.size w w') : w'.ownsRow B e sz v n xs := ownsk_block h fun g hg => hb.block g (h.lt g hg).2
theorem int_atk {w : World} {pa : Option Addr} {n qa : Nat} {zs : List Int} (h : IntsAt w (.slice pa n qa) zs) {k : Nat} (hk : k < zs.length) : ∃ b o, pa = some ⟨b, o, none⟩ ∧ w.cell? ⟨b, o + k, none⟩ = some (.int .i64 (zs.getD k 0)) := by
  obtain ⟨p, q, hc, h⟩ := h
  cases hc
  obtain ⟨b, o, hp, h1⟩ := h (by omega)
  exact ⟨b, o, hp, h1 k hk⟩
theorem info_nodez : (Try.prog.info? 133).map (fun i => (i.zero, i.size, i.bytes)) = some (some (.agg #[.int .i64 0, .int .i64 0, .int .i64 0]), 3, 24) := by kernel_rfl
set_option maxRecDepth 100000 in
set_option maxHeartbeats 3200000 in
theorem c_queueOf_len (a b c : Value) (x : T) (w : World) (hA : TreeAt w a b c x) (hm : wtT x ≤ 1048576) (h : ¬ (x.k.length ≤ 20 ∧ x.l.length = x.k.length ∧ x.r.length = x.k.length)) : Calls Try.prog 81 #[tv a b c x.t] w (EndQ x w) := by
  have HE : Hid (¬ Tr.Good x) := fun g => h ⟨g.s.n, g.s.l, g.s.r⟩
  obtain ⟨⟨pa, qa, rfl⟩, ⟨pb, qb, rfl⟩, ⟨pc, qc, rfl⟩⟩ := hA.shapes
  have HB := Lib.hid ((below1 w (.cells (t4 (.slice pa x.k.length qa) (.slice pb x.l.length qb) (.slice pc x.r.length qc) x.t) 24)).alloc (by simp) (.cells (q2 nilT 0) 91))
  have RR := Lib.hid (show RowQ ((w.alloc (.cells (t4 (.slice pa x.k.length qa) (.slice pb x.l.length qb) (.slice pc x.r.length qc) x.t) 24)).alloc (.cells (q2 nilT 0) 91)) (w.heap.size + 1) nilT 0 from Row.new1 w _ 91 _)
  have HM : Hid (x.k.length ≤ 1048576 ∧ x.l.length ≤ 1048576 ∧ x.r.length ≤ 1048576) := by unfold wtT at hm; exact ⟨by omega, by omega, by omega⟩
  clear hA hm
  generalize x.k.length = nk at *
  generalize x.l.length = nl at *
  generalize x.r.length = nr at *
  by_cases h1 : nk ≤ 20
  · have i1 : ¬ (nk : Int) > 20 := by omega
    by_cases h2 : nl = nk
    · have h3 : ¬ nr = nk := fun e => h ⟨h1, h2, e⟩
      subst h2
      have i2 : ((nl : Int) != (nl : Int)) = false := by simp
      have i3 : ((nr : Int) != (nl : Int)) = true := by simp; omega
      clear h h1 h3
      go_enter Try.func81, Try.ntmps81
      go_wp2_with (refine wl_storeQ rfl _ _ rfl (w.heap.size + 1) nilT 0 _ _ RR.out rfl rfl rfl ?_)
      refine bodyPost_ret (res_row_slot Try.results81 (Row.put RR.out (q2 nilT 0)) rfl rfl Try.underlying91 rfl info_queue) rfl (endQ_no HE.out (below_setRow HB.out (by omega) _))
    · have i2 : ((nl : Int) != (nk : Int)) = true := by simp; omega
      clear h h1 h2
      go_enter Try.func81, Try.ntmps81
      go_wp2_with (refine wl_storeQ rfl _ _ rfl (w.heap.size + 1) nilT 0 _ _ RR.out rfl rfl rfl ?_)
      refine bodyPost_ret (res_row_slot Try.results81 (Row.put RR.out (q2 nilT 0)) rfl rfl Try.underlying91 rfl info_queue) rfl (endQ_no HE.out (below_setRow HB.out (by omega) _))
  · have i1 : (nk : Int) > 20 := by omega
    clear h h1
    go_enter Try.func81, Try.ntmps81
    go_wp2_with (refine wl_storeQ rfl _ _ rfl (w.heap.size + 1) nilT 0 _ _ RR.out rfl rfl rfl ?_)
    refine bodyPost_ret (res_row_slot Try.results81 (Row.put RR.out (q2 nilT 0)) rfl rfl Try.underlying91 rfl info_queue) rfl (endQ_no HE.out (below_setRow HB.out (by omega) _))
set_option maxRecDepth 100000 in
set_option maxHeartbeats 12800000 in
theorem c_queueOf (a b c : Value) (x : T) (w : World) (hA : TreeAt w a b c x) (hm : wtT x ≤ 1048576) : Calls Try.prog 81 #[tv a b c x.t] w (EndQ x w) := by
  by_cases hlen : x.k.length ≤ 20 ∧ x.l.length = x.k.length ∧ x.r.length = x.k.length
  case neg => exact c_queueOf_len a b c x w hA hm hlen
  obtain ⟨h20, hll, hlr⟩ := hlen
  obtain ⟨i0, hi, hz0, hz1, hz2⟩ := info_parts info_int
  obtain ⟨j0, hj, hy0, hy1, hy2⟩ := info_parts info_nodez
  have HA := Lib.hid hA
  obtain ⟨⟨pa, qa, rfl⟩, ⟨pb, qb, rfl⟩, ⟨pc, qc, rfl⟩⟩ := hA.shapes
  have HLL := Lib.hid hll; have HLR := Lib.hid hlr
  rw [hll, hlr] at HA
  rw [hll, hlr]
  have HLEN : Hid (x.l.length ≤ 20 ∧ x.r.length ≤ 20) := ⟨by omega, by omega⟩
  have HSUM : Hid (sumL [x.l, x.r] [x.l, x.r].length ≤ 1000000) := by unfold Hid; simp [sumL]; omega
  clear hA hm hll hlr
  generalize hn : x.k.length = n at *
  have HN := Lib.hid hn; clear hn
  have hb0 := (below1 w (.cells (t4 (.slice pa n qa) (.slice pb n qb) (.slice pc n qc) x.t) 24)).alloc (by simp) (.cells (q2 nilT 0) 91)
  have r0 : RowTr ((w.alloc (.cells (t4 (.slice pa n qa) (.slice pb n qb) (.slice pc n qc) x.t) 24)).alloc (.cells (q2 nilT 0) 91)) w.heap.size (.slice pa n qa) (.slice pb n qb) (.slice pc n qc) x.t := Row.alloc (Row.new w 24 _) _
  have r1 : RowQ ((w.alloc (.cells (t4 (.slice pa n qa) (.slice pb n qb) (.slice pc n qc) x.t) 24)).alloc (.cells (q2 nilT 0) 91)) (w.heap.size + 1) nilT 0 := Row.new1 w _ 91 _
  have hsz : ((w.alloc (.cells (t4 (.slice pa n qa) (.slice pb n qb) (.slice pc n qc) x.t) 24)).alloc (.cells (q2 nilT 0) 91)).heap.size = w.heap.size + 2 := by simp
  have T0 := Lib.hid r0; have R0 := Lib.hid r1; have HB := Lib.hid hb0; have HZ := Lib.hid (Nat.le_of_eq hsz.symm)
  clear r0 r1 hb0 hsz
  have i1 : ¬ (n : Int) > 20 := by omega
  have i2 : ((n : Int) != (n : Int)) = false := by simp
  go_enter Try.func81, Try.ntmps81
  go_upto_region 4 with fail
  generalize ((w.alloc (.cells (t4 (.slice pa n qa) (.slice pb n qb) (.slice pc n qc) x.t) 24)).alloc (.cells (q2 nilT 0) 91)) = wa at *
  have T1 : Hid (RowTr wa.drew w.heap.size (.slice pa n qa) (.slice pb n qb) (.slice pc n qc) x.t) := T0
  have R1 : Hid (RowQ wa.drew (w.heap.size + 1) nilT 0) := R0
  have B1 : Hid (Below w.heap.size w wa.drew) := below_drew HB.out
  have Z1 : Hid (w.heap.size + 2 ≤ wa.drew.heap.size) := HZ
  clear T0 R0 HB HZ
  go_cut [5] from 8 (fun s5 wz => Hid (IntsAt wz s5 (x.l ++ x.r ++ [x.t])) ∧ Hid (RowTr wz w.heap.size (.slice pa n qa) (.slice pb n qb) (.slice pc n qc) x.t) ∧ Hid (RowQ wz (w.heap.size + 1) nilT 0) ∧ Hid (Below w.heap.size w wz) ∧ Hid (w.heap.size + 2 ≤ wz.heap.size))
  case first =>
    refine wp_region_held_drew (S := (fun w' => w'.cell? ⟨w.heap.size, 0, none⟩ = some (.slice pa n qa) ∧ w'.cell? ⟨w.heap.size, 1, none⟩ = some (.slice pb n qb) ∧ w'.cell? ⟨w.heap.size, 2, none⟩ = some (.slice pc n qc) ∧ w'.cell? ⟨w.heap.size, 3, none⟩ = some (.int .i64 x.t))) (by kernel_rfl) (⟨RowTr.c0 T1.out, RowTr.c1 T1.out, RowTr.c2 T1.out, RowTr.c3 T1.out⟩) (fun hHeld => ?_)
    refine wpAnyH_take (i := 0) (v := ?va0x1) rfl (by kernel_rfl) (by kernel_rfl) (by kernel_rfl) (fun _ _ _ h => h) (Or.inl ⟨by rfl, ?hy0x1⟩) (by assumption) ?rest0x1
    case hy0x1 => (intro w hSw; (try dsimp only at hSw); go_simp; try with_reducible rfl)
    (try simp only [Act.put, List.getElem_toArray, List.getElem_cons_zero, List.setIfInBounds_toArray, List.set_cons_zero, List.set_cons_succ])
    refine wpAnyH_take (i := 1) (v := ?va1x2) rfl (by kernel_rfl) (by kernel_rfl) (by kernel_rfl) (fun _ _ _ h => h) (Or.inl ⟨by rfl, ?hy1x2⟩) (by assumption) ?rest1x2
    case hy1x2 => (intro w hSw; (try dsimp only at hSw); go_simp; try with_reducible rfl)
    (try simp only [Act.put, List.getElem_toArray, List.getElem_cons_zero, List.getElem_cons_succ, List.setIfInBounds_toArray, List.set_cons_zero, List.set_cons_succ])
    refine wpAnyH_take (i := 2) (v := ?va2x3) rfl (by kernel_rfl) (by kernel_rfl) (by kernel_rfl) (fun _ _ _ h => h) (Or.inl ⟨by rfl, ?hy2x3⟩) (by assumption) ?rest2x3
    case hy2x3 => (intro w hSw; (try dsimp only at hSw); go_simp; try with_reducible rfl)
    (try simp only [Act.put, List.getElem_toArray, List.getElem_cons_zero, List.getElem_cons_succ, List.setIfInBounds_toArray, List.set_cons_zero, List.set_cons_succ])
    refine wpAnyH_take (i := 3) (v := ?va3x4) rfl (by kernel_rfl) (by kernel_rfl) (by kernel_rfl) (fun _ _ _ h => h) (Or.inl ⟨by rfl, ?hy3x4⟩) (by assumption) ?rest3x4
    case hy3x4 => (intro w hSw; (try dsimp only at hSw); go_simp; try with_reducible rfl)
    (try simp only [Act.put, List.getElem_toArray, List.getElem_cons_zero, List.getElem_cons_succ, List.setIfInBounds_toArray, List.set_cons_zero, List.set_cons_succ])
    refine wpAnyH_take (i := 6) (v := ?va6x5) rfl (by kernel_rfl) (by kernel_rfl) (by kernel_rfl) (fun _ _ _ h => h) (Or.inl ⟨by rfl, ?hy6x5⟩) (by assumption) ?rest6x5
    case hy6x5 => (intro w hSw; (try dsimp only at hSw); go_simp; try with_reducible rfl)
    (try simp only [Act.put, List.getElem_toArray, List.getElem_cons_zero, List.getElem_cons_succ, List.setIfInBounds_toArray, List.set_cons_zero, List.set_cons_succ])
    refine wpAnyH_take (i := 7) (v := ?va7x6) rfl (by kernel_rfl) (by kernel_rfl) (by kernel_rfl) (fun _ _ _ h => h) (Or.inl ⟨by rfl, ?hy7x6⟩) (by assumption) ?rest7x6
    case hy7x6 => (intro w hSw; (try dsimp only at hSw); go_simp; try with_reducible rfl)
    (try simp only [Act.put, List.getElem_toArray, List.getElem_cons_zero, List.getElem_cons_succ, List.setIfInBounds_toArray, List.set_cons_zero, List.set_cons_succ])
    generalize wa.drew = x0 at *
    refine wpAnyH_ready (rs := [4, 8]) (by kernel_rfl) (by simp) ?_
    refine AllReadyH.cons rfl (fun K hK => ?_) (AllReadyH.cons rfl (fun K hK => ?_) AllReadyH.nil)
    · skip
      clear hHeld
      obtain ⟨x11, hx11⟩ : ∃ y, y = x0.alloc (.cells #[.slice pb n qb, .slice pc n qc] 22) := ⟨_, rfl⟩
      have hb11 : Below x0.heap.size x0 x11 := by rw [hx11]; exact below1 x0 _
      have T11 : Hid (RowTr _ w.heap.size _ _ _ _) := RowTr.below T1.out hb11
      have R11 : Hid (RowQ _ (w.heap.size + 1) _ _) := RowQ.below R1.out hb11
      have B11 := Lib.hid (bst B1.out hb11 B1.out.size)
      have Z11 : Hid (w.heap.size + 2 ≤ x11.heap.size) := Nat.le_trans Z1.out hb11.size
      have S11 : Hid (RowsAt x11 (.slice (some ⟨x0.heap.size, 0, none⟩) 2 2) [x.l, x.r]) := by rw [hx11]; exact rows_pair x0 _ _ _ _ (HA.out.l.below B1.out) (HA.out.r.below B1.out)
      go_simp
      rw [← hx11]
      refine hK.out _ _ ⟨RowTr.c0 T11.out, RowTr.c1 T11.out, RowTr.c2 T11.out, RowTr.c3 T11.out⟩ (fun hHeld => ?_)
      clear hK K hb11 hx11
      (try simp only [Act.put, List.getElem_toArray, List.getElem_cons_zero, List.getElem_cons_succ, List.setIfInBounds_toArray, List.set_cons_zero, List.set_cons_succ])
      refine wpAnyH_ready (rs := [5, 8]) (by kernel_rfl) (by simp) ?_
      refine AllReadyH.cons rfl (fun K hK => ?_) (AllReadyH.cons rfl (fun K hK => ?_) AllReadyH.nil)
      · skip
        clear hHeld
        go_simp
        refine (c_concat _ [x.l, x.r] _ S11.out (by simp) HSUM.out).mono ?_
        rintro e x12 ⟨v12, rfl, ho12, hb12⟩
        have T12 : Hid (RowTr _ w.heap.size _ _ _ _) := RowTr.below T11.out hb12
        have R12 : Hid (RowQ _ (w.heap.size + 1) _ _) := RowQ.below R11.out hb12
        have B12 := Lib.hid (bst B11.out hb12 B11.out.size)
        have S12 := Lib.hid (RowsAt.below S11.out hb12)
        have Z12 : Hid (w.heap.size + 2 ≤ x12.heap.size) := Nat.le_trans Z11.out hb12.size
        have O12 : Hid (Own x12 (w.heap.size + 2) v12 (x.l ++ x.r)) := by rw [show [x.l, x.r].flatten = x.l ++ x.r by simp] at ho12; exact owns_mono ho12 fun g hg => Nat.le_trans Z11.out (owns_lt ho12 hg).1
        refine hK.out _ _ ⟨RowTr.c0 T12.out, RowTr.c1 T12.out, RowTr.c2 T12.out, RowTr.c3 T12.out⟩ (fun hHeld => ?_)
        clear hK K hb12 ho12
        (try simp only [Act.put, List.getElem_toArray, List.getElem_cons_zero, List.getElem_cons_succ, List.setIfInBounds_toArray, List.set_cons_zero, List.set_cons_succ])
        refine wpAnyH_ready (rs := [8]) (by kernel_rfl) (by simp) ?_
        refine AllReadyH.cons rfl (fun K hK => ?_) AllReadyH.nil
        clear hHeld
        obtain ⟨x13, hx13⟩ : ∃ y, y = x12.alloc (.cells #[.int .i64 x.t] 3) := ⟨_, rfl⟩
        have hb13 : Below x12.heap.size x12 x13 := by rw [hx13]; exact below1 x12 _
        have T13 : Hid (RowTr _ w.heap.size _ _ _ _) := RowTr.below T12.out hb13
        have R13 : Hid (RowQ _ (w.heap.size + 1) _ _) := RowQ.below R12.out hb13
        have B13 := Lib.hid (bst B12.out hb13 B12.out.size)
        have O13 := Lib.hid (Own.below O12.out hb13)
        have Z13 : Hid (w.heap.size + 2 ≤ x13.heap.size) := Nat.le_trans Z12.out hb13.size
        have P13 : Hid (IntsAt x13 (.slice (some ⟨x12.heap.size, 0, none⟩) 1 1) [x.t]) := by rw [hx13]; exact ints_one x12 x.t
        go_simp
        rw [← hx13]
        refine hK.out _ _ ⟨RowTr.c0 T13.out, RowTr.c1 T13.out, RowTr.c2 T13.out, RowTr.c3 T13.out⟩ (fun hHeld => ?_)
        clear hK K hb13 hx13
        (try simp only [Act.put, List.getElem_toArray, List.getElem_cons_zero, List.getElem_cons_succ, List.setIfInBounds_toArray, List.set_cons_zero, List.set_cons_succ])
        refine wpAnyH_ready (rs := [9]) (by kernel_rfl) (by simp) ?_
        refine AllReadyH.cons rfl (fun K hK => ?_) AllReadyH.nil
        clear hHeld
        obtain ⟨v14, x14, hrun, ho14, hg14, hbl14⟩ := run_appOwn (P := Try.prog) x13 (w.heap.size + 2) 22 22 3 i0 (.int .i64 0) 8 Try.underlying22 hi hz0 hz1 hz2 rfl v12 _ _ O13.out _ _ P13.out.src (by have := HLEN.out; simp; unfold maxLen; omega) (by have := HLEN.out; simp; omega) Z13.out
        have O14 : Hid (Own x14 (w.heap.size + 2) v14 (x.l ++ x.r ++ [x.t])) := by have h := ho14; unfold Hid Own; rw [List.length_append, List.map_append]; exact h
        have T14 : Hid (RowTr x14 w.heap.size (.slice pa n qa) (.slice pb n qb) (.slice pc n qc) x.t) := Row.grownBy T13.out hg14 (fun e => by have := (owns_lt O13.out e).1; omega)
        have R14 : Hid (RowQ x14 (w.heap.size + 1) nilT 0) := Row.grownBy R13.out hg14 (fun e => by have := (owns_lt O13.out e).1; omega)
        have B14 := Lib.hid (B13.out.grown hg14 B13.out.size (fun g hg => by have := (owns_lt O13.out hg).1; omega))
        have Z14 : Hid (w.heap.size + 2 ≤ x14.heap.size) := Nat.le_trans Z13.out hg14.size
        rw [if_pos (by rfl)]
        refine op_app _ _ _ rfl rfl rfl hrun ?_
        refine hK.out _ _ ⟨RowTr.c0 T14.out, RowTr.c1 T14.out, RowTr.c2 T14.out, RowTr.c3 T14.out⟩ (fun hHeld => ?_)
        clear hK K hrun ho14 hg14 hbl14
        (try simp only [Act.put, List.getElem_toArray, List.getElem_cons_zero, List.getElem_cons_succ, List.setIfInBounds_toArray, List.set_cons_zero, List.set_cons_succ])
        refine wpAnyH_take (i := 10) (v := ?va10x7) rfl (by kernel_rfl) (by kernel_rfl) (by kernel_rfl) (fun _ _ _ h => h) (Or.inl ⟨by rfl, ?hy10x7⟩) (by assumption) ?rest10x7
        case hy10x7 => (intro w hSw; (try dsimp only at hSw); go_simp; try with_reducible rfl)
        (try simp only [Act.put, List.getElem_toArray, List.getElem_cons_zero, List.getElem_cons_succ, List.setIfInBounds_toArray, List.set_cons_zero, List.set_cons_succ])
        refine wpAnyH_done (by kernel_rfl) ?_ _
        clear hHeld
        go_wp2_with fail
        go_meet
        case rel => exact ⟨(Own.ints O14.out), T14, R14, B14, Z14⟩
      · skip
        clear hHeld
        obtain ⟨x15, hx15⟩ : ∃ y, y = x11.alloc (.cells #[.int .i64 x.t] 3) := ⟨_, rfl⟩
        have hb15 : Below x11.heap.size x11 x15 := by rw [hx15]; exact below1 x11 _
        have T15 : Hid (RowTr _ w.heap.size _ _ _ _) := RowTr.below T11.out hb15
        have R15 : Hid (RowQ _ (w.heap.size + 1) _ _) := RowQ.below R11.out hb15
        have B15 := Lib.hid (bst B11.out hb15 B11.out.size)
        have S15 := Lib.hid (RowsAt.below S11.out hb15)
        have Z15 : Hid (w.heap.size + 2 ≤ x15.heap.size) := Nat.le_trans Z11.out hb15.size
        have P15 : Hid (IntsAt x15 (.slice (some ⟨x11.heap.size, 0, none⟩) 1 1) [x.t]) := by rw [hx15]; exact ints_one x11 x.t
        go_simp
        rw [← hx15]
        refine hK.out _ _ ⟨RowTr.c0 T15.out, RowTr.c1 T15.out, RowTr.c2 T15.out, RowTr.c3 T15.out⟩ (fun hHeld => ?_)
        clear hK K hb15 hx15
        (try simp only [Act.put, List.getElem_toArray, List.getElem_cons_zero, List.getElem_cons_succ, List.setIfInBounds_toArray, List.set_cons_zero, List.set_cons_succ])
        refine wpAnyH_ready (rs := [5]) (by kernel_rfl) (by simp) ?_
        refine AllReadyH.cons rfl (fun K hK => ?_) AllReadyH.nil
        clear hHeld
        go_simp
        refine (c_concat _ [x.l, x.r] _ S15.out (by simp) HSUM.out).mono ?_
        rintro e x16 ⟨v16, rfl, ho16, hb16⟩
        have T16 : Hid (RowTr _ w.heap.size _ _ _ _) := RowTr.below T15.out hb16
        have R16 : Hid (RowQ _ (w.heap.size + 1) _ _) := RowQ.below R15.out hb16
        have B16 := Lib.hid (bst B15.out hb16 B15.out.size)
        have S16 := Lib.hid (RowsAt.below S15.out hb16)
        have P16 := Lib.hid (IntsAt.below P15.out hb16)
        have Z16 : Hid (w.heap.size + 2 ≤ x16.heap.size) := Nat.le_trans Z15.out hb16.size
        have O16 : Hid (Own x16 (w.heap.size + 2) v16 (x.l ++ x.r)) := by rw [show [x.l, x.r].flatten = x.l ++ x.r by simp] at ho16; exact owns_mono ho16 fun g hg => Nat.le_trans Z15.out (owns_lt ho16 hg).1
        refine hK.out _ _ ⟨RowTr.c0 T16.out, RowTr.c1 T16.out, RowTr.c2 T16.out, RowTr.c3 T16.out⟩ (fun hHeld => ?_)
        clear hK K hb16 ho16
        (try simp only [Act.put, List.getElem_toArray, List.getElem_cons_zero, List.getElem_cons_succ, List.setIfInBounds_toArray, List.set_cons_zero, List.set_cons_succ])
        refine wpAnyH_ready (rs := [9]) (by kernel_rfl) (by simp) ?_
        refine AllReadyH.cons rfl (fun K hK => ?_) AllReadyH.nil
        clear hHeld
        obtain ⟨v17, x17, hrun, ho17, hg17, hbl17⟩ := run_appOwn (P := Try.prog) x16 (w.heap.size + 2) 22 22 3 i0 (.int .i64 0) 8 Try.underlying22 hi hz0 hz1 hz2 rfl v16 _ _ O16.out _ _ P16.out.src (by have := HLEN.out; simp; unfold maxLen; omega) (by have := HLEN.out; simp; omega) Z16.out
        have O17 : Hid (Own x17 (w.heap.size + 2) v17 (x.l ++ x.r ++ [x.t])) := by have h := ho17; unfold Hid Own; rw [List.length_append, List.map_append]; exact h
        have T17 : Hid (RowTr x17 w.heap.size (.slice pa n qa) (.slice pb n qb) (.slice pc n qc) x.t) := Row.grownBy T16.out hg17 (fun e => by have := (owns_lt O16.out e).1; omega)
        have R17 : Hid (RowQ x17 (w.heap.size + 1) nilT 0) := Row.grownBy R16.out hg17 (fun e => by have := (owns_lt O16.out e).1; omega)
        have B17 := Lib.hid (B16.out.grown hg17 B16.out.size (fun g hg => by have := (owns_lt O16.out hg).1; omega))
        have Z17 : Hid (w.heap.size + 2 ≤ x17.heap.size) := Nat.le_trans Z16.out hg17.size
        rw [if_pos (by rfl)]
        refine op_app _ _ _ rfl rfl rfl hrun ?_
        refine hK.out _ _ ⟨RowTr.c0 T17.out, RowTr.c1 T17.out, RowTr.c2 T17.out, RowTr.c3 T17.out⟩ (fun hHeld => ?_)
        clear hK K hrun ho17 hg17 hbl17
        (try simp only [Act.put, List.getElem_toArray, List.getElem_cons_zero, List.getElem_cons_succ, List.setIfInBounds_toArray, List.set_cons_zero, List.set_cons_succ])
        refine wpAnyH_take (i := 10) (v := ?va10x8) rfl (by kernel_rfl) (by kernel_rfl) (by kernel_rfl) (fun _ _ _ h => h) (Or.inl ⟨by rfl, ?hy10x8⟩) (by assumption) ?rest10x8
        case hy10x8 => (intro w hSw; (try dsimp only at hSw); go_simp; try with_reducible rfl)
        (try simp only [Act.put, List.getElem_toArray, List.getElem_cons_zero, List.getElem_cons_succ, List.setIfInBounds_toArray, List.set_cons_zero, List.set_cons_succ])
        refine wpAnyH_done (by kernel_rfl) ?_ _
        clear hHeld
        go_wp2_with fail
        go_meet
        case rel => exact ⟨(Own.ints O17.out), T17, R17, B17, Z17⟩
    · skip
      clear hHeld
      obtain ⟨x18, hx18⟩ : ∃ y, y = x0.alloc (.cells #[.int .i64 x.t] 3) := ⟨_, rfl⟩
      have hb18 : Below x0.heap.size x0 x18 := by rw [hx18]; exact below1 x0 _
      have T18 : Hid (RowTr _ w.heap.size _ _ _ _) := RowTr.below T1.out hb18
      have R18 : Hid (RowQ _ (w.heap.size + 1) _ _) := RowQ.below R1.out hb18
      have B18 := Lib.hid (bst B1.out hb18 B1.out.size)
      have Z18 : Hid (w.heap.size + 2 ≤ x18.heap.size) := Nat.le_trans Z1.out hb18.size
      have P18 : Hid (IntsAt x18 (.slice (some ⟨x0.heap.size, 0, none⟩) 1 1) [x.t]) := by rw [hx18]; exact ints_one x0 x.t
      go_simp
      rw [← hx18]
      refine hK.out _ _ ⟨RowTr.c0 T18.out, RowTr.c1 T18.out, RowTr.c2 T18.out, RowTr.c3 T18.out⟩ (fun hHeld => ?_)
      clear hK K hb18 hx18
      (try simp only [Act.put, List.getElem_toArray, List.getElem_cons_zero, List.getElem_cons_succ, List.setIfInBounds_toArray, List.set_cons_zero, List.set_cons_succ])
      refine wpAnyH_ready (rs := [4]) (by kernel_rfl) (by simp) ?_
      refine AllReadyH.cons rfl (fun K hK => ?_) AllReadyH.nil
      clear hHeld
      obtain ⟨x19, hx19⟩ : ∃ y, y = x18.alloc (.cells #[.slice pb n qb, .slice pc n qc] 22) := ⟨_, rfl⟩
      have hb19 : Below x18.heap.size x18 x19 := by rw [hx19]; exact below1 x18 _
      have T19 : Hid (RowTr _ w.heap.size _ _ _ _) := RowTr.below T18.out hb19
      have R19 : Hid (RowQ _ (w.heap.size + 1) _ _) := RowQ.below R18.out hb19
      have B19 := Lib.hid (bst B18.out hb19 B18.out.size)
      have P19 := Lib.hid (IntsAt.below P18.out hb19)
      have Z19 : Hid (w.heap.size + 2 ≤ x19.heap.size) := Nat.le_trans Z18.out hb19.size
      have S19 : Hid (RowsAt x19 (.slice (some ⟨x18.heap.size, 0, none⟩) 2 2) [x.l, x.r]) := by rw [hx19]; exact rows_pair x18 _ _ _ _ (HA.out.l.below B18.out) (HA.out.r.below B18.out)
      go_simp
      rw [← hx19]
      refine hK.out _ _ ⟨RowTr.c0 T19.out, RowTr.c1 T19.out, RowTr.c2 T19.out, RowTr.c3 T19.out⟩ (fun hHeld => ?_)
      clear hK K hb19 hx19
      (try simp only [Act.put, List.getElem_toArray, List.getElem_cons_zero, List.getElem_cons_succ, List.setIfInBounds_toArray, List.set_cons_zero, List.set_cons_succ])
      refine wpAnyH_ready (rs := [5]) (by kernel_rfl) (by simp) ?_
      refine AllReadyH.cons rfl (fun K hK => ?_) AllReadyH.nil
      clear hHeld
      go_simp
      refine (c_concat _ [x.l, x.r] _ S19.out (by simp) HSUM.out).mono ?_
      rintro e x20 ⟨v20, rfl, ho20, hb20⟩
      have T20 : Hid (RowTr _ w.heap.size _ _ _ _) := RowTr.below T19.out hb20
      have R20 : Hid (RowQ _ (w.heap.size + 1) _ _) := RowQ.below R19.out hb20
      have B20 := Lib.hid (bst B19.out hb20 B19.out.size)
      have P20 := Lib.hid (IntsAt.below P19.out hb20)
      have S20 := Lib.hid (RowsAt.below S19.out hb20)
      have Z20 : Hid (w.heap.size + 2 ≤ x20.heap.size) := Nat.le_trans Z19.out hb20.size
      have O20 : Hid (Own x20 (w.heap.size + 2) v20 (x.l ++ x.r)) := by rw [show [x.l, x.r].flatten = x.l ++ x.r by simp] at ho20; exact owns_mono ho20 fun g hg => Nat.le_trans Z19.out (owns_lt ho20 hg).1
      refine hK.out _ _ ⟨RowTr.c0 T20.out, RowTr.c1 T20.out, RowTr.c2 T20.out, RowTr.c3 T20.out⟩ (fun hHeld => ?_)
      clear hK K hb20 ho20
      (try simp only [Act.put, List.getElem_toArray, List.getElem_cons_zero, List.getElem_cons_succ, List.setIfInBounds_toArray, List.set_cons_zero, List.set_cons_succ])
      refine wpAnyH_ready (rs := [9]) (by kernel_rfl) (by simp) ?_
      refine AllReadyH.cons rfl (fun K hK => ?_) AllReadyH.nil
      clear hHeld
      obtain ⟨v21, x21, hrun, ho21, hg21, hbl21⟩ := run_appOwn (P := Try.prog) x20 (w.heap.size + 2) 22 22 3 i0 (.int .i64 0) 8 Try.underlying22 hi hz0 hz1 hz2 rfl v20 _ _ O20.out _ _ P20.out.src (by have := HLEN.out; simp; unfold maxLen; omega) (by have := HLEN.out; simp; omega) Z20.out
      have O21 : Hid (Own x21 (w.heap.size + 2) v21 (x.l ++ x.r ++ [x.t])) := by have h := ho21; unfold Hid Own; rw [List.length_append, List.map_append]; exact h
      have T21 : Hid (RowTr x21 w.heap.size (.slice pa n qa) (.slice pb n qb) (.slice pc n qc) x.t) := Row.grownBy T20.out hg21 (fun e => by have := (owns_lt O20.out e).1; omega)
      have R21 : Hid (RowQ x21 (w.heap.size + 1) nilT 0) := Row.grownBy R20.out hg21 (fun e => by have := (owns_lt O20.out e).1; omega)
      have B21 := Lib.hid (B20.out.grown hg21 B20.out.size (fun g hg => by have := (owns_lt O20.out hg).1; omega))
      have Z21 : Hid (w.heap.size + 2 ≤ x21.heap.size) := Nat.le_trans Z20.out hg21.size
      rw [if_pos (by rfl)]
      refine op_app _ _ _ rfl rfl rfl hrun ?_
      refine hK.out _ _ ⟨RowTr.c0 T21.out, RowTr.c1 T21.out, RowTr.c2 T21.out, RowTr.c3 T21.out⟩ (fun hHeld => ?_)
      clear hK K hrun ho21 hg21 hbl21
      (try simp only [Act.put, List.getElem_toArray, List.getElem_cons_zero, List.getElem_cons_succ, List.setIfInBounds_toArray, List.set_cons_zero, List.set_cons_succ])
      refine wpAnyH_take (i := 10) (v := ?va10x9) rfl (by kernel_rfl) (by kernel_rfl) (by kernel_rfl) (fun _ _ _ h => h) (Or.inl ⟨by rfl, ?hy10x9⟩) (by assumption) ?rest10x9
      case hy10x9 => (intro w hSw; (try dsimp only at hSw); go_simp; try with_reducible rfl)
      (try simp only [Act.put, List.getElem_toArray, List.getElem_cons_zero, List.getElem_cons_succ, List.setIfInBounds_toArray, List.set_cons_zero, List.set_cons_succ])
      refine wpAnyH_done (by kernel_rfl) ?_ _
      clear hHeld
      go_wp2_with fail
      go_meet
      case rel => exact ⟨(Own.ints O21.out), T21, R21, B21, Z21⟩
  case rest =>
    obtain ⟨hIZ, T2, R2, B2, Z2⟩ := hcut
    have e1 : IntKind.i64.wrap ((n : Int) - 1) = (n : Int) - 1 := IntWalk.i64_in _ (by omega)
    have HK := Lib.hid (c_areWithin (.slice pa n qa) x.k 0 1000 wc (HA.out.k.below B2.out) (by rw [HN.out]; omega))
    have HI := Lib.hid (c_areWithin u5 (x.l ++ x.r ++ [x.t]) (-1) ((n : Int) - 1) wc hIZ.out (by have := HLEN.out; simp; omega))
    have HSH : Hid (x.k.all (Ph.inB 0 1000) = true → (x.l ++ x.r ++ [x.t]).all (Ph.inB (-1) ((n : Int) - 1)) = true → Shp x) := by
      intro h4 h
      rw [List.all_append, List.all_append, Bool.and_eq_true, Bool.and_eq_true] at h
      obtain ⟨⟨h5, h6⟩, h7⟩ := h
      have hn := HN.out
      exact shp_of (by omega) (by rw [HLL.out, hn]) (by rw [HLR.out, hn]) h4 (by rw [hn]; exact h5) (by rw [hn]; exact h6) (by rw [hn]; simpa [Ph.inB] using h7)
    have HNO : Hid (x.k.all (Ph.inB 0 1000) = false ∨ (x.l ++ x.r ++ [x.t]).all (Ph.inB (-1) ((n : Int) - 1)) = false → ¬ Tr.Good x) := by
      intro h g
      have hn := HN.out
      rcases h with h | h
      · rw [g.s.kall] at h; cases h
      · have h5 := g.s.lall; have h6 := g.s.rall; have h7 := g.s.t
        rw [hn] at h5 h6 h7
        have h8 : [x.t].all (Ph.inB (-1) ((n : Int) - 1)) = true := by simpa [Ph.inB] using h7
        rw [List.all_append, List.all_append, h5, h6, h8] at h; cases h
    have HGC : Hid (∀ Y, Below w.heap.size w Y → TreeAt Y (.slice pa n qa) (.slice pb n qb) (.slice pc n qc) x) := fun Y hY => ⟨HA.out.k.below hY, HA.out.l.below hY, HA.out.r.below hY⟩
    clear hIZ
    generalize x.k.all (Ph.inB 0 1000) = bk at *
    generalize (x.l ++ x.r ++ [x.t]).all (Ph.inB (-1) ((n : Int) - 1)) = bi at *
    have c0 := T2.out.c0
    cases bk
    · have HBAD := Lib.hid (HNO.out (.inl rfl))
      clear HSH HNO
      go_wp2_with fail
      refine HK.out.mono ?_
      rintro e w5 ⟨rfl, rfl⟩
      go_wp2_with (refine wl_storeQ rfl _ _ rfl (w.heap.size + 1) nilT 0 _ _ R2.out rfl rfl rfl ?_)
      refine bodyPost_ret (res_row_slot Try.results81 (Row.put R2.out (q2 nilT 0)) rfl rfl Try.underlying91 rfl info_queue) rfl (endQ_no HBAD.out (below_setRow B2.out (by omega) _))
    · go_wp2_with fail
      refine HK.out.mono ?_
      rintro e w5 ⟨rfl, rfl⟩
      go_wp2_with fail
      refine HI.out.mono ?_
      rintro e w5 ⟨rfl, rfl⟩
      cases bi
      · have HBAD := Lib.hid (HNO.out (.inr rfl))
        clear HSH HNO
        go_wp2_with (refine wl_storeQ rfl _ _ rfl (w.heap.size + 1) nilT 0 _ _ R2.out rfl rfl rfl ?_)
        refine bodyPost_ret (res_row_slot Try.results81 (Row.put R2.out (q2 nilT 0)) rfl rfl Try.underlying91 rfl info_queue) rfl (endQ_no HBAD.out (below_setRow B2.out (by omega) _))
      · have SHP := Lib.hid (HSH.out (by simp) (by simp))
        clear HSH HNO HK HI c0
        go_upto_region 7 with fail
        have T3 : Hid (RowTr wc.drew w.heap.size (.slice pa n qa) (.slice pb n qb) (.slice pc n qc) x.t) := T2
        have R3 : Hid (RowQ wc.drew (w.heap.size + 1) nilT 0) := R2
        have B3 : Hid (Below w.heap.size w wc.drew) := below_drew B2.out
        have Z3 : Hid (w.heap.size + 2 ≤ wc.drew.heap.size) := Z2
        clear T2 R2 B2 Z2
        go_cut [6] from 8 (fun s6 wz => ∃ gq gm : Nat, s6 = .pointer (some ⟨gq, 0, none⟩) ∧ Hid (gq ≠ gm ∧ w.heap.size + 2 ≤ gq ∧ w.heap.size + 2 ≤ gm) ∧ Hid (wz.ownsRow (w.heap.size + 2) 133 3 (.slice (some ⟨gm, 0, none⟩) n n) n (flatN (fillN x 0))) ∧ Hid (RowQ wz gq (.slice (some ⟨gm, 0, none⟩) n n) x.t) ∧ Hid (RowQ wz (w.heap.size + 1) nilT 0) ∧ Hid (RowTr wz w.heap.size (.slice pa n qa) (.slice pb n qb) (.slice pc n qc) x.t) ∧ Hid (Below w.heap.size w wz))
        case first =>
          have e0 : Hid (fillN x 0 = List.replicate n zN) := by unfold Hid; rw [fillN_zero, HN.out]
          refine wp_region_held_drew (S := (fun w' => w'.cell? ⟨w.heap.size, 0, none⟩ = some (.slice pa n qa) ∧ w'.cell? ⟨w.heap.size, 1, none⟩ = some (.slice pb n qb) ∧ w'.cell? ⟨w.heap.size, 2, none⟩ = some (.slice pc n qc) ∧ w'.cell? ⟨w.heap.size, 3, none⟩ = some (.int .i64 x.t))) (by kernel_rfl) (⟨RowTr.c0 T3.out, RowTr.c1 T3.out, RowTr.c2 T3.out, RowTr.c3 T3.out⟩) (fun hHeld => ?_)
          refine wpAnyH_take (i := 0) (v := ?va0x10) rfl (by kernel_rfl) (by kernel_rfl) (by kernel_rfl) (fun _ _ _ h => h) (Or.inl ⟨by rfl, ?hy0x10⟩) (by assumption) ?rest0x10
          case hy0x10 => (intro w hSw; (try dsimp only at hSw); go_simp; try with_reducible rfl)
          (try simp only [Act.put, List.getElem_toArray, List.getElem_cons_zero, List.setIfInBounds_toArray, List.set_cons_zero, List.set_cons_succ])
          refine wpAnyH_take (i := 2) (v := ?va2x11) rfl (by kernel_rfl) (by kernel_rfl) (by kernel_rfl) (fun _ _ _ h => h) (Or.inl ⟨by rfl, ?hy2x11⟩) (by assumption) ?rest2x11
          case hy2x11 => (intro w hSw; (try dsimp only at hSw); go_simp; try with_reducible rfl)
          (try simp only [Act.put, List.getElem_toArray, List.getElem_cons_zero, List.getElem_cons_succ, List.setIfInBounds_toArray, List.set_cons_zero, List.set_cons_succ])
          refine wpAnyH_take (i := 3) (v := ?va3x12) rfl (by kernel_rfl) (by kernel_rfl) (by kernel_rfl) (fun _ _ _ h => h) (Or.inl ⟨by rfl, ?hy3x12⟩) (by assumption) ?rest3x12
          case hy3x12 => (intro w hSw; (try dsimp only at hSw); go_simp; try with_reducible rfl)
          (try simp only [Act.put, List.getElem_toArray, List.getElem_cons_zero, List.getElem_cons_succ, List.setIfInBounds_toArray, List.set_cons_zero, List.set_cons_succ])
          generalize wc.drew = y0 at *
          refine wpAnyH_ready (rs := [1, 5]) (by kernel_rfl) (by simp) ?_
          refine AllReadyH.cons rfl (fun K hK => ?_) (AllReadyH.cons rfl (fun K hK => ?_) AllReadyH.nil)
          · skip
            clear hHeld
            rw [if_pos (by rfl)]
            refine op_make _ _ 89 rfl (w.heap.size + 2) 133 j0 (.agg #[.int .i64 0, .int .i64 0, .int .i64 0]) 3 Try.underlying89 hj hy0 hy1 .i64 .i64 n rfl rfl (by rw [hy2]; omega) (by unfold maxLen; omega) Z3.out ?_
            intro x22 hown22 hgr22
            rw [show Value.cells (.agg #[.int .i64 0, .int .i64 0, .int .i64 0]) = #[.int .i64 0, .int .i64 0, .int .i64 0] from rfl, made_zN, ← e0.out] at hown22
            have hb22 := (Below.refl y0.heap.size y0).grown hgr22 (Nat.le_refl _) (fun k hk => by cases hk)
            have T22 : Hid (RowTr _ w.heap.size _ _ _ _) := RowTr.below T3.out hb22
            have R22 : Hid (RowQ _ (w.heap.size + 1) _ _) := RowQ.below R3.out hb22
            have B22 := Lib.hid (bst B3.out hb22 B3.out.size)
            have Z22 : Hid (w.heap.size + 2 ≤ x22.heap.size) := Nat.le_trans Z3.out hb22.size
            have M22 := Lib.hid hown22
            refine hK.out _ _ ⟨RowTr.c0 T22.out, RowTr.c1 T22.out, RowTr.c2 T22.out, RowTr.c3 T22.out⟩ (fun hHeld => ?_)
            clear hK K hb22 hown22 hgr22
            (try simp only [Act.put, List.getElem_toArray, List.getElem_cons_zero, List.getElem_cons_succ, List.setIfInBounds_toArray, List.set_cons_zero, List.set_cons_succ])
            refine wpAnyH_take (i := 4) (v := ?va4x13) rfl (by kernel_rfl) (by kernel_rfl) (by kernel_rfl) (fun _ _ _ h => h) (Or.inl ⟨by rfl, ?hy4x13⟩) (by assumption) ?rest4x13
            case hy4x13 => (intro w hSw; (try dsimp only at hSw); go_simp; try with_reducible rfl)
            (try simp only [Act.put, List.getElem_toArray, List.getElem_cons_zero, List.getElem_cons_succ, List.setIfInBounds_toArray, List.set_cons_zero, List.set_cons_succ])
            refine wpAnyH_ready (rs := [5]) (by kernel_rfl) (by simp) ?_
            refine AllReadyH.cons rfl (fun K hK => ?_) AllReadyH.nil
            clear hHeld
            obtain ⟨x23, hx23⟩ : ∃ y, y = x22.alloc (.cells (q2 nilT 0) 91) := ⟨_, rfl⟩
            have hb23 : Below x22.heap.size x22 x23 := by rw [hx23]; exact below1 x22 _
            have T23 : Hid (RowTr _ w.heap.size _ _ _ _) := RowTr.below T22.out hb23
            have R23 : Hid (RowQ _ (w.heap.size + 1) _ _) := RowQ.below R22.out hb23
            have B23 := Lib.hid (bst B22.out hb23 B22.out.size)
            have M23 := Lib.hid (own3_below M22.out hb23)
            have Z23 : Hid (w.heap.size + 2 ≤ x23.heap.size) := Nat.le_trans Z22.out hb23.size
            have G23 : Hid (RowQ x23 x22.heap.size nilT 0) := by rw [hx23]; exact Row.new x22 _ _
            have QL23 : Hid (x22.heap.size < x23.heap.size) := by rw [hx23]; unfold Hid; simp
            have NE : Hid (x22.heap.size ≠ y0.heap.size) := by have h2 : y0.heap.size < x22.heap.size := (M22.out.lt _ rfl).2; unfold Hid; omega
            go_simp
            rw [← hx23]
            refine hK.out _ _ ⟨RowTr.c0 T23.out, RowTr.c1 T23.out, RowTr.c2 T23.out, RowTr.c3 T23.out⟩ (fun hHeld => ?_)
            clear hK K hb23 hx23
            (try simp only [Act.put, List.getElem_toArray, List.getElem_cons_zero, List.getElem_cons_succ, List.setIfInBounds_toArray, List.set_cons_zero, List.set_cons_succ])
            refine wpAnyH_ready (rs := [6]) (by kernel_rfl) (by simp) ?_
            refine AllReadyH.cons rfl (fun K hK => ?_) AllReadyH.nil
            clear hHeld
            have M9 : Hid ((x23.setRow (x22.heap.size) (q2 (.slice (some ⟨y0.heap.size, 0, none⟩) n n) x.t)).ownsRow (w.heap.size + 2) 133 3 (.slice (some ⟨y0.heap.size, 0, none⟩) n n) n (flatN (fillN x 0))) := ownsk_block M23.out fun i hi => setRow_other x23 (x22.heap.size) i _ (by have e1 : y0.heap.size = i := Option.some.inj hi; have := NE.out; omega)
            have G9 : Hid (RowQ (x23.setRow (x22.heap.size) (q2 (.slice (some ⟨y0.heap.size, 0, none⟩) n n) x.t)) (x22.heap.size) (.slice (some ⟨y0.heap.size, 0, none⟩) n n) x.t) := Row.put G23.out _
            have R9 : Hid (RowQ (x23.setRow (x22.heap.size) (q2 (.slice (some ⟨y0.heap.size, 0, none⟩) n n) x.t)) (w.heap.size + 1) nilT 0) := Row.putOther R23.out _ (by have := Z22.out; omega)
            have T9 : Hid (RowTr (x23.setRow (x22.heap.size) (q2 (.slice (some ⟨y0.heap.size, 0, none⟩) n n) x.t)) w.heap.size (.slice pa n qa) (.slice pb n qb) (.slice pc n qc) x.t) := Row.putOther T23.out _ (by have := Z22.out; omega)
            have B9 := Lib.hid (below_setRow B23.out (show w.heap.size ≤ x22.heap.size by have := Z22.out; omega) (q2 (.slice (some ⟨y0.heap.size, 0, none⟩) n n) x.t))
            rw [if_pos (by rfl)]
            refine wp_store_row 91 _ _ rfl (x22.heap.size) (q2 (.slice (some ⟨y0.heap.size, 0, none⟩) n n) x.t) rfl rfl 91 (q2 nilT 0) G23.out info_queue rfl (by simp [Value.oneCell']) ?_
            refine hK.out _ _ ⟨RowTr.c0 T9.out, RowTr.c1 T9.out, RowTr.c2 T9.out, RowTr.c3 T9.out⟩ (fun hHeld => ?_)
            clear hK K
            (try simp only [Act.put, List.getElem_toArray, List.getElem_cons_zero, List.getElem_cons_succ])
            refine wpAnyH_done (by kernel_rfl) ?_ _
            clear hHeld
            go_wp2_with fail
            go_meet
            case rel => exact ⟨x22.heap.size, y0.heap.size, rfl, ⟨NE.out, Z22.out, Z3.out⟩, M9, G9, R9, T9, B9⟩
          · skip
            clear hHeld
            obtain ⟨x24, hx24⟩ : ∃ y, y = y0.alloc (.cells (q2 nilT 0) 91) := ⟨_, rfl⟩
            have hb24 : Below y0.heap.size y0 x24 := by rw [hx24]; exact below1 y0 _
            have T24 : Hid (RowTr _ w.heap.size _ _ _ _) := RowTr.below T3.out hb24
            have R24 : Hid (RowQ _ (w.heap.size + 1) _ _) := RowQ.below R3.out hb24
            have B24 := Lib.hid (bst B3.out hb24 B3.out.size)
            have Z24 : Hid (w.heap.size + 2 ≤ x24.heap.size) := Nat.le_trans Z3.out hb24.size
            have G24 : Hid (RowQ x24 y0.heap.size nilT 0) := by rw [hx24]; exact Row.new y0 _ _
            have QL24 : Hid (y0.heap.size < x24.heap.size) := by rw [hx24]; unfold Hid; simp
            go_simp
            rw [← hx24]
            refine hK.out _ _ ⟨RowTr.c0 T24.out, RowTr.c1 T24.out, RowTr.c2 T24.out, RowTr.c3 T24.out⟩ (fun hHeld => ?_)
            clear hK K hb24 hx24
            (try simp only [Act.put, List.getElem_toArray, List.getElem_cons_zero, List.getElem_cons_succ, List.setIfInBounds_toArray, List.set_cons_zero, List.set_cons_succ])
            refine wpAnyH_ready (rs := [1]) (by kernel_rfl) (by simp) ?_
            refine AllReadyH.cons rfl (fun K hK => ?_) AllReadyH.nil
            clear hHeld
            rw [if_pos (by rfl)]
            refine op_make _ _ 89 rfl (w.heap.size + 2) 133 j0 (.agg #[.int .i64 0, .int .i64 0, .int .i64 0]) 3 Try.underlying89 hj hy0 hy1 .i64 .i64 n rfl rfl (by rw [hy2]; omega) (by unfold maxLen; omega) Z24.out ?_
            intro x25 hown25 hgr25
            rw [show Value.cells (.agg #[.int .i64 0, .int .i64 0, .int .i64 0]) = #[.int .i64 0, .int .i64 0, .int .i64 0] from rfl, made_zN, ← e0.out] at hown25
            have hb25 := (Below.refl x24.heap.size x24).grown hgr25 (Nat.le_refl _) (fun k hk => by cases hk)
            have T25 : Hid (RowTr _ w.heap.size _ _ _ _) := RowTr.below T24.out hb25
            have R25 : Hid (RowQ _ (w.heap.size + 1) _ _) := RowQ.below R24.out hb25
            have B25 := Lib.hid (bst B24.out hb25 B24.out.size)
            have G25 := Lib.hid (RowQ.below G24.out hb25)
            have Z25 : Hid (w.heap.size + 2 ≤ x25.heap.size) := Nat.le_trans Z24.out hb25.size
            have M25 := Lib.hid hown25
            have NE : Hid (y0.heap.size ≠ x24.heap.size) := by have := QL24.out; unfold Hid; omega
            refine hK.out _ _ ⟨RowTr.c0 T25.out, RowTr.c1 T25.out, RowTr.c2 T25.out, RowTr.c3 T25.out⟩ (fun hHeld => ?_)
            clear hK K hb25 hown25 hgr25
            (try simp only [Act.put, List.getElem_toArray, List.getElem_cons_zero, List.getElem_cons_succ, List.setIfInBounds_toArray, List.set_cons_zero, List.set_cons_succ])
            refine wpAnyH_take (i := 4) (v := ?va4x14) rfl (by kernel_rfl) (by kernel_rfl) (by kernel_rfl) (fun _ _ _ h => h) (Or.inl ⟨by rfl, ?hy4x14⟩) (by assumption) ?rest4x14
            case hy4x14 => (intro w hSw; (try dsimp only at hSw); go_simp; try with_reducible rfl)
            (try simp only [Act.put, List.getElem_toArray, List.getElem_cons_zero, List.getElem_cons_succ, List.setIfInBounds_toArray, List.set_cons_zero, List.set_cons_succ])
            refine wpAnyH_ready (rs := [6]) (by kernel_rfl) (by simp) ?_
            refine AllReadyH.cons rfl (fun K hK => ?_) AllReadyH.nil
            clear hHeld
            have M9 : Hid ((x25.setRow (y0.heap.size) (q2 (.slice (some ⟨x24.heap.size, 0, none⟩) n n) x.t)).ownsRow (w.heap.size + 2) 133 3 (.slice (some ⟨x24.heap.size, 0, none⟩) n n) n (flatN (fillN x 0))) := ownsk_block M25.out fun i hi => setRow_other x25 (y0.heap.size) i _ (by have e1 : x24.heap.size = i := Option.some.inj hi; have := NE.out; omega)
            have G9 : Hid (RowQ (x25.setRow (y0.heap.size) (q2 (.slice (some ⟨x24.heap.size, 0, none⟩) n n) x.t)) (y0.heap.size) (.slice (some ⟨x24.heap.size, 0, none⟩) n n) x.t) := Row.put G25.out _
            have R9 : Hid (RowQ (x25.setRow (y0.heap.size) (q2 (.slice (some ⟨x24.heap.size, 0, none⟩) n n) x.t)) (w.heap.size + 1) nilT 0) := Row.putOther R25.out _ (by have := Z3.out; omega)
            have T9 : Hid (RowTr (x25.setRow (y0.heap.size) (q2 (.slice (some ⟨x24.heap.size, 0, none⟩) n n) x.t)) w.heap.size (.slice pa n qa) (.slice pb n qb) (.slice pc n qc) x.t) := Row.putOther T25.out _ (by have := Z3.out; omega)
            have B9 := Lib.hid (below_setRow B25.out (show w.heap.size ≤ y0.heap.size by have := Z3.out; omega) (q2 (.slice (some ⟨x24.heap.size, 0, none⟩) n n) x.t))
            rw [if_pos (by rfl)]
            refine wp_store_row 91 _ _ rfl (y0.heap.size) (q2 (.slice (some ⟨x24.heap.size, 0, none⟩) n n) x.t) rfl rfl 91 (q2 nilT 0) G25.out info_queue rfl (by simp [Value.oneCell']) ?_
            refine hK.out _ _ ⟨RowTr.c0 T9.out, RowTr.c1 T9.out, RowTr.c2 T9.out, RowTr.c3 T9.out⟩ (fun hHeld => ?_)
            clear hK K
            (try simp only [Act.put, List.getElem_toArray, List.getElem_cons_zero, List.getElem_cons_succ])
            refine wpAnyH_done (by kernel_rfl) ?_ _
            clear hHeld
            go_wp2_with fail
            go_meet
            case rel => exact ⟨y0.heap.size, x24.heap.size, rfl, ⟨NE.out, Z3.out, Z24.out⟩, M9, G9, R9, T9, B9⟩
        case rest =>
          obtain ⟨gq, gm, hu6, NE, hM, hG, hR, hT, hB⟩ := hcut
          subst hu6
          have g0 := hG.out.c0
          go_wp2_with fail
          clear g0
          go_loopw [58] (fun i wr => ∃ k : Nat, k ≤ n ∧ i = .int .i64 k ∧ Hid (wr.ownsRow (w.heap.size + 2) 133 3 (.slice (some ⟨gm, 0, none⟩) n n) n (flatN (fillN x k))) ∧ Hid (RowQ wr gq (.slice (some ⟨gm, 0, none⟩) n n) x.t) ∧ Hid (RowQ wr (w.heap.size + 1) nilT 0) ∧ Hid (RowTr wr w.heap.size (.slice pa n qa) (.slice pb n qb) (.slice pc n qc) x.t) ∧ Hid (Below w.heap.size w wr)) (fun i _ => n - (intOf i).toNat)
          case atStart => exact ⟨0, Nat.zero_le _, rfl, hM, hG, hR, hT, hB⟩
          case round =>
            clear hM hG hR hT hB
            obtain ⟨k, hk, rfl, hM, hG, hR, hT, hB⟩ := hrel
            by_cases hlt : k < n
            · obtain ⟨ba, oa, rfl, qqa⟩ := int_atk HA.out.k (k := k) (by rw [HN.out]; exact hlt)
              obtain ⟨bb, ob, rfl, qqb⟩ := int_atk HA.out.l (k := k) (by rw [HLL.out]; exact hlt)
              obtain ⟨bc, oc, rfl, qqc⟩ := int_atk HA.out.r (k := k) (by rw [HLR.out]; exact hlt)
              have QA := Lib.hid qqa; have QB := Lib.hid qqb; have QC := Lib.hid qqc
              have HF : Hid ((fillN x k).set k (x.k.getD k 0, x.l.getD k 0, x.r.getD k 0) = fillN x (k + 1)) := fillN_set (by rw [HN.out]; exact hlt)
              have HFL : Hid ((fillN x k).length = n) := by unfold Hid; rw [fillN_length (by rw [HN.out]; omega)]; exact HN.out
              clear qqa qqb qqc
              generalize x.k.getD k 0 = kx at *
              generalize x.l.getD k 0 = lx at *
              generalize x.r.getD k 0 = rx at *
              have i3 : (k : Int) < (n : Int) := by omega
              have i4 : (0 : Int) ≤ (k : Int) := by omega
              have e2 : IntKind.i64.wrap ((k : Int) + 1) = (k : Int) + 1 := IntWalk.i64_in _ (by omega)
              go_upto_region 11 with fail
              have B4 : Hid (Below w.heap.size w wr.drew) := below_drew hB.out
              have M4 : Hid (wr.drew.ownsRow (w.heap.size + 2) 133 3 (.slice (some ⟨gm, 0, none⟩) n n) n (flatN (fillN x k))) := hM
              have G4 : Hid (RowQ wr.drew gq (.slice (some ⟨gm, 0, none⟩) n n) x.t) := hG
              have R4 : Hid (RowQ wr.drew (w.heap.size + 1) nilT 0) := hR
              have T4 : Hid (RowTr wr.drew w.heap.size (.slice (some ⟨ba, oa, none⟩) n qa) (.slice (some ⟨bb, ob, none⟩) n qb) (.slice (some ⟨bc, oc, none⟩) n qc) x.t) := hT
              clear hM hG hR hT hB
              refine wp_region_held_drew (S := (fun w' => w'.cell? ⟨gq, 0, none⟩ = some (.slice (some ⟨gm, 0, none⟩) n n) ∧ w'.cell? ⟨w.heap.size, 0, none⟩ = some (.slice (some ⟨ba, oa, none⟩) n qa) ∧ w'.cell? ⟨w.heap.size, 1, none⟩ = some (.slice (some ⟨bb, ob, none⟩) n qb) ∧ w'.cell? ⟨w.heap.size, 2, none⟩ = some (.slice (some ⟨bc, oc, none⟩) n qc) ∧ w'.cell? ⟨ba, oa + k, none⟩ = some (.int .i64 kx) ∧ w'.cell? ⟨bb, ob + k, none⟩ = some (.int .i64 lx) ∧ w'.cell? ⟨bc, oc + k, none⟩ = some (.int .i64 rx))) (by kernel_rfl) (⟨RowQ.c0 G4.out, RowTr.c0 T4.out, RowTr.c1 T4.out, RowTr.c2 T4.out, cellBelow B4.out (Nat.le_refl _) QA.out, cellBelow B4.out (Nat.le_refl _) QB.out, cellBelow B4.out (Nat.le_refl _) QC.out⟩) (fun hHeld => ?_)
              refine wpAnyH_take (i := 0) (v := ?va0x15) rfl (by kernel_rfl) (by kernel_rfl) (by kernel_rfl) (fun _ _ _ h => h) (Or.inl ⟨by rfl, ?hy0x15⟩) (by assumption) ?rest0x15
              case hy0x15 => (intro w hSw; (try dsimp only at hSw); go_simp; try with_reducible rfl)
              (try simp only [Act.put, List.getElem_toArray, List.getElem_cons_zero, List.setIfInBounds_toArray, List.set_cons_zero, List.set_cons_succ])
              refine wpAnyH_take (i := 1) (v := ?va1x16) rfl (by kernel_rfl) (by kernel_rfl) (by kernel_rfl) (fun _ _ _ h => h) (Or.inl ⟨by rfl, ?hy1x16⟩) (by assumption) ?rest1x16
              case hy1x16 => (intro w hSw; (try dsimp only at hSw); go_simp; try with_reducible rfl)
              (try simp only [Act.put, List.getElem_toArray, List.getElem_cons_zero, List.getElem_cons_succ, List.setIfInBounds_toArray, List.set_cons_zero, List.set_cons_succ])
              refine wpAnyH_take (i := 2) (v := ?va2x17) rfl (by kernel_rfl) (by kernel_rfl) (by kernel_rfl) (fun _ _ _ h => h) (Or.inl ⟨by rfl, ?hy2x17⟩) (by assumption) ?rest2x17
              case hy2x17 => (intro w hSw; (try dsimp only at hSw); go_simp; try with_reducible rfl)
              (try simp only [Act.put, List.getElem_toArray, List.getElem_cons_zero, List.getElem_cons_succ, List.setIfInBounds_toArray, List.set_cons_zero, List.set_cons_succ])
              refine wpAnyH_take (i := 3) (v := ?va3x18) rfl (by kernel_rfl) (by kernel_rfl) (by kernel_rfl) (fun _ _ _ h => h) (Or.inl ⟨by rfl, ?hy3x18⟩) (by assumption) ?rest3x18
              case hy3x18 => (intro w hSw; (try dsimp only at hSw); go_simp; try with_reducible rfl)
              (try simp only [Act.put, List.getElem_toArray, List.getElem_cons_zero, List.getElem_cons_succ, List.setIfInBounds_toArray, List.set_cons_zero, List.set_cons_succ])
              refine wpAnyH_take (i := 4) (v := ?va4x19) rfl (by kernel_rfl) (by kernel_rfl) (by kernel_rfl) (fun _ _ _ h => h) (Or.inl ⟨by rfl, ?hy4x19⟩) (by assumption) ?rest4x19
              case hy4x19 => (intro w hSw; (try dsimp only at hSw); go_simp; try with_reducible rfl)
              (try simp only [Act.put, List.getElem_toArray, List.getElem_cons_zero, List.getElem_cons_succ, List.setIfInBounds_toArray, List.set_cons_zero, List.set_cons_succ])
              refine wpAnyH_take (i := 5) (v := ?va5x20) rfl (by kernel_rfl) (by kernel_rfl) (by kernel_rfl) (fun _ _ _ h => h) (Or.inl ⟨by rfl, ?hy5x20⟩) (by assumption) ?rest5x20
              case hy5x20 => (intro w hSw; (try dsimp only at hSw); go_simp; try with_reducible rfl)
              (try simp only [Act.put, List.getElem_toArray, List.getElem_cons_zero, List.getElem_cons_succ, List.setIfInBounds_toArray, List.set_cons_zero, List.set_cons_succ])
              refine wpAnyH_take (i := 6) (v := ?va6x21) rfl (by kernel_rfl) (by kernel_rfl) (by kernel_rfl) (fun _ _ _ h => h) (Or.inl ⟨by rfl, ?hy6x21⟩) (by assumption) ?rest6x21
              case hy6x21 => (intro w hSw; (try dsimp only at hSw); go_simp; try with_reducible rfl)
              (try simp only [Act.put, List.getElem_toArray, List.getElem_cons_zero, List.getElem_cons_succ, List.setIfInBounds_toArray, List.set_cons_zero, List.set_cons_succ])
              refine wpAnyH_take (i := 7) (v := ?va7x22) rfl (by kernel_rfl) (by kernel_rfl) (by kernel_rfl) (fun _ _ _ h => h) (Or.inl ⟨by rfl, ?hy7x22⟩) (by assumption) ?rest7x22
              case hy7x22 => (intro w hSw; (try dsimp only at hSw); go_simp; try with_reducible rfl)
              (try simp only [Act.put, List.getElem_toArray, List.getElem_cons_zero, List.getElem_cons_succ, List.setIfInBounds_toArray, List.set_cons_zero, List.set_cons_succ])
              refine wpAnyH_take (i := 8) (v := ?va8x23) rfl (by kernel_rfl) (by kernel_rfl) (by kernel_rfl) (fun _ _ _ h => h) (Or.inl ⟨by rfl, ?hy8x23⟩) (by assumption) ?rest8x23
              case hy8x23 => (intro w hSw; (try dsimp only at hSw); go_simp; try with_reducible rfl)
              (try simp only [Act.put, List.getElem_toArray, List.getElem_cons_zero, List.getElem_cons_succ, List.setIfInBounds_toArray, List.set_cons_zero, List.set_cons_succ])
              refine wpAnyH_take (i := 9) (v := ?va9x24) rfl (by kernel_rfl) (by kernel_rfl) (by kernel_rfl) (fun _ _ _ h => h) (Or.inl ⟨by rfl, ?hy9x24⟩) (by assumption) ?rest9x24
              case hy9x24 => (intro w hSw; (try dsimp only at hSw); go_simp; try with_reducible rfl)
              (try simp only [Act.put, List.getElem_toArray, List.getElem_cons_zero, List.getElem_cons_succ, List.setIfInBounds_toArray, List.set_cons_zero, List.set_cons_succ])
              refine wpAnyH_take (i := 10) (v := ?va10x25) rfl (by kernel_rfl) (by kernel_rfl) (by kernel_rfl) (fun _ _ _ h => h) (Or.inl ⟨by rfl, ?hy10x25⟩) (by assumption) ?rest10x25
              case hy10x25 => (intro w hSw; (try dsimp only at hSw); go_simp; try with_reducible rfl)
              (try simp only [Act.put, List.getElem_toArray, List.getElem_cons_zero, List.getElem_cons_succ, List.setIfInBounds_toArray, List.set_cons_zero, List.set_cons_succ])
              refine wpAnyH_take (i := 11) (v := ?va11x26) rfl (by kernel_rfl) (by kernel_rfl) (by kernel_rfl) (fun _ _ _ h => h) (Or.inl ⟨by rfl, ?hy11x26⟩) (by assumption) ?rest11x26
              case hy11x26 => (intro w hSw; (try dsimp only at hSw); go_simp; try with_reducible rfl)
              (try simp only [Act.put, List.getElem_toArray, List.getElem_cons_zero, List.getElem_cons_succ, List.setIfInBounds_toArray, List.set_cons_zero, List.set_cons_succ])
              refine wpAnyH_take (i := 12) (v := ?va12x27) rfl (by kernel_rfl) (by kernel_rfl) (by kernel_rfl) (fun _ _ _ h => h) (Or.inl ⟨by rfl, ?hy12x27⟩) (by assumption) ?rest12x27
              case hy12x27 => (intro w hSw; (try dsimp only at hSw); go_simp; try with_reducible rfl)
              (try simp only [Act.put, List.getElem_toArray, List.getElem_cons_zero, List.getElem_cons_succ, List.setIfInBounds_toArray, List.set_cons_zero, List.set_cons_succ])
              refine wpAnyH_take (i := 13) (v := ?va13x28) rfl (by kernel_rfl) (by kernel_rfl) (by kernel_rfl) (fun _ _ _ h => h) (Or.inl ⟨by rfl, ?hy13x28⟩) (by assumption) ?rest13x28
              case hy13x28 => (intro w hSw; (try dsimp only at hSw); go_simp; try with_reducible rfl)
              (try simp only [Act.put, List.getElem_toArray, List.getElem_cons_zero, List.getElem_cons_succ, List.setIfInBounds_toArray, List.set_cons_zero, List.set_cons_succ])
              refine wpAnyH_take (i := 14) (v := ?va14x29) rfl (by kernel_rfl) (by kernel_rfl) (by kernel_rfl) (fun _ _ _ h => h) (Or.inl ⟨by rfl, ?hy14x29⟩) (by assumption) ?rest14x29
              case hy14x29 => (intro w hSw; (try dsimp only at hSw); go_simp; try with_reducible rfl)
              (try simp only [Act.put, List.getElem_toArray, List.getElem_cons_zero, List.getElem_cons_succ, List.setIfInBounds_toArray, List.set_cons_zero, List.set_cons_succ])
              refine wpAnyH_take (i := 15) (v := ?va15x30) rfl (by kernel_rfl) (by kernel_rfl) (by kernel_rfl) (fun _ _ _ h => h) (Or.inl ⟨by rfl, ?hy15x30⟩) (by assumption) ?rest15x30
              case hy15x30 => (intro w hSw; (try dsimp only at hSw); go_simp; try with_reducible rfl)
              (try simp only [Act.put, List.getElem_toArray, List.getElem_cons_zero, List.getElem_cons_succ, List.setIfInBounds_toArray, List.set_cons_zero, List.set_cons_succ])
              refine wpAnyH_take (i := 16) (v := ?va16x31) rfl (by kernel_rfl) (by kernel_rfl) (by kernel_rfl) (fun _ _ _ h => h) (Or.inl ⟨by rfl, ?hy16x31⟩) (by assumption) ?rest16x31
              case hy16x31 => (intro w hSw; (try dsimp only at hSw); go_simp; try with_reducible rfl)
              (try simp only [Act.put, List.getElem_toArray, List.getElem_cons_zero, List.getElem_cons_succ, List.setIfInBounds_toArray, List.set_cons_zero, List.set_cons_succ])
              refine wpAnyH_take (i := 17) (v := ?va17x32) rfl (by kernel_rfl) (by kernel_rfl) (by kernel_rfl) (fun _ _ _ h => h) (Or.inl ⟨by rfl, ?hy17x32⟩) (by assumption) ?rest17x32
              case hy17x32 => (intro w hSw; (try dsimp only at hSw); go_simp; try with_reducible rfl)
              (try simp only [Act.put, List.getElem_toArray, List.getElem_cons_zero, List.getElem_cons_succ, List.setIfInBounds_toArray, List.set_cons_zero, List.set_cons_succ])
              refine wpAnyH_take (i := 18) (v := ?va18x33) rfl (by kernel_rfl) (by kernel_rfl) (by kernel_rfl) (fun _ _ _ h => h) (Or.inl ⟨by rfl, ?hy18x33⟩) (by assumption) ?rest18x33
              case hy18x33 => (intro w hSw; (try dsimp only at hSw); go_simp; try with_reducible rfl)
              (try simp only [Act.put, List.getElem_toArray, List.getElem_cons_zero, List.getElem_cons_succ, List.setIfInBounds_toArray, List.set_cons_zero, List.set_cons_succ])
              refine wpAnyH_take (i := 19) (v := ?va19x34) rfl (by kernel_rfl) (by kernel_rfl) (by kernel_rfl) (fun _ _ _ h => h) (Or.inl ⟨by rfl, ?hy19x34⟩) (by assumption) ?rest19x34
              case hy19x34 => (intro w hSw; (try dsimp only at hSw); go_simp; try with_reducible rfl)
              (try simp only [Act.put, List.getElem_toArray, List.getElem_cons_zero, List.getElem_cons_succ, List.setIfInBounds_toArray, List.set_cons_zero, List.set_cons_succ])
              refine wpAnyH_ready (rs := [20]) (by kernel_rfl) (by simp) ?_
              refine AllReadyH.cons rfl (fun K hK => ?_) AllReadyH.nil
              clear hHeld
              generalize wr.drew = y1 at *
              obtain ⟨s1, s2⟩ := stored3 M4.out HFL.out k hlt (kx, lx, rx)
              rw [HF.out] at s1
              have TH := Lib.hid (there3 M4.out HFL.out k hlt)
              have G5 : Hid (RowQ (y1.setCells gm (k * 3) [.int .i64 kx, .int .i64 lx, .int .i64 rx]) gq (.slice (some ⟨gm, 0, none⟩) n n) x.t) := Row.grownBy G4.out s2 (fun e => by have e1 : gm = gq := Option.some.inj e; have := NE.out.1; omega)
              have R5 : Hid (RowQ (y1.setCells gm (k * 3) [.int .i64 kx, .int .i64 lx, .int .i64 rx]) (w.heap.size + 1) nilT 0) := Row.grownBy R4.out s2 (fun e => by have e1 : gm = w.heap.size + 1 := Option.some.inj e; have := NE.out.2.2; omega)
              have T5 : Hid (RowTr (y1.setCells gm (k * 3) [.int .i64 kx, .int .i64 lx, .int .i64 rx]) w.heap.size (.slice (some ⟨ba, oa, none⟩) n qa) (.slice (some ⟨bb, ob, none⟩) n qb) (.slice (some ⟨bc, oc, none⟩) n qc) x.t) := Row.grownBy T4.out s2 (fun e => by have e1 : gm = w.heap.size := Option.some.inj e; have := NE.out.2.2; omega)
              have B5 := Lib.hid (B4.out.grown s2 B4.out.size (fun g hg => by have e1 : gm = g := Option.some.inj hg; have := NE.out.2.2; omega))
              have M5 := Lib.hid s1
              clear s1 s2 M4 G4 R4 T4 B4
              rw [if_pos (by rfl)]
              refine wp_store_mid 133 _ _ rfl gm (k * 3) #[.int .i64 kx, .int .i64 lx, .int .i64 rx] rfl rfl TH.out info_node (by simp [Value.oneCell']) ?_
              refine hK.out _ _ ⟨RowQ.c0 G5.out, RowTr.c0 T5.out, RowTr.c1 T5.out, RowTr.c2 T5.out, cellBelow B5.out (Nat.le_refl _) QA.out, cellBelow B5.out (Nat.le_refl _) QB.out, cellBelow B5.out (Nat.le_refl _) QC.out⟩ (fun hHeld => ?_)
              clear hK K hHeld TH
              (try simp only [Act.put, List.getElem_toArray, List.getElem_cons_zero, List.getElem_cons_succ])
              refine wpAnyH_done (by kernel_rfl) ?_ _
              go_wp2_with fail
              go_roundw
              case rel => exact ⟨k + 1, by omega, by go_num, M5, G5, R5, T5, B5⟩
              case measure => simp [intOf]; omega
            · obtain rfl : k = n := by omega
              have N6 := Lib.hid (ownN_of hM.out HN.out)
              clear hM hT hlt hk
              go_upto_region 13 with fail
              have N7 : Hid (OwnN wr.drew (w.heap.size + 2) (.slice (some ⟨gm, 0, none⟩) k k) x) := N6
              have G7 : Hid (RowQ wr.drew gq (.slice (some ⟨gm, 0, none⟩) k k) x.t) := hG
              have R7 : Hid (RowQ wr.drew (w.heap.size + 1) nilT 0) := hR
              have B7 : Hid (Below w.heap.size w wr.drew) := below_drew hB.out
              clear N6 hG hR hB
              refine wp_region_held_drew (S := (fun w' => w'.cell? ⟨gq, 0, none⟩ = some (.slice (some ⟨gm, 0, none⟩) k k) ∧ w'.cell? ⟨gq, 1, none⟩ = some (.int .i64 x.t))) (by kernel_rfl) (⟨RowQ.c0 G7.out, RowQ.c1 G7.out⟩) (fun hHeld => ?_)
              refine wpAnyH_take (i := 0) (v := ?va0x35) rfl (by kernel_rfl) (by kernel_rfl) (by kernel_rfl) (fun _ _ _ h => h) (Or.inl ⟨by rfl, ?hy0x35⟩) (by assumption) ?rest0x35
              case hy0x35 => (intro w hSw; (try dsimp only at hSw); go_simp; try with_reducible rfl)
              (try simp only [Act.put, List.getElem_toArray, List.getElem_cons_zero, List.setIfInBounds_toArray, List.set_cons_zero, List.set_cons_succ])
              refine wpAnyH_take (i := 1) (v := ?va1x36) rfl (by kernel_rfl) (by kernel_rfl) (by kernel_rfl) (fun _ _ _ h => h) (Or.inl ⟨by rfl, ?hy1x36⟩) (by assumption) ?rest1x36
              case hy1x36 => (intro w hSw; (try dsimp only at hSw); go_simp; try with_reducible rfl)
              (try simp only [Act.put, List.getElem_toArray, List.getElem_cons_zero, List.getElem_cons_succ, List.setIfInBounds_toArray, List.set_cons_zero, List.set_cons_succ])
              generalize wr.drew = y2 at *
              refine wpAnyH_ready (rs := [2]) (by kernel_rfl) (by simp) ?_
              refine AllReadyH.cons rfl (fun K hK => ?_) AllReadyH.nil
              clear hHeld
              go_simp
              refine (c_isTree (.slice (some ⟨gm, 0, none⟩) k k) x _ N7.out.nodes SHP.out).mono ?_
              rintro e x26 ⟨tb, rfl, htb26, hb26⟩
              have N26 := Lib.hid (OwnN.below N7.out hb26)
              have G26 : Hid (RowQ _ gq _ _) := RowQ.below G7.out hb26
              have R26 : Hid (RowQ _ (w.heap.size + 1) _ _) := RowQ.below R7.out hb26
              have B26 := Lib.hid (bst B7.out hb26 B7.out.size)
              have HT26 := Lib.hid htb26
              refine hK.out _ _ ⟨RowQ.c0 G26.out, RowQ.c1 G26.out⟩ (fun hHeld => ?_)
              clear hK K hb26 htb26
              (try simp only [Act.put, List.getElem_toArray, List.getElem_cons_zero, List.getElem_cons_succ, List.setIfInBounds_toArray, List.set_cons_zero, List.set_cons_succ])
              refine wpAnyH_take (i := 3) (v := ?va3x37) rfl (by kernel_rfl) (by kernel_rfl) (by kernel_rfl) (fun _ _ _ h => h) (Or.inl ⟨by rfl, ?hy3x37⟩) (by assumption) ?rest3x37
              case hy3x37 => (intro w hSw; (try dsimp only at hSw); go_simp; try with_reducible rfl)
              (try simp only [Act.put, List.getElem_toArray, List.getElem_cons_zero, List.getElem_cons_succ, List.setIfInBounds_toArray, List.set_cons_zero, List.set_cons_succ])
              cases tb
              · skip
                have HGB : Hid (goodB x = false) := good_no fun h => absurd (HT26.out.2 h) (by decide)
                refine wpAnyH_take (i := 4) (v := undef) rfl (by kernel_rfl) (by kernel_rfl) (by kernel_rfl) (fun _ _ _ h => h) (Or.inr ⟨by rfl, rfl⟩) (by assumption) ?_
                (try simp only [Act.put, List.getElem_toArray, List.getElem_cons_zero, List.getElem_cons_succ, List.setIfInBounds_toArray, List.set_cons_zero, List.set_cons_succ])
                refine wpAnyH_take (i := 5) (v := undef) rfl (by kernel_rfl) (by kernel_rfl) (by kernel_rfl) (fun _ _ _ h => h) (Or.inr ⟨by rfl, rfl⟩) (by assumption) ?_
                (try simp only [Act.put, List.getElem_toArray, List.getElem_cons_zero, List.getElem_cons_succ, List.setIfInBounds_toArray, List.set_cons_zero, List.set_cons_succ])
                refine wpAnyH_take (i := 6) (v := ?va6x38) rfl (by kernel_rfl) (by kernel_rfl) (by kernel_rfl) (fun _ _ _ h => h) (Or.inl ⟨by rfl, ?hy6x38⟩) (by assumption) ?rest6x38
                case hy6x38 => (intro w hSw; (try dsimp only at hSw); go_simp; try with_reducible rfl)
                (try simp only [Act.put, List.getElem_toArray, List.getElem_cons_zero, List.getElem_cons_succ, List.setIfInBounds_toArray, List.set_cons_zero, List.set_cons_succ])
                refine wpAnyH_ready (rs := [7]) (by kernel_rfl) (by simp) ?_
                refine AllReadyH.cons rfl (fun K hK => ?_) AllReadyH.nil
                clear hHeld
                obtain ⟨x27, hx27⟩ : ∃ y, y = x26.setRow (w.heap.size + 1) (q2 (.slice (some ⟨gm, 0, none⟩) k k) x.t) := ⟨_, rfl⟩
                have N27 : Hid (OwnN x27 (w.heap.size + 2) (.slice (some ⟨gm, 0, none⟩) k k) x) := by rw [hx27]; exact OwnN.row N26.out (fun e => by have e1 : gm = w.heap.size + 1 := Option.some.inj e; have := NE.out.2.2; omega) _
                have G27 : Hid (RowQ x27 gq (.slice (some ⟨gm, 0, none⟩) k k) x.t) := by rw [hx27]; exact Row.putOther G26.out _ (by have := NE.out.2.1; omega)
                have R27 : Hid (RowQ x27 (w.heap.size + 1) (.slice (some ⟨gm, 0, none⟩) k k) x.t) := by rw [hx27]; exact Row.put R26.out _
                have B27 : Hid (Below w.heap.size w x27) := by rw [hx27]; exact below_setRow B26.out (by omega) _
                rw [if_pos (by rfl)]
                refine wp_store_row 91 _ _ rfl (w.heap.size + 1) (q2 (.slice (some ⟨gm, 0, none⟩) k k) x.t) rfl rfl 91 (q2 nilT 0) R26.out info_queue rfl (by simp [Value.oneCell']) ?_
                rw [← hx27]
                refine hK.out _ _ ⟨RowQ.c0 G27.out, RowQ.c1 G27.out⟩ (fun hHeld => ?_)
                clear hK K hx27
                (try simp only [Act.put, List.getElem_toArray, List.getElem_cons_zero, List.getElem_cons_succ])
                refine wpAnyH_take (i := 8) (v := ?va8x39) rfl (by kernel_rfl) (by kernel_rfl) (by kernel_rfl) (fun _ _ _ h => h) (Or.inl ⟨by rfl, ?hy8x39⟩) (by assumption) ?rest8x39
                case hy8x39 => (intro w hSw; (try dsimp only at hSw); go_simp; try with_reducible rfl)
                (try simp only [Act.put, List.getElem_toArray, List.getElem_cons_zero, List.getElem_cons_succ, List.setIfInBounds_toArray, List.set_cons_zero, List.set_cons_succ])
                refine wpAnyH_done (by kernel_rfl) ?_ _
                clear hHeld
                go_wp2_with fail
                refine bodyPost_ret (res_row_slot Try.results81 R27.out rfl rfl Try.underlying91 rfl info_queue) rfl ⟨(.slice (some ⟨gm, 0, none⟩) k k), x.t, r_q _ _ HGB.out, rfl, fun _ => ⟨rfl, N27.out.mono (by omega)⟩, B27.out⟩
              · skip
                have HIT : Hid (IsT x) := HT26.out.1 rfl
                refine wpAnyH_take (i := 4) (v := ?va4x40) rfl (by kernel_rfl) (by kernel_rfl) (by kernel_rfl) (fun _ _ _ h => h) (Or.inl ⟨by rfl, ?hy4x40⟩) (by assumption) ?rest4x40
                case hy4x40 => (intro w hSw; (try dsimp only at hSw); go_simp; try with_reducible rfl)
                (try simp only [Act.put, List.getElem_toArray, List.getElem_cons_zero, List.getElem_cons_succ, List.setIfInBounds_toArray, List.set_cons_zero, List.set_cons_succ])
                refine wpAnyH_ready (rs := [5]) (by kernel_rfl) (by simp) ?_
                refine AllReadyH.cons rfl (fun K hK => ?_) AllReadyH.nil
                clear hHeld
                go_simp
                refine (c_isInOrder (.slice (some ⟨gm, 0, none⟩) k k) x x.t _ N26.out.nodes SHP.out HIT.out).mono ?_
                rintro e x28 ⟨gb, rfl, htb28, hb28⟩
                have N28 := Lib.hid (OwnN.below N26.out hb28)
                have G28 : Hid (RowQ _ gq _ _) := RowQ.below G26.out hb28
                have R28 : Hid (RowQ _ (w.heap.size + 1) _ _) := RowQ.below R26.out hb28
                have B28 := Lib.hid (bst B26.out hb28 B26.out.size)
                have HT28 := Lib.hid htb28
                refine hK.out _ _ ⟨RowQ.c0 G28.out, RowQ.c1 G28.out⟩ (fun hHeld => ?_)
                clear hK K hb28 htb28
                (try simp only [Act.put, List.getElem_toArray, List.getElem_cons_zero, List.getElem_cons_succ, List.setIfInBounds_toArray, List.set_cons_zero, List.set_cons_succ])
                have HGB : Hid (goodB x = gb) := good_of SHP.out HIT.out HT28.out
                refine wpAnyH_take (i := 6) (v := ?va6x41) rfl (by kernel_rfl) (by kernel_rfl) (by kernel_rfl) (fun _ _ _ h => h) (Or.inl ⟨by rfl, ?hy6x41⟩) (by assumption) ?rest6x41
                case hy6x41 => (intro w hSw; (try dsimp only at hSw); go_simp; try with_reducible rfl)
                (try simp only [Act.put, List.getElem_toArray, List.getElem_cons_zero, List.getElem_cons_succ, List.setIfInBounds_toArray, List.set_cons_zero, List.set_cons_succ])
                refine wpAnyH_ready (rs := [7]) (by kernel_rfl) (by simp) ?_
                refine AllReadyH.cons rfl (fun K hK => ?_) AllReadyH.nil
                clear hHeld
                obtain ⟨x29, hx29⟩ : ∃ y, y = x28.setRow (w.heap.size + 1) (q2 (.slice (some ⟨gm, 0, none⟩) k k) x.t) := ⟨_, rfl⟩
                have N29 : Hid (OwnN x29 (w.heap.size + 2) (.slice (some ⟨gm, 0, none⟩) k k) x) := by rw [hx29]; exact OwnN.row N28.out (fun e => by have e1 : gm = w.heap.size + 1 := Option.some.inj e; have := NE.out.2.2; omega) _
                have G29 : Hid (RowQ x29 gq (.slice (some ⟨gm, 0, none⟩) k k) x.t) := by rw [hx29]; exact Row.putOther G28.out _ (by have := NE.out.2.1; omega)
                have R29 : Hid (RowQ x29 (w.heap.size + 1) (.slice (some ⟨gm, 0, none⟩) k k) x.t) := by rw [hx29]; exact Row.put R28.out _
                have B29 : Hid (Below w.heap.size w x29) := by rw [hx29]; exact below_setRow B28.out (by omega) _
                rw [if_pos (by rfl)]
                refine wp_store_row 91 _ _ rfl (w.heap.size + 1) (q2 (.slice (some ⟨gm, 0, none⟩) k k) x.t) rfl rfl 91 (q2 nilT 0) R28.out info_queue rfl (by simp [Value.oneCell']) ?_
                rw [← hx29]
                refine hK.out _ _ ⟨RowQ.c0 G29.out, RowQ.c1 G29.out⟩ (fun hHeld => ?_)
                clear hK K hx29
                (try simp only [Act.put, List.getElem_toArray, List.getElem_cons_zero, List.getElem_cons_succ])
                refine wpAnyH_take (i := 8) (v := ?va8x42) rfl (by kernel_rfl) (by kernel_rfl) (by kernel_rfl) (fun _ _ _ h => h) (Or.inl ⟨by rfl, ?hy8x42⟩) (by assumption) ?rest8x42
                case hy8x42 => (intro w hSw; (try dsimp only at hSw); go_simp; try with_reducible rfl)
                (try simp only [Act.put, List.getElem_toArray, List.getElem_cons_zero, List.getElem_cons_succ, List.setIfInBounds_toArray, List.set_cons_zero, List.set_cons_succ])
                refine wpAnyH_done (by kernel_rfl) ?_ _
                clear hHeld
                go_wp2_with fail
                refine bodyPost_ret (res_row_slot Try.results81 R29.out rfl rfl Try.underlying91 rfl info_queue) rfl ⟨(.slice (some ⟨gm, 0, none⟩) k k), x.t, r_q _ _ HGB.out, rfl, fun _ => ⟨rfl, N29.out.mono (by omega)⟩, B29.out⟩
end Go.Proofs.Ytejaebmbhcgngaa
namespace Go.Proofs.Ytejaebmbhcgngaa
open Go.RowKit Ph Tr

/-- A call ends with a tree of its own. -/
def EndT (x : T) (w : World) (e : Ending) (w' : World) : Prop := ∃ a b c, e = .returned (tv a b c x.t) ∧ OwnT w' w.heap.size w'.heap.size a b c x ∧ Below w.heap.size w w'
def emptyT : T := ⟨[], [], [], -1⟩
set_option maxRecDepth 100000 in
set_option maxHeartbeats 1600000 in
theorem s_EmptyTree (w : World) : Calls Try.prog 15 #[] w (EndT emptyT w) := by
  have r1 : RowTr (w.alloc (.cells (t4 nilT nilT nilT 0) 24)) w.heap.size nilT nilT nilT 0 := Row.new w 24 (t4 nilT nilT nilT 0)
  have HB := Lib.hid (below1 w (.cells (t4 nilT nilT nilT 0) 24))
  have R1 := Lib.hid r1
  clear r1
  go_enter Try.func15, Try.ntmps15
  go_wp2_with (refine wl_storeTr rfl _ _ rfl w.heap.size nilT nilT nilT (-1) _ _ _ _ R1.out rfl rfl rfl rfl rfl ?_)
  refine bodyPost_ret (res_row Try.results15 (Row.put R1.out (t4 nilT nilT nilT (-1))) rfl Try.underlying24 rfl info_tree) rfl ⟨_, _, _, rfl, OwnT.nil _ _ _ _, below_setRow HB.out (Nat.le_refl _) _⟩
set_option maxRecDepth 100000 in
set_option maxHeartbeats 3200000 in
theorem s_l11Rank (a b c : Value) (x : T) (bt : BT) : ∀ (z : Int) (w : World), TreeAt w a b c x → Rep x.l x.r z bt → bt.sz ≤ 1000 → Calls Try.prog 80 #[tv a b c x.t, .int .i64 z] w fun e w' => e = .returned (.int .i64 (bt.rk : Nat)) ∧ Below w.heap.size w w' := by
  induction bt with
  | nil =>
    intro z w hA hR _
    have hz : z = -1 := hR
    subst hz
    have HB := Lib.hid (below1 w (.cells (t4 a b c x.t) 24))
    clear hA hR
    go_enter Try.func80, Try.ntmps80
    go_wp2
    go_ret
    exact ⟨rfl, HB.out⟩
  | node i l r ihl ihr =>
    intro z w hA hR hs
    obtain ⟨rfl, hi1, hi2, hr3, hr4⟩ := hR
    obtain ⟨cb, co, cn, cq, rfl, hcc⟩ : ∃ cb co cn cq, c = .slice (some ⟨cb, co, none⟩) cn cq ∧ i < cn ∧ w.cell? ⟨cb, co + i, none⟩ = some (.int .i64 (x.r.getD i 0)) := by
      obtain ⟨p, q, hc, h⟩ := hA.r
      obtain ⟨cb, co, hp, h1⟩ := h (by omega)
      subst hp
      exact ⟨cb, co, _, q, hc, hi2, h1 i hi2⟩
    obtain ⟨hin, hc⟩ := hcc
    have HB := Lib.hid (below1 w (.cells (t4 a b (.slice (some ⟨cb, co, none⟩) cn cq) x.t) 24))
    have HA := Lib.hid hA
    have R0 := Lib.hid (show RowTr _ _ a b (.slice (some ⟨cb, co, none⟩) cn cq) x.t from Row.new w 24 (t4 a b (.slice (some ⟨cb, co, none⟩) cn cq) x.t))
    have q5 := cellBelow HB.out (Nat.le_refl _) hc
    simp only [BT.sz] at hs
    have hrk : Hid (r.rk ≤ 1000) := by have := BT.rk_le r; unfold Hid; omega
    have i0 : ¬ (i : Int) < 0 := by omega
    have i1 : (0 : Int) ≤ (i : Int) := by omega
    have i2 : (i : Int) < (cn : Int) := by omega
    clear hA hc hi1 hi2 hr3 ihl
    generalize x.r.getD i 0 = zr at *
    go_enter Try.func80, Try.ntmps80
    go_upto_region 3 with fail
    have q0 := RowTr.c0 R0.out
    have q1 := RowTr.c1 R0.out
    have q2 := RowTr.c2 R0.out
    have q3 := RowTr.c3 R0.out
    refine wp_region_held_drew (S := (fun w' => w'.cell? ⟨w.heap.size, 0, none⟩ = some a ∧ w'.cell? ⟨w.heap.size, 1, none⟩ = some b ∧ w'.cell? ⟨w.heap.size, 2, none⟩ = some (.slice (some ⟨cb, co, none⟩) cn cq) ∧ w'.cell? ⟨w.heap.size, 3, none⟩ = some (.int .i64 x.t) ∧ w'.cell? ⟨cb, co + i, none⟩ = some (.int .i64 zr))) (by kernel_rfl) (⟨q0, q1, q2, q3, q5⟩) (fun hHeld => ?_)
    refine wpAnyH_take (i := 0) (v := ?va0x1) rfl (by kernel_rfl) (by kernel_rfl) (by kernel_rfl) (fun _ _ _ h => h) (Or.inl ⟨by rfl, ?hy0x1⟩) (by assumption) ?rest0x1
    case hy0x1 => (intro w hSw; (try dsimp only at hSw); go_simp; try with_reducible rfl)
    (try simp only [Act.put, List.getElem_toArray, List.getElem_cons_zero, List.setIfInBounds_toArray, List.set_cons_zero, List.set_cons_succ])
    refine wpAnyH_take (i := 1) (v := ?va1x2) rfl (by kernel_rfl) (by kernel_rfl) (by kernel_rfl) (fun _ _ _ h => h) (Or.inl ⟨by rfl, ?hy1x2⟩) (by assumption) ?rest1x2
    case hy1x2 => (intro w hSw; (try dsimp only at hSw); go_simp; try with_reducible rfl)
    (try simp only [Act.put, List.getElem_toArray, List.getElem_cons_zero, List.getElem_cons_succ, List.setIfInBounds_toArray, List.set_cons_zero, List.set_cons_succ])
    refine wpAnyH_take (i := 2) (v := ?va2x3) rfl (by kernel_rfl) (by kernel_rfl) (by kernel_rfl) (fun _ _ _ h => h) (Or.inl ⟨by rfl, ?hy2x3⟩) (by assumption) ?rest2x3
    case hy2x3 => (intro w hSw; (try dsimp only at hSw); go_simp; try with_reducible rfl)
    (try simp only [Act.put, List.getElem_toArray, List.getElem_cons_zero, List.getElem_cons_succ, List.setIfInBounds_toArray, List.set_cons_zero, List.set_cons_succ])
    refine wpAnyH_take (i := 3) (v := ?va3x4) rfl (by kernel_rfl) (by kernel_rfl) (by kernel_rfl) (fun _ _ _ h => h) (Or.inl ⟨by rfl, ?hy3x4⟩) (by assumption) ?rest3x4
    case hy3x4 => (intro w hSw; (try dsimp only at hSw); go_simp; try with_reducible rfl)
    (try simp only [Act.put, List.getElem_toArray, List.getElem_cons_zero, List.getElem_cons_succ, List.setIfInBounds_toArray, List.set_cons_zero, List.set_cons_succ])
    refine wpAnyH_take (i := 4) (v := ?va4x5) rfl (by kernel_rfl) (by kernel_rfl) (by kernel_rfl) (fun _ _ _ h => h) (Or.inl ⟨by rfl, ?hy4x5⟩) (by assumption) ?rest4x5
    case hy4x5 => (intro w hSw; (try dsimp only at hSw); go_simp; try with_reducible rfl)
    (try simp only [Act.put, List.getElem_toArray, List.getElem_cons_zero, List.getElem_cons_succ, List.setIfInBounds_toArray, List.set_cons_zero, List.set_cons_succ])
    refine wpAnyH_take (i := 5) (v := ?va5x6) rfl (by kernel_rfl) (by kernel_rfl) (by kernel_rfl) (fun _ _ _ h => h) (Or.inl ⟨by rfl, ?hy5x6⟩) (by assumption) ?rest5x6
    case hy5x6 => (intro w hSw; (try dsimp only at hSw); go_simp; try with_reducible rfl)
    (try simp only [Act.put, List.getElem_toArray, List.getElem_cons_zero, List.getElem_cons_succ, List.setIfInBounds_toArray, List.set_cons_zero, List.set_cons_succ])
    refine wpAnyH_ready (rs := [6]) (by kernel_rfl) (by simp) ?_
    refine AllReadyH.cons rfl (fun K hK => ?_) AllReadyH.nil
    go_simp
    refine (ihr zr (World.drewN _ 1) (HA.out.below (below_drewN HB.out 1)) hr4 (by omega)).mono ?_
    rintro e w1 ⟨rfl, hb1⟩
    have B1 := Lib.hid (bst (below_drewN HB.out 1) hb1 HB.out.size)
    have kk := hHeld
    refine hK.out _ _ (⟨cellBelow hb1 (Nat.le_refl _) kk.1, cellBelow hb1 (Nat.le_refl _) kk.2.1, cellBelow hb1 (Nat.le_refl _) kk.2.2.1, cellBelow hb1 (Nat.le_refl _) kk.2.2.2.1, cellBelow hb1 (Nat.le_refl _) kk.2.2.2.2⟩) (fun hHeld => ?_)
    clear hK K
    (try simp only [Act.put, List.getElem_toArray, List.getElem_cons_zero, List.getElem_cons_succ, List.setIfInBounds_toArray, List.set_cons_zero, List.set_cons_succ])
    refine wpAnyH_take (i := 7) (v := ?va7x7) rfl (by kernel_rfl) (by kernel_rfl) (by kernel_rfl) (fun _ _ _ h => h) (Or.inl ⟨by rfl, ?hy7x7⟩) (by assumption) ?rest7x7
    case hy7x7 => (intro w hSw; (try dsimp only at hSw); go_simp; try with_reducible rfl)
    (try simp only [Act.put, List.getElem_toArray, List.getElem_cons_zero, List.getElem_cons_succ, List.setIfInBounds_toArray, List.set_cons_zero, List.set_cons_succ])
    refine wpAnyH_take (i := 8) (v := ?va8x8) rfl (by kernel_rfl) (by kernel_rfl) (by kernel_rfl) (fun _ _ _ h => h) (Or.inl ⟨by rfl, ?hy8x8⟩) (by assumption) ?rest8x8
    case hy8x8 => (intro w hSw; (try dsimp only at hSw); go_simp; try with_reducible rfl)
    (try simp only [Act.put, List.getElem_toArray, List.getElem_cons_zero, List.getElem_cons_succ, List.setIfInBounds_toArray, List.set_cons_zero, List.set_cons_succ])
    refine wpAnyH_done (by kernel_rfl) ?_ _
    clear hHeld
    have hw : IntKind.i64.wrap (1 + (r.rk : Int)) = ((BT.rk (.node i l r) : Nat) : Int) := by rw [IntWalk.i64_in _ (by have := hrk.out; omega)]; simp only [BT.rk]; omega
    go_wp2_with fail
    go_ret
    exact ⟨rfl, B1.out⟩
end Go.Proofs.Ytejaebmbhcgngaa
namespace Go.Proofs.Ytejaebmbhcgngaa
open Go.RowKit Ph Tr

set_option maxRecDepth 100000 in
set_option maxHeartbeats 6400000 in
theorem s_l11Reach (a b c : Value) (x : T) (hx : Shp x) : ∀ (f : Nat) (z : Int) (m : Nat) (y : Int) (w : World), x.k.length + 1 ≤ m + f → y = m → TreeAt w a b c x → (-1 ≤ z ∧ z ≤ (x.k.length : Int) - 1) → Calls Try.prog 79 #[tv a b c x.t, .int .i64 z, .int .i64 y] w fun e w' => ∃ n : Nat, e = .returned (.int .i64 n) ∧ m ≤ n ∧ (∀ q, q ≤ x.k.length → (n = q ↔ ∃ bt, Rep x.l x.r z bt ∧ m + bt.sz = q)) ∧ Below w.heap.size w w' := by
  intro f
  induction f with
  | zero =>
    intro z m y w hf hy hA hz
    subst hy
    obtain ⟨⟨pa, qa, rfl⟩, -, -⟩ := hA.shapes
    have HB := Lib.hid (below1 w (.cells (t4 (.slice pa x.k.length qa) b c x.t) 24))
    have R0 := Lib.hid (show RowTr _ _ (.slice pa x.k.length qa) b c x.t from Row.new w 24 (t4 (.slice pa x.k.length qa) b c x.t))
    have HE : Hid (∀ q, q ≤ x.k.length → (m = q ↔ ∃ bt, Rep x.l x.r z bt ∧ m + bt.sz = q)) := by
      intro q hq
      constructor
      · intro e; omega
      · rintro ⟨bt, _, e⟩; omega
    clear hA hx hz
    generalize x.k.length = nk at *
    have i1 : (m : Int) > (nk : Int) := by omega
    by_cases i0 : z < 0
    · go_enter Try.func79, Try.ntmps79
      go_wp2_with fail
      go_ret
      exact ⟨m, rfl, Nat.le_refl _, HE.out, HB.out⟩
    · have q0 := RowTr.c0 R0.out
      go_enter Try.func79, Try.ntmps79
      go_wp2_with fail
      go_ret
      exact ⟨m, rfl, Nat.le_refl _, HE.out, HB.out⟩
  | succ f ih =>
    intro z m y w hf hy hA hz
    subst hy
    obtain ⟨⟨pa, qa, rfl⟩, -, -⟩ := hA.shapes
    by_cases hc : z < 0 ∨ x.k.length < m
    · have HB := Lib.hid (below1 w (.cells (t4 (.slice pa x.k.length qa) b c x.t) 24))
      have R0 := Lib.hid (show RowTr _ _ (.slice pa x.k.length qa) b c x.t from Row.new w 24 (t4 (.slice pa x.k.length qa) b c x.t))
      have HE : Hid (∀ q, q ≤ x.k.length → (m = q ↔ ∃ bt, Rep x.l x.r z bt ∧ m + bt.sz = q)) := by
        intro q hq
        constructor
        · intro e
          have hz0 : z < 0 := by omega
          exact ⟨.nil, by show z = -1; omega, e⟩
        · rintro ⟨bt, h, e⟩
          rcases hc with hc | hc
          · obtain rfl := h.nil_of hc; exact e
          · omega
      clear hA hx hz ih
      generalize x.k.length = nk at *
      by_cases i0 : z < 0
      · go_enter Try.func79, Try.ntmps79
        go_wp2_with fail
        go_ret
        exact ⟨m, rfl, Nat.le_refl _, HE.out, HB.out⟩
      · have i1 : (m : Int) > (nk : Int) := by omega
        have q0 := RowTr.c0 R0.out
        go_enter Try.func79, Try.ntmps79
        go_wp2_with fail
        go_ret
        exact ⟨m, rfl, Nat.le_refl _, HE.out, HB.out⟩
    · obtain ⟨i, rfl⟩ : ∃ i : Nat, z = i := ⟨z.toNat, by omega⟩
      have hil : i < x.l.length := by have := hx.l; omega
      have hir : i < x.r.length := by have := hx.r; omega
      have HZL := Lib.hid (hx.ls i (by omega))
      have HZR := Lib.hid (hx.rs i (by omega))
      have hnk := hx.n
      obtain ⟨cb, co, cn, cq, rfl, hin, hcc⟩ : ∃ cb co cn cq, c = .slice (some ⟨cb, co, none⟩) cn cq ∧ i < cn ∧ w.cell? ⟨cb, co + i, none⟩ = some (.int .i64 (x.r.getD i 0)) := by
        obtain ⟨p, q, hc, h⟩ := hA.r
        obtain ⟨cb, co, hp, h1⟩ := h (by omega)
        subst hp
        exact ⟨cb, co, _, q, hc, hir, h1 i hir⟩
      obtain ⟨bb, bo, bn, bq, rfl, hinb, hcb⟩ : ∃ cb co cn cq, b = .slice (some ⟨cb, co, none⟩) cn cq ∧ i < cn ∧ w.cell? ⟨cb, co + i, none⟩ = some (.int .i64 (x.l.getD i 0)) := by
        obtain ⟨p, q, hc, h⟩ := hA.l
        obtain ⟨cb, co, hp, h1⟩ := h (by omega)
        subst hp
        exact ⟨cb, co, _, q, hc, hil, h1 i hil⟩
      have HREP : Hid (∀ (n1 n2 : Nat), m + 1 ≤ n1 → n1 ≤ n2 → (∀ q, q ≤ x.k.length → (n1 = q ↔ ∃ bt, Rep x.l x.r (x.l.getD i 0) bt ∧ m + 1 + bt.sz = q)) → (∀ q, q ≤ x.k.length → (n2 = q ↔ ∃ bt, Rep x.l x.r (x.r.getD i 0) bt ∧ n1 + bt.sz = q)) → ∀ q, q ≤ x.k.length → (n2 = q ↔ ∃ bt, Rep x.l x.r (i : Int) bt ∧ m + bt.sz = q)) := by
        intro n1 n2 l1 l2 h1 h2 q hq
        constructor
        · intro e
          obtain ⟨b1, r1, e1⟩ := (h1 n1 (by omega)).1 rfl
          obtain ⟨b2, r2, e2⟩ := (h2 q hq).1 e
          exact ⟨.node i b1 b2, ⟨rfl, hil, hir, r1, r2⟩, by simp only [BT.sz]; omega⟩
        · rintro ⟨bt, r, e⟩
          obtain ⟨b1, b2, rfl, _, _, r1, r2⟩ := r.node_of
          simp only [BT.sz] at e
          have e1 : n1 = m + 1 + b1.sz := (h1 _ (by omega)).2 ⟨b1, r1, rfl⟩
          exact (h2 q hq).2 ⟨b2, r2, by omega⟩
      have HB := Lib.hid (below1 w (.cells (t4 (.slice pa x.k.length qa) (.slice (some ⟨bb, bo, none⟩) bn bq) (.slice (some ⟨cb, co, none⟩) cn cq) x.t) 24))
      have HA := Lib.hid hA
      have R0 := Lib.hid (show RowTr _ _ (.slice pa x.k.length qa) (.slice (some ⟨bb, bo, none⟩) bn bq) (.slice (some ⟨cb, co, none⟩) cn cq) x.t from Row.new w 24 (t4 (.slice pa x.k.length qa) (.slice (some ⟨bb, bo, none⟩) bn bq) (.slice (some ⟨cb, co, none⟩) cn cq) x.t))
      have q4 := cellBelow HB.out (Nat.le_refl _) hcc
      have q5 := cellBelow HB.out (Nat.le_refl _) hcb
      have i0 : ¬ (i : Int) < 0 := by omega
      have i1 : ¬ (m : Int) > (x.k.length : Int) := by omega
      have i2 : (i : Int) < (cn : Int) := by omega
      have i3 : (i : Int) < (bn : Int) := by omega
      have i4 : (0 : Int) ≤ (i : Int) := by omega
      have e2 : IntKind.i64.wrap ((m : Int) + 1) = (m : Int) + 1 := IntWalk.i64_in _ (by omega)
      clear hA hcc hcb hx hz hc hil hir
      generalize x.r.getD i 0 = zr at *
      generalize x.l.getD i 0 = zl at *
      have q0 := RowTr.c0 R0.out
      have q1 := RowTr.c1 R0.out
      have q2 := RowTr.c2 R0.out
      have q3 := RowTr.c3 R0.out
      generalize x.k.length = nk at *
      go_enter Try.func79, Try.ntmps79
      go_upto_region 3 with fail
      refine wp_region_held_drew (S := (fun w' => w'.cell? ⟨w.heap.size, 0, none⟩ = some (.slice pa nk qa) ∧ w'.cell? ⟨w.heap.size, 1, none⟩ = some (.slice (some ⟨bb, bo, none⟩) bn bq) ∧ w'.cell? ⟨w.heap.size, 2, none⟩ = some (.slice (some ⟨cb, co, none⟩) cn cq) ∧ w'.cell? ⟨w.heap.size, 3, none⟩ = some (.int .i64 x.t) ∧ w'.cell? ⟨cb, co + i, none⟩ = some (.int .i64 zr) ∧ w'.cell? ⟨bb, bo + i, none⟩ = some (.int .i64 zl))) (by kernel_rfl) (⟨q0, q1, q2, q3, q4, q5⟩) (fun hHeld => ?_)
      refine wpAnyH_take (i := 0) (v := ?va0x1) rfl (by kernel_rfl) (by kernel_rfl) (by kernel_rfl) (fun _ _ _ h => h) (Or.inl ⟨by rfl, ?hy0x1⟩) (by assumption) ?rest0x1
      case hy0x1 => (intro w hSw; (try dsimp only at hSw); go_simp; try with_reducible rfl)
      (try simp only [Act.put, List.getElem_toArray, List.getElem_cons_zero, List.setIfInBounds_toArray, List.set_cons_zero, List.set_cons_succ])
      refine wpAnyH_take (i := 1) (v := ?va1x2) rfl (by kernel_rfl) (by kernel_rfl) (by kernel_rfl) (fun _ _ _ h => h) (Or.inl ⟨by rfl, ?hy1x2⟩) (by assumption) ?rest1x2
      case hy1x2 => (intro w hSw; (try dsimp only at hSw); go_simp; try with_reducible rfl)
      (try simp only [Act.put, List.getElem_toArray, List.getElem_cons_zero, List.getElem_cons_succ, List.setIfInBounds_toArray, List.set_cons_zero, List.set_cons_succ])
      refine wpAnyH_take (i := 2) (v := ?va2x3) rfl (by kernel_rfl) (by kernel_rfl) (by kernel_rfl) (fun _ _ _ h => h) (Or.inl ⟨by rfl, ?hy2x3⟩) (by assumption) ?rest2x3
      case hy2x3 => (intro w hSw; (try dsimp only at hSw); go_simp; try with_reducible rfl)
      (try simp only [Act.put, List.getElem_toArray, List.getElem_cons_zero, List.getElem_cons_succ, List.setIfInBounds_toArray, List.set_cons_zero, List.set_cons_succ])
      refine wpAnyH_take (i := 3) (v := ?va3x4) rfl (by kernel_rfl) (by kernel_rfl) (by kernel_rfl) (fun _ _ _ h => h) (Or.inl ⟨by rfl, ?hy3x4⟩) (by assumption) ?rest3x4
      case hy3x4 => (intro w hSw; (try dsimp only at hSw); go_simp; try with_reducible rfl)
      (try simp only [Act.put, List.getElem_toArray, List.getElem_cons_zero, List.getElem_cons_succ, List.setIfInBounds_toArray, List.set_cons_zero, List.set_cons_succ])
      refine wpAnyH_take (i := 4) (v := ?va4x5) rfl (by kernel_rfl) (by kernel_rfl) (by kernel_rfl) (fun _ _ _ h => h) (Or.inl ⟨by rfl, ?hy4x5⟩) (by assumption) ?rest4x5
      case hy4x5 => (intro w hSw; (try dsimp only at hSw); go_simp; try with_reducible rfl)
      (try simp only [Act.put, List.getElem_toArray, List.getElem_cons_zero, List.getElem_cons_succ, List.setIfInBounds_toArray, List.set_cons_zero, List.set_cons_succ])
      refine wpAnyH_take (i := 5) (v := ?va5x6) rfl (by kernel_rfl) (by kernel_rfl) (by kernel_rfl) (fun _ _ _ h => h) (Or.inl ⟨by rfl, ?hy5x6⟩) (by assumption) ?rest5x6
      case hy5x6 => (intro w hSw; (try dsimp only at hSw); go_simp; try with_reducible rfl)
      (try simp only [Act.put, List.getElem_toArray, List.getElem_cons_zero, List.getElem_cons_succ, List.setIfInBounds_toArray, List.set_cons_zero, List.set_cons_succ])
      refine wpAnyH_take (i := 6) (v := ?va6x7) rfl (by kernel_rfl) (by kernel_rfl) (by kernel_rfl) (fun _ _ _ h => h) (Or.inl ⟨by rfl, ?hy6x7⟩) (by assumption) ?rest6x7
      case hy6x7 => (intro w hSw; (try dsimp only at hSw); go_simp; try with_reducible rfl)
      (try simp only [Act.put, List.getElem_toArray, List.getElem_cons_zero, List.getElem_cons_succ, List.setIfInBounds_toArray, List.set_cons_zero, List.set_cons_succ])
      refine wpAnyH_take (i := 7) (v := ?va7x8) rfl (by kernel_rfl) (by kernel_rfl) (by kernel_rfl) (fun _ _ _ h => h) (Or.inl ⟨by rfl, ?hy7x8⟩) (by assumption) ?rest7x8
      case hy7x8 => (intro w hSw; (try dsimp only at hSw); go_simp; try with_reducible rfl)
      (try simp only [Act.put, List.getElem_toArray, List.getElem_cons_zero, List.getElem_cons_succ, List.setIfInBounds_toArray, List.set_cons_zero, List.set_cons_succ])
      refine wpAnyH_take (i := 8) (v := ?va8x9) rfl (by kernel_rfl) (by kernel_rfl) (by kernel_rfl) (fun _ _ _ h => h) (Or.inl ⟨by rfl, ?hy8x9⟩) (by assumption) ?rest8x9
      case hy8x9 => (intro w hSw; (try dsimp only at hSw); go_simp; try with_reducible rfl)
      (try simp only [Act.put, List.getElem_toArray, List.getElem_cons_zero, List.getElem_cons_succ, List.setIfInBounds_toArray, List.set_cons_zero, List.set_cons_succ])
      refine wpAnyH_take (i := 9) (v := ?va9x10) rfl (by kernel_rfl) (by kernel_rfl) (by kernel_rfl) (fun _ _ _ h => h) (Or.inl ⟨by rfl, ?hy9x10⟩) (by assumption) ?rest9x10
      case hy9x10 => (intro w hSw; (try dsimp only at hSw); go_simp; try with_reducible rfl)
      (try simp only [Act.put, List.getElem_toArray, List.getElem_cons_zero, List.getElem_cons_succ, List.setIfInBounds_toArray, List.set_cons_zero, List.set_cons_succ])
      refine wpAnyH_take (i := 10) (v := ?va10x11) rfl (by kernel_rfl) (by kernel_rfl) (by kernel_rfl) (fun _ _ _ h => h) (Or.inl ⟨by rfl, ?hy10x11⟩) (by assumption) ?rest10x11
      case hy10x11 => (intro w hSw; (try dsimp only at hSw); go_simp; try with_reducible rfl)
      (try simp only [Act.put, List.getElem_toArray, List.getElem_cons_zero, List.getElem_cons_succ, List.setIfInBounds_toArray, List.set_cons_zero, List.set_cons_succ])
      refine wpAnyH_take (i := 11) (v := ?va11x12) rfl (by kernel_rfl) (by kernel_rfl) (by kernel_rfl) (fun _ _ _ h => h) (Or.inl ⟨by rfl, ?hy11x12⟩) (by assumption) ?rest11x12
      case hy11x12 => (intro w hSw; (try dsimp only at hSw); go_simp; try with_reducible rfl)
      (try simp only [Act.put, List.getElem_toArray, List.getElem_cons_zero, List.getElem_cons_succ, List.setIfInBounds_toArray, List.set_cons_zero, List.set_cons_succ])
      refine wpAnyH_take (i := 12) (v := ?va12x13) rfl (by kernel_rfl) (by kernel_rfl) (by kernel_rfl) (fun _ _ _ h => h) (Or.inl ⟨by rfl, ?hy12x13⟩) (by assumption) ?rest12x13
      case hy12x13 => (intro w hSw; (try dsimp only at hSw); go_simp; try with_reducible rfl)
      (try simp only [Act.put, List.getElem_toArray, List.getElem_cons_zero, List.getElem_cons_succ, List.setIfInBounds_toArray, List.set_cons_zero, List.set_cons_succ])
      refine wpAnyH_take (i := 13) (v := ?va13x14) rfl (by kernel_rfl) (by kernel_rfl) (by kernel_rfl) (fun _ _ _ h => h) (Or.inl ⟨by rfl, ?hy13x14⟩) (by assumption) ?rest13x14
      case hy13x14 => (intro w hSw; (try dsimp only at hSw); go_simp; try with_reducible rfl)
      (try simp only [Act.put, List.getElem_toArray, List.getElem_cons_zero, List.getElem_cons_succ, List.setIfInBounds_toArray, List.set_cons_zero, List.set_cons_succ])
      refine wpAnyH_ready (rs := [14]) (by kernel_rfl) (by simp) ?_
      refine AllReadyH.cons rfl (fun K hK => ?_) AllReadyH.nil
      go_simp
      refine (ih zl (m + 1) ((m : Int) + 1) (World.drewN _ 1) (by omega) (by omega) (HA.out.below (below_drewN HB.out 1)) HZL.out).mono ?_
      rintro e w1 ⟨n1, rfl, hle1, hn1, hb1⟩
      have B1 := Lib.hid (bst (below_drewN HB.out 1) hb1 HB.out.size)
      have N1 := Lib.hid hn1
      have LE1 := Lib.hid hle1
      have kk := hHeld
      clear hn1 hle1
      refine hK.out _ _ (⟨cellBelow hb1 (Nat.le_refl _) kk.1, cellBelow hb1 (Nat.le_refl _) kk.2.1, cellBelow hb1 (Nat.le_refl _) kk.2.2.1, cellBelow hb1 (Nat.le_refl _) kk.2.2.2.1, cellBelow hb1 (Nat.le_refl _) kk.2.2.2.2.1, cellBelow hb1 (Nat.le_refl _) kk.2.2.2.2.2⟩) (fun hHeld => ?_)
      clear hK K
      (try simp only [Act.put, List.getElem_toArray, List.getElem_cons_zero, List.getElem_cons_succ, List.setIfInBounds_toArray, List.set_cons_zero, List.set_cons_succ])
      refine wpAnyH_ready (rs := [15]) (by kernel_rfl) (by simp) ?_
      refine AllReadyH.cons rfl (fun K hK => ?_) AllReadyH.nil
      go_simp
      refine (ih zr n1 (n1 : Int) _ (by have := LE1.out; omega) rfl (HA.out.below B1.out) HZR.out).mono ?_
      rintro e w2 ⟨n2, rfl, hle2, hn2, hb2⟩
      have B2 := Lib.hid (bst B1.out hb2 B1.out.size)
      have N2 := Lib.hid hn2
      have LE2 := Lib.hid hle2
      replace kk := hHeld
      clear hn2 hle2
      refine hK.out _ _ (⟨cellBelow hb2 (Nat.le_refl _) kk.1, cellBelow hb2 (Nat.le_refl _) kk.2.1, cellBelow hb2 (Nat.le_refl _) kk.2.2.1, cellBelow hb2 (Nat.le_refl _) kk.2.2.2.1, cellBelow hb2 (Nat.le_refl _) kk.2.2.2.2.1, cellBelow hb2 (Nat.le_refl _) kk.2.2.2.2.2⟩) (fun hHeld => ?_)
      clear hK K
      (try simp only [Act.put, List.getElem_toArray, List.getElem_cons_zero, List.getElem_cons_succ, List.setIfInBounds_toArray, List.set_cons_zero, List.set_cons_succ])
      refine wpAnyH_take (i := 16) (v := ?va16x15) rfl (by kernel_rfl) (by kernel_rfl) (by kernel_rfl) (fun _ _ _ h => h) (Or.inl ⟨by rfl, ?hy16x15⟩) (by assumption) ?rest16x15
      case hy16x15 => (intro w hSw; (try dsimp only at hSw); go_simp; try with_reducible rfl)
      (try simp only [Act.put, List.getElem_toArray, List.getElem_cons_zero, List.getElem_cons_succ, List.setIfInBounds_toArray, List.set_cons_zero, List.set_cons_succ])
      refine wpAnyH_done (by kernel_rfl) ?_ _
      clear hHeld
      go_wp2_with fail
      go_ret
      exact ⟨n2, rfl, by have := LE1.out; have := LE2.out; omega, HREP.out n1 n2 LE1.out LE2.out N1.out N2.out, B2.out⟩
end Go.Proofs.Ytejaebmbhcgngaa
namespace Go.Proofs.Ytejaebmbhcgngaa.Ph

theorem mem_getD {zs : List Int} {z : Int} : z ∈ zs ↔ ∃ i, i < zs.length ∧ zs.getD i 0 = z := by
  constructor
  · intro h
    obtain ⟨i, hi, he⟩ := List.mem_iff_getElem.1 h
    exact ⟨i, hi, by simp [List.getD, List.getElem?_eq_getElem hi, he]⟩
  · rintro ⟨i, hi, rfl⟩
    simp [List.getD, List.getElem?_eq_getElem hi]
end Go.Proofs.Ytejaebmbhcgngaa.Ph
namespace Go.Proofs.Ytejaebmbhcgngaa
open Go.RowKit Ph
end Go.Proofs.Ytejaebmbhcgngaa
namespace Go.Proofs.Ytejaebmbhcgngaa.Ph
theorem hasTo_succ {zs : List Int} {z : Int} {k : Nat} (h : k < zs.length) : (zs.take (k + 1)).contains z = ((zs.take k).contains z || decide (zs.getD k 0 = z)) := by
  have e : zs.getD k 0 = zs[k] := by simp [List.getD, List.getElem?_eq_getElem h]
  rw [List.take_succ_eq_append_getElem h, Bool.eq_iff_iff]
  simp only [List.contains_iff_mem, List.mem_append, List.mem_singleton, Bool.or_eq_true, decide_eq_true_eq, e]
  constructor
  · rintro (q | q)
    · exact .inl q
    · exact .inr q.symm
  · rintro (q | q)
    · exact .inl q
    · exact .inr q.symm
end Go.Proofs.Ytejaebmbhcgngaa.Ph
namespace Go.Proofs.Ytejaebmbhcgngaa
open Go.RowKit Ph
set_option maxHeartbeats 1600000 in
theorem s_l1Has (v : Value) (zs : List Int) (z : Int) (w : World) (hz : IntsAt w v zs) (hm : zs.length ≤ 9223372036854775806) : Calls Try.prog 78 #[v, .int .i64 z] w fun e w' => e = .returned (.bool (zs.contains z)) ∧ Below w.heap.size w w' := by
  have HZ := Lib.hid hz
  obtain ⟨va, vc, rfl⟩ := hz.shape
  have HY := Lib.hid (fun (k : Nat) (h : k < zs.length) (e : zs.getD k 0 = z) => (show zs.contains z = true from by rw [List.contains_iff_mem, mem_getD]; exact ⟨k, h, e⟩))
  have HT := Lib.hid (fun (k : Nat) (h : k < zs.length) => hasTo_succ (z := z) h)
  have HA : Hid ((zs.take zs.length).contains z = zs.contains z) := by unfold Hid; rw [List.take_length]
  clear hz
  generalize zs.contains z = rb at *
  generalize hl : zs.length = n at *
  have HL := Lib.hid hl; clear hl
  go_enter Try.func78, Try.ntmps78
  go_wp2_with fail
  go_loopw [9] (fun i wr => ∃ k : Nat, k ≤ n ∧ i = .int .i64 k ∧ Hid ((zs.take k).contains z = false) ∧ Hid (Below w.heap.size w wr)) (fun i _ => n - (intOf i).toNat)
  case atStart => exact ⟨0, Nat.zero_le _, rfl, rfl, Below.refl _ _⟩
  case round =>
    obtain ⟨k, hk, rfl, hno, hb⟩ := hrel
    by_cases hlt : k < n
    · obtain ⟨g, off, rfl, hc⟩ := (HZ.out.below hb.out).at' (by omega)
      have q := hc k hlt
      have i1 : (k : Int) < (n : Int) := by omega
      have i2 : (0 : Int) ≤ (k : Int) := by omega
      have HYk := Lib.hid (HY.out k hlt)
      have HTk := Lib.hid (HT.out k hlt)
      clear hc
      generalize zs.getD k 0 = y at *
      by_cases hyz : y = z
      · have HE := Lib.hid (HYk.out hyz)
        have h1 : (y == z) = true := by simpa using hyz
        clear hyz
        go_wp2_with fail
        go_ret
        exact ⟨r_b HE.out.symm, hb.out⟩
      · have HE : Hid ((zs.take (k + 1)).contains z = false) := by unfold Hid; rw [HTk.out, hno.out, decide_eq_false hyz]; rfl
        have h1 : (y == z) = false := by simpa using hyz
        clear hyz
        go_wp2_with fail
        go_roundw
        case rel => exact ⟨k + 1, by omega, by go_num, HE, hb⟩
        case measure => simp [intOf]; omega
    · have hkn : k = n := by omega
      subst hkn
      have HE : Hid (rb = false) := by unfold Hid; rw [← HA.out]; exact hno.out
      go_wp2_with fail
      go_ret
      exact ⟨r_b HE.out.symm, hb.out⟩
end Go.Proofs.Ytejaebmbhcgngaa
