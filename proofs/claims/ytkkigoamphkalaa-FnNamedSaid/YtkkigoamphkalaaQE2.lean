/- What the laws rest on, part 2. -/
import Derived.Test.YtkkigoamphkalaaQE1
import Derived.Laws.EntriesVeiled
import Derived.Deep.AppendSrc
import Derived.ArgAppend
import Derived.Deep.LoopGhost
import Derived.Laws.IdiomCopy
namespace Go.Proofs.Ytkkigoamphkalaa.Ph
theorem left_mono : ∀ (S S' : List Bool), S'.length = S.length → (∀ k, S.getD k false = true → S'.getD k false = true) → left S' ≤ left S
  | [], [], _, _ => Nat.le_refl _
  | [], _ :: _, h, _ => by simp at h
  | _ :: _, [], h, _ => by simp at h
  | b :: S, b' :: S', h, hs => by
    have h1 := left_mono S S' (by simpa using h) (fun k hk => by have := hs (k + 1) (by simpa using hk); simpa using this)
    unfold left at h1 ⊢
    have h0 := hs 0
    cases b <;> cases b' <;> simp_all <;> omega
theorem Vis.left {fs : List (List Int)} {zs : List Int} {S S' : List Bool} (h : Vis fs zs S S') : left S' ≤ left S := left_mono S S' h.len h.sub
end Go.Proofs.Ytkkigoamphkalaa.Ph
namespace Go.Proofs.Ytkkigoamphkalaa
open Go.RowKit Ph

/-- The closure, its captured variables, and what it reads. -/
structure Vst (w : World) (g gr gv gh n cp lo : Nat) (a b c : Value) (S : List Bool) : Prop where
  own : OwnBs w lo (.slice (some ⟨g, 0, none⟩) n cp) S
  r : Row w gr 23 #[.slice (some ⟨g, 0, none⟩) n cp]
  v : Row w gv 149 #[.func (.func 172) #[] #[.pointer (some ⟨gr, 0, none⟩), .pointer (some ⟨gv, 0, none⟩), .pointer (some ⟨gh, 0, none⟩)]]
  h : RowH w gh a b c
theorem cellGrown {w w' : World} {g : Nat} {p : Addr} {x : Value} (hg : w.grownBy w' (some g)) (hp : p.block ≠ g) (h : w.cell? p = some x) : w'.cell? p = some x := by
  have hb := hg.block p.block (block_lt_of_cell h) (by simpa using hp)
  rw [World.cell?, hb]; exact h
theorem grown_drew (w : World) (r : Option Nat) : w.grownBy w.drew r := ⟨rfl, rfl, rfl, Nat.le_refl _, fun _ _ _ => rfl⟩
theorem OwnBs.stored {w : World} {B g n cap : Nat} {S : List Bool} (h : OwnBs w B (.slice (some ⟨g, 0, none⟩) n cap) S) (hn : S.length = n) {z : Nat} (hz : z < n) (x : Bool) : OwnBs (w.setCell ⟨g, z, none⟩ (.bool x)) B (.slice (some ⟨g, 0, none⟩) n cap) (S.set z x) ∧ w.grownBy (w.setCell ⟨g, z, none⟩ (.bool x)) (some g) ∧ w.cell? ⟨g, z, none⟩ = some (.bool (S.getD z false)) ∧ w.frozen? ⟨g, z, none⟩ = false := by
  unfold OwnBs at h
  rw [hn] at h
  obtain ⟨s1, s2⟩ := h.stored z (.bool x)
  refine ⟨?_, s2, ?_, h.frozenAt z⟩
  · unfold OwnBs
    rw [List.length_set, hn, List.map_set]
    exact s1
  · rw [h.cellAt z (by omega), List.getElem?_map, List.getElem?_eq_getElem (by omega)]
    simp [List.getD, List.getElem?_eq_getElem (show z < S.length by omega)]
theorem Vst.step {w w' : World} {g gr gv gh n cp lo : Nat} {a b c : Value} {S S' : List Bool} (k : Vst w g gr gv gh n cp lo a b c S) (hg : w.grownBy w' (some g)) (h1 : g ≠ gr) (h2 : g ≠ gv) (h3 : g ≠ gh) (ho : OwnBs w' lo (.slice (some ⟨g, 0, none⟩) n cp) S') : Vst w' g gr gv gh n cp lo a b c S' :=
  ⟨ho, Row.grownBy k.r hg (by simpa using h1), Row.grownBy k.v hg (by simpa using h2), Row.grownBy k.h hg (by simpa using h3)⟩
def inR (n : Nat) (z : Int) : Prop := z = -1 ∨ (0 ≤ z ∧ z < n)
set_option maxRecDepth 100000 in
set_option maxHeartbeats 6400000 in
theorem c_visit (W : World) (g gr gv gh n cp lo : Nat) (a b c : Value) (fs : List (List Int)) (hlo : W.heap.size ≤ g) (h1 : g ≠ gr) (h2 : g ≠ gv) (h3 : g ≠ gh) (hF : RowsAt W a fs) (hn : fs.length = n) (hn1 : n ≤ 12) (hrow : ∀ i, i < n → ∀ z ∈ fs.getD i [], inR n z) (hrl : ∀ i, i < n → (fs.getD i []).length ≤ 3) (fuel : Nat) :
    ∀ (v : Value) (zs : List Int) (S : List Bool) (w : World), left S ≤ fuel → S.length = n → IntsAt W v zs → zs.length ≤ 12 → (∀ z ∈ zs, inR n z) → Below W.heap.size W w → Vst w g gr gv gh n cp lo a b c S →
      Calls Try.prog 172 #[v, .pointer (some ⟨gr, 0, none⟩), .pointer (some ⟨gv, 0, none⟩), .pointer (some ⟨gh, 0, none⟩)] w fun e w' => e = .returned (.tuple #[]) ∧ ∃ S', Vis fs zs S S' ∧ OwnBs w' lo (.slice (some ⟨g, 0, none⟩) n cp) S' ∧ w.grownBy w' (some g) := by
  induction fuel using Nat.strongRecOn with
  | ind fuel ih =>
    intro v zs S w hleft hSn hz hzl hzr hB hV
    obtain ⟨fa, fc, rfl⟩ := hF.shape
    rw [hn] at *
    obtain ⟨va, vc, rfl⟩ := hz.shape
    have HZ := Lib.hid hz; have HZR := Lib.hid hzr; have HB := Lib.hid hB; have HV := Lib.hid hV; have HF := Lib.hid hF; have IH := Lib.hid ih; have HROW := Lib.hid hrow; have HRL := Lib.hid hrl; have HSN := Lib.hid hSn; have HFN := Lib.hid hn; have HLO := Lib.hid hlo; have HLE := Lib.hid hleft
    clear hz hzr hB hV hF ih hrow hrl hSn hn hlo hleft
    generalize hm : zs.length = m at *
    have HM := Lib.hid hm; clear hm
    go_enter Try.func172, Try.ntmps172
    go_wp2
    go_loopw [9] (fun i wr => ∃ j : Nat, j ≤ m ∧ i = .int .i64 j ∧ ∃ S', Hid (Vis fs (zs.take j) S S') ∧ Hid (Vst wr g gr gv gh n cp lo (.slice fa n fc) b c S') ∧ Hid (w.grownBy wr (some g))) (fun i _ => m - (intOf i).toNat)
    case atStart => exact ⟨0, Nat.zero_le _, rfl, S, Vis.start fs zs S, HV.out, World.grownBy.refl _ _⟩
    case round =>
      obtain ⟨j, hj, rfl, S', hvis, hvst, hgr⟩ := hrel
      by_cases hlt : j < m
      · obtain ⟨zb, zo, rfl, hc⟩ := HZ.out.at' (by omega)
        have BR : Below W.heap.size W wr := by
          have := HLO.out
          exact HB.out.grown hgr.out HB.out.size (fun k hk => by cases hk; omega)
        have q := cellBelow BR (Nat.le_refl _) (hc j hlt)
        have hjl : j < zs.length := by rw [HM.out]; exact hlt
        have hin := HZR.out (zs.getD j 0) (by rw [List.getD, List.getElem?_eq_getElem hjl]; exact List.getElem_mem hjl)
        have hSl : S'.length = n := by rw [hvis.out.len, HSN.out]
        have cr := hvst.out.r.cell 0
        have i1 : (j : Int) < (m : Int) := by omega
        have HJL := Lib.hid hjl
        clear hc
        generalize hzj : zs.getD j 0 = z at *
        have HZJ := Lib.hid hzj
        clear hzj hjl
        by_cases z1 : z = -1
        · subst z1
          have HE : Hid (Vis fs (zs.take (j + 1)) S S') := hvis.out.skip HJL.out (.inl HZJ.out)
          clear hin
          go_wp2_with fail
          go_roundw
          case rel => exact ⟨j + 1, by omega, by go_num, S', HE, hvst, hgr⟩
          case measure => simp [intOf]; omega
        · obtain ⟨t, rfl⟩ : ∃ t : Nat, z = t := ⟨z.toNat, by rcases hin with h | h <;> omega⟩
          have htn : t < n := by rcases hin with h | h <;> omega
          obtain ⟨s1, s2, s3, s4⟩ := hvst.out.own.stored hSl htn true
          have i2 : ((t : Int) == -1) = false := by simp
          have i3 : (t : Int) < (n : Int) := by omega
          have i4 : (0 : Int) ≤ (t : Int) := by omega
          generalize hx : S'.getD t false = x at *
          have HX := Lib.hid hx
          clear hin z1 hx
          cases x
          · have hls := left_set (S := S') (z := t) (by omega) HX.out
            have hlm := hvis.out.left
            have V1 := hvst.out.step s2 h1 h2 h3 s1
            obtain ⟨fb, fo, rfl, hcf⟩ := HF.out.at' (by omega)
            obtain ⟨u, quf, huf⟩ := hcf t htn
            have B1 : Below W.heap.size W (wr.setCell ⟨g, t, none⟩ (.bool true)) := BR.setCell (p := ⟨g, t, none⟩) (by have := HLO.out; exact this) (.bool true)
            have qu := cellBelow B1 (Nat.le_refl _) quf
            have IHC := IH.out (left (S'.set t true)) (by have := HLE.out; omega) u (fs.getD t []) (S'.set t true)
            have HC : Hid (∀ w', Below W.heap.size W w' → Vst w' g gr gv gh n cp lo (.slice (some ⟨fb, fo, none⟩) n fc) b c (S'.set t true) → Calls Try.prog 172 #[u, .pointer (some ⟨gr, 0, none⟩), .pointer (some ⟨gv, 0, none⟩), .pointer (some ⟨gh, 0, none⟩)] w' fun e w'' => e = .returned (.tuple #[]) ∧ ∃ S2, Vis fs (fs.getD t []) (S'.set t true) S2 ∧ OwnBs w'' lo (.slice (some ⟨g, 0, none⟩) n cp) S2 ∧ w'.grownBy w'' (some g)) := fun w' hb hv =>
              IHC w' (Nat.le_refl _) (by rw [List.length_set]; exact hSl) huf (by have := HRL.out t htn; omega) (HROW.out t htn) hb hv
            obtain ⟨ua, uc, hu⟩ := huf.shape
            subst hu
            have HV1 := Lib.hid V1; have HB1 := Lib.hid B1; have HS2 := Lib.hid s2; have HSL := Lib.hid hSl
            clear hls hlm V1 hcf huf B1 IHC s1 s2 hSl
            generalize (fs.getD t []).length = ul at *
            have hfb : fb ≠ g := by have h1 := block_lt_of_cell quf; have h2 := HLO.out; simp only at h1; omega
            clear quf
            go_wp2_with fail
            generalize (wr.setCell ⟨g, t, none⟩ (.bool true)) = cur at *
            have cv : cur.drew.cell? ⟨gv, 0, none⟩ = some (.func (.func 172) #[] #[.pointer (some ⟨gr, 0, none⟩), .pointer (some ⟨gv, 0, none⟩), .pointer (some ⟨gh, 0, none⟩)]) := HV1.out.v.cell 0
            have ch : cur.drew.cell? ⟨gh, 0, none⟩ = some (.slice (some ⟨fb, fo, none⟩) n fc) := HV1.out.h.c0
            replace qu : cur.drew.cell? ⟨fb, fo + t, none⟩ = some (.slice ua ul uc) := qu
            have BD := grown_drew cur (some g)
            have BW : Hid (Below W.heap.size W cur.drew) := below_drew HB1.out
            have VD : Hid (Vst cur.drew g gr gv gh n cp lo (.slice (some ⟨fb, fo, none⟩) n fc) b c (S'.set t true)) := ⟨HV1.out.own, HV1.out.r, HV1.out.v, HV1.out.h⟩
            have k1 := Lib.hid (Ne.symm h2); have k2 := Lib.hid (Ne.symm h3); have k3 := Lib.hid hfb
            go_region_held3 (fun w' => w'.cell? ⟨gv, 0, none⟩ = some (.func (.func 172) #[] #[.pointer (some ⟨gr, 0, none⟩), .pointer (some ⟨gv, 0, none⟩), .pointer (some ⟨gh, 0, none⟩)]) ∧ w'.cell? ⟨gh, 0, none⟩ = some (.slice (some ⟨fb, fo, none⟩) n fc) ∧ w'.cell? ⟨fb, fo + t, none⟩ = some (.slice ua ul uc) ∧ cur.grownBy w' (some g))
              (first
                | (with_reducible exact ⟨cv, ch, qu, BD⟩)
                | (go_split_ands
                   exact ⟨cellGrown hbk k1.out (by assumption), cellGrown hbk k2.out (by assumption), cellGrown hbk k3.out (by assumption), grownBy_trans (by assumption) hbk⟩)
                | (go_split_ands; refine ⟨?_, ?_, ?_, ?_⟩ <;> assumption))
              (first
                | (go_at_call 172; refine (HC.out _ BW.out VD.out).mono ?_; rintro e w6 ⟨rfl, S2, hvis2, hown2, hbk⟩))
            have hg6 : cur.grownBy w6 (some g) := by go_split_ands; assumption
            have HE : Hid (Vis fs (zs.take (j + 1)) S S2) := hvis.out.down HJL.out HZJ.out (by rw [HSL.out]; exact htn) HX.out hvis2
            have HG6 : Hid (w.grownBy w6 (some g)) := grownBy_trans (grownBy_trans hgr.out HS2.out) hg6
            have HV6 : Hid (Vst w6 g gr gv gh n cp lo (.slice (some ⟨fb, fo, none⟩) n fc) b c S2) := HV1.out.step hg6 h1 h2 h3 hown2
            clear hg6 hown2 hvis2 cv ch qu BD BW VD
            go_wp2_with fail
            go_roundw
            case rel => exact ⟨j + 1, by omega, by go_num, S2, HE, HV6, HG6⟩
            case measure => simp [intOf]; omega
          · have HE : Hid (Vis fs (zs.take (j + 1)) S S') := hvis.out.skip HJL.out (.inr (by rw [HZJ.out]; simpa using HX.out))
            go_wp2_with fail
            go_roundw
            case rel => exact ⟨j + 1, by omega, by go_num, S', HE, hvst, hgr⟩
            case measure => simp [intOf]; omega
      · obtain rfl : j = m := by omega
        have HE : Hid (zs.take j = zs) := List.take_of_length_le (by rw [HM.out]; exact Nat.le_refl _)
        go_wp2_with fail
        go_end0
        exact ⟨rfl, S', by rw [← HE.out]; exact hvis.out, hvst.out.own, hgr.out⟩
end Go.Proofs.Ytkkigoamphkalaa
namespace Go.Proofs.Ytkkigoamphkalaa
open Go.RowKit Ph

theorem rep_bools (n : Nat) : (madeCells (Value.bool false).cells (n * 1)).toList = (List.replicate n false).map Value.bool := by
  rw [Nat.mul_one, show (Value.bool false).cells = #[.bool false] from rfl, toList_madeCells_one, List.map_replicate]
theorem grownB_of {w w' : World} (h : Below w.heap.size w w') (r : Option Nat) : w.grownBy w' r := ⟨h.os, h.tape, h.output, h.size, fun i hi _ => h.block i hi⟩
set_option maxRecDepth 100000 in
set_option maxHeartbeats 3200000 in
theorem c_reachMore (W : World) (g n cp lo : Nat) (a b c v : Value) (h : H) (zs : List Int) (S : List Bool) (w : World) (hA : HeapAt W a b c h) (hG : Ph.Good h) (hz : IntsAt W v zs) (hzl : zs.length ≤ 12) (hzr : ∀ z ∈ zs, inR h.f.length z) (hB : Below W.heap.size W w) (hlo : W.heap.size ≤ g) (hn : h.f.length = n) (hSn : S.length = n) (hS : OwnBs w lo (.slice (some ⟨g, 0, none⟩) n cp) S) :
    Calls Try.prog 141 #[hv a b c, .slice (some ⟨g, 0, none⟩) n cp, v] w fun e w' => e = .returned (.tuple #[]) ∧ ∃ S', Vis h.f zs S S' ∧ OwnBs w' lo (.slice (some ⟨g, 0, none⟩) n cp) S' ∧ w.grownBy w' (some g) := by
  have hrow : ∀ i, i < h.f.length → ∀ z ∈ h.f.getD i [], inR h.f.length z := fun i _ z hz => (hG.field hz).imp id (fun h => ⟨h.1, h.2.1⟩)
  have hrl : ∀ i, i < h.f.length → (h.f.getD i []).length ≤ 3 := fun i hi => (hG.row i hi).1
  have hn1 := hG.n
  have hll := hG.ll
  obtain ⟨la, lc, rfl⟩ := hA.l.shape
  rw [hll]
  have HF := Lib.hid hA.f; have HZ := Lib.hid hz; have HR := Lib.hid hrow; have HRL := Lib.hid hrl; have HZR := Lib.hid hzr
  clear hA hG hz hrow hrl hzr hll
  subst hn
  generalize hn : h.f.length = n at *
  have HN := Lib.hid hn; clear hn
  have hgw : g < w.heap.size := (owns_lt (g := g) hS rfl).2
  have b3 := ((below1 w (.cells (c3 a (.slice la n lc) c) 30)).alloc (by simp) (.cells #[.slice (some ⟨g, 0, none⟩) n cp] 23)).alloc (by simp; omega) (.cells #[.func (.func 172) #[] #[.pointer (some ⟨w.heap.size + 1, 0, none⟩), .pointer (some ⟨w.heap.size + 1 + 1, 0, none⟩), .pointer (some ⟨w.heap.size, 0, none⟩)]] 149)
  have hV : Vst (((w.alloc (.cells (c3 a (.slice la n lc) c) 30)).alloc (.cells #[.slice (some ⟨g, 0, none⟩) n cp] 23)).alloc (.cells #[.func (.func 172) #[] #[.pointer (some ⟨w.heap.size + 1, 0, none⟩), .pointer (some ⟨w.heap.size + 1 + 1, 0, none⟩), .pointer (some ⟨w.heap.size, 0, none⟩)]] 149)) g (w.heap.size + 1) (w.heap.size + 1 + 1) w.heap.size n cp lo a (.slice la n lc) c S := ⟨OwnBs.below hS b3, (Row.new1 w (.cells (c3 a (.slice la n lc) c) 30) 23 #[.slice (some ⟨g, 0, none⟩) n cp]).alloc (.cells #[.func (.func 172) #[] #[.pointer (some ⟨w.heap.size + 1, 0, none⟩), .pointer (some ⟨w.heap.size + 1 + 1, 0, none⟩), .pointer (some ⟨w.heap.size, 0, none⟩)]] 149), Row.new2 w (.cells (c3 a (.slice la n lc) c) 30) (.cells #[.slice (some ⟨g, 0, none⟩) n cp] 23) 149 _, ((Row.new w 30 (c3 a (.slice la n lc) c)).alloc (.cells #[.slice (some ⟨g, 0, none⟩) n cp] 23)).alloc (.cells #[.func (.func 172) #[] #[.pointer (some ⟨w.heap.size + 1, 0, none⟩), .pointer (some ⟨w.heap.size + 1 + 1, 0, none⟩), .pointer (some ⟨w.heap.size, 0, none⟩)]] 149)⟩
  have VV := Lib.hid hV
  have BB := Lib.hid (bst hB b3 hB.size)
  have G3 := Lib.hid (grownB_of b3 (some g))
  have HSN := Lib.hid hSn
  have HLO := Lib.hid hlo
  clear hV hB b3 hS hlo hSn
  go_enter Try.func141, Try.ntmps141
  go_wp2_with fail
  refine (c_visit W g (w.heap.size + 1) (w.heap.size + 1 + 1) w.heap.size n cp lo a (.slice la n lc) c h.f HLO.out (by omega) (by omega) (by omega) HF.out HN.out hn1 HR.out HRL.out _ v zs S _ (Nat.le_refl _) HSN.out HZ.out hzl HZR.out BB.out VV.out).mono ?_
  rintro e w4 ⟨rfl, S', hvis, hown, hgr⟩
  have O4 := Lib.hid hown; have V4 := Lib.hid hvis; have G4 := Lib.hid (grownBy_trans G3.out hgr)
  clear hgr hown hvis
  go_wp2_with fail
  go_end0
  exact ⟨rfl, S', V4.out, O4.out, G4.out⟩
set_option maxRecDepth 100000 in
set_option maxHeartbeats 3200000 in
theorem c_reachedOver (a b c v : Value) (h : H) (zs : List Int) (w : World) (hA : HeapAt w a b c h) (hG : Ph.Good h) (hz : IntsAt w v zs) (hzl : zs.length ≤ 12) (hzr : ∀ z ∈ zs, inR h.f.length z) :
    Calls Try.prog 84 #[hv a b c, v] w fun e w' => ∃ v', e = .returned v' ∧ OwnBs w' w.heap.size v' (reachL h.f zs) ∧ Below w.heap.size w w' := by
  obtain ⟨i0, hi, hz0, hz1, hz2⟩ := info_parts info_boolz
  have hn1 := hG.n
  have hll := hG.ll
  have CM := Lib.hid (fun (g : Nat) (w' : World) (S : List Bool) hb hg hs ho => c_reachMore w g h.f.length h.f.length w.heap.size a b c v h zs S w' hA hG hz hzl hzr hb hg rfl hs ho)
  obtain ⟨la, lc, rfl⟩ := hA.l.shape
  rw [hll] at *
  have hb0 := Lib.hid (below1 w (.cells (c3 a (.slice la h.f.length lc) c) 30))
  have R0 := Lib.hid (show RowH _ _ a (.slice la h.f.length lc) c from Row.new w 30 (c3 a (.slice la h.f.length lc) c))
  have VD := Lib.hid (fun (S : List Bool) (q : Vis h.f zs (List.replicate h.f.length false) S) => q.done)
  clear hA hG hz hzr hll
  generalize h.f.length = n at *
  go_enter Try.func84, Try.ntmps84
  go_wp2_with (first
    | (at_make; refine wpList_make_full _ rfl _ _ 23 rfl w.heap.size 4 i0 (.bool false) 1 Try.underlying23 hi hz0 hz1 .i64 .i64 _ _ n rfl rfl rfl rfl (by rw [hz2]; omega) (by unfold maxLen; omega) (by simp) ?_; intro w1 hown hgr
       rw [rep_bools] at hown
       have hsz0 : (w.alloc (.cells (c3 a (.slice la n lc) c) 30)).heap.size = w.heap.size + 1 := by simp
       rw [hsz0] at hown
       have O1 : Hid (OwnBs w1 w.heap.size (.slice (some ⟨w.heap.size + 1, 0, none⟩) n n) (List.replicate n false)) := (by { unfold Hid OwnBs; rw [List.length_replicate]; exact hown })
       have B1 := Lib.hid (hb0.out.grown hgr hb0.out.size (fun k hk => by cases hk))
       have rr : RowH w1 w.heap.size a (.slice la n lc) c := Row.grown R0.out hgr
       have q0 := rr.c0; have q1 := rr.c1; have q2 := rr.c2
       clear hown hgr hsz0 rr))
  clear q0 q1 q2
  refine (CM.out (w.heap.size + 1) _ (List.replicate n false) B1.out (by omega) (by simp) O1.out).mono ?_
  rintro e w4 ⟨rfl, S', hvis, hown, hgr⟩
  have O4 := Lib.hid hown; have V4 := Lib.hid (VD.out S' hvis); have B4 := Lib.hid (B1.out.grown hgr B1.out.size (fun k hk => by cases hk; omega))
  clear hown hvis hgr
  go_wp2_with fail
  go_ret
  exact ⟨_, rfl, by rw [← V4.out]; exact O4.out, B4.out⟩
end Go.Proofs.Ytkkigoamphkalaa
namespace Go.Proofs.Ytkkigoamphkalaa.Ph
noncomputable def reachR (h : H) : List Bool := if good h = true then reachL h.f h.r else []
theorem reachR_no {h : H} (k : good h = false) : reachR h = [] := by unfold reachR; rw [k]; rfl
theorem reachR_yes {h : H} (k : good h = true) : reachR h = reachL h.f h.r := by unfold reachR; rw [k]; rfl
end Go.Proofs.Ytkkigoamphkalaa.Ph
namespace Go.Proofs.Ytkkigoamphkalaa
open Go.RowKit Ph

theorem endB_no {w w' : World} {bs : List Bool} {ok : Bool} (hb : Below w.heap.size w w') (h1 : bs = []) (h2 : ok = false) : EndB bs ok w (.returned (.tuple #[.slice none 0 0, .bool false])) w' := by
  subst h1; subst h2
  exact ⟨_, rfl, OwnH.nil w' _ _, hb⟩
theorem endB_yes {w w' : World} {bs bs' : List Bool} {ok : Bool} {v : Value} {B : Nat} (hb : Below w.heap.size w w') (ho : OwnBs w' B v bs') (hB : w.heap.size ≤ B) (h1 : bs = bs') (h2 : ok = true) : EndB bs ok w (.returned (.tuple #[v, .bool true])) w' := by
  subst h1; subst h2
  exact ⟨_, rfl, OwnH.ofBools (owns_mono ho fun g hg => Nat.le_trans hB (owns_lt ho hg).1) hb.size, hb⟩
set_option maxHeartbeats 1600000 in
theorem c_ReachedIn (a b c : Value) (h : H) (w : World) (hA : HeapAt w a b c h) : Calls Try.prog 17 #[hv a b c] w (EndB (reachR h) (good h) w) := by
  have hb0 := below1 w (.cells (c3 a b c) 30)
  have A0 := Lib.hid (hA.below hb0)
  have HB := Lib.hid hb0
  have R0 := Lib.hid (show RowH _ _ a b c from Row.new w 30 (c3 a b c))
  clear hA hb0
  have HC := Lib.hid (c_GoodHeap a b c h _ A0.out)
  generalize hg : good h = x at *
  have HX := Lib.hid hg
  clear hg
  have c0 := R0.out.c0
  have c1 := R0.out.c1
  have c2 := R0.out.c2
  cases x
  · have HE := Lib.hid (reachR_no HX.out)
    go_enter Try.func17, Try.ntmps17
    go_wp2_with (go_at_call 55; refine HC.out.mono ?_; rintro e w1 ⟨rfl, hb1⟩; have B1 := Lib.hid (bst HB.out hb1 HB.out.size); clear hb1)
    go_ret2
    exact endB_no B1.out HE.out rfl
  · have HE := Lib.hid (reachR_yes HX.out)
    have G := Lib.hid (good_iff.1 HX.out)
    go_enter Try.func17, Try.ntmps17
    go_wp2_with (go_at_call 55; refine HC.out.mono ?_; rintro e w1 ⟨rfl, hb1⟩; have B1 := Lib.hid (bst HB.out hb1 HB.out.size); have A1 := Lib.hid (A0.out.below hb1); have R1 := R0.out.below hb1; have d0 := R1.c0; have d1 := R1.c1; have d2 := R1.c2; clear hb1 R1)
    refine (c_reachedOver a b c c h h.r _ A1.out G.out A1.out.r (by have := G.out.rn; omega) (fun z hz => (refs_bound G.out G.out.rr z hz).imp id (fun h => ⟨h.1, h.2.1⟩))).mono ?_
    rintro e w2 ⟨v', rfl, ho2, hb2⟩
    have B2 := Lib.hid (bst B1.out hb2 B1.out.size); have O2 := Lib.hid ho2
    clear hb2 ho2
    go_wp2_with fail
    go_ret2
    exact endB_yes B2.out O2.out B1.out.size HE.out rfl
end Go.Proofs.Ytkkigoamphkalaa
namespace Go.Proofs.Ytkkigoamphkalaa.Ph
def keepStep (ks : List Bool) (p : H × Nat) (j : Nat) : H × Nat := if (p.1.l.getD j false && !ks.getD j false) = true then (⟨p.1.f.set j [], p.1.l.set j false, p.1.r⟩, p.2 + 1) else p
def keepTo (h : H) (ks : List Bool) : Nat → H × Nat
  | 0 => (h, 0)
  | j + 1 => keepStep ks (keepTo h ks j) j
theorem keepTo_len (h : H) (ks : List Bool) (j : Nat) : (keepTo h ks j).1.f.length = h.f.length ∧ (keepTo h ks j).1.l.length = h.l.length ∧ (keepTo h ks j).1.r = h.r ∧ (keepTo h ks j).2 ≤ j := by
  induction j with
  | zero => exact ⟨rfl, rfl, rfl, Nat.le_refl _⟩
  | succ j ih =>
    simp only [keepTo, keepStep]
    split
    · simp only [List.length_set]; exact ⟨ih.1, ih.2.1, ih.2.2.1, by omega⟩
    · exact ⟨ih.1, ih.2.1, ih.2.2.1, by omega⟩
theorem keepTo_yes {h : H} {ks : List Bool} {j : Nat} (h1 : (keepTo h ks j).1.l.getD j false = true) (h2 : ks.getD j false = false) : keepTo h ks (j + 1) = (⟨(keepTo h ks j).1.f.set j [], (keepTo h ks j).1.l.set j false, (keepTo h ks j).1.r⟩, (keepTo h ks j).2 + 1) := by
  simp only [keepTo, keepStep]; rw [h1, h2]; rfl
theorem keepTo_no {h : H} {ks : List Bool} {j : Nat} (h1 : (keepTo h ks j).1.l.getD j false = false ∨ ks.getD j false = true) : keepTo h ks (j + 1) = keepTo h ks j := by
  simp only [keepTo, keepStep]
  rcases h1 with h1 | h1
  · rw [h1]; rfl
  · rw [h1]; simp
end Go.Proofs.Ytkkigoamphkalaa.Ph
namespace Go.Proofs.Ytkkigoamphkalaa
open Go.RowKit Ph

theorem putNil {w : World} {lo hi : Nat} {a b c : Value} {h : H} (k : OwnH w lo hi a b c h) {j : Nat} (hj : j < h.f.length) : ∃ ga ca x, a = .slice (some ⟨ga, 0, none⟩) h.f.length ca ∧ w.cell? ⟨ga, j, none⟩ = some x ∧ w.frozen? ⟨ga, j, none⟩ = false ∧ OwnH (w.setCell ⟨ga, j, none⟩ (.slice none 0 0)) lo hi a b c ⟨h.f.set j [], h.l, h.r⟩ ∧ Chg lo hi w (w.setCell ⟨ga, j, none⟩ (.slice none 0 0)) := by
  obtain ⟨us, hf⟩ := k
  rcases hf.shape with ⟨_, h0⟩ | ⟨ga, ca, ha⟩
  · rw [h0] at hj; simp at hj
  obtain ⟨c1, f1⟩ := hf.cell ha hj
  obtain ⟨s1, s2⟩ := hf.putRow hj (Own.nil w lo) (Nat.le_refl _) (fun g hg => by cases hg) ha
  exact ⟨ga, ca, _, ha, c1, f1, ⟨_, s1⟩, Chg.of_grown s2 fun g hg => by
    cases hg
    have := Fam.blk hf (k := 0) (g := ga) (by omega) (by show a.ownBlock = _; rw [ha]; rfl)
    exact ⟨this.1, this.2.1⟩⟩
theorem putLiveB {w : World} {lo hi : Nat} {a b c : Value} {h : H} (k : OwnH w lo hi a b c h) {j : Nat} (hj : j < h.l.length) (x : Bool) : ∃ gb cb, b = .slice (some ⟨gb, 0, none⟩) h.l.length cb ∧ w.cell? ⟨gb, j, none⟩ = some (.bool (h.l.getD j false)) ∧ w.frozen? ⟨gb, j, none⟩ = false ∧ OwnH (w.setCell ⟨gb, j, none⟩ (.bool x)) lo hi a b c ⟨h.f, h.l.set j x, h.r⟩ ∧ Chg lo hi w (w.setCell ⟨gb, j, none⟩ (.bool x)) := by
  obtain ⟨us, hf⟩ := k
  have hl := hf.live
  rcases hl.shape with ⟨_, h0⟩ | ⟨gb, cb, hb⟩
  · rw [h0] at hj; simp at hj
  have hl2 := hl
  rw [hb] at hl2
  obtain ⟨s1, s2, s3, s4⟩ := hl2.stored rfl hj x
  exact ⟨gb, cb, hb, s3, s4, ⟨us, hf.setLive (by rw [hb]; exact s2) (by rw [hb]; exact s1)⟩, Chg.of_grown s2 fun g hg => by
    cases hg
    have := Fam.blk hf (k := 1) (g := gb) (by omega) (by show b.ownBlock = _; rw [hb]; rfl)
    exact ⟨this.1, this.2.1⟩⟩
theorem OwnBs.chg {w w' : World} {B lo hi : Nat} {v : Value} {bs : List Bool} (h : OwnBs w B v bs) (hc : Chg lo hi w w') (hd : hi ≤ B) : OwnBs w' B v bs := owns_block h fun g hg => by have := owns_lt h hg; exact hc.block g this.2 (.inr (by omega))
end Go.Proofs.Ytkkigoamphkalaa
namespace Go.Proofs.Ytkkigoamphkalaa
open Go.RowKit Ph

/-- Few objects of few fields weigh little. -/
theorem small_wt {h : H} (h1 : h.f.length ≤ 12) (h2 : ∀ i, i < h.f.length → (h.f.getD i []).length ≤ 3) (h3 : h.l.length ≤ 12) (h4 : h.r.length ≤ 4) : wtH h ≤ 1000 := by
  have hs : ∀ k, k ≤ h.f.length → sumL h.f k ≤ 3 * k := fun k => by
    induction k with
    | zero => intro _; rw [sumL_zero]; exact Nat.zero_le _
    | succ k ih =>
      intro hk
      rw [sumL_succ (by omega)]
      have := ih (by omega)
      have := h2 k (by omega)
      omega
  have := hs _ (Nat.le_refl _)
  unfold wtH wt; omega
theorem nil_wt : wtH ⟨[], [], []⟩ ≤ 1000 := by decide
theorem setF_wt (h : H) (t f z : Int) : wtH (setF h t f z) ≤ 1000 := by
  cases hk : setFOk h t f z with
  | false => rw [setF_no hk]; exact nil_wt
  | true =>
    rw [setF_yes hk]
    unfold setFOk at hk
    simp only [Bool.and_eq_true] at hk
    have g := good_iff.1 hk.1.1
    obtain ⟨_, e1, e2, e3, e4⟩ := good_wt g
    refine small_wt (by simp; omega) (fun i hi => ?_) e1 e2
    simp only [List.length_set] at hi
    by_cases ht : t.toNat < h.f.length
    · simp only
      rw [getD_setL ht]
      by_cases e : i = t.toNat
      · rw [if_pos e, List.length_set]; exact e4 _ ht
      · rw [if_neg e]; exact e4 i hi
    · simp only
      rw [List.set_eq_of_length_le (by omega)]; exact e4 i hi
theorem setR_wt (h : H) (t z : Int) : wtH (setR h t z) ≤ 1000 := by
  cases hk : setROk h t z with
  | false => rw [setR_no hk]; exact nil_wt
  | true =>
    rw [setR_yes hk]
    unfold setROk at hk
    simp only [Bool.and_eq_true] at hk
    obtain ⟨_, e1, e2, e3, e4⟩ := good_wt (good_iff.1 hk.1.1)
    exact small_wt e3 e4 e1 (by simp; omega)
end Go.Proofs.Ytkkigoamphkalaa
namespace Go.Proofs.Ytkkigoamphkalaa.Ph
noncomputable def cleanP (h : H) : H × Nat := if good h = true then keepTo h (reachL h.f h.r) h.f.length else (⟨[], [], []⟩, 0)
theorem cleanP_no {h : H} (k : good h = false) : cleanP h = (⟨[], [], []⟩, 0) := by unfold cleanP; rw [k]; rfl
theorem cleanP_yes {h : H} (k : good h = true) : cleanP h = keepTo h (reachL h.f h.r) h.f.length := by unfold cleanP; rw [k]; rfl
theorem keepTo_rows {h : H} {ks : List Bool} (hr : ∀ i, i < h.f.length → (h.f.getD i []).length ≤ 3) (j : Nat) : ∀ i, i < h.f.length → ((keepTo h ks j).1.f.getD i []).length ≤ 3 := by
  induction j with
  | zero => exact hr
  | succ j ih =>
    intro i hi
    simp only [keepTo, keepStep]
    split
    · simp only
      by_cases hj : j < (keepTo h ks j).1.f.length
      · rw [getD_setL hj]
        by_cases e : i = j
        · rw [if_pos e]; simp
        · rw [if_neg e]; exact ih i hi
      · rw [List.set_eq_of_length_le (by omega)]; exact ih i hi
    · exact ih i hi
end Go.Proofs.Ytkkigoamphkalaa.Ph
namespace Go.Proofs.Ytkkigoamphkalaa
open Go.RowKit Ph

theorem endHI_no {w w' : World} {h : H} {n : Int} {ok : Bool} (hb : Below w.heap.size w w') (h1 : h = ⟨[], [], []⟩) (h2 : n = 0) (h3 : ok = false) : EndHI h n ok w (.returned (.tuple #[hv (.slice none 0 0) (.slice none 0 0) (.slice none 0 0), .int .i64 0, .bool false])) w' := by
  subst h1; subst h2; subst h3
  exact ⟨_, _, _, rfl, OwnH.nil w' _ _, hb⟩
theorem endHI_yes {w w' : World} {h h' : H} {n n' : Int} {ok : Bool} {a b c : Value} {lo hi : Nat} (hb : Below w.heap.size w w') (ho : OwnH w' lo hi a b c h') (hl : w.heap.size ≤ lo) (hi' : hi ≤ w'.heap.size) (h1 : h = h') (h2 : n = n') (h3 : ok = true) : EndHI h n ok w (.returned (.tuple #[hv a b c, .int .i64 n', .bool true])) w' := by
  subst h1; subst h2; subst h3
  exact ⟨_, _, _, rfl, ho.wide hl hi', hb⟩
theorem res_row_slot2 {P : Program} {fn : Func} {p q r : Tmp} {ty : TypeId} (h : fn.results = #[.cell p ty, .tmp q, .tmp r]) {tmps : Array Value} {w : World} {g : Nat} {t : TypeId} {cs : Array Value} {d : TypeDesc} {v u : Value} (hg : Row w g t cs)
    (hp : tmps.getD p undef = .pointer (some ⟨g, 0, none⟩)) (hq : tmps.getD q undef = v) (hr : tmps.getD r undef = u) (hu : P.underlying ty = some d) (hd : (match d with | .struct _ | .array _ _ => true | _ => false) = true) (hi : (P.info? ty).map (·.size) = some cs.size) :
    (results fn tmps).run P w = .ok (.tuple #[.agg cs, v, u]) w := by
  have hp' : tmps[p]?.getD undef = .pointer (some ⟨g, 0, none⟩) := by simpa using hp
  have hq' : tmps[q]?.getD undef = v := by simpa using hq
  have hr' : tmps[r]?.getD undef = u := by simpa using hr
  simp [results, h, hp', hq', hr', asAddr, run_loadVar_row w g t ty cs (0, 0) d hg hu hd hi]
end Go.Proofs.Ytkkigoamphkalaa
namespace Go.Proofs.Ytkkigoamphkalaa
open Go.RowKit Ph

set_option maxHeartbeats 800000 in
theorem s_l1In (z lo hi : Int) (w : World) : Calls Try.prog 126 #[.int .i64 z, .int .i64 lo, .int .i64 hi] w fun e w' => e = .returned (.bool (decide (lo ≤ z) && decide (z ≤ hi))) ∧ w = w' := by
  generalize hx : (decide (lo ≤ z) && decide (z ≤ hi)) = x
  by_cases h1 : lo ≤ z
  · by_cases h2 : z ≤ hi
    · have HE : Hid (x = true) := by unfold Hid; rw [← hx]; simp [h1, h2]
      clear hx
      go_enter Try.func126, Try.ntmps126
      go_wp2
      go_ret
      exact ⟨r_b HE.out.symm, rfl⟩
    · have HE : Hid (x = false) := by unfold Hid; rw [← hx]; simp [h2]
      clear hx
      go_enter Try.func126, Try.ntmps126
      go_wp2
      go_ret
      exact ⟨r_b HE.out.symm, rfl⟩
  · have HE : Hid (x = false) := by unfold Hid; rw [← hx]; simp [h1]
    clear hx
    go_enter Try.func126, Try.ntmps126
    go_wp2
    go_ret
    exact ⟨r_b HE.out.symm, rfl⟩
theorem in_yes {z lo hi : Int} (h1 : lo ≤ z) (h2 : z ≤ hi) : (decide (lo ≤ z) && decide (z ≤ hi)) = true := by simp [h1, h2]
theorem in_lo {z lo hi : Int} (h1 : z < lo) : (decide (lo ≤ z) && decide (z ≤ hi)) = false := by simp; omega
theorem in_hi {z lo hi : Int} (h1 : hi < z) : (decide (lo ≤ z) && decide (z ≤ hi)) = false := by simp; omega
theorem s_l1In_yes (z lo hi : Int) (w : World) (h1 : lo ≤ z) (h2 : z ≤ hi) : Calls Try.prog 126 #[.int .i64 z, .int .i64 lo, .int .i64 hi] w fun e w' => e = .returned (.bool true) ∧ w = w' :=
  (s_l1In z lo hi w).mono fun _ _ ⟨he, hw⟩ => ⟨he.trans (r_b (in_yes h1 h2)), hw⟩
theorem s_l1In_no (z lo hi : Int) (w : World) (h : z < lo ∨ hi < z) : Calls Try.prog 126 #[.int .i64 z, .int .i64 lo, .int .i64 hi] w fun e w' => e = .returned (.bool false) ∧ w = w' :=
  (s_l1In z lo hi w).mono fun _ _ ⟨he, hw⟩ => ⟨he.trans (r_b (h.elim in_lo in_hi)), hw⟩
set_option maxHeartbeats 1600000 in
theorem s_l5Names (b v : Value) (ls : List Bool) (zs : List Int) (w : World) (hl : BoolsAt w b ls) (hz : IntsAt w v zs) (hm : zs.length ≤ 9223372036854775806) (hml : ls.length ≤ 9223372036854775806) : Calls Try.prog 88 #[b, v] w fun e w' => e = .returned (.bool (refsB ls zs)) ∧ w = w' := by
  have HL := Lib.hid hl
  obtain ⟨ba, bc, rfl⟩ := hl.shape
  obtain ⟨va, vc, rfl, hA⟩ := hz
  have HA := Lib.hid hA
  clear hl hA
  generalize hn : zs.length = n at *
  generalize hnl : ls.length = nl at *
  have HN := Lib.hid hn; have HNL := Lib.hid hnl; clear hn hnl
  go_enter Try.func88, Try.ntmps88
  go_wp2
  go_loop [9] (fun i => ∃ k : Nat, k ≤ n ∧ i = .int .i64 k ∧ Hid (refsB ls (zs.take k) = true)) (fun i => n - (intOf i).toNat)
  case atStart => exact ⟨0, Nat.zero_le _, rfl, by simp [Hid, refsB]⟩
  case round =>
    obtain ⟨k, hk, rfl, ht⟩ := hrel
    by_cases hlt : k < n
    · obtain ⟨g, off, rfl, hc⟩ := HA.out (by omega)
      have q := hc k hlt
      have i1 : (k : Int) < (n : Int) := by omega
      have hs := refsB_take_succ (l := ls) (zs := zs) (k := k) (by rw [HN.out]; exact hlt)
      have hf := refsB_false (l := ls) (zs := zs) (k := k) (by rw [HN.out]; exact hlt)
      have HS := Lib.hid hs; have HF := Lib.hid hf
      clear hc hs hf
      generalize zs.getD k 0 = z at *
      by_cases z1 : z < -1 ∨ (nl : Int) - 1 < z
      · have HE : Hid (refsB ls zs = false) := HF.out (by
          cases hq : refB ls z with
          | false => rfl
          | true =>
            rcases refB_iff.1 hq with h1 | h1
            · have := HNL.out; omega
            · have := liveB_lt h1; have := HNL.out; omega)
        have Z1 := Lib.hid z1
        clear z1 HS HF
        go_wp2_with (go_at_call 126; refine (s_l1In_no z (-1) (nl - 1) _ Z1.out).mono ?_; rintro e w1 ⟨rfl, rfl⟩)
        go_ret
        exact ⟨r_b HE.out.symm, rfl⟩
      · have Z1 : Hid (-1 ≤ z ∧ z ≤ (nl : Int) - 1) := ⟨by omega, by omega⟩
        by_cases z0 : z < 0
        · have HE : Hid (refsB ls (zs.take (k + 1)) = true) := by
            unfold Hid; rw [HS.out, ht.out, refB_iff.2 (.inl (by omega))]; rfl
          have i2 : ¬ 0 ≤ z := by omega
          clear z1 HS HF
          go_wp2_with (go_at_call 126; refine (s_l1In_yes z (-1) (nl - 1) _ Z1.out.1 Z1.out.2).mono ?_; rintro e w1 ⟨rfl, rfl⟩)
          go_round
          case rel => exact ⟨k + 1, by omega, by go_num, HE.out⟩
          case measure => simp [intOf]; omega
        · obtain ⟨j, rfl⟩ : ∃ j : Nat, z = j := ⟨z.toNat, by omega⟩
          have hj : j < nl := by omega
          obtain ⟨gl, ol, rfl, hcl⟩ := HL.out.at' (by omega)
          have ql := hcl j hj
          have hrx : refB ls (j : Int) = ls.getD j false := by
            unfold refB liveB
            rw [decide_eq_false (show ¬ (j : Int) = -1 by omega), decide_eq_true (show (0 : Int) ≤ (j : Int) by omega)]; simp
          have HRX := Lib.hid hrx
          clear hcl hrx z0 z1
          generalize ls.getD j false = x at *
          have i2 : (0 : Int) ≤ (j : Int) := by omega
          have i3 : (j : Int) < (nl : Int) := by omega
          cases x
          · have HE : Hid (refsB ls zs = false) := HF.out HRX.out
            clear HS HF
            go_wp2_with (go_at_call 126; refine (s_l1In_yes j (-1) (nl - 1) _ Z1.out.1 Z1.out.2).mono ?_; rintro e w1 ⟨rfl, rfl⟩)
            go_ret
            exact ⟨r_b HE.out.symm, rfl⟩
          · have HE : Hid (refsB ls (zs.take (k + 1)) = true) := by
              unfold Hid; rw [HS.out, ht.out, HRX.out]; rfl
            clear HS HF
            go_wp2_with (go_at_call 126; refine (s_l1In_yes j (-1) (nl - 1) _ Z1.out.1 Z1.out.2).mono ?_; rintro e w1 ⟨rfl, rfl⟩)
            go_round
            case rel => exact ⟨k + 1, by omega, by go_num, HE.out⟩
            case measure => simp [intOf]; omega
    · have HE : Hid (refsB ls zs = true) := by
        unfold Hid
        have := ht.out
        rwa [List.take_of_length_le (by rw [HN.out]; omega)] at this
      go_wp2
      go_ret
      exact ⟨r_b HE.out.symm, rfl⟩
end Go.Proofs.Ytkkigoamphkalaa
namespace Go.Proofs.Ytkkigoamphkalaa
open Go.RowKit Ph

set_option maxRecDepth 100000 in
set_option maxHeartbeats 3200000 in
theorem s_GoodHeap (a b c : Value) (h : H) (w : World) (hh : HeapAt w a b c h) : Calls Try.prog 80 #[hv a b c] w fun e w' => e = .returned (.bool (good h)) ∧ Below w.heap.size w w' := by
  obtain ⟨hF, hL, hR⟩ := hh
  have hb0 := below1 w (.cells (c3 a b c) 30)
  have HF := Lib.hid (hF.below hb0)
  have HL := Lib.hid (hL.below hb0)
  have HR := Lib.hid (hR.below hb0)
  have R0 := Lib.hid (show RowH _ _ a b c from Row.new w 30 (c3 a b c))
  have HB := Lib.hid hb0
  obtain ⟨fa, fc, rfl⟩ := hF.shape
  obtain ⟨la, lc, rfl⟩ := hL.shape
  obtain ⟨ra, rc, rfl⟩ := hR.shape
  clear hF hL hR hb0
  have HM := Lib.hid (good_many (h := h))
  have HLN := Lib.hid (good_lens (h := h))
  have HG : Hid (∀ i, i < h.f.length → rowB h.l (h.l.getD i false) (h.f.getD i []) = false → good h = false) := fun i => good_row
  have HG4 : Hid (4 < h.r.length → good h = false) := good_roots
  have HGR : Hid (refsB h.l h.r = false → good h = false) := good_rr
  have HGA := Lib.hid (good_all (h := h))
  generalize hnf : h.f.length = n at *
  generalize hnl : h.l.length = nl at *
  generalize hnr : h.r.length = nr at *
  have HNF := Lib.hid hnf; have HNR := Lib.hid hnr; have HNL := Lib.hid hnl
  clear hnf hnr hnl
  by_cases n1 : 12 < n
  · have HE := Lib.hid (HM.out n1)
    have i1 : (12 : Int) < (n : Int) := by omega
    clear HF HL HR R0
    go_enter Try.func80, Try.ntmps80
    go_wp2
    go_ret
    exact ⟨r_b HE.out.symm, HB.out⟩
  · by_cases n2 : nl = n
    · have n2' := n2.symm
      subst n2'
      clear n2
      have i1 : ¬ (12 : Int) < (n : Int) := by omega
      have i2 : ((n : Int) != (n : Int)) = false := by simp
      by_cases n4 : nr ≤ 4
      · have i4 : ¬ (4 : Int) < (nr : Int) := by omega
        have HRX := Lib.hid (s_l5Names (.slice la n lc) (.slice ra nr rc) h.l h.r _ HL.out HR.out (by rw [HNR.out]; omega) (by rw [HNL.out]; omega))
        have HNM : Hid (n ≤ 9223372036854775806) := by unfold Hid; omega
        generalize hx : refsB h.l h.r = x at *
        cases x
        · have HE := Lib.hid (HGR.out rfl)
          clear hx
          go_enter Try.func80, Try.ntmps80
          go_wp2_with (go_at_call 88; refine HRX.out.mono ?_; rintro e w1 ⟨rfl, rfl⟩)
          go_ret
          exact ⟨r_b HE.out.symm, HB.out⟩
        · have HA : Hid (rowsB h.l h.f n = true → good h = true) := fun h3 => HGA.out (by omega) rfl h3 n4 rfl
          clear hx
          go_enter Try.func80, Try.ntmps80
          go_wp2_with (go_at_call 88; refine HRX.out.mono ?_; rintro e w1 ⟨rfl, rfl⟩)
          clear HRX
          generalize (w.alloc (.cells (c3 (.slice fa n fc) (.slice la n lc) (.slice ra nr rc)) 30)) = w0 at *
          go_loop [35] (fun i => ∃ k : Nat, k ≤ n ∧ i = .int .i64 k ∧ Hid (rowsB h.l h.f k = true)) (fun i => n - (intOf i).toNat)
          case atStart => exact ⟨0, Nat.zero_le _, rfl, by simp [Hid, rowsB]⟩
          case round =>
            obtain ⟨k, hk, rfl, ht⟩ := hrel
            have c0 := R0.out.c0
            have c1 := R0.out.c1
            have c2 := R0.out.c2
            by_cases hlt : k < n
            · obtain ⟨gf, of, rfl, hcf⟩ := HF.out.at' (by omega)
              have L1 := Lib.hid HL.out
              obtain ⟨gl, ol, rfl, hcl⟩ := HL.out.at' (by omega)
              obtain ⟨u, qf, hu⟩ := hcf k hlt
              have ql := hcl k hlt
              obtain ⟨ua, uc, rfl⟩ := hu.shape
              have HU := Lib.hid hu
              have i3 : (k : Int) < (n : Int) := by omega
              have hg := HG.out k hlt
              have hs := rowsB_succ (l := h.l) (fs := h.f) (n := k)
              rw [ht.out, Bool.true_and] at hs
              clear hcf hcl hu
              generalize h.f.getD k [] = zs at *
              generalize hon : h.l.getD k false = on at *
              have HS := Lib.hid hs; have HG' := Lib.hid hg
              clear hs hg hon
              by_cases m3 : 3 < zs.length
              · have HE := Lib.hid (HG'.out (row_long m3))
                generalize zs.length = m at *
                have j0 : (3 : Int) < (m : Int) := by omega
                go_wp2_with fail
                go_ret
                exact ⟨r_b HE.out.symm, HB.out⟩
              · by_cases m0 : on = false ∧ 0 < zs.length
                · obtain ⟨rfl, m0⟩ := m0
                  have HE := Lib.hid (HG'.out (row_dead m0))
                  generalize zs.length = m at *
                  have j0 : (0 : Int) < (m : Int) := by omega
                  have j3 : ¬ (3 : Int) < (m : Int) := by omega
                  go_wp2_with fail
                  go_ret
                  exact ⟨r_b HE.out.symm, HB.out⟩
                · have j3 : ¬ (3 : Int) < (zs.length : Int) := by omega
                  have hok := row_ok (l := h.l) (on := on) (zs := zs) (by omega) (by cases on; (right; intro h0; exact m0 ⟨rfl, h0⟩); (left; rfl))
                  have hbad := row_bad (l := h.l) (on := on) (zs := zs)
                  have hcall := s_l5Names _ _ h.l zs w0 L1.out HU.out (by omega) (by rw [HNL.out]; exact HNM.out)
                  generalize hx : refsB h.l zs = x at *
                  have HX := Lib.hid hx; have HOK := Lib.hid hok; have HBAD := Lib.hid hbad; have HC := Lib.hid hcall
                  clear hx hok hbad hcall
                  have j0 : on = false → ¬ (0 : Int) < (zs.length : Int) := fun h1 h2 => m0 ⟨h1, by omega⟩
                  have J0 := Lib.hid j0
                  clear m0 m3 j0
                  generalize zs.length = m at *
                  cases x
                  · have HE := Lib.hid (HG'.out (HBAD.out rfl))
                    cases on
                    · have j0 := J0.out rfl
                      obtain rfl : m = 0 := by omega
                      clear j0 J0
                      go_wp2_with (go_at_call 88; refine HC.out.mono ?_; rintro e w1 ⟨rfl, rfl⟩)
                      go_ret
                      exact ⟨r_b HE.out.symm, HB.out⟩
                    · go_wp2_with (go_at_call 88; refine HC.out.mono ?_; rintro e w1 ⟨rfl, rfl⟩)
                      go_ret
                      exact ⟨r_b HE.out.symm, HB.out⟩
                  · have HE : Hid (rowsB h.l h.f (k + 1) = true) := by unfold Hid; rw [HS.out]; exact HOK.out rfl
                    cases on
                    · have j0 := J0.out rfl
                      obtain rfl : m = 0 := by omega
                      clear j0 J0
                      go_wp2_with (go_at_call 88; refine HC.out.mono ?_; rintro e w1 ⟨rfl, rfl⟩)
                      go_round
                      case rel => exact ⟨k + 1, by omega, by go_num, HE.out⟩
                      case measure => simp [intOf]; omega
                    · go_wp2_with (go_at_call 88; refine HC.out.mono ?_; rintro e w1 ⟨rfl, rfl⟩)
                      go_round
                      case rel => exact ⟨k + 1, by omega, by go_num, HE.out⟩
                      case measure => simp [intOf]; omega
            · obtain rfl : k = n := by omega
              have HE := Lib.hid (HA.out ht.out)
              go_wp2_with fail
              go_ret
              exact ⟨r_b HE.out.symm, HB.out⟩
      · have HE := Lib.hid (HG4.out (by omega))
        have j4 : (4 : Int) < (nr : Int) := by omega
        clear HF HL HR R0
        go_enter Try.func80, Try.ntmps80
        go_wp2
        go_ret
        exact ⟨r_b HE.out.symm, HB.out⟩
    · have HE := Lib.hid (HLN.out n2)
      have i2 : ((nl : Int) != (n : Int)) = true := by rw [bne_iff_ne]; omega
      have i1 : ¬ (12 : Int) < (n : Int) := by omega
      clear n2 HF HL HR R0
      go_enter Try.func80, Try.ntmps80
      go_wp2
      go_ret
      exact ⟨r_b HE.out.symm, HB.out⟩
end Go.Proofs.Ytkkigoamphkalaa
namespace Go.Proofs.Ytkkigoamphkalaa
open Go.RowKit Ph

structure Que (w : World) (lo b off cap : Nat) (zs : List Int) : Prop where
  lo : lo ≤ b
  lt : b < w.heap.size
  le : zs.length ≤ cap
  at' : ∀ i, i < zs.length → w.cell? ⟨b, off + i, none⟩ = some (.int .i64 (zs.getD i 0))
  there : ∀ i, i < cap → (w.cell? ⟨b, off + i, none⟩).isSome = true
  free : ∀ i, w.frozen? ⟨b, off + i, none⟩ = false
theorem Que.kept {w w' : World} {lo b off cap : Nat} {zs : List Int} (h : Que w lo b off cap zs) (hs : w.heap.size ≤ w'.heap.size) (hb : w'.heap[b]? = w.heap[b]?) : Que w' lo b off cap zs := by
  have hc : ∀ k, w'.cell? ⟨b, k, none⟩ = w.cell? ⟨b, k, none⟩ := fun k => World.cell?_of_block (a := ⟨b, k, none⟩) hb
  have hf : ∀ k, w'.frozen? ⟨b, k, none⟩ = w.frozen? ⟨b, k, none⟩ := fun k => World.frozen?_of_block (a := ⟨b, k, none⟩) hb
  exact ⟨h.lo, Nat.lt_of_lt_of_le h.lt hs, h.le, fun i hi => by rw [hc]; exact h.at' i hi, fun i hi => by rw [hc]; exact h.there i hi, fun i => by rw [hf]; exact h.free i⟩
theorem Que.tail {w : World} {lo b off cap : Nat} {z : Int} {zs : List Int} (h : Que w lo b off cap (z :: zs)) : Que w lo b (off + 1) (cap - 1) zs := by
  have hl := h.le
  simp only [List.length_cons] at hl
  refine ⟨h.lo, h.lt, by omega, fun i hi => ?_, fun i hi => ?_, fun i => ?_⟩
  · have := h.at' (i + 1) (by simp; omega)
    rw [show off + 1 + i = off + (i + 1) by omega, this]
    simp
  · rw [show off + 1 + i = off + (i + 1) by omega]; exact h.there (i + 1) (by omega)
  · rw [show off + 1 + i = off + (i + 1) by omega]; exact h.free (i + 1)
theorem Que.tail0 {w : World} {lo b off cap : Nat} {z : Int} {zs : List Int} (h : Que w lo b off cap (z :: zs)) (h1 : cap = 1) : Que w lo b off (cap - 1) zs := by
  have hl := h.le
  simp only [List.length_cons] at hl
  exact ⟨h.lo, h.lt, by omega, fun i hi => by omega, fun i hi => by omega, h.free⟩
theorem Que.ofOwn {w : World} {lo : Nat} {v : Value} {zs : List Int} (h : Own w lo v zs) (h0 : 0 < zs.length) : ∃ b cap, v = .slice (some ⟨b, 0, none⟩) zs.length cap ∧ Que w lo b 0 cap zs := by
  have h' := h
  unfold Own at h'
  rcases h.2 with ⟨_, h2⟩ | ⟨g, cap, cur, rfl, hg, hh, hle, _, hcs, _⟩
  · omega
  · refine ⟨g, cap, rfl, hg, ?_, hle, fun i hi => ?_, fun i hi => ?_, fun i => ?_⟩
    · exact (owns_lt h' rfl).2
    · rw [Nat.zero_add, h'.cellAt i (by omega), List.getElem?_map, List.getElem?_eq_getElem hi]
      simp [List.getD, List.getElem?_eq_getElem hi]
    · rw [Nat.zero_add]
      have : w.cell? ⟨g, i, none⟩ = cur[i]? := cell_of_row w g i _ _ _ hh
      rw [this]
      simp; omega
    · rw [Nat.zero_add]; exact frozen_of_row w g i _ _ hh
theorem ints_src {w : World} {x : Value} {ys : List Int} (h : IntsAt w x ys) : ∃ ao c, x = .slice ao ys.length c ∧ Src Try.prog 1 24 x ys.length (ys.map (Value.int .i64)) w ∧ (0 < ys.length → ∃ ad, ao = some ad ∧ ∀ j u, (ys.map (Value.int .i64))[j]? = some u → w.cell? (ad.add j) = some u) := by
  obtain ⟨ao, c, rfl, hc⟩ := h
  refine ⟨ao, c, rfl, ?_, fun h0 => ?_⟩
  · cases ao with
    | none =>
      have : ys = [] := by
        cases ys with
        | nil => rfl
        | cons y ys => obtain ⟨b, off, hb, _⟩ := hc (by simp); cases hb
      subst this
      exact Src.ofNil w Try.underlying24 c
    | some ad =>
      refine Src.ofSlice w Try.underlying24 ad _ c _ (by simp) (fun j u hu => ?_) (fun u hu => by obtain ⟨_, _, rfl⟩ := List.mem_map.1 hu; rfl)
      have hj : j < ys.length := by
        have := List.getElem?_eq_some_iff.1 hu
        obtain ⟨h1, _⟩ := this
        simpa using h1
      obtain ⟨b, off, hb, hcc⟩ := hc (by omega)
      cases hb
      have := hcc j hj
      rw [Addr.add_lit]
      rw [this]
      rw [List.getElem?_map, List.getElem?_eq_getElem hj] at hu
      simp only [Option.map_some, Option.some.injEq] at hu
      rw [← hu]; simp [List.getD, List.getElem?_eq_getElem hj]
  · obtain ⟨b, off, rfl, hcc⟩ := hc h0
    refine ⟨_, rfl, fun j u hu => ?_⟩
    have hj : j < ys.length := by
      obtain ⟨h1, _⟩ := List.getElem?_eq_some_iff.1 hu
      simpa using h1
    have := hcc j hj
    rw [Addr.add_lit]
    rw [this]
    rw [List.getElem?_map, List.getElem?_eq_getElem hj] at hu
    simp only [Option.map_some, Option.some.injEq] at hu
    rw [← hu]; simp [List.getD, List.getElem?_eq_getElem hj]
theorem grownBy_setCells (w : World) (g o : Nat) : ∀ (vs : List Value), w.grownBy (w.setCells g o vs) (some g) := by
  intro vs
  induction vs generalizing w o with
  | nil => exact World.grownBy.refl _ _
  | cons v vs ih =>
    have h1 : w.grownBy (w.setCell ⟨g, o, none⟩ v) (some g) := ⟨rfl, rfl, rfl, by rw [World.size_setCell]; exact Nat.le_refl _, fun i _ hne => heap_setCell_other w ⟨g, o, none⟩ i _ (fun e => hne (by rw [e]))⟩
    exact grownBy_trans h1 (ih _ _)
/-- What an append makes of a queue. -/
theorem wl_appQ (w : World) {ops : Array Oper} {rest : List Oper} {o : Oper} {q : Act} {Q : Exit → Act → World → Prop} (hg : o.guard = none) (s x : Operand) (hop : o.op = Op.call { callee := Callee.builtin Builtin.append, args := #[s, x], argTypes := #[24, 24] })
    (lo b off cap : Nat) (zs : List Int) (hs : q.eval s = .slice (some ⟨b, off, none⟩) zs.length cap) (hQ : Que w lo b off cap zs) (y : Value) (ys : List Int) (hx : q.eval x = y) (hy : IntsAt w y ys) (hlo : lo ≤ w.heap.size) (hm : zs.length + ys.length ≤ 1000000)
    (hK : ∀ b' off' cap' w', Que w' lo b' off' cap' (zs ++ ys) → w.grownBy w' (some b) → wpList Try.prog ops Q rest (q.put o.dst (.slice (some ⟨b', off', none⟩) (zs ++ ys).length cap')) w') : wpList Try.prog ops Q (o :: rest) q w := by
  obtain ⟨i, hi, hz0, hz1, hz2⟩ := info_parts info_int
  obtain ⟨ao, c, rfl, hsrc, hcell⟩ := ints_src hy
  by_cases hfit : zs.length + ys.length ≤ cap
  · have hrun := run_append_room_src (P := Try.prog) w 24 24 o.type 3 i Try.underlying24 hi b off zs.length cap _ ys.length (ys.map (Value.int .i64)) (by rw [hz1]; exact hsrc) hfit
      (fun j hj => by rw [hz1, Nat.mul_one, Nat.add_assoc]; exact hQ.there _ (by simp at hj; omega)) (fun j hj => by rw [hz1, Nat.mul_one, Nat.add_assoc]; exact hQ.free _)
    rw [hz1, Nat.mul_one] at hrun
    have hgr := grownBy_setCells w b (off + zs.length) (ys.map (Value.int .i64))
    have hQ' : Que (w.setCells b (off + zs.length) (ys.map (Value.int .i64))) lo b off cap (zs ++ ys) := by
      refine ⟨hQ.lo, Nat.lt_of_lt_of_le hQ.lt hgr.size, by simp; omega, fun k hk => ?_, fun k hk => ?_, fun k => ?_⟩
      · by_cases e : k < zs.length
        · rw [World.cell?_setCells_out b _ _ w ⟨b, off + k, none⟩ (fun _ _ => .inl (by simp only; omega)), hQ.at' k e]
          simp [List.getD, List.getElem?_append_left e]
        · have hk' : k - zs.length < ys.length := by simp at hk; omega
          have := World.cell?_setCells_in b (ys.map (Value.int .i64)) (off + zs.length) w (fun j hj => by rw [Nat.add_assoc]; exact hQ.there _ (by simp at hj; omega)) (k - zs.length) (by simp; omega)
          rw [show off + zs.length + (k - zs.length) = off + k by omega] at this
          rw [this]
          simp [List.getD, List.getElem?_append_right (show zs.length ≤ k by omega), List.getElem?_eq_getElem hk']
      · by_cases e : k < zs.length ∨ zs.length + ys.length ≤ k
        · rw [World.cell?_setCells_out b _ _ w ⟨b, off + k, none⟩ (fun _ _ => by simp only [List.length_map]; omega)]; exact hQ.there k hk
        · have hk' : k - zs.length < ys.length := by omega
          have := World.cell?_setCells_in b (ys.map (Value.int .i64)) (off + zs.length) w (fun j hj => by rw [Nat.add_assoc]; exact hQ.there _ (by simp at hj; omega)) (k - zs.length) (by simp; omega)
          rw [show off + zs.length + (k - zs.length) = off + k by omega] at this
          rw [this]; rfl
      · rw [World.frozen?_setCells]; exact hQ.free k
    refine wpList_plain hg fun K hK' => ?_
    have hh := hK b off cap _ hQ' hgr
    rw [List.length_append] at hh
    unfold Oper.wp
    simp [execOp, hop, resolve, invoke, builtin, hs, hx, hrun, Result.andThen]
    exact hK' _ _ hh
  · obtain ⟨ad, rfl, hnews⟩ := hcell (by have := hQ.le; omega)
    refine wpList_append_grows w hg s x 24 hop 3 i (.int .i64 0) 1 8 Try.underlying24 hi hz0 hz1 hz2 rfl (by omega) (some ⟨b, off, none⟩) zs.length cap (zs.map (Value.int .i64)) hs (fun h => by cases h) (by simp) (fun b' hb' j u hu => ?_) ad ys.length c (ys.map (Value.int .i64)) hx (by simp) hnews (fun u hu => by obtain ⟨_, _, rfl⟩ := List.mem_map.1 hu; rfl) (by omega) (by unfold maxLen; omega) (by omega) ?_
    · cases hb'
      have hj : j < zs.length := by
        obtain ⟨h1, _⟩ := List.getElem?_eq_some_iff.1 hu
        simpa using h1
      have := hQ.at' j hj
      rw [Addr.add_lit]
      rw [this]
      rw [List.getElem?_map, List.getElem?_eq_getElem hj] at hu
      simp only [Option.map_some, Option.some.injEq] at hu
      rw [← hu]; simp [List.getD, List.getElem?_eq_getElem hj]
    · intro v' w' hown hgr
      have ho : Own w' w.heap.size v' (zs ++ ys) := by unfold Own; rw [List.length_append, List.map_append]; exact hown
      obtain ⟨b', cap', rfl, hq⟩ := Que.ofOwn ho (by rw [List.length_append]; have := hQ.le; omega)
      exact hK b' 0 cap' w' ⟨Nat.le_trans hlo hq.lo, hq.lt, hq.le, hq.at', hq.there, hq.free⟩ ⟨hgr.os, hgr.tape, hgr.output, hgr.size, fun i hi _ => hgr.block i hi (by simp)⟩
end Go.Proofs.Ytkkigoamphkalaa
namespace Go.Proofs.Ytkkigoamphkalaa.Ph
theorem left_rep (n : Nat) : left (List.replicate n false) = n := by unfold left; simp
end Go.Proofs.Ytkkigoamphkalaa.Ph
namespace Go.Proofs.Ytkkigoamphkalaa
open Go.RowKit Ph

theorem que_nil (w : World) (lo : Nat) (hlo : lo ≤ w.heap.size) : Que (w.alloc (.cells #[] 3)) lo w.heap.size 0 0 [] :=
  ⟨hlo, by simp, Nat.le_refl _, fun i hi => by simp at hi, fun i hi => by omega, fun i => by rw [Nat.zero_add]; exact Row.frozen (Row.new w 3 #[]) i⟩
set_option maxRecDepth 100000 in
set_option maxHeartbeats 6400000 in
theorem s_l5From (a b' c v : Value) (h : H) (zs : List Int) (w : World) (hA : HeapAt w a b' c h) (hG : Ph.Good h) (hz : IntsAt w v zs) (hzl : zs.length ≤ 12) (hzr : ∀ z ∈ zs, inR h.f.length z) :
    Calls Try.prog 89 #[hv a b' c, v] w fun e w' => ∃ v', e = .returned v' ∧ OwnBs w' w.heap.size v' (reachL h.f zs) ∧ Below w.heap.size w w' := by
  obtain ⟨i0, hi, hz0, hz1, hz2⟩ := info_parts info_boolz
  have hrow : ∀ i, i < h.f.length → ∀ z ∈ h.f.getD i [], inR h.f.length z := fun i _ z hz => (hG.field hz).imp id (fun h => ⟨h.1, h.2.1⟩)
  have hrl : ∀ i, i < h.f.length → (h.f.getD i []).length ≤ 3 := fun i hi => (hG.row i hi).1
  have hn1 := hG.n
  obtain ⟨fa, fc, rfl⟩ := hA.f.shape
  obtain ⟨va, vc, hva⟩ := hz.shape
  have HF := Lib.hid hA.f; have HZ := Lib.hid hz; have HR := Lib.hid hrow; have HRL := Lib.hid hrl; have HZR := Lib.hid hzr
  have HST := Lib.hid (Bfs.start h.f zs)
  clear hA hG hz hrow hrl hzr
  generalize hn : h.f.length = n at *
  have HN := Lib.hid hn; clear hn
  have HVA := Lib.hid hva
  clear hva
  have hb0 := Lib.hid (below1 w (.cells (c3 (.slice fa n fc) b' c) 30))
  have R0 := Lib.hid (show RowH _ _ (.slice fa n fc) b' c from Row.new w 30 (c3 (.slice fa n fc) b' c))
  go_enter Try.func89, Try.ntmps89
  go_wp2_with (first
    | (at_make; refine wpList_make_full _ rfl _ _ 23 rfl w.heap.size 4 i0 (.bool false) 1 Try.underlying23 hi hz0 hz1 .i64 .i64 _ _ n rfl rfl rfl rfl (by rw [hz2]; omega) (by unfold maxLen; omega) (by simp) ?_; intro w1 hown hgr
       rw [rep_bools] at hown
       have hsz0 : (w.alloc (.cells (c3 (.slice fa n fc) b' c) 30)).heap.size = w.heap.size + 1 := by simp
       rw [hsz0] at hown
       have lt1 : w.heap.size + 1 < w1.heap.size := (owns_lt hown rfl).2
       have o1 : OwnBs w1 w.heap.size (.slice (some ⟨w.heap.size + 1, 0, none⟩) n n) (List.replicate n false) := by unfold OwnBs; rw [List.length_replicate]; exact hown
       have b1 := hb0.out.grown hgr hb0.out.size (fun k hk => by cases hk)
       have O1 := Lib.hid o1; have B1 := Lib.hid b1; have R1 := Lib.hid (Row.grown R0.out hgr); have LT1 := Lib.hid lt1
       clear hown hgr hsz0 o1 b1 lt1)
    | (at_builtin; refine wl_appQ _ rfl _ _ rfl (w.heap.size + 2) w1.heap.size 0 0 [] rfl (que_nil w1 _ (by have := LT1.out; omega)) v zs rfl (HZ.out.below (bst B1.out (below1 w1 (.cells #[] 3)) (by have := LT1.out; omega))) (by have := LT1.out; simp; omega) (by simp; omega) ?_
       intro b2 o2 k2 w2 hq2 hg2
       have b2' := (bst B1.out (below1 w1 (.cells #[] 3)) (by have := LT1.out; omega)).grown hg2 (by have := LT1.out; simp; omega) (fun k hk => by cases hk; have := LT1.out; omega)
       have e2 : OwnBs w2 w.heap.size (.slice (some ⟨w.heap.size + 1, 0, none⟩) n n) (List.replicate n false) := owns_block (OwnBs.below O1.out (below1 w1 (.cells #[] 3))) (fun g hg => hg2.block g (by have := LT1.out; cases hg; simp; omega) (by have := LT1.out; cases hg; simp; omega))
       have r2 := Row.grownBy (R1.out.alloc (.cells #[] 3)) hg2 (by have := LT1.out; simp; omega)
       have Q2 := Lib.hid hq2; have B2 := Lib.hid b2'; have O2 := Lib.hid e2; have R2 := Lib.hid r2
       clear hq2 hg2 b2' e2 r2))
  rw [List.nil_append] at Q2
  clear O1 B1 R1 hb0 R0 HZ HVA
  have LTW : Hid (w.heap.size + 2 ≤ w2.heap.size) := by unfold Hid; have := Q2.out.lt; have := Q2.out.lo; omega
  go_loopg [6] (4 * n + zs.length) (fun k q wr => ∃ (b off cap : Nat) (zq : List Int) (S : List Bool), q = .slice (some ⟨b, off, none⟩) zq.length cap ∧ Hid (k = 4 * left S + zq.length) ∧ k ≤ 60 ∧ Hid (Que wr (w.heap.size + 2) b off cap zq) ∧ Hid (Bfs h.f zs zq S) ∧ Hid (∀ z ∈ zq, inR n z) ∧ Hid (OwnBs wr w.heap.size (.slice (some ⟨w.heap.size + 1, 0, none⟩) n n) S) ∧ Hid (RowH wr w.heap.size (.slice fa n fc) b' c) ∧ Hid (Below w.heap.size w wr) ∧ Hid (w.heap.size + 2 ≤ wr.heap.size))
  case atStart => exact ⟨b2, o2, k2, zs, List.replicate n false, rfl, by rw [left_rep]; exact rfl, by omega, Q2, HST, HZR, O2, R2, B2, LTW⟩
  case round =>
    obtain ⟨b, off, cap, zq, S, rfl, hgk, hg60, hq, hbf, hzq, hos, hrw, hbw, hlw⟩ := hrel
    have hSl : S.length = n := by rw [hbf.out.len, HN.out]
    cases zq with
    | nil =>
      have HE := Lib.hid hbf.out.done
      simp only [List.length_nil]
      go_wp2_with fail
      go_ret
      exact ⟨_, rfl, by rw [← HE.out]; exact hos.out, hbw.out⟩
    | cons z zq =>
      have q0 := hq.out.at' 0 (by simp)
      have hin := hzq.out z (by simp)
      have hcap := hq.out.le
      have HQ0 : Hid (cap = 1 → Que wr (w.heap.size + 2) b off (cap - 1) zq) := hq.out.tail0
      have HQ1 := Lib.hid hq.out.tail
      have HZT : Hid (∀ y ∈ zq, inR n y) := fun y hy => hzq.out y (List.mem_cons_of_mem _ hy)
      simp only [List.getD_cons_zero, Nat.add_zero] at q0
      simp only [List.length_cons] at hgk hcap ⊢
      generalize hql : zq.length = ql at *
      have HQL := Lib.hid hql
      have ipos : (0 : Int) < ((ql + 1 : Nat) : Int) := by omega
      clear hql hzq
      by_cases hc1 : cap = 1
      · subst hc1
        obtain rfl : ql = 0 := by omega
        obtain rfl : zq = [] := List.eq_nil_of_length_eq_zero HQL.out
        have HQT : Hid (Que wr (w.heap.size + 2) b off 0 []) := HQ0.out rfl
        clear HQ0 HQ1
        by_cases z0 : z < 0
        · have HS1 : Hid (Bfs h.f zs [] S) := hbf.out.skip (.inl z0)
          clear hin
          go_wp2_with fail
          go_roundg (4 * left S)
          case measure => have := hgk.out; omega
          case rel => exact ⟨b, off, 0, [], S, rfl, rfl, by have := hgk.out; omega, HQT, HS1, HZT, hos, hrw, hbw, hlw⟩
        · obtain ⟨t, rfl⟩ : ∃ t : Nat, z = t := ⟨z.toNat, by omega⟩
          have htn : t < n := by unfold inR at hin; omega
          obtain ⟨s1, s2, s3, s4⟩ := hos.out.stored hSl htn true
          have i2 : ¬ (t : Int) < 0 := by omega
          have i3 : (t : Int) < (n : Int) := by omega
          have i4 : (0 : Int) ≤ (t : Int) := by omega
          generalize hx : S.getD t false = x at *
          have HX := Lib.hid hx
          clear hin z0 hx
          cases x
          · have hls := left_set (S := S) (z := t) (by omega) HX.out
            obtain ⟨fb, fo, rfl, hcf⟩ := HF.out.at' (by omega)
            obtain ⟨u, quf, huf⟩ := hcf t htn
            have B1 : Below w.heap.size w (wr.setCell ⟨w.heap.size + 1, t, none⟩ (.bool true)) := hbw.out.setCell (p := ⟨w.heap.size + 1, t, none⟩) (by simp) (.bool true)
            have qu := cellBelow B1 (Nat.le_refl _) quf
            have U1 := Lib.hid (huf.below B1)
            have hqb := hq.out.lo
            have Q1 : Hid (Que (wr.setCell ⟨w.heap.size + 1, t, none⟩ (.bool true)) (w.heap.size + 2) b off 0 []) := HQT.out.kept s2.size (s2.block b HQT.out.lt (by simp; omega))
            have R1 : RowH (wr.setCell ⟨w.heap.size + 1, t, none⟩ (.bool true)) w.heap.size (.slice (some ⟨fb, fo, none⟩) n fc) b' c := Row.grownBy hrw.out s2 (by simp)
            have d0 := R1.c0
            have TK := Lib.hid (by have := hbf.out.take (z := t) (by rw [HN.out]; exact htn); rwa [List.nil_append] at this : Bfs h.f zs (h.f.getD t []) (S.set t true))
            have hrt := HR.out t htn
            have hlt3 := HRL.out t htn
            have HZA : Hid (∀ y ∈ h.f.getD t [], inR n y) := hrt
            have RR1 := Lib.hid R1; have BB1 := Lib.hid B1; have SS1 := Lib.hid s1; have HLS := Lib.hid hls
            have LL1 : Hid (w.heap.size + 2 ≤ (wr.setCell ⟨w.heap.size + 1, t, none⟩ (.bool true)).heap.size) := by unfold Hid; rw [World.size_setCell]; exact hlw.out
            obtain ⟨ua, uc, hu⟩ := huf.shape
            subst hu
            clear hls hcf huf quf B1 R1 s1 s2 hrt
            have HL3 := Lib.hid hlt3
            have HGT := Lib.hid (show (h.f.getD t []).length ≤ 1000000 by have := hgk.out; omega)
            generalize hrr : h.f.getD t [] = row at *
            have HRR := Lib.hid hrr
            clear hrr hlt3
            generalize hrl' : row.length = rl at *
            have HRLN := Lib.hid hrl'
            clear hrl'
            go_wp2_with (at_builtin; refine wl_appQ _ rfl _ _ rfl (w.heap.size + 2) b off 0 [] rfl Q1.out _ row rfl U1.out LL1.out (by have := HGT.out; simp only [List.length_nil, Nat.zero_add, HRLN.out]; exact this) ?_
                         intro b3 o3 k3 w3 hq3 hg3
                         have f1 : Hid (Que w3 (w.heap.size + 2) b3 o3 k3 row) := (by rw [List.nil_append] at hq3; exact hq3)
                         have f2 := Lib.hid (BB1.out.grown hg3 (by have := LL1.out; omega) (fun k hk => by cases hk; omega))
                         have f3 : Hid (OwnBs w3 w.heap.size (.slice (some ⟨w.heap.size + 1, 0, none⟩) n n) (S.set t true)) := owns_block SS1.out (fun g hg => hg3.block g (owns_lt SS1.out hg).2 (by cases hg; simp; omega))
                         have f4 : Hid (RowH w3 w.heap.size (.slice (some ⟨fb, fo, none⟩) n fc) b' c) := Row.grownBy RR1.out hg3 (by simp; omega)
                         have f5 : Hid (w.heap.size + 2 ≤ w3.heap.size) := Nat.le_trans LL1.out hg3.size
                         clear hq3 hg3)
            go_roundg (4 * left (S.set t true) + (row).length)
            case measure => rw [HRLN.out]; have := hgk.out; have := HLS.out; have := HL3.out; omega
            case rel => exact ⟨b3, o3, k3, row, S.set t true, rfl, rfl, by rw [HRLN.out]; have := hgk.out; have := HLS.out; have := HL3.out; omega, f1, TK, HZA, f3, f4, f2, f5⟩
          · have HS1 : Hid (Bfs h.f zs [] S) := hbf.out.skip (.inr (by simpa using HX.out))
            go_wp2_with fail
            go_roundg (4 * left S)
            case measure => have := hgk.out; omega
            case rel => exact ⟨b, off, 0, [], S, rfl, rfl, by have := hgk.out; omega, HQT, HS1, HZT, hos, hrw, hbw, hlw⟩
      · have HQT := HQ1
        clear HQ0 HQ1
        by_cases z0 : z < 0
        · have HS1 : Hid (Bfs h.f zs zq S) := hbf.out.skip (.inl z0)
          clear hin
          go_wp2_with fail
          go_roundg (4 * left S + ql)
          case measure => have := hgk.out; omega
          case rel => exact ⟨b, off + 1, cap - 1, zq, S, by simp [HQL.out], by rw [HQL.out]; exact rfl, by have := hgk.out; omega, HQT, HS1, HZT, hos, hrw, hbw, hlw⟩
        · obtain ⟨t, rfl⟩ : ∃ t : Nat, z = t := ⟨z.toNat, by omega⟩
          have htn : t < n := by unfold inR at hin; omega
          obtain ⟨s1, s2, s3, s4⟩ := hos.out.stored hSl htn true
          have i2 : ¬ (t : Int) < 0 := by omega
          have i3 : (t : Int) < (n : Int) := by omega
          have i4 : (0 : Int) ≤ (t : Int) := by omega
          generalize hx : S.getD t false = x at *
          have HX := Lib.hid hx
          clear hin z0 hx
          cases x
          · have hls := left_set (S := S) (z := t) (by omega) HX.out
            obtain ⟨fb, fo, rfl, hcf⟩ := HF.out.at' (by omega)
            obtain ⟨u, quf, huf⟩ := hcf t htn
            have B1 : Below w.heap.size w (wr.setCell ⟨w.heap.size + 1, t, none⟩ (.bool true)) := hbw.out.setCell (p := ⟨w.heap.size + 1, t, none⟩) (by simp) (.bool true)
            have qu := cellBelow B1 (Nat.le_refl _) quf
            have U1 := Lib.hid (huf.below B1)
            have hqb := hq.out.lo
            have Q1 : Hid (Que (wr.setCell ⟨w.heap.size + 1, t, none⟩ (.bool true)) (w.heap.size + 2) b (off + 1) (cap - 1) zq) := HQT.out.kept s2.size (s2.block b HQT.out.lt (by simp; omega))
            have R1 : RowH (wr.setCell ⟨w.heap.size + 1, t, none⟩ (.bool true)) w.heap.size (.slice (some ⟨fb, fo, none⟩) n fc) b' c := Row.grownBy hrw.out s2 (by simp)
            have d0 := R1.c0
            have TK := Lib.hid (hbf.out.take (z := t) (by rw [HN.out]; exact htn))
            have hrt := HR.out t htn
            have hlt3 := HRL.out t htn
            have HZA : Hid (∀ y ∈ zq ++ h.f.getD t [], inR n y) := fun y hy => (List.mem_append.1 hy).elim (HZT.out y) (hrt y)
            have RR1 := Lib.hid R1; have BB1 := Lib.hid B1; have SS1 := Lib.hid s1; have HLS := Lib.hid hls
            have LL1 : Hid (w.heap.size + 2 ≤ (wr.setCell ⟨w.heap.size + 1, t, none⟩ (.bool true)).heap.size) := by unfold Hid; rw [World.size_setCell]; exact hlw.out
            obtain ⟨ua, uc, hu⟩ := huf.shape
            subst hu
            clear hls hcf huf quf B1 R1 s1 s2 hrt
            have HL3 := Lib.hid hlt3
            have HGT := Lib.hid (show zq.length + (h.f.getD t []).length ≤ 1000000 by rw [HQL.out]; have := hgk.out; omega)
            generalize hrr : h.f.getD t [] = row at *
            have HRR := Lib.hid hrr
            clear hrr hlt3
            generalize hrl' : row.length = rl at *
            have HRLN := Lib.hid hrl'
            clear hrl'
            go_wp2_with (at_builtin; refine wl_appQ _ rfl _ _ rfl (w.heap.size + 2) b (off + 1) (cap - 1) zq (by first | (rw [HQL.out]; rfl) | (simp [HQL.out])) Q1.out _ row rfl U1.out LL1.out (by rw [HRLN.out]; exact HGT.out) ?_
                         intro b3 o3 k3 w3 hq3 hg3
                         have f1 := Lib.hid hq3; have f2 := Lib.hid (BB1.out.grown hg3 (by have := LL1.out; omega) (fun k hk => by cases hk; omega))
                         have f3 : Hid (OwnBs w3 w.heap.size (.slice (some ⟨w.heap.size + 1, 0, none⟩) n n) (S.set t true)) := owns_block SS1.out (fun g hg => hg3.block g (owns_lt SS1.out hg).2 (by cases hg; simp; omega))
                         have f4 : Hid (RowH w3 w.heap.size (.slice (some ⟨fb, fo, none⟩) n fc) b' c) := Row.grownBy RR1.out hg3 (by simp; omega)
                         have f5 : Hid (w.heap.size + 2 ≤ w3.heap.size) := Nat.le_trans LL1.out hg3.size
                         clear hq3 hg3)
            go_roundg (4 * left (S.set t true) + (zq ++ row).length)
            case measure => rw [List.length_append, HQL.out, HRLN.out]; have := hgk.out; have := HLS.out; have := HL3.out; omega
            case rel => exact ⟨b3, o3, k3, zq ++ row, S.set t true, by rw [List.length_append], rfl, by rw [List.length_append, HQL.out, HRLN.out]; have := hgk.out; have := HLS.out; have := HL3.out; omega, f1, TK, HZA, f3, f4, f2, f5⟩
          · have HS1 : Hid (Bfs h.f zs zq S) := hbf.out.skip (.inr (by simpa using HX.out))
            go_wp2_with fail
            go_roundg (4 * left S + ql)
            case measure => have := hgk.out; omega
            case rel => exact ⟨b, off + 1, cap - 1, zq, S, by simp [HQL.out], by rw [HQL.out]; exact rfl, by have := hgk.out; omega, HQT, HS1, HZT, hos, hrw, hbw, hlw⟩
end Go.Proofs.Ytkkigoamphkalaa
namespace Go.Proofs.Ytkkigoamphkalaa.Ph
def inB (lo hi z : Int) : Bool := decide (lo ≤ z) && decide (z ≤ hi)
end Go.Proofs.Ytkkigoamphkalaa.Ph
namespace Go.Proofs.Ytkkigoamphkalaa
open Go.RowKit Ph

set_option maxHeartbeats 1600000 in
theorem s_l5Reached (a b c : Value) (h : H) (w : World) (hA : HeapAt w a b c h) (hG : Ph.Good h) : Calls Try.prog 81 #[hv a b c] w fun e w' => ∃ v', e = .returned v' ∧ OwnBs w' w.heap.size v' (reachL h.f h.r) ∧ Below w.heap.size w w' := by
  have hb0 := below1 w (.cells (c3 a b c) 30)
  have A0 := Lib.hid (hA.below hb0)
  have HB := Lib.hid hb0; have G := Lib.hid hG
  have R0 := Lib.hid (show RowH _ _ a b c from Row.new w 30 (c3 a b c))
  clear hA hb0 hG
  have c0 := R0.out.c0
  have c1 := R0.out.c1
  have c2 := R0.out.c2
  go_enter Try.func81, Try.ntmps81
  go_wp2_with fail
  refine (s_l5From a b c c h h.r _ A0.out G.out A0.out.r (by have := G.out.rn; omega) (fun z hz => (refs_bound G.out G.out.rr z hz).imp id (fun h => ⟨h.1, h.2.1⟩))).mono ?_
  rintro e w2 ⟨v', rfl, ho2, hb2⟩
  have B2 := Lib.hid (bst HB.out hb2 HB.out.size); have O2 := Lib.hid (show OwnBs w2 w.heap.size v' (reachL h.f h.r) from owns_mono ho2 fun g hg => Nat.le_trans HB.out.size (owns_lt ho2 hg).1)
  clear hb2 ho2
  go_wp2_with fail
  go_ret
  exact ⟨_, rfl, O2.out, B2.out⟩
end Go.Proofs.Ytkkigoamphkalaa
namespace Go.Proofs.Ytkkigoamphkalaa.Ph
/-- The first index, from k on, that is not live (so far all below k are). -/
def placeOf (l : List Bool) : Nat := l.findIdx (fun b => !b)
theorem place_le (l : List Bool) : placeOf l ≤ l.length := List.findIdx_le_length
theorem place_of {l : List Bool} {k : Nat} (hk : k < l.length) (h1 : ∀ i, i < k → l.getD i false = true) (h2 : l.getD k false = false) : placeOf l = k := by
  unfold placeOf
  have e : l[k] = false := by simpa [List.getD, List.getElem?_eq_getElem hk] using h2
  refine (List.findIdx_eq hk).2 ⟨by rw [e]; rfl, fun j hj => ?_⟩
  have := h1 j hj
  have hj' : j < l.length := by omega
  have e2 : l[j] = true := by simpa [List.getD, List.getElem?_eq_getElem hj'] using this
  rw [e2]; rfl
theorem place_none {l : List Bool} (h1 : ∀ i, i < l.length → l.getD i false = true) : placeOf l = l.length := by
  unfold placeOf
  rw [List.findIdx_eq_length]
  intro x hx
  obtain ⟨i, hi, rfl⟩ := List.getElem_of_mem hx
  have := h1 i hi
  have e : l[i] = true := by simpa [List.getD, List.getElem?_eq_getElem hi] using this
  rw [e]; rfl
end Go.Proofs.Ytkkigoamphkalaa.Ph
namespace Go.Proofs.Ytkkigoamphkalaa
open Go.RowKit Ph

set_option maxHeartbeats 1600000 in
theorem c_slIndex (v : Value) (l : List Bool) (w : World) (hA : BoolsAt w v l) (hm : l.length ≤ 1000) : Calls Try.prog 168 #[v, .bool false] w fun e w' => e = .returned (.int .i64 (if placeOf l < l.length then (placeOf l : Int) else -1)) ∧ w = w' := by
  obtain ⟨a, c, rfl, hA⟩ := hA
  have HP := Lib.hid (fun k => place_of (l := l) (k := k)); have HQ := Lib.hid (place_none (l := l))
  generalize hr : (if placeOf l < l.length then (placeOf l : Int) else -1) = r
  have HR : Hid (r = if placeOf l < l.length then (placeOf l : Int) else -1) := hr.symm
  clear hr
  have HA := Lib.hid hA
  clear hA
  generalize hn : l.length = n at *
  clear hn
  go_enter Try.func168, Try.ntmps168
  go_wp2
  go_loop [8] (fun i => ∃ k : Nat, k ≤ n ∧ i = .int .i64 k ∧ Hid (∀ i, i < k → l.getD i false = true)) (fun i => n - (intOf i).toNat)
  case atStart => exact ⟨0, Nat.zero_le _, rfl, fun i hi => by omega⟩
  case round =>
    obtain ⟨k, hk, rfl, ht⟩ := hrel
    by_cases hlt : k < n
    · obtain ⟨g, off, rfl, hc⟩ := HA.out (by omega)
      have q := hc k hlt
      have i1 : (k : Int) < (n : Int) := by omega
      clear hc
      generalize hx : l.getD k false = x at *
      have HX := Lib.hid hx
      clear hx
      cases x
      · have hp := HP.out k hlt ht.out HX.out
        have HE : Hid (r = (k : Int)) := by unfold Hid; rw [HR.out, hp, if_pos hlt]
        clear hp
        go_wp2
        go_ret
        exact ⟨r_i HE.out.symm, rfl⟩
      · have HE : Hid (∀ i, i < k + 1 → l.getD i false = true) := fun i hi => by
          by_cases e : i = k
          · subst e; exact HX.out
          · exact ht.out i (by omega)
        go_wp2
        go_round
        case rel => exact ⟨k + 1, by omega, by go_num, HE.out⟩
        case measure => simp [intOf]; omega
    · obtain rfl : k = n := by omega
      have hp := HQ.out ht.out
      have HE : Hid (r = -1) := by unfold Hid; rw [HR.out, hp, if_neg (by omega)]
      clear hp
      go_wp2
      go_ret
      exact ⟨r_i HE.out.symm, rfl⟩
set_option maxHeartbeats 1600000 in
theorem c_freePlace (a b c : Value) (h : H) (w : World) (hA : HeapAt w a b c h) (hG : Ph.Good h) : Calls Try.prog 127 #[hv a b c] w fun e w' => e = .returned (.tuple #[.int .i64 (placeOf h.l : Int), .bool (decide (placeOf h.l < 12))]) ∧ Below w.heap.size w w' := by
  have hb0 := below1 w (.cells (c3 a b c) 30)
  have A0 := Lib.hid (hA.below hb0)
  have HB := Lib.hid hb0
  have R0 := Lib.hid (show RowH _ _ a b c from Row.new w 30 (c3 a b c))
  obtain ⟨la, lc, rfl⟩ := hA.l.shape
  have hl12 : h.l.length ≤ 12 := by have := hG.ll; have := hG.n; omega
  have HC := Lib.hid (c_slIndex _ h.l _ A0.out.l (by omega))
  have hpl := place_le h.l
  clear hA hG hb0
  generalize h.l.length = n at *
  generalize hp : placeOf h.l = p at *
  clear hp
  have c1 := R0.out.c1
  by_cases hpn : p < n
  · rw [if_pos hpn] at HC
    have i1 : (0 : Int) ≤ (p : Int) := by omega
    have HD : Hid (decide (p < 12) = true) := decide_eq_true (by omega)
    go_enter Try.func127, Try.ntmps127
    go_wp2_with (go_at_call 168; refine HC.out.mono ?_; rintro e w1 ⟨rfl, rfl⟩)
    go_ret2
    exact ⟨r_ib rfl HD.out.symm, HB.out⟩
  · rw [if_neg hpn] at HC
    obtain rfl : p = n := by omega
    have HD : Hid (decide ((p : Int) < 12) = decide (p < 12)) := by unfold Hid; apply decide_eq_decide.2; omega
    go_enter Try.func127, Try.ntmps127
    go_wp2_with (go_at_call 168; refine HC.out.mono ?_; rintro e w1 ⟨rfl, rfl⟩)
    go_quiet (fail)
    go_wp2_with fail
    go_ret2
    exact ⟨r_ib rfl HD.out, below_drewN HB.out _⟩
end Go.Proofs.Ytkkigoamphkalaa
namespace Go.Proofs.Ytkkigoamphkalaa
open Go.RowKit Ph

set_option maxRecDepth 100000 in
set_option maxHeartbeats 1600000 in
theorem c_mul (m : Int) (hm : m = 0 ∨ m = 1 ∨ m = 2 ∨ m = 3) (w : World) : Calls Try.prog 169 #[.int .u64 1, .int .u64 m] w fun e w' => e = .returned (.tuple #[.int .u64 0, .int .u64 m]) ∧ w = w' := by
  rcases hm with rfl | rfl | rfl | rfl <;>
  · go_enter Try.func169, Try.ntmps169
    go_wp2
    go_ret2
    exact ⟨rfl, rfl⟩
theorem op_copy {P : Program} {o : Oper} {q : Act} {w w' : World} {K : Act → World → Prop} {Q : Exit → Act → World → Prop} {vs vx v' : Value} (s x : Operand) (t : TypeId) (hop : o.op = Op.call { callee := Callee.builtin Builtin.copy, args := #[s, x], argTypes := #[t, t] }) (hs : q.eval s = vs) (hx : q.eval x = vx)
    (hrun : (Builtin.copy_ #[t, t] o.type #[vs, vx]).run P w = .ok v' w') (h : K (q.put o.dst v') w') : Oper.wp P o q w K Q := by
  unfold Oper.wp
  simp [execOp, hop, resolve, invoke, builtin, hs, hx, hrun, Result.andThen]
  exact h
theorem size_int : (Try.prog.info? 3).map (·.size) = some 1 := by kernel_rfl
theorem one_src {w : World} {g : Nat} {x : Value} (h : w.cell? ⟨g, 0, none⟩ = some x) : ∀ j v, [x][j]? = some v → w.cell? ((⟨g, 0, none⟩ : Addr).add j) = some v := fun j v hv => by
  have hj : j = 0 := by
    obtain ⟨h1, _⟩ := List.getElem?_eq_some_iff.1 hv
    simp at h1; exact h1
  subst hj
  simp at hv
  subst hv
  rw [Addr.add_lit]; exact h
set_option maxRecDepth 100000 in
set_option maxHeartbeats 1600000 in
theorem c_rep0 (g : Nat) (w : World) (hR : Row w g 3 #[.int .i64 (-1)]) : Calls Try.prog 128 #[.slice (some ⟨g, 0, none⟩) 1 1, .int .i64 0] w fun e w' => ∃ v', e = .returned v' ∧ Own w' w.heap.size v' (List.replicate 0 (-1)) ∧ Below w.heap.size w w' := by
  obtain ⟨i0, hi, hz0, hz1, hz2⟩ := info_parts info_int
  have HC := Lib.hid (c_mul 0 (by simp) w)
  have HR := Lib.hid hR
  have HLT := Lib.hid hR.lt
  clear hR
  go_enter Try.func128, Try.ntmps128
  go_wp2_with (first
    | (go_at_call 169; refine HC.out.mono ?_; rintro e w9 ⟨rfl, rfl⟩)
    | (at_make; refine wpList_make_full _ rfl _ _ 24 rfl w.heap.size 3 i0 (.int .i64 0) 1 Try.underlying24 hi hz0 hz1 .i64 .i64 _ _ 0 rfl rfl rfl rfl (by rw [hz2]; omega) (by unfold maxLen; omega) (Nat.le_refl _) ?_; intro w1 hown hgr; rw [Nat.mul_one, show (Value.int .i64 0).cells = #[.int .i64 0] from rfl, toList_madeCells_one] at hown
       have r0 := (Row.grown HR.out hgr).cell 0
       have hcp := run_copy_none (P := Try.prog) w1 24 24 3 3 (some ⟨w.heap.size, 0, none⟩) (some ⟨g, 0, none⟩) 0 0 1 1 Try.underlying24 size_int rfl
       have HO := Lib.hid hown; have HG := Lib.hid hgr; clear hown hgr r0))
  clear hcp
  have O1 : Hid (Own w1 w.heap.size (.slice (some ⟨w.heap.size, 0, none⟩) 0 0) ([])) := HO.out
  have L1 : Hid (Below w.heap.size w w1) := (Below.refl w.heap.size w).grown HG.out (Nat.le_refl _) (fun k hk => by cases hk)
  refine wp_loop_rounds 1 ?_
  rw [rounds_succ]
  go_wp2_with fail
  go_ret
  exact ⟨_, rfl, O1.out, L1.out⟩
set_option maxRecDepth 100000 in
set_option maxHeartbeats 1600000 in
theorem c_rep1 (g : Nat) (w : World) (hR : Row w g 3 #[.int .i64 (-1)]) : Calls Try.prog 128 #[.slice (some ⟨g, 0, none⟩) 1 1, .int .i64 1] w fun e w' => ∃ v', e = .returned v' ∧ Own w' w.heap.size v' (List.replicate 1 (-1)) ∧ Below w.heap.size w w' := by
  obtain ⟨i0, hi, hz0, hz1, hz2⟩ := info_parts info_int
  have HC := Lib.hid (c_mul 1 (by simp) w)
  have HR := Lib.hid hR
  have HLT := Lib.hid hR.lt
  clear hR
  go_enter Try.func128, Try.ntmps128
  go_wp2_with (first
    | (go_at_call 169; refine HC.out.mono ?_; rintro e w9 ⟨rfl, rfl⟩)
    | (at_make; refine wpList_make_full _ rfl _ _ 24 rfl w.heap.size 3 i0 (.int .i64 0) 1 Try.underlying24 hi hz0 hz1 .i64 .i64 _ _ 1 rfl rfl rfl rfl (by rw [hz2]; omega) (by unfold maxLen; omega) (Nat.le_refl _) ?_; intro w1 hown hgr; rw [Nat.mul_one, show (Value.int .i64 0).cells = #[.int .i64 0] from rfl, toList_madeCells_one] at hown
       have q0 := hown.cellAt 0 (by omega)
       have f0 := hown.frozenAt 0
       have r0 := (Row.grown HR.out hgr).cell 0
       have hcp : (Builtin.copy_ #[24, 24] 3 #[.slice (some ⟨w.heap.size, 0, none⟩) 1 1, .slice (some ⟨g, 0, none⟩) 1 1]).run Try.prog w1 = .ok (.int .i64 1) (w1.setCell ⟨w.heap.size, 0, none⟩ (.int .i64 (-1))) := run_copy_cells (P := Try.prog) w1 24 24 3 3 w.heap.size 0 1 1 ⟨g, 0, none⟩ 1 1 [.int .i64 (-1)] Try.underlying24 size_int rfl (one_src r0) (fun j hj => by simp at hj; subst hj; rw [q0]; rfl) (fun j hj => by simp at hj; subst hj; exact f0) (fun v hv => by simp at hv; subst hv; rfl)
       have HO := Lib.hid hown; have HG := Lib.hid hgr; clear hown hgr q0 f0 r0))
  clear hcp
  have O1 : Hid (Own (w1.setCell ⟨w.heap.size, 0, none⟩ (.int .i64 (-1))) w.heap.size (.slice (some ⟨w.heap.size, 0, none⟩) 1 1) ([-1])) := (HO.out.stored 0 (.int .i64 (-1))).1
  have L1 : Hid (Below w.heap.size w (w1.setCell ⟨w.heap.size, 0, none⟩ (.int .i64 (-1)))) := ((Below.refl w.heap.size w).grown HG.out (Nat.le_refl _) (fun k hk => by cases hk)).setCell (p := ⟨w.heap.size, 0, none⟩) (Nat.le_refl _) (.int .i64 (-1))
  generalize (w1.setCell ⟨w.heap.size, 0, none⟩ (.int .i64 (-1))) = x1 at *
  refine wp_loop_rounds 1 ?_
  rw [rounds_succ]
  go_wp2_with fail
  go_ret
  exact ⟨_, rfl, O1.out, L1.out⟩
set_option maxRecDepth 100000 in
set_option maxHeartbeats 1600000 in
theorem c_rep2 (g : Nat) (w : World) (hR : Row w g 3 #[.int .i64 (-1)]) : Calls Try.prog 128 #[.slice (some ⟨g, 0, none⟩) 1 1, .int .i64 2] w fun e w' => ∃ v', e = .returned v' ∧ Own w' w.heap.size v' (List.replicate 2 (-1)) ∧ Below w.heap.size w w' := by
  obtain ⟨i0, hi, hz0, hz1, hz2⟩ := info_parts info_int
  have HC := Lib.hid (c_mul 2 (by simp) w)
  have HR := Lib.hid hR
  have HLT := Lib.hid hR.lt
  clear hR
  go_enter Try.func128, Try.ntmps128
  go_wp2_with (first
    | (go_at_call 169; refine HC.out.mono ?_; rintro e w9 ⟨rfl, rfl⟩)
    | (at_make; refine wpList_make_full _ rfl _ _ 24 rfl w.heap.size 3 i0 (.int .i64 0) 1 Try.underlying24 hi hz0 hz1 .i64 .i64 _ _ 2 rfl rfl rfl rfl (by rw [hz2]; omega) (by unfold maxLen; omega) (Nat.le_refl _) ?_; intro w1 hown hgr; rw [Nat.mul_one, show (Value.int .i64 0).cells = #[.int .i64 0] from rfl, toList_madeCells_one] at hown
       have q0 := hown.cellAt 0 (by omega)
       have f0 := hown.frozenAt 0
       have r0 := (Row.grown HR.out hgr).cell 0
       have hcp : (Builtin.copy_ #[24, 24] 3 #[.slice (some ⟨w.heap.size, 0, none⟩) 2 2, .slice (some ⟨g, 0, none⟩) 1 1]).run Try.prog w1 = .ok (.int .i64 1) (w1.setCell ⟨w.heap.size, 0, none⟩ (.int .i64 (-1))) := run_copy_cells (P := Try.prog) w1 24 24 3 3 w.heap.size 0 2 2 ⟨g, 0, none⟩ 1 1 [.int .i64 (-1)] Try.underlying24 size_int rfl (one_src r0) (fun j hj => by simp at hj; subst hj; rw [q0]; rfl) (fun j hj => by simp at hj; subst hj; exact f0) (fun v hv => by simp at hv; subst hv; rfl)
       have HO := Lib.hid hown; have HG := Lib.hid hgr; clear hown hgr q0 f0 r0))
  clear hcp
  have O1 : Hid (Own (w1.setCell ⟨w.heap.size, 0, none⟩ (.int .i64 (-1))) w.heap.size (.slice (some ⟨w.heap.size, 0, none⟩) 2 2) ([-1, 0])) := (HO.out.stored 0 (.int .i64 (-1))).1
  have L1 : Hid (Below w.heap.size w (w1.setCell ⟨w.heap.size, 0, none⟩ (.int .i64 (-1)))) := ((Below.refl w.heap.size w).grown HG.out (Nat.le_refl _) (fun k hk => by cases hk)).setCell (p := ⟨w.heap.size, 0, none⟩) (Nat.le_refl _) (.int .i64 (-1))
  generalize (w1.setCell ⟨w.heap.size, 0, none⟩ (.int .i64 (-1))) = x1 at *
  refine wp_loop_rounds 2 ?_
  rw [rounds_succ]
  go_wp2_with fail
  have O1d : Hid (Own x1.drew w.heap.size (.slice (some ⟨w.heap.size, 0, none⟩) 2 2) [-1, 0]) := O1.out
  have L1d : Hid (Below w.heap.size w x1.drew) := below_drew L1.out
  have q0 := World.ownsRow.cellAt O1d.out 0 (by simp)
  have q1 := World.ownsRow.cellAt O1d.out 1 (by simp)
  have f1 := World.ownsRow.frozenAt O1d.out 1
  have hcp : (Builtin.copy_ #[24, 24] 3 #[.slice (some ⟨w.heap.size, 1, none⟩) 1 1, .slice (some ⟨w.heap.size, 0, none⟩) 1 2]).run Try.prog x1.drew = .ok (.int .i64 1) (x1.drew.setCell ⟨w.heap.size, 1, none⟩ (.int .i64 (-1))) := run_copy_cells (P := Try.prog) x1.drew 24 24 3 3 w.heap.size 1 1 1 ⟨w.heap.size, 0, none⟩ 1 2 [.int .i64 (-1)] Try.underlying24 size_int rfl (one_src q0) (fun j hj => by simp at hj; subst hj; rw [Nat.add_zero, q1]; rfl) (fun j hj => by simp at hj; subst hj; exact f1) (fun v hv => by simp at hv; subst hv; rfl)
  clear q0 q1 f1
  refine wp_region_held_drew (S := (fun _ => True)) (by kernel_rfl) (trivial) (fun hHeld => ?_)
  refine wpAnyH_take (i := 0) (v := ?va0x1) rfl (by kernel_rfl) (by kernel_rfl) (by kernel_rfl) (fun _ _ _ h => h) (Or.inl ⟨by rfl, ?hy0x1⟩) (by assumption) ?rest0x1
  case hy0x1 => (intro w hSw; (try dsimp only at hSw); go_simp; try with_reducible rfl)
  (try simp only [Act.put, List.getElem_toArray, List.getElem_cons_zero, List.setIfInBounds_toArray, List.set_cons_zero, List.set_cons_succ])
  refine wpAnyH_take (i := 1) (v := ?va1x2) rfl (by kernel_rfl) (by kernel_rfl) (by kernel_rfl) (fun _ _ _ h => h) (Or.inl ⟨by rfl, ?hy1x2⟩) (by assumption) ?rest1x2
  case hy1x2 => (intro w hSw; (try dsimp only at hSw); go_simp; try with_reducible rfl)
  (try simp only [Act.put, List.getElem_toArray, List.getElem_cons_zero, List.getElem_cons_succ, List.setIfInBounds_toArray, List.set_cons_zero, List.set_cons_succ])
  refine wpAnyH_take (i := 2) (v := ?va2x3) rfl (by kernel_rfl) (by kernel_rfl) (by kernel_rfl) (fun _ _ _ h => h) (Or.inl ⟨by rfl, ?hy2x3⟩) (by assumption) ?rest2x3
  case hy2x3 => (intro w hSw; (try dsimp only at hSw); go_simp; try with_reducible rfl)
  (try simp only [Act.put, List.getElem_toArray, List.getElem_cons_zero, List.getElem_cons_succ, List.setIfInBounds_toArray, List.set_cons_zero, List.set_cons_succ])
  refine wpAnyH_take (i := 3) (v := ?va3x4) rfl (by kernel_rfl) (by kernel_rfl) (by kernel_rfl) (fun _ _ _ h => h) (Or.inl ⟨by rfl, ?hy3x4⟩) (by assumption) ?rest3x4
  case hy3x4 => (intro w hSw; (try dsimp only at hSw); go_simp; try with_reducible rfl)
  (try simp only [Act.put, List.getElem_toArray, List.getElem_cons_zero, List.getElem_cons_succ, List.setIfInBounds_toArray, List.set_cons_zero, List.set_cons_succ])
  refine wpAnyH_take (i := 4) (v := ?va4x5) rfl (by kernel_rfl) (by kernel_rfl) (by kernel_rfl) (fun _ _ _ h => h) (Or.inl ⟨by rfl, ?hy4x5⟩) (by assumption) ?rest4x5
  case hy4x5 => (intro w hSw; (try dsimp only at hSw); go_simp; try with_reducible rfl)
  (try simp only [Act.put, List.getElem_toArray, List.getElem_cons_zero, List.getElem_cons_succ, List.setIfInBounds_toArray, List.set_cons_zero, List.set_cons_succ])
  refine wpAnyH_take (i := 5) (v := ?va5x6) rfl (by kernel_rfl) (by kernel_rfl) (by kernel_rfl) (fun _ _ _ h => h) (Or.inl ⟨by rfl, ?hy5x6⟩) (by assumption) ?rest5x6
  case hy5x6 => (intro w hSw; (try dsimp only at hSw); go_simp; try with_reducible rfl)
  (try simp only [Act.put, List.getElem_toArray, List.getElem_cons_zero, List.getElem_cons_succ, List.setIfInBounds_toArray, List.set_cons_zero, List.set_cons_succ])
  refine wpAnyH_take (i := 6) (v := ?va6x7) rfl (by kernel_rfl) (by kernel_rfl) (by kernel_rfl) (fun _ _ _ h => h) (Or.inl ⟨by rfl, ?hy6x7⟩) (by assumption) ?rest6x7
  case hy6x7 => (intro w hSw; (try dsimp only at hSw); go_simp; try with_reducible rfl)
  (try simp only [Act.put, List.getElem_toArray, List.getElem_cons_zero, List.getElem_cons_succ, List.setIfInBounds_toArray, List.set_cons_zero, List.set_cons_succ])
  refine wpAnyH_ready (rs := [7]) (by kernel_rfl) (by simp) ?_
  refine AllReadyH.cons rfl (fun K hK => ?_) AllReadyH.nil
  rw [if_pos (by rfl)]
  refine op_copy _ _ _ rfl rfl rfl hcp ?_
  refine hK.out _ _ trivial (fun hHeld => ?_)
  clear hK K hcp
  (try simp only [Act.put, List.getElem_toArray, List.getElem_cons_zero, List.getElem_cons_succ, List.setIfInBounds_toArray, List.set_cons_zero, List.set_cons_succ])
  refine wpAnyH_take (i := 8) (v := ?va8x8) rfl (by kernel_rfl) (by kernel_rfl) (by kernel_rfl) (fun _ _ _ h => h) (Or.inl ⟨by rfl, ?hy8x8⟩) (by assumption) ?rest8x8
  case hy8x8 => (intro w hSw; (try dsimp only at hSw); go_simp; try with_reducible rfl)
  (try simp only [Act.put, List.getElem_toArray, List.getElem_cons_zero, List.getElem_cons_succ, List.setIfInBounds_toArray, List.set_cons_zero, List.set_cons_succ])
  refine wpAnyH_take (i := 9) (v := ?va9x9) rfl (by kernel_rfl) (by kernel_rfl) (by kernel_rfl) (fun _ _ _ h => h) (Or.inl ⟨by rfl, ?hy9x9⟩) (by assumption) ?rest9x9
  case hy9x9 => (intro w hSw; (try dsimp only at hSw); go_simp; try with_reducible rfl)
  (try simp only [Act.put, List.getElem_toArray, List.getElem_cons_zero, List.getElem_cons_succ, List.setIfInBounds_toArray, List.set_cons_zero, List.set_cons_succ])
  refine wpAnyH_done (by kernel_rfl) ?_ _
  have O2 : Hid (Own (x1.drew.setCell ⟨w.heap.size, 1, none⟩ (.int .i64 (-1))) w.heap.size (.slice (some ⟨w.heap.size, 0, none⟩) 2 2) [-1, -1]) := (World.ownsRow.stored O1d.out 1 (.int .i64 (-1))).1
  have L2 : Hid (Below w.heap.size w (x1.drew.setCell ⟨w.heap.size, 1, none⟩ (.int .i64 (-1)))) := L1d.out.setCell (p := ⟨w.heap.size, 1, none⟩) (Nat.le_refl _) (.int .i64 (-1))
  generalize x1.drew.setCell ⟨w.heap.size, 1, none⟩ (.int .i64 (-1)) = x2 at *
  go_wp2_with fail
  rw [rounds_succ]
  go_wp2_with fail
  go_ret
  exact ⟨_, rfl, O2.out, L2.out⟩
set_option maxRecDepth 100000 in
set_option maxHeartbeats 1600000 in
theorem c_rep3 (g : Nat) (w : World) (hR : Row w g 3 #[.int .i64 (-1)]) : Calls Try.prog 128 #[.slice (some ⟨g, 0, none⟩) 1 1, .int .i64 3] w fun e w' => ∃ v', e = .returned v' ∧ Own w' w.heap.size v' (List.replicate 3 (-1)) ∧ Below w.heap.size w w' := by
  obtain ⟨i0, hi, hz0, hz1, hz2⟩ := info_parts info_int
  have HC := Lib.hid (c_mul 3 (by simp) w)
  have HR := Lib.hid hR
  have HLT := Lib.hid hR.lt
  clear hR
  go_enter Try.func128, Try.ntmps128
  go_wp2_with (first
    | (go_at_call 169; refine HC.out.mono ?_; rintro e w9 ⟨rfl, rfl⟩)
    | (at_make; refine wpList_make_full _ rfl _ _ 24 rfl w.heap.size 3 i0 (.int .i64 0) 1 Try.underlying24 hi hz0 hz1 .i64 .i64 _ _ 3 rfl rfl rfl rfl (by rw [hz2]; omega) (by unfold maxLen; omega) (Nat.le_refl _) ?_; intro w1 hown hgr; rw [Nat.mul_one, show (Value.int .i64 0).cells = #[.int .i64 0] from rfl, toList_madeCells_one] at hown
       have q0 := hown.cellAt 0 (by omega)
       have f0 := hown.frozenAt 0
       have r0 := (Row.grown HR.out hgr).cell 0
       have hcp : (Builtin.copy_ #[24, 24] 3 #[.slice (some ⟨w.heap.size, 0, none⟩) 3 3, .slice (some ⟨g, 0, none⟩) 1 1]).run Try.prog w1 = .ok (.int .i64 1) (w1.setCell ⟨w.heap.size, 0, none⟩ (.int .i64 (-1))) := run_copy_cells (P := Try.prog) w1 24 24 3 3 w.heap.size 0 3 3 ⟨g, 0, none⟩ 1 1 [.int .i64 (-1)] Try.underlying24 size_int rfl (one_src r0) (fun j hj => by simp at hj; subst hj; rw [q0]; rfl) (fun j hj => by simp at hj; subst hj; exact f0) (fun v hv => by simp at hv; subst hv; rfl)
       have HO := Lib.hid hown; have HG := Lib.hid hgr; clear hown hgr q0 f0 r0))
  clear hcp
  have O1 : Hid (Own (w1.setCell ⟨w.heap.size, 0, none⟩ (.int .i64 (-1))) w.heap.size (.slice (some ⟨w.heap.size, 0, none⟩) 3 3) ([-1, 0, 0])) := (HO.out.stored 0 (.int .i64 (-1))).1
  have L1 : Hid (Below w.heap.size w (w1.setCell ⟨w.heap.size, 0, none⟩ (.int .i64 (-1)))) := ((Below.refl w.heap.size w).grown HG.out (Nat.le_refl _) (fun k hk => by cases hk)).setCell (p := ⟨w.heap.size, 0, none⟩) (Nat.le_refl _) (.int .i64 (-1))
  generalize (w1.setCell ⟨w.heap.size, 0, none⟩ (.int .i64 (-1))) = x1 at *
  refine wp_loop_rounds 3 ?_
  rw [rounds_succ]
  have hwr2 : IntKind.i64.wrap 2 = 2 := by decide
  go_wp2_with fail
  have O1d : Hid (Own x1.drew w.heap.size (.slice (some ⟨w.heap.size, 0, none⟩) 3 3) [-1, 0, 0]) := O1.out
  have L1d : Hid (Below w.heap.size w x1.drew) := below_drew L1.out
  have q0 := World.ownsRow.cellAt O1d.out 0 (by simp)
  have q1 := World.ownsRow.cellAt O1d.out 1 (by simp)
  have f1 := World.ownsRow.frozenAt O1d.out 1
  have hcp : (Builtin.copy_ #[24, 24] 3 #[.slice (some ⟨w.heap.size, 1, none⟩) 2 2, .slice (some ⟨w.heap.size, 0, none⟩) 1 3]).run Try.prog x1.drew = .ok (.int .i64 1) (x1.drew.setCell ⟨w.heap.size, 1, none⟩ (.int .i64 (-1))) := run_copy_cells (P := Try.prog) x1.drew 24 24 3 3 w.heap.size 1 2 2 ⟨w.heap.size, 0, none⟩ 1 3 [.int .i64 (-1)] Try.underlying24 size_int rfl (one_src q0) (fun j hj => by simp at hj; subst hj; rw [Nat.add_zero, q1]; rfl) (fun j hj => by simp at hj; subst hj; exact f1) (fun v hv => by simp at hv; subst hv; rfl)
  clear q0 q1 f1
  refine wp_region_held_drew (S := (fun _ => True)) (by kernel_rfl) (trivial) (fun hHeld => ?_)
  refine wpAnyH_take (i := 0) (v := ?va0x10) rfl (by kernel_rfl) (by kernel_rfl) (by kernel_rfl) (fun _ _ _ h => h) (Or.inl ⟨by rfl, ?hy0x10⟩) (by assumption) ?rest0x10
  case hy0x10 => (intro w hSw; (try dsimp only at hSw); go_simp; try with_reducible rfl)
  (try simp only [Act.put, List.getElem_toArray, List.getElem_cons_zero, List.setIfInBounds_toArray, List.set_cons_zero, List.set_cons_succ])
  refine wpAnyH_take (i := 1) (v := ?va1x11) rfl (by kernel_rfl) (by kernel_rfl) (by kernel_rfl) (fun _ _ _ h => h) (Or.inl ⟨by rfl, ?hy1x11⟩) (by assumption) ?rest1x11
  case hy1x11 => (intro w hSw; (try dsimp only at hSw); go_simp; try with_reducible rfl)
  (try simp only [Act.put, List.getElem_toArray, List.getElem_cons_zero, List.getElem_cons_succ, List.setIfInBounds_toArray, List.set_cons_zero, List.set_cons_succ])
  refine wpAnyH_take (i := 2) (v := ?va2x12) rfl (by kernel_rfl) (by kernel_rfl) (by kernel_rfl) (fun _ _ _ h => h) (Or.inl ⟨by rfl, ?hy2x12⟩) (by assumption) ?rest2x12
  case hy2x12 => (intro w hSw; (try dsimp only at hSw); go_simp; try with_reducible rfl)
  (try simp only [Act.put, List.getElem_toArray, List.getElem_cons_zero, List.getElem_cons_succ, List.setIfInBounds_toArray, List.set_cons_zero, List.set_cons_succ])
  refine wpAnyH_take (i := 3) (v := ?va3x13) rfl (by kernel_rfl) (by kernel_rfl) (by kernel_rfl) (fun _ _ _ h => h) (Or.inl ⟨by rfl, ?hy3x13⟩) (by assumption) ?rest3x13
  case hy3x13 => (intro w hSw; (try dsimp only at hSw); go_simp; try with_reducible rfl)
  (try simp only [Act.put, List.getElem_toArray, List.getElem_cons_zero, List.getElem_cons_succ, List.setIfInBounds_toArray, List.set_cons_zero, List.set_cons_succ])
  refine wpAnyH_take (i := 4) (v := ?va4x14) rfl (by kernel_rfl) (by kernel_rfl) (by kernel_rfl) (fun _ _ _ h => h) (Or.inl ⟨by rfl, ?hy4x14⟩) (by assumption) ?rest4x14
  case hy4x14 => (intro w hSw; (try dsimp only at hSw); go_simp; try with_reducible rfl)
  (try simp only [Act.put, List.getElem_toArray, List.getElem_cons_zero, List.getElem_cons_succ, List.setIfInBounds_toArray, List.set_cons_zero, List.set_cons_succ])
  refine wpAnyH_take (i := 5) (v := ?va5x15) rfl (by kernel_rfl) (by kernel_rfl) (by kernel_rfl) (fun _ _ _ h => h) (Or.inl ⟨by rfl, ?hy5x15⟩) (by assumption) ?rest5x15
  case hy5x15 => (intro w hSw; (try dsimp only at hSw); go_simp; try with_reducible rfl)
  (try simp only [Act.put, List.getElem_toArray, List.getElem_cons_zero, List.getElem_cons_succ, List.setIfInBounds_toArray, List.set_cons_zero, List.set_cons_succ])
  refine wpAnyH_take (i := 6) (v := ?va6x16) rfl (by kernel_rfl) (by kernel_rfl) (by kernel_rfl) (fun _ _ _ h => h) (Or.inl ⟨by rfl, ?hy6x16⟩) (by assumption) ?rest6x16
  case hy6x16 => (intro w hSw; (try dsimp only at hSw); go_simp; try with_reducible rfl)
  (try simp only [Act.put, List.getElem_toArray, List.getElem_cons_zero, List.getElem_cons_succ, List.setIfInBounds_toArray, List.set_cons_zero, List.set_cons_succ])
  refine wpAnyH_ready (rs := [7]) (by kernel_rfl) (by simp) ?_
  refine AllReadyH.cons rfl (fun K hK => ?_) AllReadyH.nil
  rw [if_pos (by rfl)]
  refine op_copy _ _ _ rfl rfl rfl hcp ?_
  refine hK.out _ _ trivial (fun hHeld => ?_)
  clear hK K hcp
  (try simp only [Act.put, List.getElem_toArray, List.getElem_cons_zero, List.getElem_cons_succ, List.setIfInBounds_toArray, List.set_cons_zero, List.set_cons_succ])
  refine wpAnyH_take (i := 8) (v := ?va8x17) rfl (by kernel_rfl) (by kernel_rfl) (by kernel_rfl) (fun _ _ _ h => h) (Or.inl ⟨by rfl, ?hy8x17⟩) (by assumption) ?rest8x17
  case hy8x17 => (intro w hSw; (try dsimp only at hSw); go_simp; try with_reducible rfl)
  (try simp only [Act.put, List.getElem_toArray, List.getElem_cons_zero, List.getElem_cons_succ, List.setIfInBounds_toArray, List.set_cons_zero, List.set_cons_succ])
  refine wpAnyH_take (i := 9) (v := ?va9x18) rfl (by kernel_rfl) (by kernel_rfl) (by kernel_rfl) (fun _ _ _ h => h) (Or.inl ⟨by rfl, ?hy9x18⟩) (by assumption) ?rest9x18
  case hy9x18 => (intro w hSw; (try dsimp only at hSw); go_simp; try with_reducible rfl)
  (try simp only [Act.put, List.getElem_toArray, List.getElem_cons_zero, List.getElem_cons_succ, List.setIfInBounds_toArray, List.set_cons_zero, List.set_cons_succ])
  refine wpAnyH_done (by kernel_rfl) ?_ _
  have O2 : Hid (Own (x1.drew.setCell ⟨w.heap.size, 1, none⟩ (.int .i64 (-1))) w.heap.size (.slice (some ⟨w.heap.size, 0, none⟩) 3 3) [-1, -1, 0]) := (World.ownsRow.stored O1d.out 1 (.int .i64 (-1))).1
  have L2 : Hid (Below w.heap.size w (x1.drew.setCell ⟨w.heap.size, 1, none⟩ (.int .i64 (-1)))) := L1d.out.setCell (p := ⟨w.heap.size, 1, none⟩) (Nat.le_refl _) (.int .i64 (-1))
  generalize x1.drew.setCell ⟨w.heap.size, 1, none⟩ (.int .i64 (-1)) = x2 at *
  go_wp2_with fail
  rw [rounds_succ]
  go_wp2_with fail
  have O2d : Hid (Own x2.drew w.heap.size (.slice (some ⟨w.heap.size, 0, none⟩) 3 3) [-1, -1, 0]) := O2.out
  have L2d : Hid (Below w.heap.size w x2.drew) := below_drew L2.out
  have q0 := World.ownsRow.cellAt O2d.out 0 (by simp)
  have q1 := World.ownsRow.cellAt O2d.out 2 (by simp)
  have f1 := World.ownsRow.frozenAt O2d.out 2
  have hcp : (Builtin.copy_ #[24, 24] 3 #[.slice (some ⟨w.heap.size, 2, none⟩) 1 1, .slice (some ⟨w.heap.size, 0, none⟩) 2 3]).run Try.prog x2.drew = .ok (.int .i64 1) (x2.drew.setCell ⟨w.heap.size, 2, none⟩ (.int .i64 (-1))) := run_copy_cells (P := Try.prog) x2.drew 24 24 3 3 w.heap.size 2 1 1 ⟨w.heap.size, 0, none⟩ 2 3 [.int .i64 (-1)] Try.underlying24 size_int rfl (one_src q0) (fun j hj => by simp at hj; subst hj; rw [Nat.add_zero, q1]; rfl) (fun j hj => by simp at hj; subst hj; exact f1) (fun v hv => by simp at hv; subst hv; rfl)
  clear q0 q1 f1
  refine wp_region_held_drew (S := (fun _ => True)) (by kernel_rfl) (trivial) (fun hHeld => ?_)
  refine wpAnyH_take (i := 0) (v := ?va0x19) rfl (by kernel_rfl) (by kernel_rfl) (by kernel_rfl) (fun _ _ _ h => h) (Or.inl ⟨by rfl, ?hy0x19⟩) (by assumption) ?rest0x19
  case hy0x19 => (intro w hSw; (try dsimp only at hSw); go_simp; try with_reducible rfl)
  (try simp only [Act.put, List.getElem_toArray, List.getElem_cons_zero, List.setIfInBounds_toArray, List.set_cons_zero, List.set_cons_succ])
  refine wpAnyH_take (i := 1) (v := ?va1x20) rfl (by kernel_rfl) (by kernel_rfl) (by kernel_rfl) (fun _ _ _ h => h) (Or.inl ⟨by rfl, ?hy1x20⟩) (by assumption) ?rest1x20
  case hy1x20 => (intro w hSw; (try dsimp only at hSw); go_simp; try with_reducible rfl)
  (try simp only [Act.put, List.getElem_toArray, List.getElem_cons_zero, List.getElem_cons_succ, List.setIfInBounds_toArray, List.set_cons_zero, List.set_cons_succ])
  refine wpAnyH_take (i := 2) (v := ?va2x21) rfl (by kernel_rfl) (by kernel_rfl) (by kernel_rfl) (fun _ _ _ h => h) (Or.inl ⟨by rfl, ?hy2x21⟩) (by assumption) ?rest2x21
  case hy2x21 => (intro w hSw; (try dsimp only at hSw); go_simp; try with_reducible rfl)
  (try simp only [Act.put, List.getElem_toArray, List.getElem_cons_zero, List.getElem_cons_succ, List.setIfInBounds_toArray, List.set_cons_zero, List.set_cons_succ])
  refine wpAnyH_take (i := 3) (v := ?va3x22) rfl (by kernel_rfl) (by kernel_rfl) (by kernel_rfl) (fun _ _ _ h => h) (Or.inl ⟨by rfl, ?hy3x22⟩) (by assumption) ?rest3x22
  case hy3x22 => (intro w hSw; (try dsimp only at hSw); go_simp; try with_reducible rfl)
  (try simp only [Act.put, List.getElem_toArray, List.getElem_cons_zero, List.getElem_cons_succ, List.setIfInBounds_toArray, List.set_cons_zero, List.set_cons_succ])
  refine wpAnyH_take (i := 4) (v := ?va4x23) rfl (by kernel_rfl) (by kernel_rfl) (by kernel_rfl) (fun _ _ _ h => h) (Or.inl ⟨by rfl, ?hy4x23⟩) (by assumption) ?rest4x23
  case hy4x23 => (intro w hSw; (try dsimp only at hSw); go_simp; try with_reducible rfl)
  (try simp only [Act.put, List.getElem_toArray, List.getElem_cons_zero, List.getElem_cons_succ, List.setIfInBounds_toArray, List.set_cons_zero, List.set_cons_succ])
  refine wpAnyH_take (i := 5) (v := ?va5x24) rfl (by kernel_rfl) (by kernel_rfl) (by kernel_rfl) (fun _ _ _ h => h) (Or.inl ⟨by rfl, ?hy5x24⟩) (by assumption) ?rest5x24
  case hy5x24 => (intro w hSw; (try dsimp only at hSw); go_simp; try with_reducible rfl)
  (try simp only [Act.put, List.getElem_toArray, List.getElem_cons_zero, List.getElem_cons_succ, List.setIfInBounds_toArray, List.set_cons_zero, List.set_cons_succ])
  refine wpAnyH_take (i := 6) (v := ?va6x25) rfl (by kernel_rfl) (by kernel_rfl) (by kernel_rfl) (fun _ _ _ h => h) (Or.inl ⟨by rfl, ?hy6x25⟩) (by assumption) ?rest6x25
  case hy6x25 => (intro w hSw; (try dsimp only at hSw); go_simp; try with_reducible rfl)
  (try simp only [Act.put, List.getElem_toArray, List.getElem_cons_zero, List.getElem_cons_succ, List.setIfInBounds_toArray, List.set_cons_zero, List.set_cons_succ])
  refine wpAnyH_ready (rs := [7]) (by kernel_rfl) (by simp) ?_
  refine AllReadyH.cons rfl (fun K hK => ?_) AllReadyH.nil
  rw [if_pos (by rfl)]
  refine op_copy _ _ _ rfl rfl rfl hcp ?_
  refine hK.out _ _ trivial (fun hHeld => ?_)
  clear hK K hcp
  (try simp only [Act.put, List.getElem_toArray, List.getElem_cons_zero, List.getElem_cons_succ, List.setIfInBounds_toArray, List.set_cons_zero, List.set_cons_succ])
  refine wpAnyH_take (i := 8) (v := ?va8x26) rfl (by kernel_rfl) (by kernel_rfl) (by kernel_rfl) (fun _ _ _ h => h) (Or.inl ⟨by rfl, ?hy8x26⟩) (by assumption) ?rest8x26
  case hy8x26 => (intro w hSw; (try dsimp only at hSw); go_simp; try with_reducible rfl)
  (try simp only [Act.put, List.getElem_toArray, List.getElem_cons_zero, List.getElem_cons_succ, List.setIfInBounds_toArray, List.set_cons_zero, List.set_cons_succ])
  refine wpAnyH_take (i := 9) (v := ?va9x27) rfl (by kernel_rfl) (by kernel_rfl) (by kernel_rfl) (fun _ _ _ h => h) (Or.inl ⟨by rfl, ?hy9x27⟩) (by assumption) ?rest9x27
  case hy9x27 => (intro w hSw; (try dsimp only at hSw); go_simp; try with_reducible rfl)
  (try simp only [Act.put, List.getElem_toArray, List.getElem_cons_zero, List.getElem_cons_succ, List.setIfInBounds_toArray, List.set_cons_zero, List.set_cons_succ])
  refine wpAnyH_done (by kernel_rfl) ?_ _
  have O3 : Hid (Own (x2.drew.setCell ⟨w.heap.size, 2, none⟩ (.int .i64 (-1))) w.heap.size (.slice (some ⟨w.heap.size, 0, none⟩) 3 3) [-1, -1, -1]) := (World.ownsRow.stored O2d.out 2 (.int .i64 (-1))).1
  have L3 : Hid (Below w.heap.size w (x2.drew.setCell ⟨w.heap.size, 2, none⟩ (.int .i64 (-1)))) := L2d.out.setCell (p := ⟨w.heap.size, 2, none⟩) (Nat.le_refl _) (.int .i64 (-1))
  generalize x2.drew.setCell ⟨w.heap.size, 2, none⟩ (.int .i64 (-1)) = x3 at *
  go_wp2_with fail
  rw [rounds_succ]
  go_wp2_with fail
  go_ret
  exact ⟨_, rfl, O3.out, L3.out⟩
end Go.Proofs.Ytkkigoamphkalaa
namespace Go.Proofs.Ytkkigoamphkalaa
open Go.RowKit Ph

theorem op_app {P : Program} {o : Oper} {q : Act} {w w' : World} {K : Act → World → Prop} {Q : Exit → Act → World → Prop} {vs vx v' : Value} (s x : Operand) (t : TypeId) (hop : o.op = Op.call { callee := Callee.builtin Builtin.append, args := #[s, x], argTypes := #[t, t] }) (hs : q.eval s = vs) (hx : q.eval x = vx)
    (hrun : (Builtin.append_ #[t, t] o.type #[vs, vx]).run P w = .ok v' w') (h : K (q.put o.dst v') w') : Oper.wp P o q w K Q := by
  unfold Oper.wp
  simp [execOp, hop, resolve, invoke, builtin, hs, hx, hrun, Result.andThen]
  exact h
/-- A copy under way: what is live, and the roots. -/
structure OwnSt (w W : World) (fa la ra vA vB : Value) (lA : List Bool) (rB : List Int) : Prop where
  ow : OwnH W w.heap.size W.heap.size (.slice none 0 0) vA vB ⟨[], lA, rB⟩
  rp : RowH W w.heap.size fa la ra
  r2 : RowH W (w.heap.size + 1) (.slice none 0 0) (.slice none 0 0) (.slice none 0 0)
  l : Below w.heap.size w W
  sz : w.heap.size + 2 ≤ W.heap.size
section
variable {w W : World} {fa la ra vA vB : Value} {lA : List Bool} {rB : List Int}
theorem own_empty (W : World) (T : TypeId) : (W.alloc (.cells #[] T)).ownsRow W.heap.size T 1 (.slice (some ⟨W.heap.size, 0, none⟩) 0 0) 0 [] := ⟨rfl, .inr ⟨W.heap.size, 0, #[], rfl, Nat.le_refl _, heap_alloc_new _ _, Nat.le_refl _, by unfold maxLen; omega, rfl, rfl⟩⟩
theorem OwnSt.allocB (k : OwnSt w W fa la ra (.slice none 0 0) vB [] rB) : OwnSt w (W.alloc (.cells #[] 4)) fa la ra (.slice (some ⟨W.heap.size, 0, none⟩) 0 0) vB [] rB :=
  ⟨(k.ow.below (below1 W _)).addLive (own_empty W 4) (by have := k.sz; omega) (by simp), Row.alloc k.rp _, Row.alloc k.r2 _, k.l.alloc k.l.size _, by have := k.sz; simp; omega⟩
theorem OwnSt.allocI (k : OwnSt w W fa la ra vA (.slice none 0 0) lA []) : OwnSt w (W.alloc (.cells #[] 3)) fa la ra vA (.slice (some ⟨W.heap.size, 0, none⟩) 0 0) lA [] :=
  ⟨(k.ow.below (below1 W _)).addRoots (own_empty W 3) (by have := k.sz; omega) (by simp), Row.alloc k.rp _, Row.alloc k.r2 _, k.l.alloc k.l.size _, by have := k.sz; simp; omega⟩
theorem OwnSt.allocC (k : OwnSt w W fa la ra vA vB lA rB) : OwnSt w (W.alloc (.cells (c3 (.slice none 0 0) (.slice none 0 0) (.slice none 0 0)) 30)) fa la ra vA vB lA rB :=
  ⟨(k.ow.below (below1 W _)).wide (Nat.le_refl _) (by simp), Row.alloc k.rp _, Row.alloc k.r2 _, k.l.alloc k.l.size _, by have := k.sz; simp; omega⟩
theorem own_store {g : Nat} {a0 b0 c0 : Value} (k : OwnSt w W fa la ra vA vB lA rB) (hr : RowH W g a0 b0 c0) (hg : w.heap.size + 2 ≤ g) (x y z : Value) : OwnSt w (((W.setCell ⟨g, 0, none⟩ x).setCell ⟨g, 1, none⟩ y).setCell ⟨g, 2, none⟩ z) fa la ra vA vB lA rB :=
  ⟨by simp only [World.size_setCell]; exact k.ow.set3 hr x y z, Row.other (Row.other (Row.other k.rp ⟨g, 0, none⟩ (by simp; omega) x) ⟨g, 1, none⟩ (by simp; omega) y) ⟨g, 2, none⟩ (by simp; omega) z, Row.other (Row.other (Row.other k.r2 ⟨g, 0, none⟩ (by simp; omega) x) ⟨g, 1, none⟩ (by simp; omega) y) ⟨g, 2, none⟩ (by simp; omega) z, below_set3 k.l (by omega) x y z, by simp only [World.size_setCell]; exact k.sz⟩
theorem row_grown {W' : World} {B g : Nat} {T : TypeId} {v : Value} {n : Nat} {xs : List Value} {cs : Array Value} (ho : W.ownsRow B T 1 v n xs) (hT : T ≠ 30) (hg : W.grownBy W' v.ownBlock) (hr : Row W g 30 cs) : Row W' g 30 cs :=
  (hg.block g hr.lt (fun e => owns_ne_row ho hr hT e.symm rfl)).trans hr
theorem grown_below {W' : World} {B : Nat} {T : TypeId} {v : Value} {n : Nat} {xs : List Value} (hb : Below B w W) (hB : B ≤ W.heap.size) (ho : W.ownsRow B T 1 v n xs) (hg : W.grownBy W' v.ownBlock) : Below B w W' := hb.grown hg hB (fun _ hk => (owns_lt ho hk).1)
theorem OwnSt.appB {bs : List Bool} (k : OwnSt w W fa la ra vA vB [] rB) (hs : BoolsAt w la bs) (hm : bs.length ≤ 1048576) (ty : TypeId) : ∃ v' W', (Builtin.append_ #[23, 23] ty #[vA, la]).run Try.prog W = .ok v' W' ∧ OwnSt w W' fa la ra v' vB bs rB ∧ ∀ g a b c, RowH W g a b c → RowH W' g a b c := by
  obtain ⟨i0, hi, hz0, hz1, hz2⟩ := info_parts info_boolz
  obtain ⟨us, hf⟩ := k.ow
  have ho : W.ownsRow w.heap.size 4 1 vA 0 [] := hf.live
  obtain ⟨v', W', hr, h1, h2, h3⟩ := run_appOwn (P := Try.prog) W w.heap.size 23 ty 4 i0 (.bool false) 1 Try.underlying23 hi hz0 hz1 hz2 rfl vA 0 [] ho la _ (hs.below k.l).src (by rw [List.length_map]; unfold maxLen; omega) (by rw [List.length_map]; omega) (by have := k.sz; omega)
  rw [List.nil_append, Nat.zero_add, List.length_map] at h1
  refine ⟨v', W', hr, ⟨⟨us, hf.turnLive h2 h1 h2.size (fun g hg => ?_)⟩, row_grown ho (by decide) h2 k.rp, row_grown ho (by decide) h2 k.r2, grown_below k.l (by have := k.sz; omega) ho h2, Nat.le_trans k.sz h2.size⟩, fun g a b c hr => row_grown ho (by decide) h2 hr⟩
  rcases h3 with h3 | h3
  · exact .inr (by rw [← h3]; exact hg)
  · rw [hg] at h3; cases h3; exact .inl ⟨Nat.le_refl _, (owns_lt h1 hg).2⟩
theorem OwnSt.appI {zs : List Int} (k : OwnSt w W fa la ra vA vB lA []) (hs : IntsAt w ra zs) (hm : zs.length ≤ 1048576) (ty : TypeId) : ∃ v' W', (Builtin.append_ #[24, 24] ty #[vB, ra]).run Try.prog W = .ok v' W' ∧ OwnSt w W' fa la ra vA v' lA zs ∧ ∀ g a b c, RowH W g a b c → RowH W' g a b c := by
  obtain ⟨i0, hi, hz0, hz1, hz2⟩ := info_parts info_int
  obtain ⟨us, hf⟩ := k.ow
  have ho : W.ownsRow w.heap.size 3 1 vB 0 [] := hf.roots
  obtain ⟨v', W', hr, h1, h2, h3⟩ := run_appOwn (P := Try.prog) W w.heap.size 24 ty 3 i0 (.int .i64 0) 8 Try.underlying24 hi hz0 hz1 hz2 rfl vB 0 [] ho ra _ (hs.below k.l).src (by rw [List.length_map]; unfold maxLen; omega) (by rw [List.length_map]; omega) (by have := k.sz; omega)
  rw [List.nil_append, Nat.zero_add, List.length_map] at h1
  refine ⟨v', W', hr, ⟨⟨us, hf.turnRoots h2 h1 h2.size (fun g hg => ?_)⟩, row_grown ho (by decide) h2 k.rp, row_grown ho (by decide) h2 k.r2, grown_below k.l (by have := k.sz; omega) ho h2, Nat.le_trans k.sz h2.size⟩, fun g a b c hr => row_grown ho (by decide) h2 hr⟩
  rcases h3 with h3 | h3
  · exact .inr (by rw [← h3]; exact hg)
  · rw [hg] at h3; cases h3; exact .inl ⟨Nat.le_refl _, (owns_lt h1 hg).2⟩
end
end Go.Proofs.Ytkkigoamphkalaa
namespace Go.Proofs.Ytkkigoamphkalaa
open Go.RowKit Ph

theorem src_one (W : World) (y : Value) (hy : y.oneCell' = true) : SrcAt (W.alloc (.cells #[y] 24)) (.slice (some ⟨W.heap.size, 0, none⟩) 1 1) [y] :=
  ⟨_, 1, rfl, fun u hu => by simp at hu; rw [hu]; exact hy, fun _ => ⟨W.heap.size, 0, rfl, fun j hj => by simp at hj; subst hj; exact Row.cell (Row.new W 24 #[y]) 0⟩⟩
structure Lp (w W : World) (gC hi0 : Nat) (A B C : Value) (h : H) : Prop where
  rw' : RowH W gC A B C
  ow : OwnH W w.heap.size hi0 A B C h
  r2 : RowH W (w.heap.size + 1) (.slice none 0 0) (.slice none 0 0) (.slice none 0 0)
  l : Below w.heap.size w W
  hi : hi0 ≤ W.heap.size
  lo : w.heap.size + 2 ≤ hi0
section
variable {w W : World} {gC hi0 : Nat} {A B C : Value} {h : H}
theorem Lp.alloc (k : Lp w W gC hi0 A B C h) (o : Obj) : Lp w (W.alloc o) gC hi0 A B C h :=
  ⟨Row.alloc k.rw' o, k.ow.below (below1 W o), Row.alloc k.r2 o, k.l.alloc (by have := k.hi; have := k.lo; omega) o, by have := k.hi; simp; omega, k.lo⟩
theorem Lp.app {x y : Value} {zs : List Int} (k : Lp w W gC hi0 A B C h) (e : W.ownsRow hi0 3 1 y 0 []) (hs : IntsAt w x zs) (hm : zs.length ≤ 1048576) (ty : TypeId) :
    ∃ v' W', (Builtin.append_ #[24, 24] ty #[y, x]).run Try.prog W = .ok v' W' ∧ Lp w W' gC hi0 A B C h ∧ Own W' hi0 v' zs := by
  obtain ⟨i0, hi, hz0, hz1, hz2⟩ := info_parts info_int
  obtain ⟨v', W', hr, h1, h2, _⟩ := run_appOwn (P := Try.prog) W hi0 24 ty 3 i0 (.int .i64 0) 8 Try.underlying24 hi hz0 hz1 hz2 rfl y 0 [] e x _ (hs.below k.l).src (by rw [List.length_map]; unfold maxLen; omega) (by rw [List.length_map]; omega) k.hi
  rw [List.nil_append, Nat.zero_add, List.length_map] at h1
  have hlo := k.lo
  have hch : Chg hi0 W.heap.size W W' := Chg.of_grown h2 fun g hg => owns_lt e hg
  refine ⟨v', W', hr, ⟨row_grown e (by decide) h2 k.rw', k.ow.chg hch (.inl (Nat.le_refl _)), row_grown e (by decide) h2 k.r2, below_chg k.l hch (by omega) (by have := k.hi; omega), Nat.le_trans k.hi h2.size, k.lo⟩, h1⟩
theorem Lp.grow {y z : Value} {zs : List Int} (k : Lp w W gC hi0 A B C h) (e : Own W hi0 y zs) (hz : SrcAt W z [y]) (hn : h.f.length ≤ 1000) (ty : TypeId) :
    ∃ v' W', (Builtin.append_ #[22, 22] ty #[A, z]).run Try.prog W = .ok v' W' ∧ RowH W' gC A B C ∧ OwnH W' w.heap.size W'.heap.size v' B C ⟨h.f ++ [zs], h.l, h.r⟩ ∧ RowH W' (w.heap.size + 1) (.slice none 0 0) (.slice none 0 0) (.slice none 0 0) ∧ Below w.heap.size w W' ∧ w.heap.size + 2 ≤ W'.heap.size ∧ ∃ pa qa, v' = .slice pa (h.f.length + 1) qa := by
  obtain ⟨i0, hi, hz0, hz1, hz2⟩ := info_parts info_ints
  obtain ⟨us, hf⟩ := k.ow
  have ho := hf.outer
  obtain ⟨v', W', hr, h1, h2, h3⟩ := run_appOwn (P := Try.prog) W w.heap.size 22 ty 24 i0 (.slice none 0 0) 24 Try.underlying22 hi hz0 hz1 hz2 rfl A h.f.length _ ho z [y] hz (by simp; unfold maxLen; omega) (by simp; omega) (by have := k.hi; have := k.lo; omega)
  have hlo := k.lo
  have hhi := k.hi
  have h1' : W'.ownsRow w.heap.size 24 1 v' (h.f.length + 1) ((List.range h.f.length).map us ++ [y]) := h1
  refine ⟨v', W', hr, row_grown ho (by decide) h2 k.rw', ⟨_, hf.growRow (hi1 := W.heap.size) (e.mono (by omega)) (fun g hg => owns_lt e hg) hhi h2 h1' h2.size (fun g hg => ?_)⟩, row_grown ho (by decide) h2 k.r2, grown_below k.l (by omega) ho h2, by have := h2.size; omega, ?_⟩
  · rcases h3 with h3 | h3
    · exact .inr (by rw [← h3]; exact hg)
    · rw [hg] at h3; cases h3; exact .inl ⟨Nat.le_refl _, (owns_lt h1' hg).2⟩
  · rcases h1'.2 with ⟨_, h0⟩ | ⟨g, cap, cur, hv, _⟩
    · omega
    · exact ⟨_, _, hv⟩
end
end Go.Proofs.Ytkkigoamphkalaa
namespace Go.Proofs.Ytkkigoamphkalaa.Ph
def newOk (h : H) (m : Int) : Bool := good h && decide (0 ≤ m) && decide (m ≤ 3) && decide (placeOf h.l < 12)
/-- One object more, not live. -/
def grown1 (h : H) : H := if placeOf h.l < h.l.length then h else ⟨h.f ++ [[]], h.l ++ [false], h.r⟩
def put1 (h : H) (p : Nat) (m : Nat) : H := ⟨h.f.set p (List.replicate m (-1)), h.l.set p true, h.r⟩
def newP (h : H) (m : Int) : H × Nat := if newOk h m = true then (put1 (grown1 h) (placeOf h.l) m.toNat, placeOf h.l) else (⟨[], [], []⟩, 0)
theorem newP_no {h : H} {m : Int} (k : newOk h m = false) : newP h m = (⟨[], [], []⟩, 0) := by unfold newP; rw [k]; rfl
theorem newP_yes {h : H} {m : Int} (k : newOk h m = true) : newP h m = (put1 (grown1 h) (placeOf h.l) m.toNat, placeOf h.l) := by unfold newP; rw [k]; rfl
end Go.Proofs.Ytkkigoamphkalaa.Ph
namespace Go.Proofs.Ytkkigoamphkalaa
open Go.RowKit Ph

theorem c_slRepeat (m g : Nat) (hm : m ≤ 3) (w : World) (hR : Row w g 3 #[.int .i64 (-1)]) : Calls Try.prog 128 #[.slice (some ⟨g, 0, none⟩) 1 1, .int .i64 (m : Int)] w fun e w' => ∃ v', e = .returned v' ∧ Own w' w.heap.size v' (List.replicate m (-1)) ∧ Below w.heap.size w w' := by
  match m, hm with
  | 0, _ => exact c_rep0 g w hR
  | 1, _ => exact c_rep1 g w hR
  | 2, _ => exact c_rep2 g w hR
  | 3, _ => exact c_rep3 g w hR
theorem src_bool (W : World) (b : Bool) : SrcAt (W.alloc (.cells #[.bool b] 4)) (.slice (some ⟨W.heap.size, 0, none⟩) 1 1) ([b].map Value.bool) :=
  ⟨_, 1, rfl, fun u hu => by simp at hu; rw [hu]; rfl, fun _ => ⟨W.heap.size, 0, rfl, fun j hj => by simp at hj; subst hj; exact Row.cell (Row.new W 4 #[.bool b]) 0⟩⟩
theorem wl_appRun {P : Program} {w w' : World} {ops : Array Oper} {rest : List Oper} {o : Oper} {q : Act} {Q : Exit → Act → World → Prop} {vs vx v' : Value} (hgd : o.guard = none) (s x : Operand) (t : TypeId) (hop : o.op = Op.call { callee := Callee.builtin Builtin.append, args := #[s, x], argTypes := #[t, t] }) (hs : q.eval s = vs) (hx : q.eval x = vx)
    (hrun : (Builtin.append_ #[t, t] o.type #[vs, vx]).run P w = .ok v' w') (h : wpList P ops Q rest (q.put o.dst v') w') : wpList P ops Q (o :: rest) q w := wpList_plain hgd fun _ hK => op_app s x t hop hs hx hrun (hK _ _ h)
theorem ext_live {w : World} {lo hi : Nat} {a b c : Value} {h : H} (k : OwnH w lo hi a b c h) (hl : lo ≤ hi) (hs : hi ≤ w.heap.size) (hn : h.l.length ≤ 1000) (x : Bool) (ty : TypeId) :
    ∃ v1 w1, (Builtin.append_ #[23, 23] ty #[b, .slice (some ⟨w.heap.size, 0, none⟩) 1 1]).run Try.prog (w.alloc (.cells #[.bool x] 4)) = .ok v1 w1 ∧ OwnH w1 lo w1.heap.size a v1 c ⟨h.f, h.l ++ [x], h.r⟩ ∧ (∀ g a b c, RowH w g a b c → RowH w1 g a b c) ∧ (∀ B w0, B ≤ lo → Below B w0 w → Below B w0 w1) ∧ w.heap.size ≤ w1.heap.size ∧ ∃ p q, v1 = .slice p (h.l.length + 1) q := by
  obtain ⟨i0, hi0, hz0, hz1, hz2⟩ := info_parts info_boolz
  obtain ⟨us, hf0⟩ := k
  have hf : FamH (w.alloc (.cells #[.bool x] 4)) lo hi a b c us h := Fam.below hf0 (below1 w _)
  have ho := hf.live
  obtain ⟨v', W', hr, h1, h2, h3⟩ := run_appOwn (P := Try.prog) (w.alloc (.cells #[.bool x] 4)) lo 23 ty 4 i0 (.bool false) 1 Try.underlying23 hi0 hz0 hz1 hz2 rfl b h.l.length _ ho _ _ (src_bool w x) (by simp; unfold maxLen; omega) (by simp; omega) (by simp; omega)
  have h1' : OwnBs W' lo v' (h.l ++ [x]) := by unfold OwnBs; rw [List.map_append, List.length_append]; exact h1
  have hsz : (w.alloc (.cells #[.bool x] 4)).heap.size = w.heap.size + 1 := World.size_alloc _ _
  have h2s := h2.size
  refine ⟨v', W', hr, ⟨us, hf.turnLive h2 h1' (by omega) (fun g hg => ?_)⟩, fun g a b c hr => row_grown ho (by decide) h2 (Row.alloc hr _), fun B w0 hB hb => (hb.alloc (by omega) _).grown h2 (by omega) (fun g hg => by have := (owns_lt ho hg).1; omega), by omega, ?_⟩
  · rcases h3 with h3 | h3
    · exact .inr (by rw [← h3]; exact hg)
    · rw [hg] at h3; cases h3; exact .inl ⟨by omega, (owns_lt h1' hg).2⟩
  · rcases h1.2 with ⟨_, h0⟩ | ⟨g, cap, cur, hv, _⟩
    · simp at h0
    · exact ⟨_, _, hv⟩
theorem ext_rows {w : World} {lo hi : Nat} {a b c : Value} {h : H} (k : OwnH w lo hi a b c h) (hl : lo ≤ hi) (hs : hi ≤ w.heap.size) (hn : h.f.length ≤ 1000) (ty : TypeId) :
    ∃ v1 w1, (Builtin.append_ #[22, 22] ty #[a, .slice (some ⟨w.heap.size, 0, none⟩) 1 1]).run Try.prog (w.alloc (.cells #[.slice none 0 0] 24)) = .ok v1 w1 ∧ OwnH w1 lo w1.heap.size v1 b c ⟨h.f ++ [[]], h.l, h.r⟩ ∧ (∀ g a b c, RowH w g a b c → RowH w1 g a b c) ∧ (∀ B w0, B ≤ lo → Below B w0 w → Below B w0 w1) ∧ w.heap.size ≤ w1.heap.size ∧ ∃ p q, v1 = .slice p (h.f.length + 1) q := by
  obtain ⟨i0, hi0, hz0, hz1, hz2⟩ := info_parts info_ints
  obtain ⟨us, hf0⟩ := k
  have hf : FamH (w.alloc (.cells #[.slice none 0 0] 24)) lo hi a b c us h := Fam.below hf0 (below1 w _)
  have ho := hf.outer
  obtain ⟨v', W', hr, h1, h2, h3⟩ := run_appOwn (P := Try.prog) (w.alloc (.cells #[.slice none 0 0] 24)) lo 22 ty 24 i0 (.slice none 0 0) 24 Try.underlying22 hi0 hz0 hz1 hz2 rfl a h.f.length _ ho _ [.slice none 0 0] (src_one w _ rfl) (by simp; unfold maxLen; omega) (by simp; omega) (by simp; omega)
  have h1' : W'.ownsRow lo 24 1 v' (h.f.length + 1) ((List.range h.f.length).map us ++ [.slice none 0 0]) := h1
  have hsz : (w.alloc (.cells #[.slice none 0 0] 24)).heap.size = w.heap.size + 1 := World.size_alloc _ _
  have h2s := h2.size
  refine ⟨v', W', hr, ⟨_, hf.growRow (hi1 := w.heap.size + 1) (Own.nil _ lo) (fun g hg => by cases hg) (by omega) h2 h1' (by omega) (fun g hg => ?_)⟩, fun g a b c hr => row_grown ho (by decide) h2 (Row.alloc hr _), fun B w0 hB hb => (hb.alloc (by omega) _).grown h2 (by omega) (fun g hg => by have := (owns_lt ho hg).1; omega), by omega, ?_⟩
  · rcases h3 with h3 | h3
    · exact .inr (by rw [← h3]; exact hg)
    · rw [hg] at h3; cases h3; exact .inl ⟨by omega, (owns_lt h1' hg).2⟩
  · rcases h1'.2 with ⟨_, h0⟩ | ⟨g, cap, cur, hv, _⟩
    · simp at h0
    · exact ⟨_, _, hv⟩
/-- A new row stored in a heap that is the call's own. -/
theorem putRow1 {w : World} {lo hi : Nat} {a b c : Value} {h : H} (k : OwnH w lo hi a b c h) {j : Nat} (hj : j < h.f.length) {u : Value} {zs : List Int} (ho : Own w hi u zs) (hl : lo ≤ hi) (hs : hi ≤ w.heap.size) : ∃ ga ca x, a = .slice (some ⟨ga, 0, none⟩) h.f.length ca ∧ w.cell? ⟨ga, j, none⟩ = some x ∧ w.frozen? ⟨ga, j, none⟩ = false ∧ lo ≤ ga ∧ (∀ g cs, Row w g 30 cs → ga ≠ g) ∧ OwnH (w.setCell ⟨ga, j, none⟩ u) lo w.heap.size a b c ⟨h.f.set j zs, h.l, h.r⟩ := by
  obtain ⟨us, hf⟩ := k
  rcases hf.shape with ⟨_, h0⟩ | ⟨ga, ca, ha⟩
  · rw [h0] at hj; simp at hj
  obtain ⟨c1, f1⟩ := hf.cell ha hj
  obtain ⟨s1, _⟩ := hf.putRow hj (ho.mono hl) hs (fun g hg => .inl (owns_lt ho hg)) ha
  have := Fam.blk hf (k := 0) (g := ga) (by omega) (by show a.ownBlock = _; rw [ha]; rfl)
  exact ⟨ga, ca, _, ha, c1, f1, this.1, fun g cs hr => owns_ne_row hf.outer hr (by decide) (by rw [ha]; rfl), ⟨_, s1⟩⟩
end Go.Proofs.Ytkkigoamphkalaa
namespace Go.Proofs.Ytkkigoamphkalaa
open Go.RowKit Ph

theorem OwnH.liveNe {w : World} {lo hi gb n cb g : Nat} {a c : Value} {h : H} {cs : Array Value} (k : OwnH w lo hi a (.slice (some ⟨gb, 0, none⟩) n cb) c h) (hr : Row w g 30 cs) : gb ≠ g := by
  obtain ⟨us, hf⟩ := k
  exact owns_ne_row hf.live hr (by decide) rfl
set_option maxRecDepth 100000 in
set_option maxHeartbeats 6400000 in
theorem c_NewThing (a b c : Value) (h : H) (m : Int) (w : World) (hA : HeapAt w a b c h) : Calls Try.prog 62 #[hv a b c, .int .i64 m] w (EndHI (newP h m).1 ((newP h m).2 : Int) (newOk h m) w) := by
  have hb0 := (below1 w (.cells (c3 a b c) 30)).alloc (by simp) (.cells (c3 (.slice none 0 0) (.slice none 0 0) (.slice none 0 0)) 30)
  have A0 := Lib.hid (hA.below hb0)
  have HB := Lib.hid hb0
  have P0 := Lib.hid (show RowH _ _ a b c from (Row.new w 30 (c3 a b c)).alloc (.cells (c3 (.slice none 0 0) (.slice none 0 0) (.slice none 0 0)) 30))
  have R0 := Lib.hid (show RowH _ (w.heap.size + 1) (.slice none 0 0) (.slice none 0 0) (.slice none 0 0) from Row.new1 w (.cells (c3 a b c) 30) 30 (c3 (.slice none 0 0) (.slice none 0 0) (.slice none 0 0)))
  clear hA hb0
  have HC := Lib.hid (c_GoodHeap a b c h _ A0.out)
  have G1 := Lib.hid (good_iff (h := h)).1
  have E1 := Lib.hid (newP_no (h := h) (m := m))
  have E2 := Lib.hid (newP_yes (h := h) (m := m))
  have hok : newOk h m = (good h && decide (0 ≤ m) && decide (m ≤ 3) && decide (placeOf h.l < 12)) := rfl
  generalize good h = x at *
  generalize newOk h m = ok at *
  have p0 := P0.out.c0
  have p1 := P0.out.c1
  have p2 := P0.out.c2
  cases x
  · have HE : Hid (ok = false) := by unfold Hid; rw [hok]; rfl
    clear hok
    go_enter Try.func62, Try.ntmps62
    go_wp2_with (first
      | (go_at_call 55; refine HC.out.mono ?_; rintro e w1 ⟨rfl, hb1⟩; have B1 := Lib.hid (bst HB.out hb1 HB.out.size); have A1 := Lib.hid (A0.out.below hb1); have P1 := Lib.hid (P0.out.below hb1); have R1 := Lib.hid (R0.out.below hb1); have d10 := P1.out.c0; have d11 := P1.out.c1; have d12 := P1.out.c2; clear hb1)
      | (refine wl_storeH rfl _ _ rfl (w.heap.size + 1) (.slice none 0 0) (.slice none 0 0) (.slice none 0 0) _ _ _ R1.out rfl rfl rfl rfl rfl ?_))
    refine bodyPost_ret (res_row_slot2 Try.results62 (Row.put R1.out (c3 (.slice none 0 0) (.slice none 0 0) (.slice none 0 0))) rfl rfl rfl Try.underlying30 rfl info_heap) rfl (endHI_no (below_setRow B1.out (by omega) _) (by rw [E1.out HE.out]) (by rw [E1.out HE.out]; rfl) HE.out)
  · have G := Lib.hid (G1.out rfl)
    by_cases m0 : m < 0
    · have HE : Hid (ok = false) := by unfold Hid; rw [hok, decide_eq_false (show ¬ 0 ≤ m by omega)]; rfl
      clear hok
      go_enter Try.func62, Try.ntmps62
      go_wp2_with (first
        | (go_at_call 55; refine HC.out.mono ?_; rintro e w1 ⟨rfl, hb1⟩; have B1 := Lib.hid (bst HB.out hb1 HB.out.size); have A1 := Lib.hid (A0.out.below hb1); have P1 := Lib.hid (P0.out.below hb1); have R1 := Lib.hid (R0.out.below hb1); have d10 := P1.out.c0; have d11 := P1.out.c1; have d12 := P1.out.c2; clear hb1)
        | (refine wl_storeH rfl _ _ rfl (w.heap.size + 1) (.slice none 0 0) (.slice none 0 0) (.slice none 0 0) _ _ _ R1.out rfl rfl rfl rfl rfl ?_))
      refine bodyPost_ret (res_row_slot2 Try.results62 (Row.put R1.out (c3 (.slice none 0 0) (.slice none 0 0) (.slice none 0 0))) rfl rfl rfl Try.underlying30 rfl info_heap) rfl (endHI_no (below_setRow B1.out (by omega) _) (by rw [E1.out HE.out]) (by rw [E1.out HE.out]; rfl) HE.out)
    · by_cases m3 : 3 < m
      · have HE : Hid (ok = false) := by unfold Hid; rw [hok, decide_eq_false (show ¬ m ≤ 3 by omega)]; simp
        clear hok
        go_enter Try.func62, Try.ntmps62
        go_wp2_with (first
          | (go_at_call 55; refine HC.out.mono ?_; rintro e w1 ⟨rfl, hb1⟩; have B1 := Lib.hid (bst HB.out hb1 HB.out.size); have A1 := Lib.hid (A0.out.below hb1); have P1 := Lib.hid (P0.out.below hb1); have R1 := Lib.hid (R0.out.below hb1); have d10 := P1.out.c0; have d11 := P1.out.c1; have d12 := P1.out.c2; clear hb1)
          | (refine wl_storeH rfl _ _ rfl (w.heap.size + 1) (.slice none 0 0) (.slice none 0 0) (.slice none 0 0) _ _ _ R1.out rfl rfl rfl rfl rfl ?_))
        refine bodyPost_ret (res_row_slot2 Try.results62 (Row.put R1.out (c3 (.slice none 0 0) (.slice none 0 0) (.slice none 0 0))) rfl rfl rfl Try.underlying30 rfl info_heap) rfl (endHI_no (below_setRow B1.out (by omega) _) (by rw [E1.out HE.out]) (by rw [E1.out HE.out]; rfl) HE.out)
      · obtain ⟨mm, rfl⟩ : ∃ k : Nat, m = k := ⟨m.toNat, by omega⟩
        have hmm : mm ≤ 3 := by omega
        rw [decide_eq_true (show (0 : Int) ≤ (mm : Int) by omega), decide_eq_true (show (mm : Int) ≤ 3 by omega)] at hok
        have hple := place_le h.l
        have hln : h.l.length ≤ 12 := by have := G.out.ll; have := G.out.n; omega
        have HLF : Hid (h.l.length = h.f.length) := G.out.ll
        have n1 : ¬ (mm : Int) < 0 := by omega
        have n2 : ¬ (3 : Int) < (mm : Int) := by omega
        have HFP : Hid (∀ w', HeapAt w' a b c h → Calls Try.prog 127 #[hv a b c] w' fun e w'' => e = .returned (.tuple #[.int .i64 (placeOf h.l : Int), .bool (decide (placeOf h.l < 12))]) ∧ Below w'.heap.size w' w'') := fun w' hh => c_freePlace a b c h w' hh G.out
        by_cases h12 : placeOf h.l < 12
        · have HPL : Hid (decide (placeOf h.l < 12) = true) := decide_eq_true h12
          have HE : Hid (ok = true) := by unfold Hid; rw [hok, HPL.out]; rfl
          have hE2 := E2.out HE.out
          rw [Int.toNat_natCast] at hE2
          have HE1 : Hid ((newP h (mm : Int)).1 = put1 (grown1 h) (placeOf h.l) mm) := by unfold Hid; rw [hE2]
          have HE2 : Hid (((newP h (mm : Int)).2 : Int) = (placeOf h.l : Int)) := by unfold Hid; rw [hE2]
          have HG1 : Hid (placeOf h.l < h.l.length → grown1 h = h) := fun k => by unfold grown1; rw [if_pos k]
          have HG2 : Hid (¬ placeOf h.l < h.l.length → grown1 h = ⟨h.f ++ [[]], h.l ++ [false], h.r⟩) := fun k => by unfold grown1; rw [if_neg k]
          clear hE2 hok
          generalize (newP h (mm : Int)).1 = c1 at *
          generalize (newP h (mm : Int)).2 = c2 at *
          generalize hp : placeOf h.l = p at *
          clear hp
          go_enter Try.func62, Try.ntmps62
          go_wp2_with (first
            | (go_at_call 55; refine HC.out.mono ?_; rintro e w1 ⟨rfl, hb1⟩; have B1 := Lib.hid (bst HB.out hb1 HB.out.size); have A1 := Lib.hid (A0.out.below hb1); have P1 := Lib.hid (P0.out.below hb1); have R1 := Lib.hid (R0.out.below hb1); have d10 := P1.out.c0; have d11 := P1.out.c1; have d12 := P1.out.c2; clear hb1)
            | (go_at_call 127; refine (HFP.out _ A1.out).mono ?_; rintro e w2 ⟨rfl, hb2⟩; rw [HPL.out]; have B2 := Lib.hid (bst B1.out hb2 B1.out.size); have A2 := Lib.hid (A1.out.below hb2); have P2 := Lib.hid (P1.out.below hb2); have R2 := Lib.hid (R1.out.below hb2); have d20 := P2.out.c0; have d21 := P2.out.c1; have d22 := P2.out.c2; clear hb2))
          refine (c_copyHeap a b c h _ A2.out G.out).mono ?_
          rintro e w9 ⟨a', b', c', rfl, ho, hb9⟩
          obtain ⟨⟨pa, qa, rfl⟩, ⟨pb, qb, rfl⟩, ⟨pc, qc, rfl⟩⟩ := ho.shapes
          have hbA := below1 w9 (.cells (c3 (.slice pa h.f.length qa) (.slice pb h.l.length qb) (.slice pc h.r.length qc)) 30)
          have BX := Lib.hid ((bst B2.out hb9 B2.out.size).alloc (bst B2.out hb9 B2.out.size).size (.cells (c3 (.slice pa h.f.length qa) (.slice pb h.l.length qb) (.slice pc h.r.length qc)) 30))
          have RX := Lib.hid (show RowH _ (w.heap.size + 1) (.slice none 0 0) (.slice none 0 0) (.slice none 0 0) from Row.alloc (R2.out.below hb9) (.cells (c3 (.slice pa h.f.length qa) (.slice pb h.l.length qb) (.slice pc h.r.length qc)) 30))
          have VX := Lib.hid (show RowH _ w9.heap.size (.slice pa h.f.length qa) (.slice pb h.l.length qb) (.slice pc h.r.length qc) from Row.new w9 30 (c3 (.slice pa h.f.length qa) (.slice pb h.l.length qb) (.slice pc h.r.length qc)))
          have OX := Lib.hid (ho.below hbA)
          have L2 : Hid (w.heap.size ≤ w2.heap.size) := B2.out.size
          have S9 : Hid (w2.heap.size ≤ w9.heap.size) := hb9.size
          have SX : Hid ((w9.alloc (.cells (c3 (.slice pa h.f.length qa) (.slice pb h.l.length qb) (.slice pc h.r.length qc)) 30)).heap.size = w9.heap.size + 1) := World.size_alloc _ _
          clear ho hb9 hbA d10 d11 d12 d20 d21 d22 p0 p1 p2
          by_cases hpn : p < h.l.length
          · have HGE := Lib.hid (HG1.out hpn)
            have hne : ((p : Int) == (h.l.length : Int)) = false := by simp; omega
            have i1 : (p : Int) < (h.l.length : Int) := by omega
            have i1f : (p : Int) < (h.f.length : Int) := by have := HLF.out; omega
            have i0 : (0 : Int) ≤ (p : Int) := by omega
            obtain ⟨gb, cb, hbv, qb1, fb1, oL, cL⟩ := putLiveB OX.out (j := p) hpn true
            cases hbv
            have V1 := Lib.hid (show RowH _ _ _ _ _ from Row.other VX.out ⟨gb, p, none⟩ (Ne.symm (OwnH.liveNe OX.out VX.out)) (.bool true))
            have R1x := Lib.hid (show RowH _ _ _ _ _ from Row.other RX.out ⟨gb, p, none⟩ (Ne.symm (OwnH.liveNe OX.out RX.out)) (.bool true))
            have SBx := Lib.hid ((by rw [World.size_setCell, World.size_alloc]; omega) : w9.heap.size ≤ ((w9.alloc (.cells (c3 (.slice pa h.f.length qa) (.slice (some ⟨gb, 0, none⟩) h.l.length qb) (.slice pc h.r.length qc)) 30)).setCell ⟨gb, p, none⟩ (.bool true)).heap.size)
            have BL1 := Lib.hid (below_chg BX.out cL L2.out BX.out.size)
            have OL1 := Lib.hid oL
            have VB := VX.out.c1
            clear oL cL
            go_wp2_with fail
            generalize ((w9.alloc (.cells (c3 (.slice pa h.f.length qa) (.slice (some ⟨gb, 0, none⟩) h.l.length qb) (.slice pc h.r.length qc)) 30)).setCell ⟨gb, p, none⟩ (.bool true)) = wb at *
            have cA : wb.drew.cell? ⟨w9.heap.size, 0, none⟩ = some (.slice pa h.f.length qa) := V1.out.c0
            have SB : Hid (w9.heap.size ≤ wb.heap.size) := SBx
            have VD : Hid (RowH wb.drew w9.heap.size (.slice pa h.f.length qa) (.slice (some ⟨gb, 0, none⟩) h.l.length qb) (.slice pc h.r.length qc)) := V1.out
            have RD : Hid (RowH wb.drew (w.heap.size + 1) (.slice none 0 0) (.slice none 0 0) (.slice none 0 0)) := R1x.out
            have BLD := Lib.hid (below_drew BL1.out)
            have OD := Lib.hid (OL1.out.below (below_drew (Below.refl wb.heap.size wb)))
            have SD : Hid (w9.heap.size ≤ wb.drew.heap.size) := SB.out
            clear V1 R1x BL1 OL1
            refine wp_region_held_drew (S := (fun w' => w'.cell? ⟨w9.heap.size, 0, none⟩ = some (.slice pa h.f.length qa))) (by kernel_rfl) (cA) (fun hHeld => ?_)
            refine wpAnyH_take (i := 0) (v := ?va0x1) rfl (by kernel_rfl) (by kernel_rfl) (by kernel_rfl) (fun _ _ _ h => h) (Or.inl ⟨by rfl, ?hy0x1⟩) (by assumption) ?rest0x1
            case hy0x1 => (intro w hSw; (try dsimp only at hSw); go_simp; try with_reducible rfl)
            (try simp only [Act.put, List.getElem_toArray, List.getElem_cons_zero, List.setIfInBounds_toArray, List.set_cons_zero, List.set_cons_succ])
            refine wpAnyH_take (i := 1) (v := ?va1x2) rfl (by kernel_rfl) (by kernel_rfl) (by kernel_rfl) (fun _ _ _ h => h) (Or.inl ⟨by rfl, ?hy1x2⟩) (by assumption) ?rest1x2
            case hy1x2 => (intro w hSw; (try dsimp only at hSw); go_simp; try with_reducible rfl)
            (try simp only [Act.put, List.getElem_toArray, List.getElem_cons_zero, List.getElem_cons_succ, List.setIfInBounds_toArray, List.set_cons_zero, List.set_cons_succ])
            refine wpAnyH_take (i := 2) (v := ?va2x3) rfl (by kernel_rfl) (by kernel_rfl) (by kernel_rfl) (fun _ _ _ h => h) (Or.inl ⟨by rfl, ?hy2x3⟩) (by assumption) ?rest2x3
            case hy2x3 => (intro w hSw; (try dsimp only at hSw); go_simp; try with_reducible rfl)
            (try simp only [Act.put, List.getElem_toArray, List.getElem_cons_zero, List.getElem_cons_succ, List.setIfInBounds_toArray, List.set_cons_zero, List.set_cons_succ])
            refine wpAnyH_take (i := 4) (v := ?va4x4) rfl (by kernel_rfl) (by kernel_rfl) (by kernel_rfl) (fun _ _ _ h => h) (Or.inl ⟨by rfl, ?hy4x4⟩) (by assumption) ?rest4x4
            case hy4x4 => (intro w hSw; (try dsimp only at hSw); go_simp; try with_reducible rfl)
            (try simp only [Act.put, List.getElem_toArray, List.getElem_cons_zero, List.getElem_cons_succ, List.setIfInBounds_toArray, List.set_cons_zero, List.set_cons_succ])
            generalize wb.drew = wc at *
            refine wpAnyH_ready (rs := [3]) (by kernel_rfl) (by simp) ?_
            refine AllReadyH.cons rfl (fun K hK => ?_) AllReadyH.nil
            have hba := below1 wc (.cells #[.int .i64 (-1)] 3)
            have VE := Lib.hid (VD.out.below hba); have RE := Lib.hid (RD.out.below hba); have BLE := Lib.hid (bst BLD.out hba BLD.out.size); have OE := Lib.hid (OD.out.below hba)
            have SE : Hid (w9.heap.size ≤ (wc.alloc (.cells #[.int .i64 (-1)] 3)).heap.size) := Nat.le_trans SD.out hba.size
            have RO := Lib.hid (Row.new wc 3 #[.int .i64 (-1)])
            go_simp
            refine hK.out _ _ VE.out.c0 (fun hHeld => ?_)
            clear hK K hba
            (try simp only [Act.put, List.getElem_toArray, List.getElem_cons_zero, List.getElem_cons_succ, List.setIfInBounds_toArray, List.set_cons_zero, List.set_cons_succ])
            generalize wc.heap.size = go at *
            generalize wc.alloc (.cells #[.int .i64 (-1)] 3) = wd at *
            refine wpAnyH_ready (rs := [5]) (by kernel_rfl) (by simp) ?_
            refine AllReadyH.cons rfl (fun K hK => ?_) AllReadyH.nil
            go_simp
            refine (c_slRepeat mm go hmm _ RO.out).mono ?_
            rintro e we ⟨vn, rfl, hov, hbe⟩
            have VF := Lib.hid (VE.out.below hbe); have RF := Lib.hid (RE.out.below hbe); have BLF := Lib.hid (bst BLE.out hbe BLE.out.size); have OF := Lib.hid (OE.out.below hbe)
            have OVN : Hid (Own we w9.heap.size vn (List.replicate mm (-1))) := hov.mono SE.out
            have SF : Hid (w9.heap.size ≤ we.heap.size) := Nat.le_trans SE.out hbe.size
            obtain ⟨pn, qn, hpnn⟩ := hov.ints.shape
            subst hpnn
            refine hK.out _ _ VF.out.c0 (fun hHeld => ?_)
            clear hK K hbe hov
            (try simp only [Act.put, List.getElem_toArray, List.getElem_cons_zero, List.getElem_cons_succ, List.setIfInBounds_toArray, List.set_cons_zero, List.set_cons_succ])
            obtain ⟨ga, ca, xx, hax, qf1, ff1, hlo, hap, oN⟩ := putRow1 OF.out (j := p) (by simp only; have := HLF.out; omega) OVN.out S9.out SF.out
            cases hax
            have hgA : ga ≠ w9.heap.size := hap _ _ VF.out
            have hgR : ga ≠ w.heap.size + 1 := hap _ _ RF.out
            have VG := Lib.hid (show RowH _ _ _ _ _ from Row.other VF.out ⟨ga, p, none⟩ (by simp; omega) (.slice pn (List.replicate mm (-1 : Int)).length qn))
            have RG := Lib.hid (show RowH _ _ _ _ _ from Row.other RF.out ⟨ga, p, none⟩ (by simp; omega) (.slice pn (List.replicate mm (-1 : Int)).length qn))
            have BG := Lib.hid (BLF.out.setCell (p := ⟨ga, p, none⟩) (by have := L2.out; simp only; omega) (.slice pn (List.replicate mm (-1 : Int)).length qn))
            have OG := Lib.hid oN
            have SG := Lib.hid (World.size_setCell we ⟨ga, p, none⟩ (.slice pn (List.replicate mm (-1 : Int)).length qn))
            clear oN hap
            generalize (List.replicate mm (-1 : Int)).length = lr at *
            refine wpAnyH_take (i := 6) (v := ?va6x5) rfl (by kernel_rfl) (by kernel_rfl) (by kernel_rfl) (fun _ _ _ h => h) (Or.inl ⟨by rfl, ?hy6x5⟩) (by assumption) ?rest6x5
            case hy6x5 => (intro w hSw; (try dsimp only at hSw); go_simp; try with_reducible rfl)
            (try simp only [Act.put, List.getElem_toArray, List.getElem_cons_zero, List.getElem_cons_succ, List.setIfInBounds_toArray, List.set_cons_zero, List.set_cons_succ])
            refine wpAnyH_ready (rs := [7]) (by kernel_rfl) (by simp) ?_
            refine AllReadyH.cons rfl (fun K hK => ?_) AllReadyH.nil
            go_simp
            refine hK.out _ _ VG.out.c0 (fun hHeld => ?_)
            clear hK K
            (try simp only [Act.put, List.getElem_toArray, List.getElem_cons_zero, List.getElem_cons_succ, List.setIfInBounds_toArray, List.set_cons_zero, List.set_cons_succ])
            refine wpAnyH_done (by kernel_rfl) ?_ _
            clear hHeld qf1 ff1
            generalize we.setCell ⟨ga, p, none⟩ (.slice pn lr qn) = wf at *
            have HF1 : Hid (c1 = put1 (h) p mm) := by unfold Hid; rw [HE1.out, HGE.out]
            have HF3 := Lib.hid (show OwnH _ _ _ _ _ _ (put1 (h) p mm) from OG.out)
            generalize put1 (h) p mm = hN at *
            generalize h.f.length = nf at *
            generalize h.l.length = nl at *
            generalize h.r.length = nr at *
            go_wp2_with (first
              | (refine wl_loadH rfl _ rfl w9.heap.size _ _ _ VG.out rfl ?_)
              | (refine wl_storeH rfl _ _ rfl (w.heap.size + 1) (.slice (some ⟨ga, 0, none⟩) nf qa) (.slice (some ⟨gb, 0, none⟩) nl qb) (.slice pc nr qc) _ _ _ RG.out rfl rfl rfl rfl rfl ?_))
            refine bodyPost_ret (res_row_slot2 Try.results62 (Row.put RG.out (c3 (.slice (some ⟨ga, 0, none⟩) nf qa) (.slice (some ⟨gb, 0, none⟩) nl qb) (.slice pc nr qc))) rfl rfl rfl Try.underlying30 rfl info_heap) rfl (endHI_yes (below_setRow BG.out (by omega) _) (HF3.out.wholeRow RG.out _) L2.out (by rw [size_setRow, SG.out]; exact Nat.le_refl _) HF1.out HE2.out HE.out)
          · have hpe : p = h.l.length := by omega
            have heq : ((p : Int) == (h.l.length : Int)) = true := by simp; omega
            have HGE0 := HG2.out hpn
            have s9 := S9.out
            have hlf := HLF.out
            obtain ⟨v1, w1e, hr1, o1, rows1, bel1, sz1, _⟩ := ext_live OX.out s9 (by rw [SX.out]; omega) (by omega) false 23
            rw [SX.out] at hr1 sz1
            have V1e := rows1 _ _ _ _ VX.out
            have R1e := rows1 _ _ _ _ RX.out
            have B1e := bel1 _ _ L2.out BX.out
            have s1c := V1e.c1
            have s1f := Row.frozen V1e 1
            have hvr : w9.heap.size ≠ w.heap.size + 1 := by have := R2.out.lt; omega
            have O2e := o1.cellRow V1e 1 v1
            have V2e := RowH.set1 V1e v1
            have R2e : RowH (w1e.setCell ⟨w9.heap.size, 1, none⟩ v1) (w.heap.size + 1) (.slice none 0 0) (.slice none 0 0) (.slice none 0 0) := Row.other R1e ⟨w9.heap.size, 1, none⟩ (Ne.symm hvr) v1
            have B2e := B1e.setCell (p := ⟨w9.heap.size, 1, none⟩) (by have := L2.out; simp only; omega) v1
            have hsz2 := World.size_setCell w1e ⟨w9.heap.size, 1, none⟩ v1
            obtain ⟨v2, w2e, hr2, o3, rows3, bel3, sz3, _⟩ := ext_rows O2e (by omega) (by rw [hsz2]; exact Nat.le_refl _) (by simp only; omega) 22
            rw [hsz2] at hr2 sz3
            have V3e := rows3 _ _ _ _ V2e
            have R3e := rows3 _ _ _ _ R2e
            have B3e := bel3 _ _ L2.out B2e
            have s2a := V2e.c0
            have s3c := V3e.c0
            have s3f := Row.frozen V3e 0
            have O4e := o3.cellRow V3e 0 v2
            have V4e := RowH.set0 V3e v2
            have R4e : RowH (w2e.setCell ⟨w9.heap.size, 0, none⟩ v2) (w.heap.size + 1) (.slice none 0 0) (.slice none 0 0) (.slice none 0 0) := Row.other R3e ⟨w9.heap.size, 0, none⟩ (Ne.symm hvr) v2
            have B4e := B3e.setCell (p := ⟨w9.heap.size, 0, none⟩) (by have := L2.out; simp only; omega) v2
            have hll2 : (⟨h.f ++ [[]], h.l ++ [false], h.r⟩ : H).l.length = h.l.length + 1 := by simp
            have hfl2 : (⟨h.f ++ [[]], h.l ++ [false], h.r⟩ : H).f.length = h.f.length + 1 := by simp
            have O4h : OwnH (w2e.setCell ⟨w9.heap.size, 0, none⟩ v2) w2.heap.size w2e.heap.size v2 v1 (.slice pc h.r.length qc) ⟨h.f ++ [[]], h.l ++ [false], h.r⟩ := O4e
            clear O4e o3 o1 O2e
            generalize (⟨h.f ++ [[]], h.l ++ [false], h.r⟩ : H) = hh at *
            have hlo3 : Hid (w2.heap.size ≤ w2e.heap.size) := by unfold Hid; omega
            have HGE := Lib.hid HGE0
            have hpl : p < hh.l.length := by omega
            have hpf : Hid (p < hh.f.length) := by unfold Hid; omega
            have i0 : (0 : Int) ≤ (p : Int) := by omega
            have i1 : (p : Int) < (hh.l.length : Int) := by omega
            have i1f : (p : Int) < (hh.f.length : Int) := by omega
            obtain ⟨⟨pa2, qa2, rfl⟩, ⟨pb2, qb2, rfl⟩, _⟩ := O4h.shapes
            have OY := Lib.hid O4h; have VY := Lib.hid V4e; have RY := Lib.hid R4e; have BY := Lib.hid B4e
            have HPE := Lib.hid hpe; have HL2 := Lib.hid hll2; have HF2 := Lib.hid hfl2; have HR1 := Lib.hid hr1; have HR2 := Lib.hid hr2
            have SZ1 := Lib.hid sz1; have SZ3 := Lib.hid sz3
            have a1 := VX.out.c1
            clear O4h V4e R4e B4e V1e R1e B1e V2e R2e B2e V3e R3e B3e rows1 rows3 bel1 bel3 hpe hll2 hfl2 hr1 hr2 HGE0 hsz2 sz1 sz3 hlf s9
            obtain ⟨gb, cb, hbv, qb1, fb1, oL, cL⟩ := putLiveB OY.out (j := p) hpl true
            cases hbv
            have V1 := Lib.hid (show RowH _ _ _ _ _ from Row.other VY.out ⟨gb, p, none⟩ (Ne.symm (OwnH.liveNe OY.out VY.out)) (.bool true))
            have R1x := Lib.hid (show RowH _ _ _ _ _ from Row.other RY.out ⟨gb, p, none⟩ (Ne.symm (OwnH.liveNe OY.out RY.out)) (.bool true))
            have SBx := Lib.hid ((by rw [World.size_setCell, World.size_setCell]; exact Nat.le_refl _) : w2e.heap.size ≤ ((w2e.setCell ⟨w9.heap.size, 0, none⟩ (.slice pa2 hh.f.length qa2)).setCell ⟨gb, p, none⟩ (.bool true)).heap.size)
            have BL1 := Lib.hid (below_chg BY.out cL L2.out BY.out.size)
            have OL1 := Lib.hid oL
            have VB := VY.out.c1
            clear oL cL
            go_wp2_with (first
              | (at_builtin; refine wl_appRun rfl _ _ 23 rfl rfl rfl HR1.out ?_)
              | (at_builtin; refine wl_appRun rfl _ _ 22 rfl rfl rfl HR2.out ?_))
            generalize ((w2e.setCell ⟨w9.heap.size, 0, none⟩ (.slice pa2 hh.f.length qa2)).setCell ⟨gb, p, none⟩ (.bool true)) = wb at *
            have cA : wb.drew.cell? ⟨w9.heap.size, 0, none⟩ = some (.slice pa2 hh.f.length qa2) := V1.out.c0
            have SB : Hid (w2e.heap.size ≤ wb.heap.size) := SBx
            have VD : Hid (RowH wb.drew w9.heap.size (.slice pa2 hh.f.length qa2) (.slice (some ⟨gb, 0, none⟩) hh.l.length qb2) (.slice pc h.r.length qc)) := V1.out
            have RD : Hid (RowH wb.drew (w.heap.size + 1) (.slice none 0 0) (.slice none 0 0) (.slice none 0 0)) := R1x.out
            have BLD := Lib.hid (below_drew BL1.out)
            have OD := Lib.hid (OL1.out.below (below_drew (Below.refl wb.heap.size wb)))
            have SD : Hid (w2e.heap.size ≤ wb.drew.heap.size) := SB.out
            clear V1 R1x BL1 OL1
            refine wp_region_held_drew (S := (fun w' => w'.cell? ⟨w9.heap.size, 0, none⟩ = some (.slice pa2 hh.f.length qa2))) (by kernel_rfl) (cA) (fun hHeld => ?_)
            refine wpAnyH_take (i := 0) (v := ?va0x6) rfl (by kernel_rfl) (by kernel_rfl) (by kernel_rfl) (fun _ _ _ h => h) (Or.inl ⟨by rfl, ?hy0x6⟩) (by assumption) ?rest0x6
            case hy0x6 => (intro w hSw; (try dsimp only at hSw); go_simp; try with_reducible rfl)
            (try simp only [Act.put, List.getElem_toArray, List.getElem_cons_zero, List.setIfInBounds_toArray, List.set_cons_zero, List.set_cons_succ])
            refine wpAnyH_take (i := 1) (v := ?va1x7) rfl (by kernel_rfl) (by kernel_rfl) (by kernel_rfl) (fun _ _ _ h => h) (Or.inl ⟨by rfl, ?hy1x7⟩) (by assumption) ?rest1x7
            case hy1x7 => (intro w hSw; (try dsimp only at hSw); go_simp; try with_reducible rfl)
            (try simp only [Act.put, List.getElem_toArray, List.getElem_cons_zero, List.getElem_cons_succ, List.setIfInBounds_toArray, List.set_cons_zero, List.set_cons_succ])
            refine wpAnyH_take (i := 2) (v := ?va2x8) rfl (by kernel_rfl) (by kernel_rfl) (by kernel_rfl) (fun _ _ _ h => h) (Or.inl ⟨by rfl, ?hy2x8⟩) (by assumption) ?rest2x8
            case hy2x8 => (intro w hSw; (try dsimp only at hSw); go_simp; try with_reducible rfl)
            (try simp only [Act.put, List.getElem_toArray, List.getElem_cons_zero, List.getElem_cons_succ, List.setIfInBounds_toArray, List.set_cons_zero, List.set_cons_succ])
            refine wpAnyH_take (i := 4) (v := ?va4x9) rfl (by kernel_rfl) (by kernel_rfl) (by kernel_rfl) (fun _ _ _ h => h) (Or.inl ⟨by rfl, ?hy4x9⟩) (by assumption) ?rest4x9
            case hy4x9 => (intro w hSw; (try dsimp only at hSw); go_simp; try with_reducible rfl)
            (try simp only [Act.put, List.getElem_toArray, List.getElem_cons_zero, List.getElem_cons_succ, List.setIfInBounds_toArray, List.set_cons_zero, List.set_cons_succ])
            generalize wb.drew = wc at *
            refine wpAnyH_ready (rs := [3]) (by kernel_rfl) (by simp) ?_
            refine AllReadyH.cons rfl (fun K hK => ?_) AllReadyH.nil
            have hba := below1 wc (.cells #[.int .i64 (-1)] 3)
            have VE := Lib.hid (VD.out.below hba); have RE := Lib.hid (RD.out.below hba); have BLE := Lib.hid (bst BLD.out hba BLD.out.size); have OE := Lib.hid (OD.out.below hba)
            have SE : Hid (w2e.heap.size ≤ (wc.alloc (.cells #[.int .i64 (-1)] 3)).heap.size) := Nat.le_trans SD.out hba.size
            have RO := Lib.hid (Row.new wc 3 #[.int .i64 (-1)])
            go_simp
            refine hK.out _ _ VE.out.c0 (fun hHeld => ?_)
            clear hK K hba
            (try simp only [Act.put, List.getElem_toArray, List.getElem_cons_zero, List.getElem_cons_succ, List.setIfInBounds_toArray, List.set_cons_zero, List.set_cons_succ])
            generalize wc.heap.size = go at *
            generalize wc.alloc (.cells #[.int .i64 (-1)] 3) = wd at *
            refine wpAnyH_ready (rs := [5]) (by kernel_rfl) (by simp) ?_
            refine AllReadyH.cons rfl (fun K hK => ?_) AllReadyH.nil
            go_simp
            refine (c_slRepeat mm go hmm _ RO.out).mono ?_
            rintro e we ⟨vn, rfl, hov, hbe⟩
            have VF := Lib.hid (VE.out.below hbe); have RF := Lib.hid (RE.out.below hbe); have BLF := Lib.hid (bst BLE.out hbe BLE.out.size); have OF := Lib.hid (OE.out.below hbe)
            have OVN : Hid (Own we w2e.heap.size vn (List.replicate mm (-1))) := hov.mono SE.out
            have SF : Hid (w2e.heap.size ≤ we.heap.size) := Nat.le_trans SE.out hbe.size
            obtain ⟨pn, qn, hpnn⟩ := hov.ints.shape
            subst hpnn
            refine hK.out _ _ VF.out.c0 (fun hHeld => ?_)
            clear hK K hbe hov
            (try simp only [Act.put, List.getElem_toArray, List.getElem_cons_zero, List.getElem_cons_succ, List.setIfInBounds_toArray, List.set_cons_zero, List.set_cons_succ])
            obtain ⟨ga, ca, xx, hax, qf1, ff1, hlo, hap, oN⟩ := putRow1 OF.out (j := p) hpf.out OVN.out hlo3.out SF.out
            cases hax
            have hgA : ga ≠ w9.heap.size := hap _ _ VF.out
            have hgR : ga ≠ w.heap.size + 1 := hap _ _ RF.out
            have VG := Lib.hid (show RowH _ _ _ _ _ from Row.other VF.out ⟨ga, p, none⟩ (by simp; omega) (.slice pn (List.replicate mm (-1 : Int)).length qn))
            have RG := Lib.hid (show RowH _ _ _ _ _ from Row.other RF.out ⟨ga, p, none⟩ (by simp; omega) (.slice pn (List.replicate mm (-1 : Int)).length qn))
            have BG := Lib.hid (BLF.out.setCell (p := ⟨ga, p, none⟩) (by have := L2.out; simp only; omega) (.slice pn (List.replicate mm (-1 : Int)).length qn))
            have OG := Lib.hid oN
            have SG := Lib.hid (World.size_setCell we ⟨ga, p, none⟩ (.slice pn (List.replicate mm (-1 : Int)).length qn))
            clear oN hap
            generalize (List.replicate mm (-1 : Int)).length = lr at *
            refine wpAnyH_take (i := 6) (v := ?va6x10) rfl (by kernel_rfl) (by kernel_rfl) (by kernel_rfl) (fun _ _ _ h => h) (Or.inl ⟨by rfl, ?hy6x10⟩) (by assumption) ?rest6x10
            case hy6x10 => (intro w hSw; (try dsimp only at hSw); go_simp; try with_reducible rfl)
            (try simp only [Act.put, List.getElem_toArray, List.getElem_cons_zero, List.getElem_cons_succ, List.setIfInBounds_toArray, List.set_cons_zero, List.set_cons_succ])
            refine wpAnyH_ready (rs := [7]) (by kernel_rfl) (by simp) ?_
            refine AllReadyH.cons rfl (fun K hK => ?_) AllReadyH.nil
            go_simp
            refine hK.out _ _ VG.out.c0 (fun hHeld => ?_)
            clear hK K
            (try simp only [Act.put, List.getElem_toArray, List.getElem_cons_zero, List.getElem_cons_succ, List.setIfInBounds_toArray, List.set_cons_zero, List.set_cons_succ])
            refine wpAnyH_done (by kernel_rfl) ?_ _
            clear hHeld qf1 ff1
            generalize we.setCell ⟨ga, p, none⟩ (.slice pn lr qn) = wf at *
            have HF1 : Hid (c1 = put1 (hh) p mm) := by unfold Hid; rw [HE1.out, HGE.out]
            have HF3 := Lib.hid (show OwnH _ _ _ _ _ _ (put1 (hh) p mm) from OG.out)
            generalize put1 (hh) p mm = hN at *
            generalize hh.f.length = nhf at *
            generalize hh.l.length = nhl at *
            generalize h.r.length = nr at *
            go_wp2_with (first
              | (refine wl_loadH rfl _ rfl w9.heap.size _ _ _ VG.out rfl ?_)
              | (refine wl_storeH rfl _ _ rfl (w.heap.size + 1) (.slice (some ⟨ga, 0, none⟩) nhf qa2) (.slice (some ⟨gb, 0, none⟩) nhl qb2) (.slice pc nr qc) _ _ _ RG.out rfl rfl rfl rfl rfl ?_))
            refine bodyPost_ret (res_row_slot2 Try.results62 (Row.put RG.out (c3 (.slice (some ⟨ga, 0, none⟩) nhf qa2) (.slice (some ⟨gb, 0, none⟩) nhl qb2) (.slice pc nr qc))) rfl rfl rfl Try.underlying30 rfl info_heap) rfl (endHI_yes (below_setRow BG.out (by omega) _) (HF3.out.wholeRow RG.out _) L2.out (by rw [size_setRow, SG.out]; exact Nat.le_refl _) HF1.out HE2.out HE.out)
        · have HPL : Hid (decide (placeOf h.l < 12) = false) := decide_eq_false h12
          have HE : Hid (ok = false) := by unfold Hid; rw [hok, HPL.out]; simp
          clear hok
          go_enter Try.func62, Try.ntmps62
          go_wp2_with (first
            | (go_at_call 55; refine HC.out.mono ?_; rintro e w1 ⟨rfl, hb1⟩; have B1 := Lib.hid (bst HB.out hb1 HB.out.size); have A1 := Lib.hid (A0.out.below hb1); have P1 := Lib.hid (P0.out.below hb1); have R1 := Lib.hid (R0.out.below hb1); have d10 := P1.out.c0; have d11 := P1.out.c1; have d12 := P1.out.c2; clear hb1)
            | (go_at_call 127; refine (HFP.out _ A1.out).mono ?_; rintro e w2 ⟨rfl, hb2⟩; rw [HPL.out]; have B2 := Lib.hid (bst B1.out hb2 B1.out.size); have A2 := Lib.hid (A1.out.below hb2); have P2 := Lib.hid (P1.out.below hb2); have R2 := Lib.hid (R1.out.below hb2); have d20 := P2.out.c0; have d21 := P2.out.c1; have d22 := P2.out.c2; clear hb2)
            | (refine wl_storeH rfl _ _ rfl (w.heap.size + 1) (.slice none 0 0) (.slice none 0 0) (.slice none 0 0) _ _ _ R2.out rfl rfl rfl rfl rfl ?_))
          refine bodyPost_ret (res_row_slot2 Try.results62 (Row.put R2.out (c3 (.slice none 0 0) (.slice none 0 0) (.slice none 0 0))) rfl rfl rfl Try.underlying30 rfl info_heap) rfl (endHI_no (below_setRow B2.out (by omega) _) (by rw [E1.out HE.out]) (by rw [E1.out HE.out]; rfl) HE.out)
end Go.Proofs.Ytkkigoamphkalaa
