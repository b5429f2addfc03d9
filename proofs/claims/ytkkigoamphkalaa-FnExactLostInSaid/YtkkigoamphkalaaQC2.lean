/- What the laws rest on, part 2. -/
import Derived.Test.YtkkigoamphkalaaQC1
import Derived.Laws.EntriesVeiled
import Derived.Deep.LoopGhost
import Derived.Deep.Upon
import Derived.Maps.AppendAt
namespace Go.Proofs.Ytkkigoamphkalaa
open Go.RowKit Ph

set_option maxRecDepth 100000 in
set_option maxHeartbeats 3200000 in
theorem c_GoodHeap (a b c : Value) (h : H) (w : World) (hh : HeapAt w a b c h) : Calls Try.prog 55 #[hv a b c] w fun e w' => e = .returned (.bool (good h)) ∧ Below w.heap.size w w' := by
  obtain ⟨hF, hL, hR⟩ := hh
  have hb0 := below1 w (.cells (c3 a b c) 30)
  have HF := Lib.hid (hF.below hb0)
  have HL := Lib.hid (hL.below hb0)
  have HR := Lib.hid (hR.below hb0)
  have R0 := Lib.hid (show RowH _ _ a b c from Row.new w 30 (c3 a b c))
  have HB := Lib.hid hb0
  obtain ⟨fa, fc, rfl⟩ := hF.shape
  obtain ⟨la, lc, rfl⟩ := hL.shape
  obtain ⟨ra, rc, rfl⟩ := hR.shape
  clear hF hL hR hb0
  have HM := Lib.hid (good_many (h := h))
  have HLN := Lib.hid (good_lens (h := h))
  have HG : Hid (∀ i, i < h.f.length → rowB h.l (h.l.getD i false) (h.f.getD i []) = false → good h = false) := fun i => good_row
  have HG4 : Hid (4 < h.r.length → good h = false) := good_roots
  have HGR : Hid (refsB h.l h.r = false → good h = false) := good_rr
  have HGA := Lib.hid (good_all (h := h))
  generalize hnf : h.f.length = n at *
  generalize hnl : h.l.length = nl at *
  generalize hnr : h.r.length = nr at *
  have HNF := Lib.hid hnf; have HNR := Lib.hid hnr; have HNL := Lib.hid hnl
  clear hnf hnr hnl
  by_cases n1 : 12 < n
  · have HE := Lib.hid (HM.out n1)
    have i1 : (12 : Int) < (n : Int) := by omega
    clear HF HL HR R0
    go_enter Try.func55, Try.ntmps55
    go_wp2
    go_ret
    exact ⟨r_b HE.out.symm, HB.out⟩
  · by_cases n2 : nl = n
    · have n2' := n2.symm
      subst n2'
      clear n2
      have HGB : Hid (rowsB h.l h.f n = true → nr ≤ 4 → refsB h.l h.r = true → good h = true) := fun h3 => HGA.out (by omega) rfl h3
      clear HGA
      have i1 : ¬ (12 : Int) < (n : Int) := by omega
      have i2 : ((n : Int) != (n : Int)) = false := by simp
      go_enter Try.func55, Try.ntmps55
      go_wp2
      have hsz : (w.alloc (.cells (c3 (.slice fa n fc) (.slice la n lc) (.slice ra nr rc)) 30)).heap.size = w.heap.size + 1 := World.size_alloc _ _
      generalize (w.alloc (.cells (c3 (.slice fa n fc) (.slice la n lc) (.slice ra nr rc)) 30)) = w0 at *
      have HSZ := Lib.hid hsz; clear hsz
      go_loopw [21] (fun i wr => ∃ k : Nat, k ≤ n ∧ i = .int .i64 k ∧ Hid (rowsB h.l h.f k = true) ∧ Below w0.heap.size w0 wr) (fun i _ => n - (intOf i).toNat)
      case atStart => exact ⟨0, Nat.zero_le _, rfl, by simp [Hid, rowsB], Below.refl _ _⟩
      case round =>
        obtain ⟨k, hk, rfl, ht, hbr⟩ := hrel
        have BW := Lib.hid (bst HB.out hbr HB.out.size)
        have R1 := R0.out.below hbr
        have L1 := Lib.hid (HL.out.below hbr)
        have RR1 := Lib.hid (HR.out.below hbr)
        have c0 := R1.c0
        have c1 := R1.c1
        have c2 := R1.c2
        have HBR := Lib.hid hbr
        by_cases hlt : k < n
        · obtain ⟨gf, of, rfl, hcf⟩ := HF.out.at' (by omega)
          obtain ⟨gl, ol, rfl, hcl⟩ := HL.out.at' (by omega)
          obtain ⟨u, qf, hu⟩ := hcf k hlt
          have qf' := cellBelow hbr (Nat.le_refl _) qf
          have ql' := cellBelow hbr (Nat.le_refl _) (hcl k hlt)
          have hu' := hu.below hbr
          obtain ⟨ua, uc, rfl⟩ := hu.shape
          have HU := Lib.hid hu'
          have i3 : (k : Int) < (n : Int) := by omega
          have hg := HG.out k hlt
          have hs := rowsB_succ (l := h.l) (fs := h.f) (n := k)
          rw [ht.out, Bool.true_and] at hs
          clear hcf hcl hu hu' qf hbr R1
          generalize h.f.getD k [] = zs at *
          generalize hon : h.l.getD k false = on at *
          have HS := Lib.hid hs; have HG' := Lib.hid hg
          clear hs hg hon
          by_cases m0 : on = false ∧ 0 < zs.length
          · obtain ⟨rfl, m0⟩ := m0
            have HE := Lib.hid (HG'.out (row_dead m0))
            generalize zs.length = m at *
            have j0 : (0 : Int) < (m : Int) := by omega
            go_wp2_with fail
            go_ret
            exact ⟨r_b HE.out.symm, BW.out⟩
          · by_cases m3 : 3 < zs.length
            · have HE := Lib.hid (HG'.out (row_long m3))
              have hon : on = true := by cases on; (exfalso; apply m0; exact ⟨rfl, by omega⟩); rfl
              subst hon
              clear m0
              generalize zs.length = m at *
              have j0 : (3 : Int) < (m : Int) := by omega
              go_wp2_with fail
              go_ret
              exact ⟨r_b HE.out.symm, BW.out⟩
            · have j3 : ¬ (3 : Int) < (zs.length : Int) := by omega
              have hok := row_ok (l := h.l) (on := on) (zs := zs) (by omega) (by cases on; (right; intro h0; exact m0 ⟨rfl, h0⟩); (left; rfl))
              have hbad := row_bad (l := h.l) (on := on) (zs := zs)
              have hcall := c_areReferences (.slice (some ⟨gf, of, none⟩) n fc) (.slice (some ⟨gl, ol, none⟩) n lc) (.slice ra nr rc) _ h.l zs wr L1.out HU.out (by omega)
              generalize hx : refsB h.l zs = x at *
              have HC := Lib.hid hcall
              clear hcall
              have HX := Lib.hid hx; have HOK := Lib.hid hok; have HBAD := Lib.hid hbad
              clear hx hok hbad
              have j0 : on = false → ¬ (0 : Int) < (zs.length : Int) := fun h1 h2 => m0 ⟨h1, by omega⟩
              have J0 := Lib.hid j0
              clear m0 m3 j0
              generalize zs.length = m at *
              cases x
              · have HE := Lib.hid (HG'.out (HBAD.out rfl))
                cases on
                · have j0 := J0.out rfl
                  go_wp2_with (go_at_call 119; refine HC.out.mono ?_; rintro e w1 ⟨rfl, hb1⟩; have B1 := Lib.hid (bst BW.out hb1 BW.out.size); clear hb1)
                  go_ret
                  exact ⟨r_b HE.out.symm, B1.out⟩
                · go_wp2_with (go_at_call 119; refine HC.out.mono ?_; rintro e w1 ⟨rfl, hb1⟩; have B1 := Lib.hid (bst BW.out hb1 BW.out.size); clear hb1)
                  go_ret
                  exact ⟨r_b HE.out.symm, B1.out⟩
              · have HE : Hid (rowsB h.l h.f (k + 1) = true) := by unfold Hid; rw [HS.out]; exact HOK.out rfl
                cases on
                · have j0 := J0.out rfl
                  go_wp2_with (go_at_call 119; refine HC.out.mono ?_; rintro e w1 ⟨rfl, hb1⟩; have B1 := Lib.hid (bst HBR.out hb1 HBR.out.size); clear hb1)
                  go_roundw
                  case rel => exact ⟨k + 1, by omega, by go_num, HE.out, B1.out⟩
                  case measure => simp [intOf]; omega
                · go_wp2_with (go_at_call 119; refine HC.out.mono ?_; rintro e w1 ⟨rfl, hb1⟩; have B1 := Lib.hid (bst HBR.out hb1 HBR.out.size); clear hb1)
                  go_roundw
                  case rel => exact ⟨k + 1, by omega, by go_num, HE.out, B1.out⟩
                  case measure => simp [intOf]; omega
        · obtain rfl : k = n := by omega
          clear hbr R1
          by_cases m4 : nr ≤ 4
          · have j4 : (nr : Int) ≤ 4 := by omega
            have HM : Hid (h.r.length ≤ 9223372036854775806) := by unfold Hid; rw [HNR.out]; omega
            have hga := HGB.out ht.out m4
            have hgr := HGR.out
            have HRX := Lib.hid (c_areReferences (.slice fa k fc) (.slice la k lc) (.slice ra nr rc) (.slice ra nr rc) h.l h.r wr L1.out RR1.out HM.out)
            have HE : Hid (good h = refsB h.l h.r) := by
              unfold Hid
              cases hq : refsB h.l h.r with
              | true => exact hga hq
              | false => exact hgr hq
            clear hga hgr
            generalize refsB h.l h.r = x at *
            go_wp2_with (go_at_call 119; refine HRX.out.mono ?_; rintro e w1 ⟨rfl, hb1⟩; have B1 := Lib.hid (bst BW.out hb1 BW.out.size); clear hb1)
            go_ret
            exact ⟨r_b HE.out.symm, B1.out⟩
          · have HE := Lib.hid (HG4.out (by omega))
            have j4 : ¬ (nr : Int) ≤ 4 := by omega
            go_wp2_with fail
            go_ret
            exact ⟨r_b HE.out.symm, BW.out⟩
    · have HE := Lib.hid (HLN.out n2)
      have i2 : ((nl : Int) != (n : Int)) = true := by rw [bne_iff_ne]; omega
      have i1 : ¬ (12 : Int) < (n : Int) := by omega
      clear n2 HF HL HR R0
      go_enter Try.func55, Try.ntmps55
      go_wp2
      go_ret
      exact ⟨r_b HE.out.symm, HB.out⟩
end Go.Proofs.Ytkkigoamphkalaa
namespace Go.Proofs.Ytkkigoamphkalaa
open Go.RowKit Ph

theorem OwnH.ofInts {w w0 : World} {v : Value} {zs : List Int} (ho : Own w w0.heap.size v zs) (hb : Below w0.heap.size w0 w) : OwnH w w0.heap.size w.heap.size (.slice none 0 0) (.slice none 0 0) v ⟨[], [], zs⟩ := (OwnH.nil w _ w0.heap.size).addRoots ho (Nat.le_refl _) hb.size
theorem c_markRoots (lo hi : Nat) (a b c : Value) (h : H) (k : Int) (w : World) (hown : OwnH w lo hi a b c h) (h0 : 0 ≤ k) (hm : k + h.r.length ≤ 9223372036854775806) :
    Calls Try.prog 27 #[c, .int .i64 k] w fun e w' => e = .returned (.int .i64 (k + h.r.length)) ∧ OwnH w' lo hi a b c ⟨h.f, h.l, upFrom k h.r.length⟩ ∧ Chg lo hi w w' := by
  obtain ⟨us, hf⟩ := hown
  refine (c_markIntS c h.r lo k w hf.roots h0 hm).mono ?_
  rintro e w' ⟨he, ho, hg⟩
  exact ⟨he, ⟨us, hf.setRoots hg ho⟩, Chg.of_grown hg fun g' hg' => by have := Fam.blk hf (k := 2) (g := g') (by omega) hg'; exact ⟨this.1, this.2.1⟩⟩
end Go.Proofs.Ytkkigoamphkalaa
namespace Go.Proofs.Ytkkigoamphkalaa.Ph
theorem left_mono : ∀ (S S' : List Bool), S'.length = S.length → (∀ k, S.getD k false = true → S'.getD k false = true) → left S' ≤ left S
  | [], [], _, _ => Nat.le_refl _
  | [], _ :: _, h, _ => by simp at h
  | _ :: _, [], h, _ => by simp at h
  | b :: S, b' :: S', h, hs => by
    have h1 := left_mono S S' (by simpa using h) (fun k hk => by have := hs (k + 1) (by simpa using hk); simpa using this)
    unfold left at h1 ⊢
    have h0 := hs 0
    cases b <;> cases b' <;> simp_all <;> omega
theorem Vis.left {fs : List (List Int)} {zs : List Int} {S S' : List Bool} (h : Vis fs zs S S') : left S' ≤ left S := left_mono S S' h.len h.sub
end Go.Proofs.Ytkkigoamphkalaa.Ph
namespace Go.Proofs.Ytkkigoamphkalaa
open Go.RowKit Ph

/-- The closure, its captured variables, and what it reads. -/
structure Vst (w : World) (g gr gv gh n cp lo : Nat) (a b c : Value) (S : List Bool) : Prop where
  own : OwnBs w lo (.slice (some ⟨g, 0, none⟩) n cp) S
  r : Row w gr 23 #[.slice (some ⟨g, 0, none⟩) n cp]
  v : Row w gv 149 #[.func (.func 172) #[] #[.pointer (some ⟨gr, 0, none⟩), .pointer (some ⟨gv, 0, none⟩), .pointer (some ⟨gh, 0, none⟩)]]
  h : RowH w gh a b c
theorem cellGrown {w w' : World} {g : Nat} {p : Addr} {x : Value} (hg : w.grownBy w' (some g)) (hp : p.block ≠ g) (h : w.cell? p = some x) : w'.cell? p = some x := by
  have hb := hg.block p.block (block_lt_of_cell h) (by simpa using hp)
  rw [World.cell?, hb]; exact h
theorem grown_drew (w : World) (r : Option Nat) : w.grownBy w.drew r := ⟨rfl, rfl, rfl, Nat.le_refl _, fun _ _ _ => rfl⟩
theorem OwnBs.stored {w : World} {B g n cap : Nat} {S : List Bool} (h : OwnBs w B (.slice (some ⟨g, 0, none⟩) n cap) S) (hn : S.length = n) {z : Nat} (hz : z < n) (x : Bool) : OwnBs (w.setCell ⟨g, z, none⟩ (.bool x)) B (.slice (some ⟨g, 0, none⟩) n cap) (S.set z x) ∧ w.grownBy (w.setCell ⟨g, z, none⟩ (.bool x)) (some g) ∧ w.cell? ⟨g, z, none⟩ = some (.bool (S.getD z false)) ∧ w.frozen? ⟨g, z, none⟩ = false := by
  unfold OwnBs at h
  rw [hn] at h
  obtain ⟨s1, s2⟩ := h.stored z (.bool x)
  refine ⟨?_, s2, ?_, h.frozenAt z⟩
  · unfold OwnBs
    rw [List.length_set, hn, List.map_set]
    exact s1
  · rw [h.cellAt z (by omega), List.getElem?_map, List.getElem?_eq_getElem (by omega)]
    simp [List.getD, List.getElem?_eq_getElem (show z < S.length by omega)]
theorem Vst.step {w w' : World} {g gr gv gh n cp lo : Nat} {a b c : Value} {S S' : List Bool} (k : Vst w g gr gv gh n cp lo a b c S) (hg : w.grownBy w' (some g)) (h1 : g ≠ gr) (h2 : g ≠ gv) (h3 : g ≠ gh) (ho : OwnBs w' lo (.slice (some ⟨g, 0, none⟩) n cp) S') : Vst w' g gr gv gh n cp lo a b c S' :=
  ⟨ho, Row.grownBy k.r hg (by simpa using h1), Row.grownBy k.v hg (by simpa using h2), Row.grownBy k.h hg (by simpa using h3)⟩
def inR (n : Nat) (z : Int) : Prop := z = -1 ∨ (0 ≤ z ∧ z < n)
set_option maxRecDepth 100000 in
set_option maxHeartbeats 6400000 in
theorem c_visit (W : World) (g gr gv gh n cp lo : Nat) (a b c : Value) (fs : List (List Int)) (hlo : W.heap.size ≤ g) (h1 : g ≠ gr) (h2 : g ≠ gv) (h3 : g ≠ gh) (hF : RowsAt W a fs) (hn : fs.length = n) (hn1 : n ≤ 12) (hrow : ∀ i, i < n → ∀ z ∈ fs.getD i [], inR n z) (hrl : ∀ i, i < n → (fs.getD i []).length ≤ 3) (fuel : Nat) :
    ∀ (v : Value) (zs : List Int) (S : List Bool) (w : World), left S ≤ fuel → S.length = n → IntsAt W v zs → zs.length ≤ 12 → (∀ z ∈ zs, inR n z) → Below W.heap.size W w → Vst w g gr gv gh n cp lo a b c S →
      Calls Try.prog 172 #[v, .pointer (some ⟨gr, 0, none⟩), .pointer (some ⟨gv, 0, none⟩), .pointer (some ⟨gh, 0, none⟩)] w fun e w' => e = .returned (.tuple #[]) ∧ ∃ S', Vis fs zs S S' ∧ OwnBs w' lo (.slice (some ⟨g, 0, none⟩) n cp) S' ∧ w.grownBy w' (some g) := by
  induction fuel using Nat.strongRecOn with
  | ind fuel ih =>
    intro v zs S w hleft hSn hz hzl hzr hB hV
    obtain ⟨fa, fc, rfl⟩ := hF.shape
    rw [hn] at *
    obtain ⟨va, vc, rfl⟩ := hz.shape
    have HZ := Lib.hid hz; have HZR := Lib.hid hzr; have HB := Lib.hid hB; have HV := Lib.hid hV; have HF := Lib.hid hF; have IH := Lib.hid ih; have HROW := Lib.hid hrow; have HRL := Lib.hid hrl; have HSN := Lib.hid hSn; have HFN := Lib.hid hn; have HLO := Lib.hid hlo; have HLE := Lib.hid hleft
    clear hz hzr hB hV hF ih hrow hrl hSn hn hlo hleft
    generalize hm : zs.length = m at *
    have HM := Lib.hid hm; clear hm
    go_enter Try.func172, Try.ntmps172
    go_wp2
    go_loopw [9] (fun i wr => ∃ j : Nat, j ≤ m ∧ i = .int .i64 j ∧ ∃ S', Hid (Vis fs (zs.take j) S S') ∧ Hid (Vst wr g gr gv gh n cp lo (.slice fa n fc) b c S') ∧ Hid (w.grownBy wr (some g))) (fun i _ => m - (intOf i).toNat)
    case atStart => exact ⟨0, Nat.zero_le _, rfl, S, Vis.start fs zs S, HV.out, World.grownBy.refl _ _⟩
    case round =>
      obtain ⟨j, hj, rfl, S', hvis, hvst, hgr⟩ := hrel
      by_cases hlt : j < m
      · obtain ⟨zb, zo, rfl, hc⟩ := HZ.out.at' (by omega)
        have BR : Below W.heap.size W wr := by
          have := HLO.out
          exact HB.out.grown hgr.out HB.out.size (fun k hk => by cases hk; omega)
        have q := cellBelow BR (Nat.le_refl _) (hc j hlt)
        have hjl : j < zs.length := by rw [HM.out]; exact hlt
        have hin := HZR.out (zs.getD j 0) (by rw [List.getD, List.getElem?_eq_getElem hjl]; exact List.getElem_mem hjl)
        have hSl : S'.length = n := by rw [hvis.out.len, HSN.out]
        have cr := hvst.out.r.cell 0
        have i1 : (j : Int) < (m : Int) := by omega
        have HJL := Lib.hid hjl
        clear hc
        generalize hzj : zs.getD j 0 = z at *
        have HZJ := Lib.hid hzj
        clear hzj hjl
        by_cases z1 : z = -1
        · subst z1
          have HE : Hid (Vis fs (zs.take (j + 1)) S S') := hvis.out.skip HJL.out (.inl HZJ.out)
          clear hin
          go_wp2_with fail
          go_roundw
          case rel => exact ⟨j + 1, by omega, by go_num, S', HE, hvst, hgr⟩
          case measure => simp [intOf]; omega
        · obtain ⟨t, rfl⟩ : ∃ t : Nat, z = t := ⟨z.toNat, by rcases hin with h | h <;> omega⟩
          have htn : t < n := by rcases hin with h | h <;> omega
          obtain ⟨s1, s2, s3, s4⟩ := hvst.out.own.stored hSl htn true
          have i2 : ((t : Int) == -1) = false := by simp
          have i3 : (t : Int) < (n : Int) := by omega
          have i4 : (0 : Int) ≤ (t : Int) := by omega
          generalize hx : S'.getD t false = x at *
          have HX := Lib.hid hx
          clear hin z1 hx
          cases x
          · have hls := left_set (S := S') (z := t) (by omega) HX.out
            have hlm := hvis.out.left
            have V1 := hvst.out.step s2 h1 h2 h3 s1
            obtain ⟨fb, fo, rfl, hcf⟩ := HF.out.at' (by omega)
            obtain ⟨u, quf, huf⟩ := hcf t htn
            have B1 : Below W.heap.size W (wr.setCell ⟨g, t, none⟩ (.bool true)) := BR.setCell (p := ⟨g, t, none⟩) (by have := HLO.out; exact this) (.bool true)
            have qu := cellBelow B1 (Nat.le_refl _) quf
            have IHC := IH.out (left (S'.set t true)) (by have := HLE.out; omega) u (fs.getD t []) (S'.set t true)
            have HC : Hid (∀ w', Below W.heap.size W w' → Vst w' g gr gv gh n cp lo (.slice (some ⟨fb, fo, none⟩) n fc) b c (S'.set t true) → Calls Try.prog 172 #[u, .pointer (some ⟨gr, 0, none⟩), .pointer (some ⟨gv, 0, none⟩), .pointer (some ⟨gh, 0, none⟩)] w' fun e w'' => e = .returned (.tuple #[]) ∧ ∃ S2, Vis fs (fs.getD t []) (S'.set t true) S2 ∧ OwnBs w'' lo (.slice (some ⟨g, 0, none⟩) n cp) S2 ∧ w'.grownBy w'' (some g)) := fun w' hb hv =>
              IHC w' (Nat.le_refl _) (by rw [List.length_set]; exact hSl) huf (by have := HRL.out t htn; omega) (HROW.out t htn) hb hv
            obtain ⟨ua, uc, hu⟩ := huf.shape
            subst hu
            have HV1 := Lib.hid V1; have HB1 := Lib.hid B1; have HS2 := Lib.hid s2; have HSL := Lib.hid hSl
            clear hls hlm V1 hcf huf B1 IHC s1 s2 hSl
            generalize (fs.getD t []).length = ul at *
            have hfb : fb ≠ g := by have h1 := block_lt_of_cell quf; have h2 := HLO.out; simp only at h1; omega
            clear quf
            go_wp2_with fail
            generalize (wr.setCell ⟨g, t, none⟩ (.bool true)) = cur at *
            have cv : cur.drew.cell? ⟨gv, 0, none⟩ = some (.func (.func 172) #[] #[.pointer (some ⟨gr, 0, none⟩), .pointer (some ⟨gv, 0, none⟩), .pointer (some ⟨gh, 0, none⟩)]) := HV1.out.v.cell 0
            have ch : cur.drew.cell? ⟨gh, 0, none⟩ = some (.slice (some ⟨fb, fo, none⟩) n fc) := HV1.out.h.c0
            replace qu : cur.drew.cell? ⟨fb, fo + t, none⟩ = some (.slice ua ul uc) := qu
            have BD := grown_drew cur (some g)
            have BW : Hid (Below W.heap.size W cur.drew) := below_drew HB1.out
            have VD : Hid (Vst cur.drew g gr gv gh n cp lo (.slice (some ⟨fb, fo, none⟩) n fc) b c (S'.set t true)) := ⟨HV1.out.own, HV1.out.r, HV1.out.v, HV1.out.h⟩
            have k1 := Lib.hid (Ne.symm h2); have k2 := Lib.hid (Ne.symm h3); have k3 := Lib.hid hfb
            go_region_held3 (fun w' => w'.cell? ⟨gv, 0, none⟩ = some (.func (.func 172) #[] #[.pointer (some ⟨gr, 0, none⟩), .pointer (some ⟨gv, 0, none⟩), .pointer (some ⟨gh, 0, none⟩)]) ∧ w'.cell? ⟨gh, 0, none⟩ = some (.slice (some ⟨fb, fo, none⟩) n fc) ∧ w'.cell? ⟨fb, fo + t, none⟩ = some (.slice ua ul uc) ∧ cur.grownBy w' (some g))
              (first
                | (with_reducible exact ⟨cv, ch, qu, BD⟩)
                | (go_split_ands
                   exact ⟨cellGrown hbk k1.out (by assumption), cellGrown hbk k2.out (by assumption), cellGrown hbk k3.out (by assumption), grownBy_trans (by assumption) hbk⟩)
                | (go_split_ands; refine ⟨?_, ?_, ?_, ?_⟩ <;> assumption))
              (first
                | (go_at_call 172; refine (HC.out _ BW.out VD.out).mono ?_; rintro e w6 ⟨rfl, S2, hvis2, hown2, hbk⟩))
            have hg6 : cur.grownBy w6 (some g) := by go_split_ands; assumption
            have HE : Hid (Vis fs (zs.take (j + 1)) S S2) := hvis.out.down HJL.out HZJ.out (by rw [HSL.out]; exact htn) HX.out hvis2
            have HG6 : Hid (w.grownBy w6 (some g)) := grownBy_trans (grownBy_trans hgr.out HS2.out) hg6
            have HV6 : Hid (Vst w6 g gr gv gh n cp lo (.slice (some ⟨fb, fo, none⟩) n fc) b c S2) := HV1.out.step hg6 h1 h2 h3 hown2
            clear hg6 hown2 hvis2 cv ch qu BD BW VD
            go_wp2_with fail
            go_roundw
            case rel => exact ⟨j + 1, by omega, by go_num, S2, HE, HV6, HG6⟩
            case measure => simp [intOf]; omega
          · have HE : Hid (Vis fs (zs.take (j + 1)) S S') := hvis.out.skip HJL.out (.inr (by rw [HZJ.out]; simpa using HX.out))
            go_wp2_with fail
            go_roundw
            case rel => exact ⟨j + 1, by omega, by go_num, S', HE, hvst, hgr⟩
            case measure => simp [intOf]; omega
      · obtain rfl : j = m := by omega
        have HE : Hid (zs.take j = zs) := List.take_of_length_le (by rw [HM.out]; exact Nat.le_refl _)
        go_wp2_with fail
        go_end0
        exact ⟨rfl, S', by rw [← HE.out]; exact hvis.out, hvst.out.own, hgr.out⟩
end Go.Proofs.Ytkkigoamphkalaa
namespace Go.Proofs.Ytkkigoamphkalaa
open Go.RowKit Ph

theorem rep_bools (n : Nat) : (madeCells (Value.bool false).cells (n * 1)).toList = (List.replicate n false).map Value.bool := by
  rw [Nat.mul_one, show (Value.bool false).cells = #[.bool false] from rfl, toList_madeCells_one, List.map_replicate]
theorem grownB_of {w w' : World} (h : Below w.heap.size w w') (r : Option Nat) : w.grownBy w' r := ⟨h.os, h.tape, h.output, h.size, fun i hi _ => h.block i hi⟩
set_option maxRecDepth 100000 in
set_option maxHeartbeats 3200000 in
theorem c_reachMore (W : World) (g n cp lo : Nat) (a b c v : Value) (h : H) (zs : List Int) (S : List Bool) (w : World) (hA : HeapAt W a b c h) (hG : Ph.Good h) (hz : IntsAt W v zs) (hzl : zs.length ≤ 12) (hzr : ∀ z ∈ zs, inR h.f.length z) (hB : Below W.heap.size W w) (hlo : W.heap.size ≤ g) (hn : h.f.length = n) (hSn : S.length = n) (hS : OwnBs w lo (.slice (some ⟨g, 0, none⟩) n cp) S) :
    Calls Try.prog 141 #[hv a b c, .slice (some ⟨g, 0, none⟩) n cp, v] w fun e w' => e = .returned (.tuple #[]) ∧ ∃ S', Vis h.f zs S S' ∧ OwnBs w' lo (.slice (some ⟨g, 0, none⟩) n cp) S' ∧ w.grownBy w' (some g) := by
  have hrow : ∀ i, i < h.f.length → ∀ z ∈ h.f.getD i [], inR h.f.length z := fun i _ z hz => (hG.field hz).imp id (fun h => ⟨h.1, h.2.1⟩)
  have hrl : ∀ i, i < h.f.length → (h.f.getD i []).length ≤ 3 := fun i hi => (hG.row i hi).1
  have hn1 := hG.n
  have hll := hG.ll
  obtain ⟨la, lc, rfl⟩ := hA.l.shape
  rw [hll]
  have HF := Lib.hid hA.f; have HZ := Lib.hid hz; have HR := Lib.hid hrow; have HRL := Lib.hid hrl; have HZR := Lib.hid hzr
  clear hA hG hz hrow hrl hzr hll
  subst hn
  generalize hn : h.f.length = n at *
  have HN := Lib.hid hn; clear hn
  have hgw : g < w.heap.size := (owns_lt (g := g) hS rfl).2
  have b3 := ((below1 w (.cells (c3 a (.slice la n lc) c) 30)).alloc (by simp) (.cells #[.slice (some ⟨g, 0, none⟩) n cp] 23)).alloc (by simp; omega) (.cells #[.func (.func 172) #[] #[.pointer (some ⟨w.heap.size + 1, 0, none⟩), .pointer (some ⟨w.heap.size + 1 + 1, 0, none⟩), .pointer (some ⟨w.heap.size, 0, none⟩)]] 149)
  have hV : Vst (((w.alloc (.cells (c3 a (.slice la n lc) c) 30)).alloc (.cells #[.slice (some ⟨g, 0, none⟩) n cp] 23)).alloc (.cells #[.func (.func 172) #[] #[.pointer (some ⟨w.heap.size + 1, 0, none⟩), .pointer (some ⟨w.heap.size + 1 + 1, 0, none⟩), .pointer (some ⟨w.heap.size, 0, none⟩)]] 149)) g (w.heap.size + 1) (w.heap.size + 1 + 1) w.heap.size n cp lo a (.slice la n lc) c S := ⟨OwnBs.below hS b3, (Row.new1 w (.cells (c3 a (.slice la n lc) c) 30) 23 #[.slice (some ⟨g, 0, none⟩) n cp]).alloc (.cells #[.func (.func 172) #[] #[.pointer (some ⟨w.heap.size + 1, 0, none⟩), .pointer (some ⟨w.heap.size + 1 + 1, 0, none⟩), .pointer (some ⟨w.heap.size, 0, none⟩)]] 149), Row.new2 w (.cells (c3 a (.slice la n lc) c) 30) (.cells #[.slice (some ⟨g, 0, none⟩) n cp] 23) 149 _, ((Row.new w 30 (c3 a (.slice la n lc) c)).alloc (.cells #[.slice (some ⟨g, 0, none⟩) n cp] 23)).alloc (.cells #[.func (.func 172) #[] #[.pointer (some ⟨w.heap.size + 1, 0, none⟩), .pointer (some ⟨w.heap.size + 1 + 1, 0, none⟩), .pointer (some ⟨w.heap.size, 0, none⟩)]] 149)⟩
  have VV := Lib.hid hV
  have BB := Lib.hid (bst hB b3 hB.size)
  have G3 := Lib.hid (grownB_of b3 (some g))
  have HSN := Lib.hid hSn
  have HLO := Lib.hid hlo
  clear hV hB b3 hS hlo hSn
  go_enter Try.func141, Try.ntmps141
  go_wp2_with fail
  refine (c_visit W g (w.heap.size + 1) (w.heap.size + 1 + 1) w.heap.size n cp lo a (.slice la n lc) c h.f HLO.out (by omega) (by omega) (by omega) HF.out HN.out hn1 HR.out HRL.out _ v zs S _ (Nat.le_refl _) HSN.out HZ.out hzl HZR.out BB.out VV.out).mono ?_
  rintro e w4 ⟨rfl, S', hvis, hown, hgr⟩
  have O4 := Lib.hid hown; have V4 := Lib.hid hvis; have G4 := Lib.hid (grownBy_trans G3.out hgr)
  clear hgr hown hvis
  go_wp2_with fail
  go_end0
  exact ⟨rfl, S', V4.out, O4.out, G4.out⟩
set_option maxRecDepth 100000 in
set_option maxHeartbeats 3200000 in
theorem c_reachedOver (a b c v : Value) (h : H) (zs : List Int) (w : World) (hA : HeapAt w a b c h) (hG : Ph.Good h) (hz : IntsAt w v zs) (hzl : zs.length ≤ 12) (hzr : ∀ z ∈ zs, inR h.f.length z) :
    Calls Try.prog 84 #[hv a b c, v] w fun e w' => ∃ v', e = .returned v' ∧ OwnBs w' w.heap.size v' (reachL h.f zs) ∧ Below w.heap.size w w' := by
  obtain ⟨i0, hi, hz0, hz1, hz2⟩ := info_parts info_boolz
  have hn1 := hG.n
  have hll := hG.ll
  have CM := Lib.hid (fun (g : Nat) (w' : World) (S : List Bool) hb hg hs ho => c_reachMore w g h.f.length h.f.length w.heap.size a b c v h zs S w' hA hG hz hzl hzr hb hg rfl hs ho)
  obtain ⟨la, lc, rfl⟩ := hA.l.shape
  rw [hll] at *
  have hb0 := Lib.hid (below1 w (.cells (c3 a (.slice la h.f.length lc) c) 30))
  have R0 := Lib.hid (show RowH _ _ a (.slice la h.f.length lc) c from Row.new w 30 (c3 a (.slice la h.f.length lc) c))
  have VD := Lib.hid (fun (S : List Bool) (q : Vis h.f zs (List.replicate h.f.length false) S) => q.done)
  clear hA hG hz hzr hll
  generalize h.f.length = n at *
  go_enter Try.func84, Try.ntmps84
  go_wp2_with (first
    | (at_make; refine wpList_make_full _ rfl _ _ 23 rfl w.heap.size 4 i0 (.bool false) 1 Try.underlying23 hi hz0 hz1 .i64 .i64 _ _ n rfl rfl rfl rfl (by rw [hz2]; omega) (by unfold maxLen; omega) (by simp) ?_; intro w1 hown hgr
       rw [rep_bools] at hown
       have hsz0 : (w.alloc (.cells (c3 a (.slice la n lc) c) 30)).heap.size = w.heap.size + 1 := by simp
       rw [hsz0] at hown
       have O1 : Hid (OwnBs w1 w.heap.size (.slice (some ⟨w.heap.size + 1, 0, none⟩) n n) (List.replicate n false)) := (by { unfold Hid OwnBs; rw [List.length_replicate]; exact hown })
       have B1 := Lib.hid (hb0.out.grown hgr hb0.out.size (fun k hk => by cases hk))
       have rr : RowH w1 w.heap.size a (.slice la n lc) c := Row.grown R0.out hgr
       have q0 := rr.c0; have q1 := rr.c1; have q2 := rr.c2
       clear hown hgr hsz0 rr))
  clear q0 q1 q2
  refine (CM.out (w.heap.size + 1) _ (List.replicate n false) B1.out (by omega) (by simp) O1.out).mono ?_
  rintro e w4 ⟨rfl, S', hvis, hown, hgr⟩
  have O4 := Lib.hid hown; have V4 := Lib.hid (VD.out S' hvis); have B4 := Lib.hid (B1.out.grown hgr B1.out.size (fun k hk => by cases hk; omega))
  clear hown hvis hgr
  go_wp2_with fail
  go_ret
  exact ⟨_, rfl, by rw [← V4.out]; exact O4.out, B4.out⟩
end Go.Proofs.Ytkkigoamphkalaa
namespace Go.Proofs.Ytkkigoamphkalaa.Ph
theorem left_rep (n : Nat) : left (List.replicate n false) = n := by unfold left; simp
end Go.Proofs.Ytkkigoamphkalaa.Ph
namespace Go.Proofs.Ytkkigoamphkalaa
open Go.RowKit Ph

theorem que_nil (w : World) (lo : Nat) (hlo : lo ≤ w.heap.size) : Que (w.alloc (.cells #[] 3)) lo w.heap.size 0 0 [] :=
  ⟨hlo, by simp, Nat.le_refl _, fun i hi => by simp at hi, fun i hi => by omega, fun i => by rw [Nat.zero_add]; exact Row.frozen (Row.new w 3 #[]) i⟩
set_option maxRecDepth 100000 in
set_option maxHeartbeats 6400000 in
theorem s_l5From (a b' c v : Value) (h : H) (zs : List Int) (w : World) (hA : HeapAt w a b' c h) (hG : Ph.Good h) (hz : IntsAt w v zs) (hzl : zs.length ≤ 12) (hzr : ∀ z ∈ zs, inR h.f.length z) :
    Calls Try.prog 89 #[hv a b' c, v] w fun e w' => ∃ v', e = .returned v' ∧ OwnBs w' w.heap.size v' (reachL h.f zs) ∧ Below w.heap.size w w' := by
  obtain ⟨i0, hi, hz0, hz1, hz2⟩ := info_parts info_boolz
  have hrow : ∀ i, i < h.f.length → ∀ z ∈ h.f.getD i [], inR h.f.length z := fun i _ z hz => (hG.field hz).imp id (fun h => ⟨h.1, h.2.1⟩)
  have hrl : ∀ i, i < h.f.length → (h.f.getD i []).length ≤ 3 := fun i hi => (hG.row i hi).1
  have hn1 := hG.n
  obtain ⟨fa, fc, rfl⟩ := hA.f.shape
  obtain ⟨va, vc, hva⟩ := hz.shape
  have HF := Lib.hid hA.f; have HZ := Lib.hid hz; have HR := Lib.hid hrow; have HRL := Lib.hid hrl; have HZR := Lib.hid hzr
  have HST := Lib.hid (Bfs.start h.f zs)
  clear hA hG hz hrow hrl hzr
  generalize hn : h.f.length = n at *
  have HN := Lib.hid hn; clear hn
  have HVA := Lib.hid hva
  clear hva
  have hb0 := Lib.hid (below1 w (.cells (c3 (.slice fa n fc) b' c) 30))
  have R0 := Lib.hid (show RowH _ _ (.slice fa n fc) b' c from Row.new w 30 (c3 (.slice fa n fc) b' c))
  go_enter Try.func89, Try.ntmps89
  go_wp2_with (first
    | (at_make; refine wpList_make_full _ rfl _ _ 23 rfl w.heap.size 4 i0 (.bool false) 1 Try.underlying23 hi hz0 hz1 .i64 .i64 _ _ n rfl rfl rfl rfl (by rw [hz2]; omega) (by unfold maxLen; omega) (by simp) ?_; intro w1 hown hgr
       rw [rep_bools] at hown
       have hsz0 : (w.alloc (.cells (c3 (.slice fa n fc) b' c) 30)).heap.size = w.heap.size + 1 := by simp
       rw [hsz0] at hown
       have lt1 : w.heap.size + 1 < w1.heap.size := (owns_lt hown rfl).2
       have o1 : OwnBs w1 w.heap.size (.slice (some ⟨w.heap.size + 1, 0, none⟩) n n) (List.replicate n false) := by unfold OwnBs; rw [List.length_replicate]; exact hown
       have b1 := hb0.out.grown hgr hb0.out.size (fun k hk => by cases hk)
       have O1 := Lib.hid o1; have B1 := Lib.hid b1; have R1 := Lib.hid (Row.grown R0.out hgr); have LT1 := Lib.hid lt1
       clear hown hgr hsz0 o1 b1 lt1)
    | (at_builtin; refine wl_appQ _ rfl _ _ rfl (w.heap.size + 2) w1.heap.size 0 0 [] rfl (que_nil w1 _ (by have := LT1.out; omega)) v zs rfl (HZ.out.below (bst B1.out (below1 w1 (.cells #[] 3)) (by have := LT1.out; omega))) (by have := LT1.out; simp; omega) (by simp; omega) ?_
       intro b2 o2 k2 w2 hq2 hg2
       have b2' := (bst B1.out (below1 w1 (.cells #[] 3)) (by have := LT1.out; omega)).grown hg2 (by have := LT1.out; simp; omega) (fun k hk => by cases hk; have := LT1.out; omega)
       have e2 : OwnBs w2 w.heap.size (.slice (some ⟨w.heap.size + 1, 0, none⟩) n n) (List.replicate n false) := owns_block (OwnBs.below O1.out (below1 w1 (.cells #[] 3))) (fun g hg => hg2.block g (by have := LT1.out; cases hg; simp; omega) (by have := LT1.out; cases hg; simp; omega))
       have r2 := Row.grownBy (R1.out.alloc (.cells #[] 3)) hg2 (by have := LT1.out; simp; omega)
       have Q2 := Lib.hid hq2; have B2 := Lib.hid b2'; have O2 := Lib.hid e2; have R2 := Lib.hid r2
       clear hq2 hg2 b2' e2 r2))
  rw [List.nil_append] at Q2
  clear O1 B1 R1 hb0 R0 HZ HVA
  have LTW : Hid (w.heap.size + 2 ≤ w2.heap.size) := by unfold Hid; have := Q2.out.lt; have := Q2.out.lo; omega
  go_loopg [6] (4 * n + zs.length) (fun k q wr => ∃ (b off cap : Nat) (zq : List Int) (S : List Bool), q = .slice (some ⟨b, off, none⟩) zq.length cap ∧ Hid (k = 4 * left S + zq.length) ∧ k ≤ 60 ∧ Hid (Que wr (w.heap.size + 2) b off cap zq) ∧ Hid (Bfs h.f zs zq S) ∧ Hid (∀ z ∈ zq, inR n z) ∧ Hid (OwnBs wr w.heap.size (.slice (some ⟨w.heap.size + 1, 0, none⟩) n n) S) ∧ Hid (RowH wr w.heap.size (.slice fa n fc) b' c) ∧ Hid (Below w.heap.size w wr) ∧ Hid (w.heap.size + 2 ≤ wr.heap.size))
  case atStart => exact ⟨b2, o2, k2, zs, List.replicate n false, rfl, by rw [left_rep]; exact rfl, by omega, Q2, HST, HZR, O2, R2, B2, LTW⟩
  case round =>
    obtain ⟨b, off, cap, zq, S, rfl, hgk, hg60, hq, hbf, hzq, hos, hrw, hbw, hlw⟩ := hrel
    have hSl : S.length = n := by rw [hbf.out.len, HN.out]
    cases zq with
    | nil =>
      have HE := Lib.hid hbf.out.done
      simp only [List.length_nil]
      go_wp2_with fail
      go_ret
      exact ⟨_, rfl, by rw [← HE.out]; exact hos.out, hbw.out⟩
    | cons z zq =>
      have q0 := hq.out.at' 0 (by simp)
      have hin := hzq.out z (by simp)
      have hcap := hq.out.le
      have HQ0 : Hid (cap = 1 → Que wr (w.heap.size + 2) b off (cap - 1) zq) := hq.out.tail0
      have HQ1 := Lib.hid hq.out.tail
      have HZT : Hid (∀ y ∈ zq, inR n y) := fun y hy => hzq.out y (List.mem_cons_of_mem _ hy)
      simp only [List.getD_cons_zero, Nat.add_zero] at q0
      simp only [List.length_cons] at hgk hcap ⊢
      generalize hql : zq.length = ql at *
      have HQL := Lib.hid hql
      have ipos : (0 : Int) < ((ql + 1 : Nat) : Int) := by omega
      clear hql hzq
      by_cases hc1 : cap = 1
      · subst hc1
        obtain rfl : ql = 0 := by omega
        obtain rfl : zq = [] := List.eq_nil_of_length_eq_zero HQL.out
        have HQT : Hid (Que wr (w.heap.size + 2) b off 0 []) := HQ0.out rfl
        clear HQ0 HQ1
        by_cases z0 : z < 0
        · have HS1 : Hid (Bfs h.f zs [] S) := hbf.out.skip (.inl z0)
          clear hin
          go_wp2_with fail
          go_roundg (4 * left S)
          case measure => have := hgk.out; omega
          case rel => exact ⟨b, off, 0, [], S, rfl, rfl, by have := hgk.out; omega, HQT, HS1, HZT, hos, hrw, hbw, hlw⟩
        · obtain ⟨t, rfl⟩ : ∃ t : Nat, z = t := ⟨z.toNat, by omega⟩
          have htn : t < n := by unfold inR at hin; omega
          obtain ⟨s1, s2, s3, s4⟩ := hos.out.stored hSl htn true
          have i2 : ¬ (t : Int) < 0 := by omega
          have i3 : (t : Int) < (n : Int) := by omega
          have i4 : (0 : Int) ≤ (t : Int) := by omega
          generalize hx : S.getD t false = x at *
          have HX := Lib.hid hx
          clear hin z0 hx
          cases x
          · have hls := left_set (S := S) (z := t) (by omega) HX.out
            obtain ⟨fb, fo, rfl, hcf⟩ := HF.out.at' (by omega)
            obtain ⟨u, quf, huf⟩ := hcf t htn
            have B1 : Below w.heap.size w (wr.setCell ⟨w.heap.size + 1, t, none⟩ (.bool true)) := hbw.out.setCell (p := ⟨w.heap.size + 1, t, none⟩) (by simp) (.bool true)
            have qu := cellBelow B1 (Nat.le_refl _) quf
            have U1 := Lib.hid (huf.below B1)
            have hqb := hq.out.lo
            have Q1 : Hid (Que (wr.setCell ⟨w.heap.size + 1, t, none⟩ (.bool true)) (w.heap.size + 2) b off 0 []) := HQT.out.kept s2.size (s2.block b HQT.out.lt (by simp; omega))
            have R1 : RowH (wr.setCell ⟨w.heap.size + 1, t, none⟩ (.bool true)) w.heap.size (.slice (some ⟨fb, fo, none⟩) n fc) b' c := Row.grownBy hrw.out s2 (by simp)
            have d0 := R1.c0
            have TK := Lib.hid (by have := hbf.out.take (z := t) (by rw [HN.out]; exact htn); rwa [List.nil_append] at this : Bfs h.f zs (h.f.getD t []) (S.set t true))
            have hrt := HR.out t htn
            have hlt3 := HRL.out t htn
            have HZA : Hid (∀ y ∈ h.f.getD t [], inR n y) := hrt
            have RR1 := Lib.hid R1; have BB1 := Lib.hid B1; have SS1 := Lib.hid s1; have HLS := Lib.hid hls
            have LL1 : Hid (w.heap.size + 2 ≤ (wr.setCell ⟨w.heap.size + 1, t, none⟩ (.bool true)).heap.size) := by unfold Hid; rw [World.size_setCell]; exact hlw.out
            obtain ⟨ua, uc, hu⟩ := huf.shape
            subst hu
            clear hls hcf huf quf B1 R1 s1 s2 hrt
            have HL3 := Lib.hid hlt3
            have HGT := Lib.hid (show (h.f.getD t []).length ≤ 1000000 by have := hgk.out; omega)
            generalize hrr : h.f.getD t [] = row at *
            have HRR := Lib.hid hrr
            clear hrr hlt3
            generalize hrl' : row.length = rl at *
            have HRLN := Lib.hid hrl'
            clear hrl'
            go_wp2_with (at_builtin; refine wl_appQ _ rfl _ _ rfl (w.heap.size + 2) b off 0 [] rfl Q1.out _ row rfl U1.out LL1.out (by have := HGT.out; simp only [List.length_nil, Nat.zero_add, HRLN.out]; exact this) ?_
                         intro b3 o3 k3 w3 hq3 hg3
                         have f1 : Hid (Que w3 (w.heap.size + 2) b3 o3 k3 row) := (by rw [List.nil_append] at hq3; exact hq3)
                         have f2 := Lib.hid (BB1.out.grown hg3 (by have := LL1.out; omega) (fun k hk => by cases hk; omega))
                         have f3 : Hid (OwnBs w3 w.heap.size (.slice (some ⟨w.heap.size + 1, 0, none⟩) n n) (S.set t true)) := owns_block SS1.out (fun g hg => hg3.block g (owns_lt SS1.out hg).2 (by cases hg; simp; omega))
                         have f4 : Hid (RowH w3 w.heap.size (.slice (some ⟨fb, fo, none⟩) n fc) b' c) := Row.grownBy RR1.out hg3 (by simp; omega)
                         have f5 : Hid (w.heap.size + 2 ≤ w3.heap.size) := Nat.le_trans LL1.out hg3.size
                         clear hq3 hg3)
            go_roundg (4 * left (S.set t true) + (row).length)
            case measure => rw [HRLN.out]; have := hgk.out; have := HLS.out; have := HL3.out; omega
            case rel => exact ⟨b3, o3, k3, row, S.set t true, rfl, rfl, by rw [HRLN.out]; have := hgk.out; have := HLS.out; have := HL3.out; omega, f1, TK, HZA, f3, f4, f2, f5⟩
          · have HS1 : Hid (Bfs h.f zs [] S) := hbf.out.skip (.inr (by simpa using HX.out))
            go_wp2_with fail
            go_roundg (4 * left S)
            case measure => have := hgk.out; omega
            case rel => exact ⟨b, off, 0, [], S, rfl, rfl, by have := hgk.out; omega, HQT, HS1, HZT, hos, hrw, hbw, hlw⟩
      · have HQT := HQ1
        clear HQ0 HQ1
        by_cases z0 : z < 0
        · have HS1 : Hid (Bfs h.f zs zq S) := hbf.out.skip (.inl z0)
          clear hin
          go_wp2_with fail
          go_roundg (4 * left S + ql)
          case measure => have := hgk.out; omega
          case rel => exact ⟨b, off + 1, cap - 1, zq, S, by simp [HQL.out], by rw [HQL.out]; exact rfl, by have := hgk.out; omega, HQT, HS1, HZT, hos, hrw, hbw, hlw⟩
        · obtain ⟨t, rfl⟩ : ∃ t : Nat, z = t := ⟨z.toNat, by omega⟩
          have htn : t < n := by unfold inR at hin; omega
          obtain ⟨s1, s2, s3, s4⟩ := hos.out.stored hSl htn true
          have i2 : ¬ (t : Int) < 0 := by omega
          have i3 : (t : Int) < (n : Int) := by omega
          have i4 : (0 : Int) ≤ (t : Int) := by omega
          generalize hx : S.getD t false = x at *
          have HX := Lib.hid hx
          clear hin z0 hx
          cases x
          · have hls := left_set (S := S) (z := t) (by omega) HX.out
            obtain ⟨fb, fo, rfl, hcf⟩ := HF.out.at' (by omega)
            obtain ⟨u, quf, huf⟩ := hcf t htn
            have B1 : Below w.heap.size w (wr.setCell ⟨w.heap.size + 1, t, none⟩ (.bool true)) := hbw.out.setCell (p := ⟨w.heap.size + 1, t, none⟩) (by simp) (.bool true)
            have qu := cellBelow B1 (Nat.le_refl _) quf
            have U1 := Lib.hid (huf.below B1)
            have hqb := hq.out.lo
            have Q1 : Hid (Que (wr.setCell ⟨w.heap.size + 1, t, none⟩ (.bool true)) (w.heap.size + 2) b (off + 1) (cap - 1) zq) := HQT.out.kept s2.size (s2.block b HQT.out.lt (by simp; omega))
            have R1 : RowH (wr.setCell ⟨w.heap.size + 1, t, none⟩ (.bool true)) w.heap.size (.slice (some ⟨fb, fo, none⟩) n fc) b' c := Row.grownBy hrw.out s2 (by simp)
            have d0 := R1.c0
            have TK := Lib.hid (hbf.out.take (z := t) (by rw [HN.out]; exact htn))
            have hrt := HR.out t htn
            have hlt3 := HRL.out t htn
            have HZA : Hid (∀ y ∈ zq ++ h.f.getD t [], inR n y) := fun y hy => (List.mem_append.1 hy).elim (HZT.out y) (hrt y)
            have RR1 := Lib.hid R1; have BB1 := Lib.hid B1; have SS1 := Lib.hid s1; have HLS := Lib.hid hls
            have LL1 : Hid (w.heap.size + 2 ≤ (wr.setCell ⟨w.heap.size + 1, t, none⟩ (.bool true)).heap.size) := by unfold Hid; rw [World.size_setCell]; exact hlw.out
            obtain ⟨ua, uc, hu⟩ := huf.shape
            subst hu
            clear hls hcf huf quf B1 R1 s1 s2 hrt
            have HL3 := Lib.hid hlt3
            have HGT := Lib.hid (show zq.length + (h.f.getD t []).length ≤ 1000000 by rw [HQL.out]; have := hgk.out; omega)
            generalize hrr : h.f.getD t [] = row at *
            have HRR := Lib.hid hrr
            clear hrr hlt3
            generalize hrl' : row.length = rl at *
            have HRLN := Lib.hid hrl'
            clear hrl'
            go_wp2_with (at_builtin; refine wl_appQ _ rfl _ _ rfl (w.heap.size + 2) b (off + 1) (cap - 1) zq (by first | (rw [HQL.out]; rfl) | (simp [HQL.out])) Q1.out _ row rfl U1.out LL1.out (by rw [HRLN.out]; exact HGT.out) ?_
                         intro b3 o3 k3 w3 hq3 hg3
                         have f1 := Lib.hid hq3; have f2 := Lib.hid (BB1.out.grown hg3 (by have := LL1.out; omega) (fun k hk => by cases hk; omega))
                         have f3 : Hid (OwnBs w3 w.heap.size (.slice (some ⟨w.heap.size + 1, 0, none⟩) n n) (S.set t true)) := owns_block SS1.out (fun g hg => hg3.block g (owns_lt SS1.out hg).2 (by cases hg; simp; omega))
                         have f4 : Hid (RowH w3 w.heap.size (.slice (some ⟨fb, fo, none⟩) n fc) b' c) := Row.grownBy RR1.out hg3 (by simp; omega)
                         have f5 : Hid (w.heap.size + 2 ≤ w3.heap.size) := Nat.le_trans LL1.out hg3.size
                         clear hq3 hg3)
            go_roundg (4 * left (S.set t true) + (zq ++ row).length)
            case measure => rw [List.length_append, HQL.out, HRLN.out]; have := hgk.out; have := HLS.out; have := HL3.out; omega
            case rel => exact ⟨b3, o3, k3, zq ++ row, S.set t true, by rw [List.length_append], rfl, by rw [List.length_append, HQL.out, HRLN.out]; have := hgk.out; have := HLS.out; have := HL3.out; omega, f1, TK, HZA, f3, f4, f2, f5⟩
          · have HS1 : Hid (Bfs h.f zs zq S) := hbf.out.skip (.inr (by simpa using HX.out))
            go_wp2_with fail
            go_roundg (4 * left S + ql)
            case measure => have := hgk.out; omega
            case rel => exact ⟨b, off + 1, cap - 1, zq, S, by simp [HQL.out], by rw [HQL.out]; exact rfl, by have := hgk.out; omega, HQT, HS1, HZT, hos, hrw, hbw, hlw⟩
end Go.Proofs.Ytkkigoamphkalaa
namespace Go.Proofs.Ytkkigoamphkalaa.Ph
def inB (lo hi z : Int) : Bool := decide (lo ≤ z) && decide (z ≤ hi)
theorem inAll_take_succ {lo hi : Int} {zs : List Int} {k : Nat} (h : k < zs.length) : (zs.take (k + 1)).all (inB lo hi) = ((zs.take k).all (inB lo hi) && inB lo hi (zs.getD k 0)) := by
  have e : zs.getD k 0 = zs[k] := by simp [List.getD, List.getElem?_eq_getElem h]
  rw [List.take_succ_eq_append_getElem h, List.all_append, e]; simp
theorem inAll_false {lo hi : Int} {zs : List Int} {k : Nat} (h : k < zs.length) (hn : inB lo hi (zs.getD k 0) = false) : zs.all (inB lo hi) = false := by
  cases hq : zs.all (inB lo hi) with
  | false => rfl
  | true =>
    have e : zs.getD k 0 = zs[k] := by simp [List.getD, List.getElem?_eq_getElem h]
    have := (List.all_eq_true.1 hq) zs[k] (List.getElem_mem h)
    rw [e] at hn; rw [hn] at this; cases this
end Go.Proofs.Ytkkigoamphkalaa.Ph
namespace Go.Proofs.Ytkkigoamphkalaa
open Go.RowKit Ph

set_option maxHeartbeats 1600000 in
theorem s_l1All (v : Value) (zs : List Int) (lo hi : Int) (w : World) (hz : IntsAt w v zs) (hm : zs.length ≤ 9223372036854775806) : Calls Try.prog 87 #[v, .int .i64 lo, .int .i64 hi] w fun e w' => e = .returned (.bool (zs.all (inB lo hi))) ∧ w = w' := by
  obtain ⟨va, vc, rfl, hA⟩ := hz
  have HA := Lib.hid hA
  clear hA
  generalize hn : zs.length = n at *
  have HN := Lib.hid hn; clear hn
  go_enter Try.func87, Try.ntmps87
  go_wp2
  go_loop [11] (fun i => ∃ k : Nat, k ≤ n ∧ i = .int .i64 k ∧ Hid ((zs.take k).all (inB lo hi) = true)) (fun i => n - (intOf i).toNat)
  case atStart => exact ⟨0, Nat.zero_le _, rfl, by simp [Hid]⟩
  case round =>
    obtain ⟨k, hk, rfl, ht⟩ := hrel
    by_cases hlt : k < n
    · obtain ⟨g, off, rfl, hc⟩ := HA.out (by omega)
      have q := hc k hlt
      have i1 : (k : Int) < (n : Int) := by omega
      have hs := inAll_take_succ (lo := lo) (hi := hi) (zs := zs) (k := k) (by rw [HN.out]; exact hlt)
      have hf := inAll_false (lo := lo) (hi := hi) (zs := zs) (k := k) (by rw [HN.out]; exact hlt)
      have HS := Lib.hid hs; have HF := Lib.hid hf
      clear hc hs hf
      generalize zs.getD k 0 = z at *
      have hcall : Calls Try.prog 126 #[.int .i64 z, .int .i64 lo, .int .i64 hi] w fun e w' => e = .returned (.bool (inB lo hi z)) ∧ w = w' := s_l1In z lo hi w
      have HC := Lib.hid hcall
      clear hcall
      generalize hx : inB lo hi z = x at *
      clear hx
      cases x
      · have HE : Hid (zs.all (inB lo hi) = false) := HF.out rfl
        clear HS HF
        go_wp2_with (go_at_call 126; refine HC.out.mono ?_; rintro e w1 ⟨rfl, rfl⟩)
        go_ret
        exact ⟨r_b HE.out.symm, rfl⟩
      · have HE : Hid ((zs.take (k + 1)).all (inB lo hi) = true) := by unfold Hid; rw [HS.out, ht.out]; rfl
        clear HS HF
        go_wp2_with (go_at_call 126; refine HC.out.mono ?_; rintro e w1 ⟨rfl, rfl⟩)
        go_round
        case rel => exact ⟨k + 1, by omega, by go_num, HE.out⟩
        case measure => simp [intOf]; omega
    · have HE : Hid (zs.all (inB lo hi) = true) := by
        unfold Hid
        have := ht.out
        rwa [List.take_of_length_le (by rw [HN.out]; omega)] at this
      go_wp2
      go_ret
      exact ⟨r_b HE.out.symm, rfl⟩
set_option maxHeartbeats 1600000 in
theorem s_l5Reached (a b c : Value) (h : H) (w : World) (hA : HeapAt w a b c h) (hG : Ph.Good h) : Calls Try.prog 81 #[hv a b c] w fun e w' => ∃ v', e = .returned v' ∧ OwnBs w' w.heap.size v' (reachL h.f h.r) ∧ Below w.heap.size w w' := by
  have hb0 := below1 w (.cells (c3 a b c) 30)
  have A0 := Lib.hid (hA.below hb0)
  have HB := Lib.hid hb0; have G := Lib.hid hG
  have R0 := Lib.hid (show RowH _ _ a b c from Row.new w 30 (c3 a b c))
  clear hA hb0 hG
  have c0 := R0.out.c0
  have c1 := R0.out.c1
  have c2 := R0.out.c2
  go_enter Try.func81, Try.ntmps81
  go_wp2_with fail
  refine (s_l5From a b c c h h.r _ A0.out G.out A0.out.r (by have := G.out.rn; omega) (fun z hz => (refs_bound G.out G.out.rr z hz).imp id (fun h => ⟨h.1, h.2.1⟩))).mono ?_
  rintro e w2 ⟨v', rfl, ho2, hb2⟩
  have B2 := Lib.hid (bst HB.out hb2 HB.out.size); have O2 := Lib.hid (show OwnBs w2 w.heap.size v' (reachL h.f h.r) from owns_mono ho2 fun g hg => Nat.le_trans HB.out.size (owns_lt ho2 hg).1)
  clear hb2 ho2
  go_wp2_with fail
  go_ret
  exact ⟨_, rfl, O2.out, B2.out⟩
end Go.Proofs.Ytkkigoamphkalaa
namespace Go.Proofs.Ytkkigoamphkalaa.Ph

/-- Every colour is White (0), Grey (1) or Black (2). -/
def Col (cs : List Int) : Prop := ∀ i, 0 ≤ cs.getD i 0 ∧ cs.getD i 0 ≤ 2
def colsB (cs : List Int) : Bool := decide (cs.length ≤ 12) && cs.all (inB 0 2)
theorem getD_memI {zs : List Int} {i : Nat} (h : i < zs.length) : zs.getD i 0 ∈ zs := by
  have e : zs.getD i 0 = zs[i] := by simp [List.getD, List.getElem?_eq_getElem h]
  rw [e]; exact List.getElem_mem h
theorem getD_outI {zs : List Int} {i : Nat} (h : ¬ i < zs.length) : zs.getD i 0 = 0 := by simp [List.getD, List.getElem?_eq_none (Nat.le_of_not_lt h)]
theorem colsB_iff {cs : List Int} : colsB cs = true ↔ cs.length ≤ 12 ∧ Col cs := by
  unfold colsB
  rw [Bool.and_eq_true, decide_eq_true_eq, List.all_eq_true]
  refine and_congr_right fun _ => ⟨fun h i => ?_, fun h z hz => ?_⟩
  · by_cases e : i < cs.length
    · have := h _ (getD_memI e)
      simp only [inB, Bool.and_eq_true, decide_eq_true_eq] at this
      exact this
    · rw [getD_outI e]; omega
  · obtain ⟨i, hi, rfl⟩ := List.getElem_of_mem hz
    have := h i
    have e : cs.getD i 0 = cs[i] := by simp [List.getD, List.getElem?_eq_getElem hi]
    rw [e] at this
    simp only [inB, Bool.and_eq_true, decide_eq_true_eq]
    exact this
theorem getD_setI {zs : List Int} {i j : Nat} {x : Int} (hi : i < zs.length) : (zs.set i x).getD j 0 = if j = i then x else zs.getD j 0 := by
  by_cases e : j = i
  · subst e; simp [List.getD, hi]
  · rw [if_neg e]
    simp only [List.getD]
    rw [List.getElem?_set_ne (Ne.symm e)]
theorem set_outI {zs : List Int} {i : Nat} {x : Int} (hi : ¬ i < zs.length) : zs.set i x = zs := List.set_eq_of_length_le (by omega)
theorem set_getDI {zs : List Int} {i : Nat} : zs.set i (zs.getD i 0) = zs := by
  by_cases hi : i < zs.length
  · have e : zs.getD i 0 = zs[i] := by simp [List.getD, List.getElem?_eq_getElem hi]
    rw [e]; exact List.set_getElem_self hi
  · exact set_outI hi
theorem Col.set {cs : List Int} (h : Col cs) (k : Nat) {x : Int} (h0 : 0 ≤ x) (h2 : x ≤ 2) : Col (cs.set k x) := by
  intro i
  by_cases hk : k < cs.length
  · rw [getD_setI hk]
    by_cases e : i = k
    · rw [if_pos e]; exact ⟨h0, h2⟩
    · rw [if_neg e]; exact h i
  · rw [set_outI hk]; exact h i

/-- The object z shaded. -/
def shade (cs : List Int) (z : Int) : List Int := if 0 ≤ z ∧ cs.getD z.toNat 0 = 0 then cs.set z.toNat 1 else cs
theorem shade_len (cs : List Int) (z : Int) : (shade cs z).length = cs.length := by unfold shade; split <;> simp
theorem shade_neg {cs : List Int} {z : Int} (h : z < 0) : shade cs z = cs := by unfold shade; rw [if_neg (by omega)]
theorem Col.shade {cs : List Int} (h : Col cs) (z : Int) : Col (shade cs z) := by
  unfold Ph.shade
  split
  · exact h.set _ (by omega) (by omega)
  · exact h
theorem shade_nat (cs : List Int) (k : Nat) : shade cs (k : Int) = if cs.getD k 0 = 0 then cs.set k 1 else cs := by
  unfold shade
  simp
theorem shade_max {cs : List Int} {k : Nat} (hc : Col cs) : cs.set k (max (cs.getD k 0) 1) = shade cs (k : Int) := by
  rw [shade_nat]
  by_cases e : cs.getD k 0 = 0
  · rw [if_pos e, e]; rfl
  · rw [if_neg e]
    have := hc k
    rw [Int.max_eq_left (by omega)]
    exact set_getDI
/-- The objects zs shaded, one after another. -/
def shades (cs zs : List Int) : List Int := zs.foldl shade cs
/-- A Grey object scanned: it is Black, and what its fields name is shaded. -/
def scan (cs zs : List Int) (k : Nat) : List Int := shades (cs.set k 2) zs
/-- The objects of the colour c, in order. -/
def ofTo (cs : List Int) (c : Int) (n : Nat) : List Int := ((List.range n).filter fun i => decide (cs.getD i 0 = c)).map fun i : Nat => (i : Int)
def ofC (cs : List Int) (c : Int) : List Int := ofTo cs c cs.length
theorem ofTo_zero (cs : List Int) (c : Int) : ofTo cs c 0 = [] := rfl
theorem ofTo_succ_yes {cs : List Int} {c : Int} {n : Nat} (h : cs.getD n 0 = c) : ofTo cs c (n + 1) = ofTo cs c n ++ [(n : Int)] := by
  unfold ofTo
  rw [List.range_succ, List.filter_append, List.map_append, List.filter_cons_of_pos (by simpa using h)]; rfl
theorem ofTo_succ_no {cs : List Int} {c : Int} {n : Nat} (h : ¬ cs.getD n 0 = c) : ofTo cs c (n + 1) = ofTo cs c n := by
  unfold ofTo
  rw [List.range_succ, List.filter_append, List.map_append, List.filter_cons_of_neg (by simpa using h)]; simp
theorem ofTo_len (cs : List Int) (c : Int) (n : Nat) : (ofTo cs c n).length ≤ n := by
  unfold ofTo
  rw [List.length_map]
  refine Nat.le_trans (List.length_filter_le _ _) ?_
  simp
theorem mem_ofC {cs : List Int} {c z : Int} : z ∈ ofC cs c ↔ ∃ i, i < cs.length ∧ cs.getD i 0 = c ∧ z = i := by
  unfold ofC ofTo
  simp only [List.mem_map, List.mem_filter, List.mem_range, decide_eq_true_eq]
  constructor
  · rintro ⟨i, ⟨h1, h2⟩, rfl⟩; exact ⟨i, h1, h2, rfl⟩
  · rintro ⟨i, h1, h2, rfl⟩; exact ⟨i, ⟨h1, h2⟩, rfl⟩
def bothB (h : H) (cs : List Int) : Bool := good h && decide (cs.length = h.l.length) && colsB cs
theorem bothB_iff {h : H} {cs : List Int} : bothB h cs = true ↔ Good h ∧ cs.length = h.f.length ∧ Col cs := by
  unfold bothB
  rw [Bool.and_eq_true, Bool.and_eq_true, decide_eq_true_eq, good_iff, colsB_iff]
  constructor
  · rintro ⟨⟨g, e⟩, _, c⟩; exact ⟨g, by rw [e, g.ll], c⟩
  · rintro ⟨g, e, c⟩; exact ⟨⟨g, by rw [e, g.ll]⟩, by rw [e]; exact g.n, c⟩
theorem bothB_eq (h : H) (cs : List Int) : bothB h cs = (good h && colsB cs && decide (cs.length = h.f.length)) := by
  rw [Bool.eq_iff_iff, bothB_iff, Bool.and_eq_true, Bool.and_eq_true, decide_eq_true_eq, good_iff, colsB_iff]
  constructor
  · rintro ⟨g, e, c⟩; exact ⟨⟨g, by rw [e]; exact g.n, c⟩, e⟩
  · rintro ⟨⟨g, _, c⟩, e⟩; exact ⟨g, e, c⟩
end Go.Proofs.Ytkkigoamphkalaa.Ph
namespace Go.Proofs.Ytkkigoamphkalaa.Ph

theorem shade_get (cs : List Int) (z : Int) (i : Nat) : (shade cs z).getD i 0 = if cs.getD i 0 = 0 ∧ i < cs.length ∧ z = i then 1 else cs.getD i 0 := by
  unfold shade
  by_cases h : 0 ≤ z ∧ cs.getD z.toNat 0 = 0
  · rw [if_pos h]
    by_cases e : z.toNat < cs.length
    · rw [getD_setI e]
      by_cases ei : i = z.toNat
      · subst ei
        rw [if_pos rfl, if_pos ⟨h.2, e, by omega⟩]
      · rw [if_neg ei, if_neg (fun k => ei (by omega))]
    · rw [set_outI e, if_neg (fun k => e (by omega))]
  · rw [if_neg h, if_neg]
    rintro ⟨h1, _, rfl⟩
    exact h ⟨by omega, by simpa using h1⟩
/-- How many objects below n are Black. -/
def blk (cs : List Int) (n : Nat) : Nat := (List.range n).countP fun i => decide (cs.getD i 0 = 2)
end Go.Proofs.Ytkkigoamphkalaa.Ph
namespace Go.Proofs.Ytkkigoamphkalaa
open Go.RowKit Ph

/-- What is appended, cell by cell. -/
def SrcAt (w : World) (x : Value) (ys : List Value) : Prop := ∃ ao c, x = .slice ao ys.length c ∧ (∀ u ∈ ys, u.oneCell' = true) ∧ (0 < ys.length → ∃ b off, ao = some ⟨b, off, none⟩ ∧ ∀ j, j < ys.length → w.cell? ⟨b, off + j, none⟩ = ys[j]?)
theorem IntsAt.src {w : World} {x : Value} {zs : List Int} (h : IntsAt w x zs) : SrcAt w x (zs.map (Value.int .i64)) := by
  obtain ⟨ao, c, rfl, hc⟩ := h
  refine ⟨ao, c, by rw [List.length_map], fun u hu => by obtain ⟨_, _, rfl⟩ := List.mem_map.1 hu; rfl, fun h0 => ?_⟩
  rw [List.length_map] at h0 ⊢
  obtain ⟨b, off, ha, hcc⟩ := hc h0
  exact ⟨b, off, ha, fun j hj => by rw [hcc j hj, List.getElem?_map, List.getElem?_eq_getElem hj]; simp [List.getD, List.getElem?_eq_getElem hj]⟩
theorem run_appOwn {P : Program} (w : World) (base : Nat) (t ty e : TypeId) (i : TypeInfo) (z : Value) (bytes : Nat) (ht : P.underlying t = some (.slice e)) (hi : P.info? e = some i) (hz : i.zero = some z) (hsize : i.size = 1) (hby : i.bytes = bytes) (hzs : z.cells.size = 1)
    (v : Value) (n : Nat) (xs : List Value) (hown : w.ownsRow base e 1 v n xs) (x : Value) (ys : List Value) (hs : SrcAt w x ys) (h63 : n + ys.length ≤ maxLen) (hbytes : (n + ys.length) * bytes ≤ 140737488355328) (hbase : base ≤ w.heap.size) :
    ∃ v' w', (Builtin.append_ #[t, t] ty #[v, x]).run P w = .ok v' w' ∧ w'.ownsRow base e 1 v' (n + ys.length) (xs ++ ys) ∧ w.grownBy w' v.ownBlock ∧ (v'.ownBlock = v.ownBlock ∨ v'.ownBlock = some w.heap.size) := by
  obtain ⟨ao, c, rfl, h1, hc⟩ := hs
  by_cases h0 : 0 < ys.length
  · obtain ⟨b, off, rfl, hcc⟩ := hc h0
    obtain ⟨v', w', hr, ho, hg, _, hb⟩ := run_append_own_at w base t ty e i z 1 bytes ht hi hz hsize hby hzs (by omega) v n xs hown ⟨b, off, none⟩ ys.length c ys (by omega) (fun j u hu => by
      have hj : j < ys.length := by obtain ⟨h1, _⟩ := List.getElem?_eq_some_iff.1 hu; exact h1
      rw [Addr.add_lit, hcc j hj, hu]) h1 h63 hbytes hbase
    exact ⟨v', w', hr, ho, hg, hb⟩
  · have hy : ys = [] := List.eq_nil_of_length_eq_zero (by omega)
    subst hy
    have hsrc : Src P i.size t (.slice ao 0 c) 0 [] w := by
      cases ao with
      | none => exact Src.ofNil w ht c
      | some ad => exact Src.ofSlice w ht ad 0 c [] (by simp) (fun j u hu => by simp at hu) (fun u hu => by simp at hu)
    have hv : ∃ base' len cap, v = .slice base' len cap ∧ len ≤ cap := by
      rcases hown.2 with ⟨rfl, _⟩ | ⟨g, cap, cur, rfl, _, _, hle, _⟩
      · exact ⟨none, 0, 0, rfl, Nat.le_refl _⟩
      · exact ⟨_, _, _, rfl, hle⟩
    obtain ⟨base', len, cap, rfl, hle⟩ := hv
    exact ⟨_, w, run_append_nothing w t t ty e i ht hi base' len cap hle _ hsrc, by simpa using hown, World.grownBy.refl _ _, .inl rfl⟩
theorem wl_appOwn {P : Program} (w : World) {ops : Array Oper} {rest : List Oper} {o : Oper} {q : Act} {Q : Exit → Act → World → Prop} (hgd : o.guard = none) (s x : Operand) (t : TypeId) (hop : o.op = Op.call { callee := Callee.builtin Builtin.append, args := #[s, x], argTypes := #[t, t] })
    (base : Nat) (e : TypeId) (i : TypeInfo) (z : Value) (bytes : Nat) (ht : P.underlying t = some (.slice e)) (hi : P.info? e = some i) (hz : i.zero = some z) (hsize : i.size = 1) (hby : i.bytes = bytes) (hzs : z.cells.size = 1)
    (v : Value) (n : Nat) (xs : List Value) (hs : q.eval s = v) (hown : w.ownsRow base e 1 v n xs) (y : Value) (ys : List Value) (hx : q.eval x = y) (hy : SrcAt w y ys) (h63 : n + ys.length ≤ maxLen) (hbytes : (n + ys.length) * bytes ≤ 140737488355328) (hbase : base ≤ w.heap.size)
    (hK : ∀ v' w', w'.ownsRow base e 1 v' (n + ys.length) (xs ++ ys) → w.grownBy w' v.ownBlock → (v'.ownBlock = v.ownBlock ∨ v'.ownBlock = some w.heap.size) → wpList P ops Q rest (q.put o.dst v') w') : wpList P ops Q (o :: rest) q w := by
  obtain ⟨v', w', hrun, h1, h2, h3⟩ := run_appOwn (P := P) w base t o.type e i z bytes ht hi hz hsize hby hzs v n xs hown y ys hy h63 hbytes hbase
  refine wpList_plain hgd fun K hK' => ?_
  unfold Oper.wp
  simp [execOp, hop, resolve, invoke, builtin, hs, hx, hrun, Result.andThen]
  exact hK' _ _ (hK v' w' h1 h2 h3)
theorem c_copyInts (v : Value) (zs : List Int) (w : World) (hA : IntsAt w v zs) (hm : zs.length ≤ 1048576) : Calls Try.prog 104 #[v] w fun e w' => ∃ v', e = .returned v' ∧ Own w' w.heap.size v' zs ∧ Below w.heap.size w w' := by
  obtain ⟨i0, hi, hz0, hz1, hz2⟩ := info_parts info_int
  have HS := Lib.hid hA.src
  have HM : Hid ((zs.map (Value.int .i64)).length ≤ 1048576) := by unfold Hid; rw [List.length_map]; exact hm
  clear hA
  go_enter Try.func104, Try.ntmps104
  go_wp2_with (at_builtin; refine wl_appOwn _ rfl _ _ 24 rfl w.heap.size 3 i0 (.int .i64 0) 8 Try.underlying24 hi hz0 hz1 hz2 rfl (.slice none 0 0) 0 [] rfl ⟨rfl, .inl ⟨rfl, rfl⟩⟩ v _ rfl HS.out (by have := HM.out; unfold maxLen; omega) (by have := HM.out; omega) (Nat.le_refl _) ?_; intro v1 w1 ho hg hbl; have O1 := Lib.hid ho; have G1 := Lib.hid hg; clear ho hg hbl)
  go_ret
  refine ⟨_, rfl, ?_, (Below.refl w.heap.size w).grown G1.out (Nat.le_refl _) (fun k hk => by cases hk)⟩
  have := O1.out
  rw [List.nil_append, Nat.zero_add, List.length_map] at this
  exact this
end Go.Proofs.Ytkkigoamphkalaa
namespace Go.Proofs.Ytkkigoamphkalaa
open Go.RowKit Ph
/-- A list of ints of its own, and a bool. -/
def EndI (zs : List Int) (ok : Bool) (w : World) (e : Ending) (w' : World) : Prop := ∃ v, e = .returned (.tuple #[v, .bool ok]) ∧ OwnH w' w.heap.size w'.heap.size (.slice none 0 0) (.slice none 0 0) v ⟨[], [], zs⟩ ∧ Below w.heap.size w w'
def EndII (zs : List Int) (n : Int) (ok : Bool) (w : World) (e : Ending) (w' : World) : Prop := ∃ v, e = .returned (.tuple #[v, .int .i64 n, .bool ok]) ∧ OwnH w' w.heap.size w'.heap.size (.slice none 0 0) (.slice none 0 0) v ⟨[], [], zs⟩ ∧ Below w.heap.size w w'
theorem endI_no {w w' : World} {zs : List Int} {ok : Bool} (hb : Below w.heap.size w w') (h1 : zs = []) (h2 : ok = false) : EndI zs ok w (.returned (.tuple #[.slice none 0 0, .bool false])) w' := by
  subst h1; subst h2
  exact ⟨_, rfl, OwnH.nil w' _ _, hb⟩
theorem endI_yes {w w' : World} {zs zs' : List Int} {ok : Bool} {v : Value} {B : Nat} (hb : Below w.heap.size w w') (ho : Own w' B v zs') (hB : w.heap.size ≤ B) (h1 : zs = zs') (h2 : ok = true) : EndI zs ok w (.returned (.tuple #[v, .bool true])) w' := by
  subst h1; subst h2
  exact ⟨_, rfl, OwnH.ofInts (ho.mono hB) hb, hb⟩
theorem endII_no {w w' : World} {zs : List Int} {n : Int} {ok : Bool} (hb : Below w.heap.size w w') (h1 : zs = []) (h0 : n = 0) (h2 : ok = false) : EndII zs n ok w (.returned (.tuple #[.slice none 0 0, .int .i64 0, .bool false])) w' := by
  subst h1; subst h2; subst h0
  exact ⟨_, rfl, OwnH.nil w' _ _, hb⟩
theorem endII_yes {w w' : World} {zs zs' : List Int} {n n' : Int} {ok : Bool} {v : Value} {B : Nat} (hb : Below w.heap.size w w') (ho : Own w' B v zs') (hB : w.heap.size ≤ B) (h1 : zs = zs') (h0 : n = n') (h2 : ok = true) : EndII zs n ok w (.returned (.tuple #[v, .int .i64 n', .bool true])) w' := by
  subst h1; subst h2; subst h0
  exact ⟨_, rfl, OwnH.ofInts (ho.mono hB) hb, hb⟩
end Go.Proofs.Ytkkigoamphkalaa
namespace Go.Proofs.Ytkkigoamphkalaa
open Go.RowKit Ph

theorem src_int (W : World) (x : Int) : SrcAt (W.alloc (.cells #[.int .i64 x] 3)) (.slice (some ⟨W.heap.size, 0, none⟩) 1 1) ([x].map (Value.int .i64)) :=
  ⟨_, 1, rfl, fun u hu => by simp at hu; rw [hu]; rfl, fun _ => ⟨W.heap.size, 0, rfl, fun j hj => by simp at hj; subst hj; exact Row.cell (Row.new W 3 #[.int .i64 x]) 0⟩⟩
theorem inB_iff {lo hi z : Int} : inB lo hi z = true ↔ lo ≤ z ∧ z ≤ hi := by unfold inB; rw [Bool.and_eq_true, decide_eq_true_eq, decide_eq_true_eq]
theorem inB_no {lo hi z : Int} (h : ¬ (lo ≤ z ∧ z ≤ hi)) : inB lo hi z = false := by
  cases hq : inB lo hi z with
  | false => rfl
  | true => exact absurd (inB_iff.1 hq) h
set_option maxHeartbeats 1600000 in
theorem c_areWithin (v : Value) (zs : List Int) (lo hi : Int) (w : World) (hz : IntsAt w v zs) (hm : zs.length ≤ 9223372036854775806) : Calls Try.prog 170 #[v, .int .i64 lo, .int .i64 hi] w fun e w' => e = .returned (.bool (zs.all (inB lo hi))) ∧ w = w' := by
  obtain ⟨va, vc, rfl, hA⟩ := hz
  have HA := Lib.hid hA
  clear hA
  generalize hn : zs.length = n at *
  have HN := Lib.hid hn; clear hn
  go_enter Try.func170, Try.ntmps170
  go_wp2
  go_loop [11] (fun i => ∃ k : Nat, k ≤ n ∧ i = .int .i64 k ∧ Hid ((zs.take k).all (inB lo hi) = true)) (fun i => n - (intOf i).toNat)
  case atStart => exact ⟨0, Nat.zero_le _, rfl, by simp [Hid]⟩
  case round =>
    obtain ⟨k, hk, rfl, ht⟩ := hrel
    by_cases hlt : k < n
    · obtain ⟨g, off, rfl, hc⟩ := HA.out (by omega)
      have q := hc k hlt
      have i1 : (k : Int) < (n : Int) := by omega
      have hs := inAll_take_succ (lo := lo) (hi := hi) (zs := zs) (k := k) (by rw [HN.out]; exact hlt)
      have hf := inAll_false (lo := lo) (hi := hi) (zs := zs) (k := k) (by rw [HN.out]; exact hlt)
      have HS := Lib.hid hs; have HF := Lib.hid hf
      clear hc hs hf
      generalize zs.getD k 0 = z at *
      by_cases h1 : z < lo
      · have HE : Hid (zs.all (inB lo hi) = false) := HF.out (inB_no (by omega))
        clear HS HF
        go_wp2
        go_ret
        exact ⟨r_b HE.out.symm, rfl⟩
      · by_cases h2 : hi < z
        · have HE : Hid (zs.all (inB lo hi) = false) := HF.out (inB_no (by omega))
          clear HS HF
          go_wp2
          go_ret
          exact ⟨r_b HE.out.symm, rfl⟩
        · have HE : Hid ((zs.take (k + 1)).all (inB lo hi) = true) := by unfold Hid; rw [HS.out, ht.out, inB_iff.2 ⟨by omega, by omega⟩]; rfl
          clear HS HF
          go_wp2
          go_round
          case rel => exact ⟨k + 1, by omega, by go_num, HE.out⟩
          case measure => simp [intOf]; omega
    · have HE : Hid (zs.all (inB lo hi) = true) := by
        unfold Hid
        have := ht.out
        rwa [List.take_of_length_le (by rw [HN.out]; omega)] at this
      go_wp2
      go_ret
      exact ⟨r_b HE.out.symm, rfl⟩
theorem c_areColours (v : Value) (zs : List Int) (w : World) (hz : IntsAt w v zs) : Calls Try.prog 146 #[v] w fun e w' => e = .returned (.bool (colsB zs)) ∧ w = w' := by
  have HZ := Lib.hid hz
  obtain ⟨va, vc, rfl⟩ := hz.shape
  clear hz
  have hE : colsB zs = (decide (zs.length ≤ 12) && zs.all (inB 0 2)) := rfl
  have HC : Hid (zs.length ≤ 12 → Calls Try.prog 170 #[.slice va zs.length vc, .int .i64 0, .int .i64 2] w fun e w' => e = .returned (.bool (zs.all (inB 0 2))) ∧ w = w') := fun h => c_areWithin _ zs 0 2 w HZ.out (by omega)
  generalize zs.all (inB 0 2) = x at *
  generalize colsB zs = y at *
  generalize zs.length = n at *
  by_cases h : n ≤ 12
  · have hn : (n : Int) ≤ 12 := by omega
    have HE : Hid (y = x) := by unfold Hid; rw [hE, decide_eq_true h]; simp
    clear hE
    go_enter Try.func146, Try.ntmps146
    go_wp2_with (go_at_call 170; refine (HC.out h).mono ?_; rintro e w1 ⟨rfl, rfl⟩)
    go_ret
    exact ⟨r_b HE.out.symm, rfl⟩
  · have hn : ¬ (n : Int) ≤ 12 := by omega
    have HE : Hid (y = false) := by unfold Hid; rw [hE, decide_eq_false h]; simp
    clear hE
    go_enter Try.func146, Try.ntmps146
    go_wp2
    go_ret
    exact ⟨r_b HE.out.symm, rfl⟩
end Go.Proofs.Ytkkigoamphkalaa
namespace Go.Proofs.Ytkkigoamphkalaa
open Go.RowKit Ph

theorem s_l6Colours (v : Value) (zs : List Int) (w : World) (hz : IntsAt w v zs) : Calls Try.prog 144 #[v] w fun e w' => e = .returned (.bool (colsB zs)) ∧ w = w' := by
  have HZ := Lib.hid hz
  obtain ⟨va, vc, rfl⟩ := hz.shape
  clear hz
  have hE : colsB zs = (decide (zs.length ≤ 12) && zs.all (inB 0 2)) := rfl
  have HC : Hid (zs.length ≤ 12 → Calls Try.prog 87 #[.slice va zs.length vc, .int .i64 0, .int .i64 2] w fun e w' => e = .returned (.bool (zs.all (inB 0 2))) ∧ w = w') := fun h => s_l1All _ zs 0 2 w HZ.out (by omega)
  generalize zs.all (inB 0 2) = x at *
  generalize colsB zs = y at *
  generalize zs.length = n at *
  by_cases h : n ≤ 12
  · have hn : (n : Int) ≤ 12 := by omega
    have HE : Hid (y = x) := by unfold Hid; rw [hE, decide_eq_true h]; simp
    clear hE
    go_enter Try.func144, Try.ntmps144
    go_wp2_with (go_at_call 87; refine (HC.out h).mono ?_; rintro e w1 ⟨rfl, rfl⟩)
    go_ret
    exact ⟨r_b HE.out.symm, rfl⟩
  · have hn : ¬ (n : Int) ≤ 12 := by omega
    have HE : Hid (y = false) := by unfold Hid; rw [hE, decide_eq_false h]; simp
    clear hE
    go_enter Try.func144, Try.ntmps144
    go_wp2
    go_ret
    exact ⟨r_b HE.out.symm, rfl⟩
set_option maxHeartbeats 1600000 in
theorem s_l6Of (v : Value) (cs : List Int) (c : Int) (w : World) (hz : IntsAt w v cs) (hm : cs.length ≤ 12) : Calls Try.prog 137 #[v, .int .i64 c] w fun e w' => ∃ v', e = .returned v' ∧ Own w' w.heap.size v' (ofC cs c) ∧ Below w.heap.size w w' := by
  obtain ⟨i0, hi, hz0, hz1, hz2⟩ := info_parts info_int
  have HZ := Lib.hid hz
  obtain ⟨va, vc, rfl⟩ := hz.shape
  clear hz
  have HO : Hid (ofC cs c = ofTo cs c cs.length) := rfl
  generalize ofC cs c = out at *
  generalize hn : cs.length = n at *
  have HN := Lib.hid hn; clear hn
  go_enter Try.func137, Try.ntmps137
  go_wp2
  go_loopw [5, 10] (fun t i wr => ∃ k : Nat, k ≤ n ∧ i = .int .i64 k ∧ Hid (Own wr w.heap.size t (ofTo cs c k)) ∧ Hid (Below w.heap.size w wr)) (fun _ i _ => n - (intOf i).toNat)
  case atStart => exact ⟨0, Nat.zero_le _, rfl, by rw [ofTo_zero]; exact Own.nil _ _, Below.refl _ _⟩
  case round =>
    obtain ⟨k, hk, rfl, ho, hb⟩ := hrel
    by_cases hlt : k < n
    · obtain ⟨g, off, rfl, hc⟩ := (HZ.out.below hb.out).at' (by omega)
      have q := hc k hlt
      have i1 : (k : Int) < (n : Int) := by omega
      have i2 : (0 : Int) ≤ (k : Int) := by omega
      clear hc
      by_cases hx : cs.getD k 0 = c
      · have HE := Lib.hid (ofTo_succ_yes hx)
        have HL := Lib.hid (ofTo_len cs c k)
        rw [hx] at q
        have hcc : (c == c) = true := by simp
        have HS := Lib.hid (src_int wr (k : Int))
        have HB1 := Lib.hid (hb.out.alloc hb.out.size (.cells #[.int .i64 (k : Int)] 3))
        have HO1 := Lib.hid (ho.out.below (below1 wr (.cells #[.int .i64 (k : Int)] 3)))
        clear hx
        go_wp2_with (at_builtin; refine wl_appOwn _ rfl _ _ 24 rfl w.heap.size 3 i0 (.int .i64 0) 8 Try.underlying24 hi hz0 hz1 hz2 rfl u5 _ _ rfl HO1.out _ _ rfl HS.out (by have := HL.out; simp; unfold maxLen; omega) (by have := HL.out; simp; omega) HB1.out.size ?_; intro v1 w1 ho1 hg1 hbl; have O1 : Hid (Own w1 w.heap.size v1 (ofTo cs c k ++ [(k : Int)])) := by { unfold Hid Own; rw [List.map_append, List.length_append]; exact ho1 }; have B1 := Lib.hid (HB1.out.grown hg1 HB1.out.size (fun g' hg' => (owns_lt HO1.out hg').1)); clear ho1 hg1 hbl)
        go_roundw
        case rel => exact ⟨k + 1, by omega, by go_num, by rw [HE.out]; exact O1, B1⟩
        case measure => simp [intOf]; omega
      · have HE := Lib.hid (ofTo_succ_no hx)
        generalize cs.getD k 0 = z at *
        have hcc : (z == c) = false := by simpa using hx
        clear hx
        go_wp2
        go_roundw
        case rel => exact ⟨k + 1, by omega, by go_num, by rw [HE.out]; exact ho, hb⟩
        case measure => simp [intOf]; omega
    · have hkn : Hid (k = n) := by unfold Hid; omega
      go_wp2
      go_ret
      exact ⟨_, rfl, by rw [HO.out, ← hkn.out]; exact ho.out, hb.out⟩
end Go.Proofs.Ytkkigoamphkalaa
namespace Go.Proofs.Ytkkigoamphkalaa
open Go.RowKit Ph

abbrev mkv (a b c v p : Value) : Value := .agg #[a, b, c, v, p]
abbrev c5 (a b c v p : Value) : Array Value := #[a, b, c, v, p]
theorem Own.store1 {w : World} {B g n cap : Nat} {S : List Int} (h : Own w B (.slice (some ⟨g, 0, none⟩) n cap) S) (hn : S.length = n) {z : Nat} (hz : z < n) (x : Int) : Own (w.setCell ⟨g, z, none⟩ (.int .i64 x)) B (.slice (some ⟨g, 0, none⟩) n cap) (S.set z x) ∧ w.grownBy (w.setCell ⟨g, z, none⟩ (.int .i64 x)) (some g) ∧ w.cell? ⟨g, z, none⟩ = some (.int .i64 (S.getD z 0)) ∧ w.frozen? ⟨g, z, none⟩ = false := by
  unfold Own at h
  rw [hn] at h
  obtain ⟨s1, s2⟩ := h.stored z (.int .i64 x)
  refine ⟨?_, s2, ?_, h.frozenAt z⟩
  · unfold Own
    rw [List.length_set, hn, List.map_set]
    exact s1
  · rw [h.cellAt z (by omega), List.getElem?_map, List.getElem?_eq_getElem (by omega)]
    simp [List.getD, List.getElem?_eq_getElem (show z < S.length by omega)]
set_option maxHeartbeats 1600000 in
theorem c_darkenG (a b c p v : Value) (cs : List Int) (k B : Nat) (w : World) (ho : Own w B v cs) (hk : k < cs.length) (hc : Col cs) : Calls Try.prog 105 #[mkv a b c v p, .int .i64 k, .int .i64 1] w fun e w' => e = .returned (.tuple #[]) ∧ Own w' B v (shade cs k) ∧ w.grownBy w' v.ownBlock := by
  have HM := Lib.hid (shade_max (k := k) hc)
  rcases ho.shape' with ⟨_, h0⟩ | ⟨g, cap, rfl⟩
  · rw [h0] at hk; simp at hk
  have hb0 := below1 w (.cells (c5 a b c (.slice (some ⟨g, 0, none⟩) cs.length cap) p) 113)
  have O0 := Lib.hid (ho.below hb0)
  have R0 := Lib.hid (Row.new w 113 (c5 a b c (.slice (some ⟨g, 0, none⟩) cs.length cap) p))
  have hgl := (owns_lt ho rfl).2
  have HG := Lib.hid (show w.grownBy (w.alloc (.cells (c5 a b c (.slice (some ⟨g, 0, none⟩) cs.length cap) p) 113)) (some g) from ⟨rfl, rfl, rfl, by simp, fun i hi _ => hb0.block i hi⟩)
  have HCL := Lib.hid hc
  clear ho hb0 hc
  generalize hn : cs.length = n at *
  have HN := Lib.hid hn; clear hn
  have i1 : (k : Int) < (n : Int) := by omega
  have i0 : (0 : Int) ≤ (k : Int) := by omega
  go_enter Try.func105, Try.ntmps105
  go_wp2_with fail
  generalize hgm : w.heap.size = gm at *
  generalize (w.alloc (.cells (c5 a b c (.slice (some ⟨g, 0, none⟩) n cap) p) 113)) = w1 at *
  obtain ⟨s1, s2, s3, s4⟩ := O0.out.store1 HN.out hk (max (cs.getD k 0) 1)
  generalize cs.getD k 0 = z at *
  have cM : w1.drew.cell? ⟨gm, 3, none⟩ = some (.slice (some ⟨g, 0, none⟩) n cap) := Row.cell R0.out 3
  have cC : w1.drew.cell? ⟨g, k, none⟩ = some (.int .i64 z) := s3
  have fC : w1.drew.frozen? ⟨g, k, none⟩ = false := s4
  have hmx : (if z < 1 then 1 else z) = max z 1 := by split <;> omega
  have hne : gm ≠ g := by omega
  have RS := Lib.hid (Row.other R0.out ⟨g, k, none⟩ hne (.int .i64 (max z 1)))
  have S1 := Lib.hid s1; have S2 := Lib.hid s2
  clear s1 s2 s3 s4
  refine wp_region_held_drew (S := (fun w' => w'.cell? ⟨gm, 3, none⟩ = some (.slice (some ⟨g, 0, none⟩) n cap))) (by kernel_rfl) (cM) (fun hHeld => ?_)
  refine wpAnyH_take (i := 0) (v := ?va0x1) rfl (by kernel_rfl) (by kernel_rfl) (by kernel_rfl) (fun _ _ _ h => h) (Or.inl ⟨by rfl, ?hy0x1⟩) (by assumption) ?rest0x1
  case hy0x1 => (intro w hSw; (try dsimp only at hSw); go_simp; try with_reducible rfl)
  (try simp only [Act.put, List.getElem_toArray, List.getElem_cons_zero, List.setIfInBounds_toArray, List.set_cons_zero, List.set_cons_succ])
  refine wpAnyH_take (i := 1) (v := ?va1x2) rfl (by kernel_rfl) (by kernel_rfl) (by kernel_rfl) (fun _ _ _ h => h) (Or.inl ⟨by rfl, ?hy1x2⟩) (by assumption) ?rest1x2
  case hy1x2 => (intro w hSw; (try dsimp only at hSw); go_simp; try with_reducible rfl)
  (try simp only [Act.put, List.getElem_toArray, List.getElem_cons_zero, List.getElem_cons_succ, List.setIfInBounds_toArray, List.set_cons_zero, List.set_cons_succ])
  refine wpAnyH_take (i := 2) (v := ?va2x3) rfl (by kernel_rfl) (by kernel_rfl) (by kernel_rfl) (fun _ _ _ h => h) (Or.inl ⟨by rfl, ?hy2x3⟩) (by assumption) ?rest2x3
  case hy2x3 => (intro w hSw; (try dsimp only at hSw); go_simp; try with_reducible rfl)
  (try simp only [Act.put, List.getElem_toArray, List.getElem_cons_zero, List.getElem_cons_succ, List.setIfInBounds_toArray, List.set_cons_zero, List.set_cons_succ])
  refine wpAnyH_take (i := 3) (v := ?va3x4) rfl (by kernel_rfl) (by kernel_rfl) (by kernel_rfl) (fun _ _ _ h => h) (Or.inl ⟨by rfl, ?hy3x4⟩) (by assumption) ?rest3x4
  case hy3x4 => (intro w hSw; (try dsimp only at hSw); go_simp; try with_reducible rfl)
  (try simp only [Act.put, List.getElem_toArray, List.getElem_cons_zero, List.getElem_cons_succ, List.setIfInBounds_toArray, List.set_cons_zero, List.set_cons_succ])
  refine wpAnyH_take (i := 4) (v := ?va4x5) rfl (by kernel_rfl) (by kernel_rfl) (by kernel_rfl) (fun _ _ _ h => h) (Or.inl ⟨by rfl, ?hy4x5⟩) (by assumption) ?rest4x5
  case hy4x5 => (intro w hSw; (try dsimp only at hSw); go_simp; try with_reducible rfl)
  (try simp only [Act.put, List.getElem_toArray, List.getElem_cons_zero, List.getElem_cons_succ, List.setIfInBounds_toArray, List.set_cons_zero, List.set_cons_succ])
  refine wpAnyH_take (i := 5) (v := ?va5x6) rfl (by kernel_rfl) (by kernel_rfl) (by kernel_rfl) (fun _ _ _ h => h) (Or.inl ⟨by rfl, ?hy5x6⟩) (by assumption) ?rest5x6
  case hy5x6 => (intro w hSw; (try dsimp only at hSw); go_simp; try with_reducible rfl)
  (try simp only [Act.put, List.getElem_toArray, List.getElem_cons_zero, List.getElem_cons_succ, List.setIfInBounds_toArray, List.set_cons_zero, List.set_cons_succ])
  refine wpAnyH_take (i := 6) (v := ?va6x7) rfl (by kernel_rfl) (by kernel_rfl) (by kernel_rfl) (fun _ _ _ h => h) (Or.inl ⟨by rfl, ?hy6x7⟩) (by assumption) ?rest6x7
  case hy6x7 => (intro w hSw; (try dsimp only at hSw); go_simp; try with_reducible rfl)
  (try simp only [Act.put, List.getElem_toArray, List.getElem_cons_zero, List.getElem_cons_succ, List.setIfInBounds_toArray, List.set_cons_zero, List.set_cons_succ])
  refine wpAnyH_take (i := 8) (v := ?va8x8) rfl (by kernel_rfl) (by kernel_rfl) (by kernel_rfl) (fun _ _ _ h => h) (Or.inl ⟨by rfl, ?hy8x8⟩) (by assumption) ?rest8x8
  case hy8x8 => (intro w hSw; (try dsimp only at hSw); go_simp; try with_reducible rfl)
  (try simp only [Act.put, List.getElem_toArray, List.getElem_cons_zero, List.getElem_cons_succ, List.setIfInBounds_toArray, List.set_cons_zero, List.set_cons_succ])
  refine wpAnyH_ready (rs := [7]) (by kernel_rfl) (by simp) ?_
  refine AllReadyH.cons rfl (fun K hK => ?_) AllReadyH.nil
  go_simp
  refine hK.out _ _ (cM) (fun hHeld => ?_)
  clear hK K
  (try simp only [Act.put, List.getElem_toArray, List.getElem_cons_zero, List.getElem_cons_succ, List.setIfInBounds_toArray, List.set_cons_zero, List.set_cons_succ])
  refine wpAnyH_take (i := 9) (v := ?va9x9) rfl (by kernel_rfl) (by kernel_rfl) (by kernel_rfl) (fun _ _ _ h => h) (Or.inl ⟨by rfl, ?hy9x9⟩) (by assumption) ?rest9x9
  case hy9x9 => (intro w hSw; (try dsimp only at hSw); go_simp; try with_reducible rfl)
  (try simp only [Act.put, List.getElem_toArray, List.getElem_cons_zero, List.getElem_cons_succ, List.setIfInBounds_toArray, List.set_cons_zero, List.set_cons_succ])
  refine wpAnyH_take (i := 10) (v := ?va10x10) rfl (by kernel_rfl) (by kernel_rfl) (by kernel_rfl) (fun _ _ _ h => h) (Or.inl ⟨by rfl, ?hy10x10⟩) (by assumption) ?rest10x10
  case hy10x10 => (intro w hSw; (try dsimp only at hSw); go_simp; try with_reducible rfl)
  (try simp only [Act.put, List.getElem_toArray, List.getElem_cons_zero, List.getElem_cons_succ, List.setIfInBounds_toArray, List.set_cons_zero, List.set_cons_succ])
  refine wpAnyH_ready (rs := [11]) (by kernel_rfl) (by simp) ?_
  refine AllReadyH.cons rfl (fun K hK => ?_) AllReadyH.nil
  go_simp
  first | rw [hmx] | skip
  refine hK.out _ _ (Row.cell RS.out 3) (fun hHeld => ?_)
  clear hK K
  (try simp only [Act.put, List.getElem_toArray, List.getElem_cons_zero, List.getElem_cons_succ, List.setIfInBounds_toArray, List.set_cons_zero, List.set_cons_succ])
  refine wpAnyH_done (by kernel_rfl) ?_ _
  clear hHeld
  generalize w1.setCell ⟨g, k, none⟩ (.int .i64 (max z 1)) = w2 at *
  clear cM cC fC hmx RS
  go_wp2_with fail
  go_end0
  exact ⟨rfl, by rw [← HM.out]; exact S1.out, grownBy_trans HG.out (grownBy_trans S2.out (grown_drew _ _))⟩
end Go.Proofs.Ytkkigoamphkalaa
namespace Go.Proofs.Ytkkigoamphkalaa
open Go.RowKit Ph

set_option maxHeartbeats 1600000 in
theorem s_l6Shade (v : Value) (cs : List Int) (z : Int) (B : Nat) (w : World) (ho : Own w B v cs) (hz : z < cs.length) : Calls Try.prog 103 #[v, .int .i64 z] w fun e w' => e = .returned (.tuple #[]) ∧ Own w' B v (shade cs z) ∧ w.grownBy w' v.ownBlock := by
  by_cases z0 : z < 0
  · have HE := Lib.hid (shade_neg (cs := cs) z0)
    have HO := Lib.hid ho
    clear ho hz
    have z1 : ¬ (0 ≤ z) := by omega
    go_enter Try.func103, Try.ntmps103
    go_wp2_with fail
    go_end0
    exact ⟨rfl, by rw [HE.out]; exact HO.out, World.grownBy.refl _ _⟩
  · obtain ⟨k, rfl⟩ : ∃ k : Nat, z = k := ⟨z.toNat, by omega⟩
    have hk : k < cs.length := by omega
    rcases ho.shape' with ⟨_, h0⟩ | ⟨g, cap, rfl⟩
    · rw [h0] at hk; simp at hk
    obtain ⟨s1, s2, s3, s4⟩ := ho.store1 rfl hk 1
    have HE := Lib.hid (shade_nat cs k)
    have HO := Lib.hid ho; have S1 := Lib.hid s1; have S2 := Lib.hid s2
    clear ho s1 s2 hz
    generalize cs.length = n at *
    have i1 : (k : Int) < (n : Int) := by omega
    have i0 : (0 : Int) ≤ (k : Int) := by omega
    generalize cs.getD k 0 = x at *
    by_cases hx : x = 0
    · subst hx
      rw [if_pos rfl] at HE
      clear z0
      go_enter Try.func103, Try.ntmps103
      go_wp2_with fail
      go_end0
      exact ⟨rfl, by rw [HE.out]; exact S1.out, S2.out⟩
    · rw [if_neg hx] at HE
      have hx1 : (x == 0) = false := by simpa using hx
      clear z0 hx
      go_enter Try.func103, Try.ntmps103
      go_wp2_with fail
      go_end0
      exact ⟨rfl, by rw [HE.out]; exact HO.out, World.grownBy.refl _ _⟩
theorem own_nil0 (w : World) : Own (w.alloc (.cells #[] 3)) w.heap.size (.slice (some ⟨w.heap.size, 0, none⟩) 0 0) [] := by
  refine ⟨rfl, .inr ⟨w.heap.size, 0, #[], rfl, Nat.le_refl _, Row.new w 3 #[], Nat.le_refl _, ?_, ?_, ?_⟩⟩ <;> simp
end Go.Proofs.Ytkkigoamphkalaa
namespace Go.Proofs.Ytkkigoamphkalaa
open Go.RowKit Ph

set_option maxHeartbeats 1600000 in
theorem c_areColoursOf (a b c v : Value) (h : H) (cs : List Int) (w : World) (hA : HeapAt w a b c h) (hz : IntsAt w v cs) : Calls Try.prog 101 #[hv a b c, v] w fun e w' => e = .returned (.bool (bothB h cs)) ∧ Below w.heap.size w w' := by
  have hb0 := below1 w (.cells (c3 a b c) 30)
  have A0 := Lib.hid (hA.below hb0)
  have Z0 := Lib.hid (hz.below hb0)
  have HB := Lib.hid hb0
  have R0 := Lib.hid (show RowH _ _ a b c from Row.new w 30 (c3 a b c))
  obtain ⟨la, lc, rfl⟩ := hA.l.shape
  obtain ⟨va, vc, rfl⟩ := hz.shape
  clear hA hb0 hz
  have HC := Lib.hid (c_GoodHeap _ _ _ h _ A0.out)
  have HCA : Hid (∀ w', IntsAt w' (.slice va cs.length vc) cs → Calls Try.prog 146 #[.slice va cs.length vc] w' fun e w'' => e = .returned (.bool (colsB cs)) ∧ w' = w'') := fun w' hh => c_areColours _ cs w' hh
  have hE : bothB h cs = (good h && decide (cs.length = h.l.length) && colsB cs) := rfl
  generalize good h = x at *
  generalize colsB cs = y at *
  generalize bothB h cs = r at *
  generalize h.l.length = n at *
  generalize cs.length = m at *
  have c0 := R0.out.c0
  have c1 := R0.out.c1
  have c2 := R0.out.c2
  cases x
  · have HE : Hid (r = false) := by unfold Hid; rw [hE]; rfl
    clear hE
    go_enter Try.func101, Try.ntmps101
    go_wp2_with (go_at_call 55; refine HC.out.mono ?_; rintro e w1 ⟨rfl, hb1⟩; have B1 := Lib.hid (bst HB.out hb1 HB.out.size); clear hb1)
    go_ret
    exact ⟨r_b HE.out.symm, B1.out⟩
  · by_cases hmn : m = n
    · subst hmn
      have HE : Hid (r = y) := by unfold Hid; rw [hE, decide_eq_true rfl]; rfl
      clear hE
      have hq : ((m : Int) == (m : Int)) = true := by simp
      go_enter Try.func101, Try.ntmps101
      go_wp2_with (first
        | (go_at_call 55; refine HC.out.mono ?_; rintro e w1 ⟨rfl, hb1⟩; have B1 := Lib.hid (bst HB.out hb1 HB.out.size); have Z1 := Lib.hid (Z0.out.below hb1); have R1 := R0.out.below hb1; have d1 := R1.c1; clear hb1 R1)
        | (go_at_call 146; refine (HCA.out _ Z1.out).mono ?_; rintro e w2 ⟨rfl, rfl⟩))
      go_ret
      exact ⟨r_b HE.out.symm, B1.out⟩
    · have HE : Hid (r = false) := by unfold Hid; rw [hE, decide_eq_false hmn]; simp
      clear hE
      have hq : ((m : Int) == (n : Int)) = false := by simp; omega
      go_enter Try.func101, Try.ntmps101
      go_wp2_with (go_at_call 55; refine HC.out.mono ?_; rintro e w1 ⟨rfl, hb1⟩; have B1 := Lib.hid (bst HB.out hb1 HB.out.size); have R1 := R0.out.below hb1; have d1 := R1.c1; clear hb1 R1)
      go_ret
      exact ⟨r_b HE.out.symm, B1.out⟩
end Go.Proofs.Ytkkigoamphkalaa
namespace Go.Proofs.Ytkkigoamphkalaa.Ph
def greyN (cs : List Int) (a : Int) : Nat := ((ofC cs 1).getD (a.toNat % (ofC cs 1).length) 0).toNat
/-- A scan of the chosen Grey object, where there is one. -/
def scanAt (h : H) (cs : List Int) (a : Int) : List Int := if ofC cs 1 = [] then cs else scan cs (h.f.getD (greyN cs a) []) (greyN cs a)
theorem shade_on {cs : List Int} {i : Nat} (hi : i < cs.length) : (shade cs (i : Int)).getD i 0 ≠ 0 := by
  rw [shade_get]
  by_cases q : cs.getD i 0 = 0
  · rw [if_pos ⟨q, hi, rfl⟩]; omega
  · rw [if_neg (fun k => q k.1)]; exact q
end Go.Proofs.Ytkkigoamphkalaa.Ph
namespace Go.Proofs.Ytkkigoamphkalaa.Ph
/-- The first Grey object is scanned. -/
def scanF (h : H) (cs : List Int) : List Int := scanAt h cs 0
def finN (h : H) (cs : List Int) : Nat → List Int
  | 0 => cs
  | n + 1 => scanF h (finN h cs n)
end Go.Proofs.Ytkkigoamphkalaa.Ph
namespace Go.Proofs.Ytkkigoamphkalaa.Ph
/-- White, and a Grey object leads to it over White ones alone. -/
inductive Grd (fs : List (List Int)) (cs : List Int) : Nat → Prop
  | grey {g i : Nat} : cs.getD g 0 = 1 → cs.getD i 0 = 0 → (i : Int) ∈ fs.getD g [] → Grd fs cs i
  | step {g i : Nat} : Grd fs cs g → cs.getD i 0 = 0 → (i : Int) ∈ fs.getD g [] → Grd fs cs i
noncomputable def grdL (fs : List (List Int)) (cs : List Int) : List Bool := (List.range cs.length).map fun k => @decide (Grd fs cs k) (Classical.propDecidable _)
theorem grdL_len (fs : List (List Int)) (cs : List Int) : (grdL fs cs).length = cs.length := by simp [grdL]
theorem grdL_get {fs : List (List Int)} {cs : List Int} {k : Nat} : (grdL fs cs).getD k false = true ↔ k < cs.length ∧ Grd fs cs k := by
  unfold grdL
  by_cases hk : k < cs.length
  · simp [List.getD, hk]
  · simp [List.getD, hk]
theorem eq_grdL {fs : List (List Int)} {cs : List Int} {S : List Bool} (hl : S.length = cs.length) (h : ∀ k, S.getD k false = true ↔ k < cs.length ∧ Grd fs cs k) : S = grdL fs cs := by
  apply List.ext_getElem?
  intro k
  by_cases hk : k < cs.length
  · have h1 := h k
    have h2 := grdL_get (fs := fs) (cs := cs) (k := k)
    have e1 : S[k]? = some (S.getD k false) := by simp [List.getD, List.getElem?_eq_getElem (show k < S.length by omega)]
    have e2 : (grdL fs cs)[k]? = some ((grdL fs cs).getD k false) := by simp [List.getD, List.getElem?_eq_getElem (show k < (grdL fs cs).length by rw [grdL_len]; exact hk)]
    rw [e1, e2]
    congr 1
    rw [Bool.eq_iff_iff, h1, h2]
  · rw [List.getElem?_eq_none (by omega), List.getElem?_eq_none (by rw [grdL_len]; omega)]
/-- A reference to a White object that is not marked in S. -/
def missB (cs : List Int) (S : List Bool) (z : Int) : Bool := decide (0 ≤ z) && decide (cs.getD z.toNat 0 = 0) && !S.getD z.toNat false
theorem missB_iff {cs : List Int} {S : List Bool} {z : Int} : missB cs S z = true ↔ 0 ≤ z ∧ cs.getD z.toNat 0 = 0 ∧ S.getD z.toNat false = false := by
  unfold missB
  simp [and_assoc]
theorem missB_nat {cs : List Int} {S : List Bool} {k : Nat} : missB cs S (k : Int) = (decide (cs.getD k 0 = 0) && !S.getD k false) := by
  unfold missB
  simp
theorem missB_neg {cs : List Int} {S : List Bool} {z : Int} (h : z < 0) : missB cs S z = false := by
  unfold missB
  rw [decide_eq_false (by omega)]; rfl
/-- What a search has found so far. -/
structure Gin (fs : List (List Int)) (cs : List Int) (S : List Bool) : Prop where
  len : S.length = cs.length
  src : ∀ k, S.getD k false = true → Grd fs cs k
theorem Gin.start (fs : List (List Int)) (cs : List Int) : Gin fs cs (List.replicate cs.length false) := by
  refine ⟨by simp, fun k hk => ?_⟩
  by_cases e : k < cs.length
  · simp [List.getD, e] at hk
  · simp [List.getD, e] at hk
/-- The object `from` is Grey or found. -/
def fromB (cs : List Int) (S : List Bool) (k : Nat) : Bool := decide (cs.getD k 0 = 1) || S.getD k false
theorem Gin.take {fs : List (List Int)} {cs : List Int} {S : List Bool} {k t : Nat} (h : Gin fs cs S) (hf : fromB cs S k = true) (ht : (t : Int) ∈ fs.getD k []) (hm : missB cs S (t : Int) = true) (htl : t < cs.length) : Gin fs cs (S.set t true) := by
  have key : ∀ j, (S.set t true).getD j false = true ↔ j = t ∨ S.getD j false = true := fun j => by
    rw [getD_set (by rw [h.len]; exact htl)]; by_cases e : j = t <;> simp [e]
  refine ⟨by rw [List.length_set, h.len], fun j hj => ?_⟩
  rcases (key j).1 hj with rfl | q
  · have w := (missB_iff.1 hm).2.1
    rw [Int.toNat_natCast] at w
    unfold fromB at hf
    rw [Bool.or_eq_true, decide_eq_true_eq] at hf
    rcases hf with q | q
    · exact .grey q w ht
    · exact .step (h.src k q) w ht
  · exact h.src j q
theorem Gin.done {h : H} {cs : List Int} {S : List Bool} (k : Gin h.f cs S) (hd : ∀ j, j < cs.length → fromB cs S j = true → ∀ z ∈ h.f.getD j [], missB cs S z = false) : S = grdL h.f cs := by
  have lt : ∀ j, fromB cs S j = true → j < cs.length := fun j hj => by
    by_cases e : j < cs.length
    · exact e
    · unfold fromB at hj
      rw [getD_outI e] at hj
      have := getD_lt (l := S) (k := j) (by simpa using hj)
      rw [k.len] at this; exact this
  have up : ∀ j i : Nat, fromB cs S j = true → cs.getD i 0 = 0 → (i : Int) ∈ h.f.getD j [] → S.getD i false = true := fun j i hj hw hi => by
    have := hd j (lt j hj) hj _ hi
    rw [missB_nat, hw] at this
    simpa using this
  refine eq_grdL k.len fun i => ⟨fun hi => ⟨by have := getD_lt hi; rw [k.len] at this; exact this, k.src i hi⟩, fun hh => ?_⟩
  have hi := hh.2
  clear hh
  induction hi with
  | grey q1 q2 q3 => exact up _ _ (by unfold fromB; rw [decide_eq_true q1]; rfl) q2 q3
  | step q1 q2 q3 ih => exact up _ _ (by unfold fromB; rw [ih]; simp) q2 q3
/-- A queue's round: what is in the queue is Grey or found; what has left it is done with. -/
structure Gq (fs : List (List Int)) (cs q : List Int) (S : List Bool) : Prop where
  gin : Gin fs cs S
  cl : ∀ k : Nat, fromB cs S k = true → (k : Int) ∈ q ∨ ∀ z ∈ fs.getD k [], missB cs S z = false
  qs : ∀ z ∈ q, 0 ≤ z ∧ z.toNat < cs.length ∧ fromB cs S z.toNat = true
theorem missB_set {cs : List Int} {S : List Bool} {t : Nat} (ht : t < S.length) {z : Int} (h : missB cs S z = false) : missB cs (S.set t true) z = false := by
  by_cases q : missB cs (S.set t true) z = true
  · obtain ⟨q1, q2, q3⟩ := missB_iff.1 q
    rw [getD_set ht] at q3
    by_cases e : z.toNat = t
    · rw [if_pos e] at q3; cases q3
    · rw [if_neg e] at q3
      rw [missB_iff.2 ⟨q1, q2, q3⟩] at h; cases h
  · simpa using q
theorem fromB_set {cs : List Int} {S : List Bool} {t k : Nat} (ht : t < S.length) : fromB cs (S.set t true) k = true ↔ k = t ∨ fromB cs S k = true := by
  unfold fromB
  rw [getD_set ht]
  by_cases e : k = t <;> simp [e]
theorem Gq.start {fs : List (List Int)} {cs : List Int} : Gq fs cs (ofC cs 1) (List.replicate cs.length false) := by
  have no : ∀ k, (List.replicate cs.length false).getD k false = false := fun k => by
    by_cases e : k < cs.length <;> simp [List.getD, e]
  refine ⟨Gin.start fs cs, fun k hk => ?_, fun z hz => ?_⟩
  · unfold fromB at hk
    rw [no] at hk
    have h1 : cs.getD k 0 = 1 := by simpa using hk
    left
    refine mem_ofC.2 ⟨k, ?_, h1, rfl⟩
    by_cases e : k < cs.length
    · exact e
    · rw [getD_outI e] at h1; omega
  · obtain ⟨i, hi, h1, rfl⟩ := mem_ofC.1 hz
    refine ⟨by omega, by simpa using hi, ?_⟩
    unfold fromB
    rw [Int.toNat_natCast, decide_eq_true h1]; rfl
/-- Within a round: the head k is gone, its first j fields are done with. -/
structure Gr (fs : List (List Int)) (cs q : List Int) (S : List Bool) (k j : Nat) : Prop where
  gin : Gin fs cs S
  cl : ∀ i : Nat, i ≠ k → fromB cs S i = true → (i : Int) ∈ q ∨ ∀ z ∈ fs.getD i [], missB cs S z = false
  qs : ∀ z ∈ q, 0 ≤ z ∧ z.toNat < cs.length ∧ fromB cs S z.toNat = true
  hd : fromB cs S k = true
  dn : ∀ z ∈ (fs.getD k []).take j, missB cs S z = false
theorem Gq.head {fs : List (List Int)} {cs q : List Int} {S : List Bool} {k : Nat} (h : Gq fs cs ((k : Int) :: q) S) : Gr fs cs q S k 0 := by
  refine ⟨h.gin, fun i hi hf => ?_, fun z hz => h.qs z (List.mem_cons_of_mem _ hz), ?_, fun z hz => by simp at hz⟩
  · rcases h.cl i hf with q | q
    · rcases List.mem_cons.1 q with e | e
      · omega
      · exact .inl e
    · exact .inr q
  · have := (h.qs _ List.mem_cons_self).2.2
    rwa [Int.toNat_natCast] at this
theorem Gr.skip {fs : List (List Int)} {cs q : List Int} {S : List Bool} {k j : Nat} (h : Gr fs cs q S k j) (hj : j < (fs.getD k []).length) (hm : missB cs S ((fs.getD k []).getD j 0) = false) : Gr fs cs q S k (j + 1) := by
  refine ⟨h.gin, h.cl, h.qs, h.hd, fun z hz => ?_⟩
  rcases (mem_take_succ hj z).1 hz with q | q
  · exact h.dn z q
  · rw [q]; exact hm
theorem Gr.find {fs : List (List Int)} {cs q : List Int} {S : List Bool} {k j t : Nat} (h : Gr fs cs q S k j) (hj : j < (fs.getD k []).length) (ht : (fs.getD k []).getD j 0 = (t : Int)) (hm : missB cs S (t : Int) = true) (htl : t < cs.length) : Gr fs cs (q ++ [(t : Int)]) (S.set t true) k (j + 1) := by
  have hts : t < S.length := by rw [h.gin.len]; exact htl
  have hmem : (t : Int) ∈ fs.getD k [] := by rw [← ht]; exact getD_memI hj
  refine ⟨h.gin.take h.hd hmem hm htl, fun i hi hf => ?_, fun z hz => ?_, (fromB_set hts).2 (.inr h.hd), fun z hz => ?_⟩
  · rcases (fromB_set hts).1 hf with e | e
    · left; rw [e]; simp
    · rcases h.cl i hi e with q | q
      · exact .inl (List.mem_append.2 (.inl q))
      · exact .inr fun z hz => missB_set hts (q z hz)
  · rcases List.mem_append.1 hz with q | q
    · obtain ⟨a, b, c⟩ := h.qs z q
      exact ⟨a, b, (fromB_set hts).2 (.inr c)⟩
    · rw [List.mem_singleton] at q
      subst q
      exact ⟨by omega, by simpa using htl, (fromB_set hts).2 (.inl (by simp))⟩
  · rcases (mem_take_succ hj z).1 hz with q | q
    · exact missB_set hts (h.dn z q)
    · rw [q, ht, missB_nat, getD_set hts]; simp
theorem Gr.over {fs : List (List Int)} {cs q : List Int} {S : List Bool} {k : Nat} (h : Gr fs cs q S k (fs.getD k []).length) : Gq fs cs q S := by
  refine ⟨h.gin, fun i hf => ?_, h.qs⟩
  by_cases e : i = k
  · subst e
    right
    have := h.dn
    rwa [List.take_of_length_le (Nat.le_refl _)] at this
  · exact h.cl i e hf
theorem Gq.done {h : H} {cs : List Int} {S : List Bool} (k : Gq h.f cs [] S) : S = grdL h.f cs :=
  k.gin.done fun j _ hf => (k.cl j hf).resolve_left (by simp)
/-- The places of what is true, in order. -/
def ofBTo (bs : List Bool) (n : Nat) : List Int := ((List.range n).filter fun i => bs.getD i false).map fun i : Nat => (i : Int)
def ofB (bs : List Bool) : List Int := ofBTo bs bs.length
theorem ofBTo_zero (bs : List Bool) : ofBTo bs 0 = [] := rfl
theorem ofBTo_yes {bs : List Bool} {n : Nat} (h : bs.getD n false = true) : ofBTo bs (n + 1) = ofBTo bs n ++ [(n : Int)] := by
  unfold ofBTo
  rw [List.range_succ, List.filter_append, List.map_append, List.filter_cons_of_pos (by simpa using h)]; rfl
theorem ofBTo_no {bs : List Bool} {n : Nat} (h : bs.getD n false = false) : ofBTo bs (n + 1) = ofBTo bs n := by
  unfold ofBTo
  rw [List.range_succ, List.filter_append, List.map_append, List.filter_cons_of_neg (by simpa using h)]; simp
theorem ofBTo_len (bs : List Bool) (n : Nat) : (ofBTo bs n).length ≤ n := by
  unfold ofBTo
  rw [List.length_map]
  refine Nat.le_trans (List.length_filter_le _ _) ?_
  simp
theorem mem_ofBTo {bs : List Bool} {n : Nat} {z : Int} : z ∈ ofBTo bs n ↔ ∃ i, i < n ∧ bs.getD i false = true ∧ z = i := by
  unfold ofBTo
  simp only [List.mem_map, List.mem_filter, List.mem_range]
  constructor
  · rintro ⟨i, ⟨h1, h2⟩, rfl⟩; exact ⟨i, h1, h2, rfl⟩
  · rintro ⟨i, h1, h2, rfl⟩; exact ⟨i, ⟨h1, h2⟩, rfl⟩
theorem mem_ofB {bs : List Bool} {z : Int} : z ∈ ofB bs ↔ ∃ i, bs.getD i false = true ∧ z = i := by
  unfold ofB
  rw [mem_ofBTo]
  exact ⟨fun ⟨i, _, h⟩ => ⟨i, h⟩, fun ⟨i, h, e⟩ => ⟨i, getD_lt h, h, e⟩⟩
/-- What is lost, among the first n objects. -/
noncomputable def lostTo (h : H) (cs : List Int) (n : Nat) : List Int := (ofBTo (reachL h.f h.r) n).filter (missB cs (grdL h.f cs))
noncomputable def lostL (h : H) (cs : List Int) : List Int := lostTo h cs h.f.length
theorem lostL_eq (h : H) (cs : List Int) : lostL h cs = (ofB (reachL h.f h.r)).filter (missB cs (grdL h.f cs)) := by unfold lostL lostTo ofB; rw [reachL_length]
theorem lostTo_zero (h : H) (cs : List Int) : lostTo h cs 0 = [] := rfl
theorem lostTo_yes {h : H} {cs : List Int} {n : Nat} (h1 : (reachL h.f h.r).getD n false = true) (h2 : missB cs (grdL h.f cs) (n : Int) = true) : lostTo h cs (n + 1) = lostTo h cs n ++ [(n : Int)] := by
  unfold lostTo
  rw [ofBTo_yes h1, List.filter_append, List.filter_cons_of_pos h2]; rfl
theorem lostTo_no {h : H} {cs : List Int} {n : Nat} (h1 : (reachL h.f h.r).getD n false = false ∨ missB cs (grdL h.f cs) (n : Int) = false) : lostTo h cs (n + 1) = lostTo h cs n := by
  unfold lostTo
  cases e : (reachL h.f h.r).getD n false with
  | false => rw [ofBTo_no e]
  | true =>
    rcases h1 with q | q
    · rw [e] at q; cases q
    · rw [ofBTo_yes e, List.filter_append, List.filter_cons_of_neg (by rw [q]; decide)]; simp
theorem lostTo_len (h : H) (cs : List Int) (n : Nat) : (lostTo h cs n).length ≤ n := by
  unfold lostTo
  exact Nat.le_trans (List.length_filter_le _ _) (ofBTo_len _ _)
theorem mem_lostL {h : H} {cs : List Int} (hl : cs.length = h.f.length) {z : Int} : z ∈ lostL h cs ↔ ∃ i : Nat, i < h.f.length ∧ Reach h.f h.r i ∧ cs.getD i 0 = 0 ∧ ¬ Grd h.f cs i ∧ z = i := by
  rw [lostL_eq, List.mem_filter, mem_ofB]
  constructor
  · rintro ⟨⟨i, hi, rfl⟩, hm⟩
    obtain ⟨h1, h2⟩ := reachL_getD.1 hi
    rw [missB_nat] at hm
    simp only [Bool.and_eq_true, decide_eq_true_eq, Bool.not_eq_true'] at hm
    refine ⟨i, h1, h2, hm.1, fun q => ?_, rfl⟩
    rw [grdL_get.2 ⟨by omega, q⟩] at hm; cases hm.2
  · rintro ⟨i, h1, h2, h3, h4, rfl⟩
    refine ⟨⟨i, reachL_getD.2 ⟨h1, h2⟩, rfl⟩, ?_⟩
    rw [missB_nat, h3]
    cases q : (grdL h.f cs).getD i false with
    | false => rfl
    | true => exact absurd (grdL_get.1 q).2 h4
noncomputable def lostR (h : H) (cs : List Int) : List Int := if bothB h cs = true then lostL h cs else []
theorem ofB_len (bs : List Bool) : (ofB bs).length ≤ bs.length := ofBTo_len _ _
theorem lostR_len (h : H) (cs : List Int) : (lostR h cs).length ≤ 1000 := by
  unfold lostR
  split
  · next hb => have := (bothB_iff.1 hb).1.n; have := lostTo_len h cs h.f.length; unfold lostL; omega
  · simp
/-- The first lost object is shaded. -/
noncomputable def shl1 (h : H) (cs : List Int) : List Int := shade cs ((lostL h cs).getD 0 (-1))
noncomputable def shlN (h : H) (cs : List Int) : Nat → List Int
  | 0 => cs
  | n + 1 => shl1 h (shlN h cs n)
theorem shl1_no {h : H} {cs : List Int} (e : lostL h cs = []) : shl1 h cs = cs := by unfold shl1; rw [e]; exact shade_neg (by simp)
theorem shl1_len (h : H) (cs : List Int) : (shl1 h cs).length = cs.length := shade_len _ _
theorem shlN_len (h : H) (cs : List Int) (n : Nat) : (shlN h cs n).length = cs.length := by
  induction n with
  | zero => rfl
  | succ n ih => simp only [shlN]; rw [shl1_len, ih]
theorem Col.shlN {h : H} {cs : List Int} (hc : Col cs) (n : Nat) : Col (shlN h cs n) := by
  induction n with
  | zero => exact hc
  | succ n ih => exact ih.shade _
/-- How many objects below n are White. -/
def wht (cs : List Int) (n : Nat) : Nat := (List.range n).countP fun i => decide (cs.getD i 0 = 0)
theorem wht_succ (cs : List Int) (n : Nat) : wht cs (n + 1) = wht cs n + if cs.getD n 0 = 0 then 1 else 0 := by
  unfold wht
  rw [List.range_succ, List.countP_append]
  rw [List.countP_singleton]
  by_cases h : cs.getD n 0 = 0
  · rw [if_pos h, if_pos (by simpa using h)]
  · rw [if_neg h, if_neg (by simpa using h)]
theorem wht_le (cs : List Int) (n : Nat) : wht cs n ≤ n := by
  induction n with
  | zero => exact Nat.le_refl _
  | succ n ih => rw [wht_succ]; split <;> omega
theorem wht_one {cs cs' : List Int} {k : Nat} (hk : cs.getD k 0 = 0) (hk' : cs'.getD k 0 ≠ 0) (ho : ∀ i, i ≠ k → cs'.getD i 0 = cs.getD i 0) (n : Nat) : wht cs n = wht cs' n + if k < n then 1 else 0 := by
  induction n with
  | zero => rfl
  | succ n ih =>
    rw [wht_succ, wht_succ, ih]
    by_cases e : n = k
    · subst e
      rw [if_neg (Nat.lt_irrefl _), if_pos hk, if_neg hk', if_pos (Nat.lt_succ_self _)]
    · rw [ho n e]
      by_cases h3 : k < n
      · rw [if_pos h3, if_pos (show k < n + 1 by omega)]; omega
      · rw [if_neg h3, if_neg (show ¬ k < n + 1 by omega)]; omega
theorem wht_shl1 {h : H} {cs : List Int} (hl : cs.length = h.f.length) (e : lostL h cs ≠ []) : wht cs h.f.length = wht (shl1 h cs) h.f.length + 1 := by
  have hm : (lostL h cs).getD 0 (-1) ∈ lostL h cs := by
    cases q : lostL h cs with
    | nil => exact absurd q e
    | cons z zs => simp
  obtain ⟨i, hi, _, h0, _, ei⟩ := (mem_lostL hl).1 hm
  unfold shl1
  rw [ei]
  rw [wht_one (cs := cs) (cs' := shade cs i) (k := i) h0 (shade_on (by omega)) (fun j hj => ?_), if_pos hi]
  rw [shade_get, if_neg]
  omega
theorem shlN_stop {h : H} {cs : List Int} {n : Nat} (e : lostL h (shlN h cs n) = []) (m : Nat) : shlN h cs (n + m) = shlN h cs n := by
  induction m with
  | zero => rfl
  | succ m ih => rw [← Nat.add_assoc]; simp only [shlN]; rw [ih, shl1_no e]
noncomputable def shlC (h : H) (cs : List Int) : List Int := shlN h cs 12
theorem shlC_stop {h : H} {cs : List Int} {n : Nat} (e : lostL h (shlN h cs n) = []) (hn : n ≤ 12) : shlC h cs = shlN h cs n := by
  have := shlN_stop e (12 - n)
  rw [Nat.add_sub_cancel' hn] at this
  exact this
theorem shlN_wht {h : H} {cs : List Int} (hl : cs.length = h.f.length) (n : Nat) (hn : ∀ m, m < n → lostL h (shlN h cs m) ≠ []) : wht cs h.f.length = wht (shlN h cs n) h.f.length + n := by
  induction n with
  | zero => rfl
  | succ n ih =>
    have := ih fun m hm => hn m (by omega)
    have e := wht_shl1 (h := h) (cs := shlN h cs n) (by rw [shlN_len, hl]) (hn n (by omega))
    simp only [shlN]; omega
noncomputable def shlR (h : H) (cs : List Int) : List Int := if bothB h cs = true then shlC h cs else []
noncomputable def shlM (h : H) (cs : List Int) : Nat := if bothB h cs = true then wht cs h.f.length - wht (shlC h cs) h.f.length else 0
theorem shlR_len (h : H) (cs : List Int) : (shlR h cs).length ≤ 1000 := by
  unfold shlR
  split
  · next hb => have := (bothB_iff.1 hb); have := this.1.n; unfold shlC; rw [shlN_len]; omega
  · simp
/-- A shading of lost objects under way. -/
structure Sk (h : H) (cs0 cs : List Int) (n : Nat) : Prop where
  eq : cs = shlN h cs0 n
  l0 : cs0.length = h.f.length
  c0 : Col cs0
  nt : ∀ m, m < n → lostL h (shlN h cs0 m) ≠ []
theorem Sk.start {h : H} {cs0 : List Int} (hl : cs0.length = h.f.length) (hc : Col cs0) : Sk h cs0 cs0 0 := ⟨rfl, hl, hc, fun m hm => by omega⟩
theorem Sk.len {h : H} {cs0 cs : List Int} {n : Nat} (k : Sk h cs0 cs n) : cs.length = h.f.length := by rw [k.eq, shlN_len, k.l0]
theorem Sk.col {h : H} {cs0 cs : List Int} {n : Nat} (k : Sk h cs0 cs n) : Col cs := by rw [k.eq]; exact k.c0.shlN n
theorem Sk.le {h : H} {cs0 cs : List Int} {n : Nat} (k : Sk h cs0 cs n) : n ≤ h.f.length := by
  have := shlN_wht k.l0 n k.nt
  have := wht_le cs0 h.f.length
  omega
theorem Sk.step {h : H} {cs0 cs : List Int} {n : Nat} (k : Sk h cs0 cs n) (e : lostL h cs ≠ []) : Sk h cs0 (shl1 h cs) (n + 1) := by
  refine ⟨by rw [k.eq]; rfl, k.l0, k.c0, fun m hm => ?_⟩
  by_cases q : m = n
  · subst q; rw [← k.eq]; exact e
  · exact k.nt m (by omega)
theorem Sk.done {h : H} {cs0 cs : List Int} {n : Nat} (k : Sk h cs0 cs n) (hb : bothB h cs0 = true) (e : lostL h cs = []) : shlR h cs0 = cs ∧ shlM h cs0 = n := by
  have h12 := (bothB_iff.1 hb).1.n
  have hn := k.le
  have e' := e
  rw [k.eq] at e'
  have q := shlC_stop e' (by omega)
  unfold shlR shlM
  rw [if_pos hb, if_pos hb, q]
  have := shlN_wht k.l0 n k.nt
  exact ⟨k.eq.symm, by omega⟩
end Go.Proofs.Ytkkigoamphkalaa.Ph
namespace Go.Proofs.Ytkkigoamphkalaa
open Go.RowKit Ph

set_option maxHeartbeats 1600000 in
theorem c_thingsOfB (v : Value) (bs : List Bool) (w : World) (hz : BoolsAt w v bs) (hm : bs.length ≤ 12) : Calls Try.prog 148 #[v, .bool true] w fun e w' => ∃ v', e = .returned v' ∧ Own w' w.heap.size v' (ofB bs) ∧ Below w.heap.size w w' := by
  obtain ⟨i0, hi, hz0, hz1, hz2⟩ := info_parts info_int
  have HZ := Lib.hid hz
  obtain ⟨va, vc, rfl⟩ := hz.shape
  clear hz
  have HO : Hid (ofB bs = ofBTo bs bs.length) := rfl
  generalize ofB bs = out at *
  generalize hn : bs.length = n at *
  have HN := Lib.hid hn; clear hn
  go_enter Try.func148, Try.ntmps148
  go_wp2
  go_loopw [5, 9] (fun t i wr => ∃ k : Nat, k ≤ n ∧ i = .int .i64 k ∧ Hid (Own wr w.heap.size t (ofBTo bs k)) ∧ Hid (Below w.heap.size w wr)) (fun _ i _ => n - (intOf i).toNat)
  case atStart => exact ⟨0, Nat.zero_le _, rfl, by rw [ofBTo_zero]; exact Own.nil _ _, Below.refl _ _⟩
  case round =>
    obtain ⟨k, hk, rfl, ho, hb⟩ := hrel
    by_cases hlt : k < n
    · obtain ⟨g, off, rfl, hc⟩ := (HZ.out.below hb.out).at' (by omega)
      have q := hc k hlt
      have i1 : (k : Int) < (n : Int) := by omega
      have i2 : (0 : Int) ≤ (k : Int) := by omega
      clear hc
      have HY := Lib.hid (ofBTo_yes (bs := bs) (n := k))
      have HNO := Lib.hid (ofBTo_no (bs := bs) (n := k))
      have HL := Lib.hid (ofBTo_len bs k)
      generalize bs.getD k false = x at *
      cases x
      · have HE := Lib.hid (HNO.out rfl)
        clear HY HNO
        go_wp2
        go_roundw
        case rel => exact ⟨k + 1, by omega, by go_num, by rw [HE.out]; exact ho, hb⟩
        case measure => simp [intOf]; omega
      · have HE := Lib.hid (HY.out rfl)
        have HS := Lib.hid (src_int wr (k : Int))
        have HB1 := Lib.hid (hb.out.alloc hb.out.size (.cells #[.int .i64 (k : Int)] 3))
        have HO1 := Lib.hid (ho.out.below (below1 wr (.cells #[.int .i64 (k : Int)] 3)))
        clear HY HNO
        go_wp2_with (at_builtin; refine wl_appOwn _ rfl _ _ 24 rfl w.heap.size 3 i0 (.int .i64 0) 8 Try.underlying24 hi hz0 hz1 hz2 rfl u5 _ _ rfl HO1.out _ _ rfl HS.out (by have := HL.out; simp; unfold maxLen; omega) (by have := HL.out; simp; omega) HB1.out.size ?_; intro v1 w1 ho1 hg1 hbl; have O1 : Hid (Own w1 w.heap.size v1 (ofBTo bs k ++ [(k : Int)])) := by { unfold Hid Own; rw [List.map_append, List.length_append]; exact ho1 }; have B1 := Lib.hid (HB1.out.grown hg1 HB1.out.size (fun g' hg' => (owns_lt HO1.out hg').1)); clear ho1 hg1 hbl)
        go_roundw
        case rel => exact ⟨k + 1, by omega, by go_num, by rw [HE.out]; exact O1, B1⟩
        case measure => simp [intOf]; omega
    · have hkn : Hid (k = n) := by unfold Hid; omega
      go_wp2
      go_ret
      exact ⟨_, rfl, by rw [HO.out, ← hkn.out]; exact ho.out, hb.out⟩
/-- The guards by value. -/
abbrev gd (c g : Value) : Value := .agg #[c, g]
abbrev gd2 (c g : Value) : Array Value := #[c, g]
set_option maxHeartbeats 1600000 in
theorem c_misses (cv gv : Value) (cs : List Int) (S : List Bool) (z : Int) (w : World) (hc : IntsAt w cv cs) (hg : BoolsAt w gv S) (hl : S.length = cs.length) (hz : inR cs.length z) : Calls Try.prog 149 #[gd cv gv, .int .i64 z] w fun e w' => e = .returned (.bool (missB cs S z)) ∧ Below w.heap.size w w' := by
  obtain ⟨ca, cc, rfl, hC⟩ := hc
  obtain ⟨ga, gc, rfl, hG⟩ := hg
  rw [hl] at *
  have HB := Lib.hid (below1 w (.cells (gd2 (.slice ca cs.length cc) (.slice ga cs.length gc)) 146))
  by_cases z1 : z = -1
  · subst z1
    have HE := Lib.hid (missB_neg (cs := cs) (S := S) (z := -1) (by omega))
    clear hC hG hl hz
    generalize cs.length = n at *
    go_enter Try.func149, Try.ntmps149
    go_wp2
    go_ret
    exact ⟨r_b HE.out.symm, HB.out⟩
  · obtain ⟨t, rfl⟩ : ∃ t : Nat, z = t := ⟨z.toNat, by rcases hz with h | h <;> omega⟩
    have htn : t < cs.length := by rcases hz with h | h <;> omega
    obtain ⟨b1, o1, rfl, h1⟩ := hC (by omega)
    obtain ⟨b2, o2, rfl, h2⟩ := hG (by omega)
    have q1 := cellBelow HB.out (Nat.le_refl _) (h1 t htn)
    have q2 := cellBelow HB.out (Nat.le_refl _) (h2 t htn)
    have HE := Lib.hid (missB_nat (cs := cs) (S := S) (k := t))
    have t1 : (t : Int) < (cs.length : Int) := by omega
    have t0 : (0 : Int) ≤ (t : Int) := by omega
    have i2 : ((t : Int) == -1) = false := by simp
    clear hC hG hl hz h1 h2 z1 htn
    generalize cs.length = n at *
    generalize S.getD t false = x at *
    generalize cs.getD t 0 = y at *
    by_cases hy : y = 0
    · subst hy
      cases x
      all_goals
        go_enter Try.func149, Try.ntmps149
        go_wp2
        go_ret
        exact ⟨r_b HE.out.symm, HB.out⟩
    · have hy1 : (y == 0) = false := by simpa using hy
      have HF : Hid (missB cs S (t : Int) = false) := by unfold Hid; rw [HE.out, decide_eq_false hy]; rfl
      clear hy HE
      go_enter Try.func149, Try.ntmps149
      go_wp2
      go_ret
      exact ⟨r_b HF.out.symm, HB.out⟩
end Go.Proofs.Ytkkigoamphkalaa
namespace Go.Proofs.Ytkkigoamphkalaa
open Go.RowKit Ph

theorem info_guards : (Try.prog.info? 146).map (·.size) = some 2 := by kernel_rfl
theorem wl_storeG {ops : Array Oper} {rest : List Oper} {o : Oper} {q : Act} {w : World} {Q : Exit → Act → World → Prop} (hgd : o.guard = none) (x y : Operand) (ho : o.op = .store 146 x y) (g : Nat) (v1 v2 o1 o2 : Value) (hg : Row w g 146 (gd2 o1 o2))
    (hx : q.eval x = .pointer (some ⟨g, 0, none⟩)) (hy : q.eval y = gd v1 v2) (h1 : v1.oneCell' = true) (h2 : v2.oneCell' = true) (h : wpList Try.prog ops Q rest (q.put o.dst undef) (w.setRow g (gd2 v1 v2))) : wpList Try.prog ops Q (o :: rest) q w :=
  wpList_store_row hgd 146 x y ho g (gd2 v1 v2) hx hy 146 (gd2 o1 o2) hg info_guards rfl (by simp [Value.oneCell']; exact ⟨h1, h2⟩) h
theorem ne_rowB8 {w : World} {B g : Nat} {T : TypeId} {v : Value} {cs : List Bool} {ds : Array Value} (ho : OwnBs w B v cs) (hr : Row w g T ds) (hT : T ≠ 4) : v.ownBlock ≠ some g := by
  intro hg
  rcases ho.2 with ⟨rfl, _⟩ | ⟨g2, cap, cur, rfl, _, h2, _⟩
  · cases hg
  · cases hg
    unfold Row at hr
    rw [h2] at hr
    cases hr
    exact hT rfl
/-- The search under way: its own blocks, and what it reads. -/
structure GdW (w wr : World) (gO gG n : Nat) (v a b c : Value) (S : List Bool) : Prop where
  own : OwnBs wr w.heap.size (.slice (some ⟨gO, 0, none⟩) n n) S
  g : Row wr gG 146 (gd2 v (.slice (some ⟨gO, 0, none⟩) n n))
  r : Row wr (w.heap.size + 1) 146 (gd2 (.slice none 0 0) (.slice none 0 0))
  h : RowH wr w.heap.size a b c
  low : Below w.heap.size w wr
theorem GdW.below {w wr w' : World} {gO gG n : Nat} {v a b c : Value} {S : List Bool} (k : GdW w wr gO gG n v a b c S) (hb : Below wr.heap.size wr w') : GdW w w' gO gG n v a b c S :=
  ⟨k.own.below hb, Row.below k.g hb, Row.below k.r hb, k.h.below hb, bst k.low hb k.low.size⟩
theorem GdW.store {w wr : World} {gO gG n : Nat} {v a b c : Value} {S : List Bool} (k : GdW w wr gO gG n v a b c S) (hS : S.length = n) {t : Nat} (ht : t < n) : GdW w (wr.setCell ⟨gO, t, none⟩ (.bool true)) gO gG n v a b c (S.set t true) := by
  obtain ⟨s1, s2, s3, s4⟩ := k.own.stored hS ht true
  have hr : Row wr w.heap.size 30 (c3 a b c) := k.h
  exact ⟨s1, Row.grownBy k.g s2 (ne_rowB8 k.own k.g (by decide)), Row.grownBy k.r s2 (ne_rowB8 k.own k.r (by decide)), Row.grownBy hr s2 (ne_rowB8 k.own hr (by decide)), k.low.setCell (p := ⟨gO, t, none⟩) (owns_lt k.own rfl).1 (.bool true)⟩
set_option maxRecDepth 100000 in
set_option maxHeartbeats 6400000 in
theorem c_guardsIn (a b c v : Value) (h : H) (cs : List Int) (w : World) (hA : HeapAt w a b c h) (hG : Ph.Good h) (hz : IntsAt w v cs) (hl : cs.length = h.f.length) :
    Calls Try.prog 147 #[hv a b c, v] w fun e w' => ∃ gv, e = .returned (.agg #[v, gv]) ∧ OwnBs w' w.heap.size gv (grdL h.f cs) ∧ Below w.heap.size w w' := by
  obtain ⟨i0, hi, hz0, hz1, hz2⟩ := info_parts info_boolz
  have hn1 := hG.n
  obtain ⟨fa, fc, rfl⟩ := hA.f.shape
  obtain ⟨va, vc, hv⟩ := hz.shape
  rw [hl] at hv
  subst hv
  have HCL := Lib.hid hl
  have HF := Lib.hid hA.f; have HZ := Lib.hid hz
  have HRL : Hid (∀ k, (h.f.getD k []).length ≤ 12) := fun k => by
    by_cases q : k < h.f.length
    · have := (hG.row k q).1; omega
    · simp [List.getD, List.getElem?_eq_none (Nat.le_of_not_lt q)]
  have HR : Hid (∀ k, ∀ z ∈ h.f.getD k [], inR h.f.length z) := fun k z hz => (hG.field hz).imp id (fun h => ⟨h.1, h.2.1⟩)
  have HD : Hid (∀ S, Gin h.f cs S → (∀ j, j < h.f.length → fromB cs S j = true → ∀ z ∈ h.f.getD j [], missB cs S z = false) → S = grdL h.f cs) := fun S k q => k.done (fun j hj => q j (by rw [← hl]; exact hj))
  have HS0 : Hid (Gin h.f cs (List.replicate h.f.length false)) := by rw [← hl]; exact Gin.start _ _
  clear hA hG hz
  clear hl
  generalize hn : h.f.length = n at *
  have HN := Lib.hid hn; clear hn
  have R0 := Lib.hid (show RowH _ w.heap.size (.slice fa n fc) b c from Row.alloc (Row.new w 30 (c3 (.slice fa n fc) b c)) (.cells (gd2 (.slice none 0 0) (.slice none 0 0)) 146))
  have Q0 := Lib.hid (Row.new1 w (.cells (c3 (.slice fa n fc) b c) 30) 146 (gd2 (.slice none 0 0) (.slice none 0 0)))
  have hb0 := Lib.hid ((below1 w (.cells (c3 (.slice fa n fc) b c) 30)).alloc (by simp) (.cells (gd2 (.slice none 0 0) (.slice none 0 0)) 146))
  go_enter Try.func147, Try.ntmps147
  go_wp2_with fail
  go_step3
  go_wp2_with (first
    | (at_make; refine wpList_make_full _ rfl _ _ 23 rfl w.heap.size 4 i0 (.bool false) 1 Try.underlying23 hi hz0 hz1 .i64 .i64 _ _ n rfl rfl rfl rfl (by rw [hz2]; omega) (by unfold maxLen; omega) (by simp; omega) ?_; intro w1 hown hgr
       rw [rep_bools] at hown
       have hsz0 : ((w.alloc (.cells (c3 (.slice fa n fc) b c) 30)).alloc (.cells (gd2 (.slice none 0 0) (.slice none 0 0)) 146)).heap.size = w.heap.size + 1 + 1 := by simp
       rw [hsz0] at hown
       have o1 : OwnBs w1 w.heap.size (.slice (some ⟨w.heap.size + 1 + 1, 0, none⟩) n n) (List.replicate n false) := by unfold OwnBs; rw [List.length_replicate]; exact hown
       have b1 := hb0.out.grown hgr hb0.out.size (fun k hk => by cases hk)
       have O1 := Lib.hid o1; have B1 := Lib.hid b1; have R1 := Lib.hid (Row.grown R0.out hgr); have Q1 := Lib.hid (Row.grown Q0.out hgr)
       have K1 := Lib.hid (Row.new w1 146 (gd2 (.slice none 0 0) (.slice none 0 0)))
       clear hown hgr o1 b1)
    | (refine wl_storeG rfl _ _ rfl w1.heap.size (.slice va n vc) (.slice (some ⟨w.heap.size + 1 + 1, 0, none⟩) n n) _ _ K1.out rfl rfl rfl rfl ?_))
  have LT : Hid (w.heap.size + 1 + 1 < w1.heap.size) := (owns_lt O1.out rfl).2
  have W2 : Hid (GdW w ((w1.alloc (.cells (gd2 (.slice none 0 0) (.slice none 0 0)) 146)).setRow w1.heap.size (gd2 (.slice va n vc) (.slice (some ⟨w.heap.size + 1 + 1, 0, none⟩) n n))) (w.heap.size + 1 + 1) w1.heap.size n (.slice va n vc) (.slice fa n fc) b c (List.replicate n false)) := by
    have ba := below1 w1 (.cells (gd2 (.slice none 0 0) (.slice none 0 0)) 146)
    have lt := LT.out
    have hr : Row w1 w.heap.size 30 (c3 (.slice fa n fc) b c) := R1.out
    exact ⟨owns_block (O1.out.below ba) (fun g hg => setRow_other _ _ g _ (by cases hg; simp only; omega)), Row.put K1.out _, Row.putOther (Row.below Q1.out ba) _ (by omega), Row.putOther (Row.below hr ba) _ (by omega), below_setRow (bst B1.out ba B1.out.size) B1.out.size _⟩
  clear O1 B1 R1 Q1 K1 hb0 R0 Q0
  generalize (w1.alloc (.cells (gd2 (.slice none 0 0) (.slice none 0 0)) 146)).setRow w1.heap.size (gd2 (.slice va n vc) (.slice (some ⟨w.heap.size + 1 + 1, 0, none⟩) n n)) = w2 at *
  generalize w1.heap.size = gG at *
  clear LT
  go_step3
  go_wp2_with fail
  go_frame
  go_loopg [] n (fun k wr => ∃ S : List Bool, Hid (k = left S) ∧ Hid (Gin h.f cs S) ∧ Hid (GdW w wr (w.heap.size + 1 + 1) gG n (.slice va n vc) (.slice fa n fc) b c S))
  case atStart => exact ⟨_, by rw [left_rep]; exact rfl, HS0, W2⟩
  case round =>
    obtain ⟨S, hlf, hgin, hgw⟩ := hrel
    go_wp2_with fail
    go_loopg [16] n (fun j i wx => ∃ k : Nat, k + j = n ∧ i = .int .i64 k ∧ Hid (∀ j, j < k → fromB cs S j = true → ∀ z ∈ h.f.getD j [], missB cs S z = false) ∧ Hid (GdW w wx (w.heap.size + 1 + 1) gG n (.slice va n vc) (.slice fa n fc) b c S))
    case atStart => exact ⟨0, by omega, rfl, fun j hj => by omega, hgw⟩
    case round =>
      obtain ⟨k, hkn, rfl, hdone, hgw⟩ := hrel
      by_cases hlt : k < n
      · obtain ⟨vb, vo, rfl, hcv⟩ := HZ.out.at' (by omega)
        have qc := cellBelow hgw.out.low (Nat.le_refl _) (hcv k hlt)
        have hSl : S.length = n := by rw [hgin.out.len, HCL.out]
        obtain ⟨_, _, s3, s4⟩ := hgw.out.own.stored hSl hlt true
        have g1 := Row.cell hgw.out.g 1
        have k1 : (k : Int) < (n : Int) := by omega
        have k0 : (0 : Int) ≤ (k : Int) := by omega
        clear hcv hSl
        by_cases hck : cs.getD k 0 = 1
        · have HFK : Hid (fromB cs S k = true) := by unfold Hid fromB; rw [decide_eq_true hck]; rfl
          rw [hck] at qc
          clear hck
          have HFR : Hid (fromB cs S k = true) := HFK
          obtain ⟨fb, fo, rfl, hcf⟩ := HF.out.at' (by omega)
          obtain ⟨u, quf, huf⟩ := hcf k hlt
          have HU := Lib.hid huf
          have qu := cellBelow hgw.out.low (Nat.le_refl _) quf
          have hh0 := hgw.out.h.c0
          have HIN := Lib.hid (HR.out k)
          obtain ⟨ua, uc, rfl⟩ := huf.shape
          clear hcf quf huf
          generalize hrow : h.f.getD k [] = row at *
          have HROW := Lib.hid hrow; clear hrow
          generalize hul : row.length = ul at *
          have HUL := Lib.hid hul; clear hul
          have hul12 : ul ≤ 12 := by rw [← HUL.out, ← HROW.out]; exact HRL.out k
          go_wp2_with fail
          clear qu hh0 s3 s4 g1 qc
          go_loopg [38] ul (fun j i wy => ∃ p : Nat, p + j = ul ∧ i = .int .i64 p ∧ Hid (∀ z ∈ row.take p, missB cs S z = false) ∧ Hid (GdW w wy (w.heap.size + 1 + 1) gG n (.slice (some ⟨vb, vo, none⟩) n vc) (.slice (some ⟨fb, fo, none⟩) n fc) b c S))
          case atStart => exact ⟨0, by omega, rfl, fun z hz => by simp at hz, hgw⟩
          case round =>
            obtain ⟨p, hpn, rfl, hpd, hgy⟩ := hrel
            by_cases hpl : p < ul
            · obtain ⟨zb, zo, rfl, hcz⟩ := HU.out.at' (by omega)
              have qz := cellBelow hgy.out.low (Nat.le_refl _) (hcz p hpl)
              have hpr : p < row.length := by rw [HUL.out]; exact hpl
              have HZI := Lib.hid (HIN.out _ (getD_memI hpr))
              have HZM := Lib.hid (getD_memI hpr)
              have HTK := Lib.hid (mem_take_succ hpr)
              have p1 : (p : Int) < (ul : Int) := by omega
              have p0 : (0 : Int) ≤ (p : Int) := by omega
              have g0 := Row.cell hgy.out.g 0
              have g1 := Row.cell hgy.out.g 1
              have HM : Hid (∀ z, inR n z → Calls Try.prog 149 #[gd (.slice (some ⟨vb, vo, none⟩) n vc) (.slice (some ⟨w.heap.size + 1 + 1, 0, none⟩) n n), .int .i64 z] wr fun e w' => e = .returned (.bool (missB cs S z)) ∧ Below wr.heap.size wr w') := fun z hz => c_misses _ _ cs S z wr (HZ.out.below hgy.out.low) (owns_bools hgy.out.own) (by rw [hgin.out.len]) (by rw [HCL.out]; exact hz)
              clear hcz hpr
              generalize row.getD p 0 = z at *
              by_cases hm : missB cs S z = true
              · obtain ⟨t, rfl⟩ : ∃ t : Nat, z = t := ⟨z.toNat, by have := (missB_iff.1 hm).1; omega⟩
                have htn : t < n := by rcases HZI.out with q | q <;> omega
                have TK : Hid (Gin h.f cs (S.set t true)) := hgin.out.take HFR.out (by rw [HROW.out]; exact HZM.out) hm (by rw [HCL.out]; exact htn)
                have SF : Hid (S.getD t false = false) := (by have := (missB_iff.1 hm).2.2; rwa [Int.toNat_natCast] at this)
                have t1 : (t : Int) < (n : Int) := by omega
                have t0 : (0 : Int) ≤ (t : Int) := by omega
                have HMM := Lib.hid hm
                have HTN := Lib.hid htn
                clear hm HTK htn
                go_wp2_with fail
                refine (HM.out _ HZI.out).mono ?_
                rintro e w5 ⟨rfl, hb5⟩
                rw [HMM.out]
                have W5 := Lib.hid (hgy.out.below hb5)
                have hSl : S.length = n := by rw [hgin.out.len, HCL.out]
                have W6 := Lib.hid (W5.out.store hSl HTN.out)
                obtain ⟨_, _, s5, s6⟩ := W5.out.own.stored hSl HTN.out true
                rw [SF.out] at s5
                have LS : Hid (left (S.set t true) + 1 = left S) := left_set (by rw [hSl]; exact HTN.out) SF.out
                have e1 := Row.cell W5.out.g 1
                clear hb5 g0 g1 qz HM hSl
                go_wp2_with fail
                go_roundg (left (S.set t true))
                case measure => have := hlf.out; have := LS.out; omega
                case rel => exact ⟨S.set t true, rfl, TK, W6⟩
              · have HMM : Hid (missB cs S z = false) := by unfold Hid; simpa using hm
                clear hm
                go_wp2_with fail
                refine (HM.out _ HZI.out).mono ?_
                rintro e w5 ⟨rfl, hb5⟩
                rw [HMM.out]
                have W5 := Lib.hid (hgy.out.below hb5)
                have HE : Hid (∀ y ∈ row.take (p + 1), missB cs S y = false) := fun y hy => ((HTK.out y).1 hy).elim (hpd.out y) (fun q => by rw [q]; exact HMM.out)
                clear hb5 g0 g1 qz HM
                go_wp2_with fail
                go_roundg (ul - (p + 1))
                case measure => omega
                case rel => exact ⟨p + 1, by omega, by go_num, HE, W5⟩
            · have hpe : Hid (∀ z ∈ row, missB cs S z = false) := fun z hz => hpd.out z (by rw [List.take_of_length_le (by rw [HUL.out]; omega)]; exact hz)
              have HE : Hid (∀ j, j < k + 1 → fromB cs S j = true → ∀ z ∈ h.f.getD j [], missB cs S z = false) := fun j hj hf z hz => by
                by_cases e : j = k
                · subst e; exact hpe.out z (by rw [← HROW.out]; exact hz)
                · exact hdone.out j (by omega) hf z hz
              have hkg := hkn
              go_wp2_with fail
              go_roundg (n - (k + 1))
              case measure => omega
              case rel => exact ⟨k + 1, by omega, by go_num, HE, hgy⟩

        · generalize hy : cs.getD k 0 = y at *
          have hy1 : (y == 1) = false := by simpa using hck
          have hy2 : (y != 1) = true := by simpa using hck
          have HCK : Hid (¬ cs.getD k 0 = 1) := by unfold Hid; rw [hy]; exact hck
          clear hy hck
          generalize hx : S.getD k false = x at *
          have HX := Lib.hid hx; clear hx
          cases x
          · have HE : Hid (∀ j, j < k + 1 → fromB cs S j = true → ∀ z ∈ h.f.getD j [], missB cs S z = false) := fun j hj hf z hz => by
              by_cases e : j = k
              · subst e
                unfold fromB at hf
                rw [HX.out, decide_eq_false HCK.out] at hf
                cases hf
              · exact hdone.out j (by omega) hf z hz
            go_wp2_with fail
            go_roundg (n - (k + 1))
            case measure => omega
            case rel => exact ⟨k + 1, by omega, by go_num, HE, hgw⟩
          · have HFK : Hid (fromB cs S k = true) := by unfold Hid fromB; rw [HX.out]; simp
            have HFR : Hid (fromB cs S k = true) := HFK
            obtain ⟨fb, fo, rfl, hcf⟩ := HF.out.at' (by omega)
            obtain ⟨u, quf, huf⟩ := hcf k hlt
            have HU := Lib.hid huf
            have qu := cellBelow hgw.out.low (Nat.le_refl _) quf
            have hh0 := hgw.out.h.c0
            have HIN := Lib.hid (HR.out k)
            obtain ⟨ua, uc, rfl⟩ := huf.shape
            clear hcf quf huf
            generalize hrow : h.f.getD k [] = row at *
            have HROW := Lib.hid hrow; clear hrow
            generalize hul : row.length = ul at *
            have HUL := Lib.hid hul; clear hul
            have hul12 : ul ≤ 12 := by rw [← HUL.out, ← HROW.out]; exact HRL.out k
            go_wp2_with fail
            clear qu hh0 s3 s4 g1 qc
            go_loopg [38] ul (fun j i wy => ∃ p : Nat, p + j = ul ∧ i = .int .i64 p ∧ Hid (∀ z ∈ row.take p, missB cs S z = false) ∧ Hid (GdW w wy (w.heap.size + 1 + 1) gG n (.slice (some ⟨vb, vo, none⟩) n vc) (.slice (some ⟨fb, fo, none⟩) n fc) b c S))
            case atStart => exact ⟨0, by omega, rfl, fun z hz => by simp at hz, hgw⟩
            case round =>
              obtain ⟨p, hpn, rfl, hpd, hgy⟩ := hrel
              by_cases hpl : p < ul
              · obtain ⟨zb, zo, rfl, hcz⟩ := HU.out.at' (by omega)
                have qz := cellBelow hgy.out.low (Nat.le_refl _) (hcz p hpl)
                have hpr : p < row.length := by rw [HUL.out]; exact hpl
                have HZI := Lib.hid (HIN.out _ (getD_memI hpr))
                have HZM := Lib.hid (getD_memI hpr)
                have HTK := Lib.hid (mem_take_succ hpr)
                have p1 : (p : Int) < (ul : Int) := by omega
                have p0 : (0 : Int) ≤ (p : Int) := by omega
                have g0 := Row.cell hgy.out.g 0
                have g1 := Row.cell hgy.out.g 1
                have HM : Hid (∀ z, inR n z → Calls Try.prog 149 #[gd (.slice (some ⟨vb, vo, none⟩) n vc) (.slice (some ⟨w.heap.size + 1 + 1, 0, none⟩) n n), .int .i64 z] wr fun e w' => e = .returned (.bool (missB cs S z)) ∧ Below wr.heap.size wr w') := fun z hz => c_misses _ _ cs S z wr (HZ.out.below hgy.out.low) (owns_bools hgy.out.own) (by rw [hgin.out.len]) (by rw [HCL.out]; exact hz)
                clear hcz hpr
                generalize row.getD p 0 = z at *
                by_cases hm : missB cs S z = true
                · obtain ⟨t, rfl⟩ : ∃ t : Nat, z = t := ⟨z.toNat, by have := (missB_iff.1 hm).1; omega⟩
                  have htn : t < n := by rcases HZI.out with q | q <;> omega
                  have TK : Hid (Gin h.f cs (S.set t true)) := hgin.out.take HFR.out (by rw [HROW.out]; exact HZM.out) hm (by rw [HCL.out]; exact htn)
                  have SF : Hid (S.getD t false = false) := (by have := (missB_iff.1 hm).2.2; rwa [Int.toNat_natCast] at this)
                  have t1 : (t : Int) < (n : Int) := by omega
                  have t0 : (0 : Int) ≤ (t : Int) := by omega
                  have HMM := Lib.hid hm
                  have HTN := Lib.hid htn
                  clear hm HTK htn
                  go_wp2_with fail
                  refine (HM.out _ HZI.out).mono ?_
                  rintro e w5 ⟨rfl, hb5⟩
                  rw [HMM.out]
                  have W5 := Lib.hid (hgy.out.below hb5)
                  have hSl : S.length = n := by rw [hgin.out.len, HCL.out]
                  have W6 := Lib.hid (W5.out.store hSl HTN.out)
                  obtain ⟨_, _, s5, s6⟩ := W5.out.own.stored hSl HTN.out true
                  rw [SF.out] at s5
                  have LS : Hid (left (S.set t true) + 1 = left S) := left_set (by rw [hSl]; exact HTN.out) SF.out
                  have e1 := Row.cell W5.out.g 1
                  clear hb5 g0 g1 qz HM hSl
                  go_wp2_with fail
                  go_roundg (left (S.set t true))
                  case measure => have := hlf.out; have := LS.out; omega
                  case rel => exact ⟨S.set t true, rfl, TK, W6⟩
                · have HMM : Hid (missB cs S z = false) := by unfold Hid; simpa using hm
                  clear hm
                  go_wp2_with fail
                  refine (HM.out _ HZI.out).mono ?_
                  rintro e w5 ⟨rfl, hb5⟩
                  rw [HMM.out]
                  have W5 := Lib.hid (hgy.out.below hb5)
                  have HE : Hid (∀ y ∈ row.take (p + 1), missB cs S y = false) := fun y hy => ((HTK.out y).1 hy).elim (hpd.out y) (fun q => by rw [q]; exact HMM.out)
                  clear hb5 g0 g1 qz HM
                  go_wp2_with fail
                  go_roundg (ul - (p + 1))
                  case measure => omega
                  case rel => exact ⟨p + 1, by omega, by go_num, HE, W5⟩
              · have hpe : Hid (∀ z ∈ row, missB cs S z = false) := fun z hz => hpd.out z (by rw [List.take_of_length_le (by rw [HUL.out]; omega)]; exact hz)
                have HE : Hid (∀ j, j < k + 1 → fromB cs S j = true → ∀ z ∈ h.f.getD j [], missB cs S z = false) := fun j hj hf z hz => by
                  by_cases e : j = k
                  · subst e; exact hpe.out z (by rw [← HROW.out]; exact hz)
                  · exact hdone.out j (by omega) hf z hz
                have hkg := hkn
                go_wp2_with fail
                go_roundg (n - (k + 1))
                case measure => omega
                case rel => exact ⟨k + 1, by omega, by go_num, HE, hgy⟩

      · have HE : Hid (S = grdL h.f cs) := HD.out S hgin.out (fun j hj => hdone.out j (by omega))
        have g0 := Row.cell hgw.out.g 0
        have g1 := Row.cell hgw.out.g 1
        go_wp2_with (refine wl_storeG rfl _ _ rfl (w.heap.size + 1) (.slice va n vc) (.slice (some ⟨w.heap.size + 1 + 1, 0, none⟩) n n) _ _ hgw.out.r rfl rfl rfl rfl ?_)
        rw [Exit.noGoto_ret]
        refine bodyPost_ret (res_row Try.results147 (Row.put hgw.out.r (gd2 (.slice va n vc) (.slice (some ⟨w.heap.size + 1 + 1, 0, none⟩) n n))) rfl Try.underlying146 rfl info_guards) rfl ⟨_, rfl, ?_, below_setRow hgw.out.low (by omega) _⟩
        rw [← HE.out]
        exact owns_block hgw.out.own fun g hg => setRow_other _ _ g _ (by cases hg; simp only; omega)
end Go.Proofs.Ytkkigoamphkalaa
namespace Go.Proofs.Ytkkigoamphkalaa
open Go.RowKit Ph

set_option maxHeartbeats 1600000 in
theorem s_l6Both (a b c v : Value) (h : H) (cs : List Int) (w : World) (hA : HeapAt w a b c h) (hz : IntsAt w v cs) : Calls Try.prog 99 #[hv a b c, v] w fun e w' => e = .returned (.bool (bothB h cs)) ∧ Below w.heap.size w w' := by
  have hb0 := below1 w (.cells (c3 a b c) 30)
  have A0 := Lib.hid (hA.below hb0)
  have Z0 := Lib.hid (hz.below hb0)
  have HB := Lib.hid hb0
  have R0 := Lib.hid (show RowH _ _ a b c from Row.new w 30 (c3 a b c))
  obtain ⟨fa, fc, rfl⟩ := hA.f.shape
  obtain ⟨va, vc, rfl⟩ := hz.shape
  clear hA hb0 hz
  have HC := Lib.hid (s_GoodHeap _ _ _ h _ A0.out)
  have HCA : Hid (∀ w', IntsAt w' (.slice va cs.length vc) cs → Calls Try.prog 144 #[.slice va cs.length vc] w' fun e w'' => e = .returned (.bool (colsB cs)) ∧ w' = w'') := fun w' hh => s_l6Colours _ cs w' hh
  have hE := bothB_eq h cs
  generalize good h = x at *
  generalize colsB cs = y at *
  generalize bothB h cs = r at *
  generalize h.f.length = n at *
  generalize cs.length = m at *
  have c0 := R0.out.c0
  have c1 := R0.out.c1
  have c2 := R0.out.c2
  cases x
  · have HE : Hid (r = false) := by unfold Hid; rw [hE]; rfl
    clear hE
    go_enter Try.func99, Try.ntmps99
    go_wp2_with (go_at_call 80; refine HC.out.mono ?_; rintro e w1 ⟨rfl, hb1⟩; have B1 := Lib.hid (bst HB.out hb1 HB.out.size); clear hb1)
    go_ret
    exact ⟨r_b HE.out.symm, B1.out⟩
  cases y
  · have HE : Hid (r = false) := by unfold Hid; rw [hE]; rfl
    clear hE
    go_enter Try.func99, Try.ntmps99
    go_wp2_with (first
      | (go_at_call 80; refine HC.out.mono ?_; rintro e w1 ⟨rfl, hb1⟩; have B1 := Lib.hid (bst HB.out hb1 HB.out.size); have Z1 := Lib.hid (Z0.out.below hb1); clear hb1)
      | (go_at_call 144; refine (HCA.out _ Z1.out).mono ?_; rintro e w2 ⟨rfl, rfl⟩))
    go_ret
    exact ⟨r_b HE.out.symm, B1.out⟩
  · have hE2 : r = decide (m = n) := by rw [hE]; simp
    clear hE
    have hq : ((m : Int) == (n : Int)) = decide (m = n) := by
      by_cases e : m = n
      · subst e; simp
      · rw [decide_eq_false e]; simp; omega
    have HE := Lib.hid hE2
    clear hE2
    generalize decide (m = n) = z at *
    go_enter Try.func99, Try.ntmps99
    go_wp2_with (first
      | (go_at_call 80; refine HC.out.mono ?_; rintro e w1 ⟨rfl, hb1⟩; have B1 := Lib.hid (bst HB.out hb1 HB.out.size); have Z1 := Lib.hid (Z0.out.below hb1); have R1 := R0.out.below hb1; have d0 := R1.c0; clear hb1 R1)
      | (go_at_call 144; refine (HCA.out _ Z1.out).mono ?_; rintro e w2 ⟨rfl, rfl⟩))
    go_ret
    exact ⟨r_b HE.out.symm, B1.out⟩
end Go.Proofs.Ytkkigoamphkalaa
namespace Go.Proofs.Ytkkigoamphkalaa
open Go.RowKit Ph

theorem own_boolshape {w : World} {B : Nat} {v : Value} {bs : List Bool} (h : OwnBs w B v bs) : ∃ a c, v = .slice a bs.length c := by
  rcases h.shape with ⟨q1, q2⟩ | ⟨g, c, q⟩
  · exact ⟨none, 0, by rw [q1, q2]; rfl⟩
  · exact ⟨_, c, q⟩

end Go.Proofs.Ytkkigoamphkalaa
namespace Go.Proofs.Ytkkigoamphkalaa
open Go.RowKit Ph

theorem filt_yes {p : Int → Bool} {zs : List Int} {k : Nat} (h : k < zs.length) (hp : p (zs.getD k 0) = true) : (zs.take (k + 1)).filter p = (zs.take k).filter p ++ [zs.getD k 0] := by
  have e : zs.getD k 0 = zs[k] := by simp [List.getD, List.getElem?_eq_getElem h]
  rw [List.take_succ_eq_append_getElem h, List.filter_append, ← e, List.filter_cons_of_pos hp]; rfl
theorem filt_no {p : Int → Bool} {zs : List Int} {k : Nat} (h : k < zs.length) (hp : p (zs.getD k 0) = false) : (zs.take (k + 1)).filter p = (zs.take k).filter p := by
  have e : zs.getD k 0 = zs[k] := by simp [List.getD, List.getElem?_eq_getElem h]
  rw [List.take_succ_eq_append_getElem h, List.filter_append, ← e, List.filter_cons_of_neg (by rw [hp]; decide)]; simp
theorem filt_len (p : Int → Bool) (zs : List Int) (k : Nat) : ((zs.take k).filter p).length ≤ zs.length := Nat.le_trans (List.length_filter_le _ _) (by rw [List.length_take]; omega)
theorem lostR_no {h : H} {cs : List Int} (k : bothB h cs = false) : lostR h cs = [] := by unfold lostR; exact if_neg (by rw [k]; decide)
theorem lostR_yes {h : H} {cs : List Int} (k : bothB h cs = true) : lostR h cs = lostL h cs := by unfold lostR; exact if_pos k
set_option maxRecDepth 100000 in
set_option maxHeartbeats 6400000 in
theorem c_lostIn (a b c v : Value) (h : H) (cs : List Int) (w : World) (hA : HeapAt w a b c h) (hG : Ph.Good h) (hz : IntsAt w v cs) (hlen : cs.length = h.f.length) : Calls Try.prog 102 #[hv a b c, v] w fun e w' => ∃ v', e = .returned v' ∧ Own w' w.heap.size v' (lostL h cs) ∧ Below w.heap.size w w' := by
  obtain ⟨i0, hi, hz0, hz1, hz2⟩ := info_parts info_int
  have hb0 := below1 w (.cells (c3 a b c) 30)
  have A0 := Lib.hid (hA.below hb0)
  have Z0 := Lib.hid (hz.below hb0)
  have HB := Lib.hid hb0
  have R0 := Lib.hid (show RowH _ _ a b c from Row.new w 30 (c3 a b c))
  have HG := Lib.hid hG
  have HLE := Lib.hid hlen
  have HLO := Lib.hid (lostL_eq h cs)
  have HIN : Hid (∀ z ∈ ofB (reachL h.f h.r), inR cs.length z) := fun z hz => by
    obtain ⟨i, q1, q2⟩ := mem_ofB.1 hz
    have := (reachL_getD.1 q1).1
    right; omega
  have HTL : Hid ((ofB (reachL h.f h.r)).length ≤ 12) := Nat.le_trans (ofB_len _) (by rw [reachL_length]; exact hG.n)
  have HRL : Hid ((reachL h.f h.r).length ≤ 12) := by unfold Hid; rw [reachL_length]; exact hG.n
  have HRI : Hid (∀ z ∈ h.r, inR h.f.length z) := fun z hz => (refs_bound hG hG.rr z hz).imp id (fun q => ⟨q.1, q.2.1⟩)
  have HR4 : Hid (h.r.length ≤ 12) := by have := hG.rn; unfold Hid; omega
  have HGL : Hid ((grdL h.f cs).length = cs.length) := grdL_len _ _
  obtain ⟨va, vc, rfl⟩ := hz.shape
  clear hA hz hb0 hG hlen
  have c0 := R0.out.c0
  have c1 := R0.out.c1
  have c2 := R0.out.c2
  generalize lostL h cs = lo at *
  generalize hgl : grdL h.f cs = G at *
  have HGD := Lib.hid hgl; clear hgl
  generalize hn : cs.length = n at *
  have HN := Lib.hid hn; clear hn
  go_enter Try.func102, Try.ntmps102
  go_wp2_with fail
  refine (c_guardsIn _ _ _ _ h cs _ A0.out HG.out Z0.out (HN.out.trans HLE.out)).mono ?_
  rintro e w2 ⟨gv, rfl, ho2, hb2⟩
  rw [HGD.out] at ho2
  have B2 := Lib.hid (bst HB.out hb2 HB.out.size)
  have R2 := Lib.hid (R0.out.below hb2)
  have A2 := Lib.hid (A0.out.below hb2)
  have Z2 := Lib.hid (Z0.out.below hb2)
  have O2 := Lib.hid (owns_bools ho2)
  obtain ⟨ga, gc, hgv⟩ := own_boolshape ho2
  rw [HGL.out] at hgv
  subst hgv
  clear ho2 hb2 c0 c1 c2 A0 Z0 R0 HB
  have K2 := Lib.hid (Row.new w2 146 (gd2 (.slice none 0 0) (.slice none 0 0)))
  have ba := below1 w2 (.cells (gd2 (.slice none 0 0) (.slice none 0 0)) 146)
  have B3 := Lib.hid (below_setRow (bst B2.out ba B2.out.size) B2.out.size (gd2 (.slice va n vc) (.slice ga n gc)))
  have R3 : Hid (RowH _ w.heap.size _ _ _) := Row.putOther (Row.below R2.out ba) (gd2 (.slice va n vc) (.slice ga n gc)) (Nat.ne_of_lt (Row.lt R2.out))
  have LB := Lib.hid (below_setRow ba (Nat.le_refl _) (gd2 (.slice va n vc) (.slice ga n gc)))
  have Z3 := Lib.hid (Z2.out.below LB.out)
  have A3 := Lib.hid (A2.out.below LB.out)
  have O3 := Lib.hid (O2.out.below LB.out)
  have d0 := R3.out.c0
  have d1 := R3.out.c1
  have d2 := R3.out.c2
  clear ba
  go_wp2_with (refine wl_storeG rfl _ _ rfl w2.heap.size (.slice va n vc) (.slice ga n gc) _ _ K2.out rfl rfl rfl rfl ?_)
  have K3 := Lib.hid (Row.put K2.out (gd2 (.slice va n vc) (.slice ga n gc)))
  clear K2 B2 R2 LB Z2 O2 A2 d0 d1 d2
  generalize (w2.alloc (.cells (gd2 (.slice none 0 0) (.slice none 0 0)) 146)).setRow w2.heap.size (gd2 (.slice va n vc) (.slice ga n gc)) = w3 at *
  generalize w2.heap.size = gG at *
  refine (c_reachedOver _ _ _ _ h h.r _ A3.out HG.out A3.out.r HR4.out HRI.out).mono ?_
  rintro e w4 ⟨v4, rfl, ho4, hb4⟩
  have B4 := Lib.hid (bst B3.out hb4 B3.out.size)
  have Z4 := Lib.hid (Z3.out.below hb4)
  have O4 := Lib.hid (O3.out.below hb4)
  have K4 := Lib.hid (Row.below K3.out hb4)
  have Q4 := Lib.hid ho4
  obtain ⟨qa, qc, rfl⟩ := own_boolshape ho4
  clear ho4 hb4 B3 Z3 A3 O3 K3 R3
  go_wp2_with fail
  refine (c_thingsOfB _ _ _ (owns_bools Q4.out) HRL.out).mono ?_
  rintro e w5 ⟨v5, rfl, ho5, hb5⟩
  have B5 := Lib.hid (bst B4.out hb5 B4.out.size)
  have Z5 := Lib.hid (Z4.out.below hb5)
  have O5 := Lib.hid (O4.out.below hb5)
  have K5 := Lib.hid (Row.below K4.out hb5)
  have T5 := Lib.hid ho5.ints
  obtain ⟨ta, tc, rfl⟩ := ho5.ints.shape
  clear ho5 hb5 B4 Z4 O4 K4 Q4
  generalize ofB (reachL h.f h.r) = ts at *
  generalize hm : ts.length = m at *
  have HM := Lib.hid hm; clear hm
  have hm12 := HTL.out
  go_wp2_with fail
  go_loopw [6, 18] (fun t i wr => ∃ j : Nat, j ≤ m ∧ i = .int .i64 j ∧ Hid (Own wr w5.heap.size t ((ts.take j).filter (missB cs G))) ∧ Hid (Below w5.heap.size w5 wr)) (fun _ i _ => m - (intOf i).toNat)
  case atStart => exact ⟨0, Nat.zero_le _, rfl, Own.nil _ _, Below.refl _ _⟩
  case round =>
    obtain ⟨j, hj, rfl, ho, hbr⟩ := hrel
    by_cases hlt : j < m
    · obtain ⟨tb, to, rfl, hct⟩ := (T5.out.below hbr.out).at' (by omega)
      have q := hct j hlt
      have hjl : j < ts.length := by rw [HM.out]; exact hlt
      have HZI := Lib.hid (HIN.out _ (getD_memI hjl))
      have HY := Lib.hid (filt_yes (p := missB cs G) hjl)
      have HNO := Lib.hid (filt_no (p := missB cs G) hjl)
      have HFL := Lib.hid (filt_len (missB cs G) ts j)
      have g0 := Row.cell (Row.below K5.out hbr.out) 0
      have g1 := Row.cell (Row.below K5.out hbr.out) 1
      have Z6 := Lib.hid (Z5.out.below hbr.out); have O6 := Lib.hid (O5.out.below hbr.out)
      have j1 : (j : Int) < (m : Int) := by omega
      have j0 : (0 : Int) ≤ (j : Int) := by omega
      clear hct hjl
      generalize ts.getD j 0 = z at *
      go_wp2_with fail
      refine (c_misses _ _ cs G z _ Z6.out O6.out (by rw [HGL.out, HN.out]) (by rw [HN.out]; exact HZI.out)).mono ?_
      rintro e w7 ⟨rfl, hb7⟩
      have O7 := Lib.hid (ho.out.below hb7)
      have B7 := Lib.hid (bst hbr.out hb7 hbr.out.size)
      clear hb7 g0 g1 Z6 O6 q
      generalize missB cs G z = x at *
      cases x
      · have HE := Lib.hid (HNO.out rfl)
        clear HY HNO
        go_wp2_with fail
        go_roundw
        case rel => exact ⟨j + 1, by omega, by go_num, by rw [HE.out]; exact O7, B7⟩
        case measure => simp [intOf]; omega
      · have HE := Lib.hid (HY.out rfl)
        have HS := Lib.hid (src_int w7 z)
        have HB1 := Lib.hid (B7.out.alloc B7.out.size (.cells #[.int .i64 z] 3))
        have HO1 := Lib.hid (O7.out.below (below1 w7 (.cells #[.int .i64 z] 3)))
        clear HY HNO
        go_wp2_with (at_builtin; refine wl_appOwn _ rfl _ _ 24 rfl w5.heap.size 3 i0 (.int .i64 0) 8 Try.underlying24 hi hz0 hz1 hz2 rfl u6 _ _ rfl HO1.out _ _ rfl HS.out (by have := HFL.out; rw [HM.out] at this; simp; unfold maxLen; omega) (by have := HFL.out; rw [HM.out] at this; simp; omega) HB1.out.size ?_; intro v8 w8 ho8 hg8 hbl8; have O8 : Hid (Own w8 w5.heap.size v8 ((ts.take j).filter (missB cs G) ++ [z])) := by { unfold Hid Own; rw [List.map_append, List.length_append]; exact ho8 }; have B8 := Lib.hid (HB1.out.grown hg8 HB1.out.size (fun g' hg' => (owns_lt HO1.out hg').1)); clear ho8 hg8 hbl8)
        go_roundw
        case rel => exact ⟨j + 1, by omega, by go_num, by rw [HE.out]; exact O8, B8⟩
        case measure => simp [intOf]; omega
    · have HE : Hid (lo = (ts.take j).filter (missB cs G)) := by unfold Hid; rw [HLO.out, List.take_of_length_le (by rw [HM.out]; omega)]
      have BS := Lib.hid B5.out.size
      have B9 := Lib.hid (bst B5.out hbr.out B5.out.size)
      go_wp2_with fail
      go_ret
      exact ⟨_, rfl, by rw [HE.out]; exact ho.out.mono BS.out, B9.out⟩
set_option maxRecDepth 100000 in
set_option maxHeartbeats 3200000 in
theorem c_LostIn (a b c v : Value) (h : H) (cs : List Int) (w : World) (hA : HeapAt w a b c h) (hz : IntsAt w v cs) : Calls Try.prog 34 #[hv a b c, v] w (EndI (lostR h cs) (bothB h cs) w) := by
  have hb0 := below1 w (.cells (c3 a b c) 30)
  have A0 := Lib.hid (hA.below hb0)
  have Z0 := Lib.hid (hz.below hb0)
  have HB := Lib.hid hb0
  have R0 := Lib.hid (show RowH _ _ a b c from Row.new w 30 (c3 a b c))
  clear hA hb0
  have HC := Lib.hid (c_areColoursOf a b c v h cs _ A0.out Z0.out)
  have HE1 := Lib.hid (lostR_no (h := h) (cs := cs))
  have HE2 := Lib.hid (lostR_yes (h := h) (cs := cs))
  have HBB := Lib.hid (bothB_iff (h := h) (cs := cs)).1
  skip
  obtain ⟨va, vc, rfl⟩ := hz.shape
  clear hz
  generalize hx : bothB h cs = x at *
  have HX := Lib.hid hx; clear hx
  have c0 := R0.out.c0
  have c1 := R0.out.c1
  have c2 := R0.out.c2
  cases x
  · have HR := Lib.hid (HE1.out rfl)
    go_enter Try.func34, Try.ntmps34
    go_wp2_with (go_at_call 101; refine HC.out.mono ?_; rintro e w1 ⟨rfl, hb1⟩; have B1 := Lib.hid (bst HB.out hb1 HB.out.size); clear hb1)
    go_ret2
    exact endI_no B1.out HR.out rfl
  have HR := Lib.hid (HE2.out rfl)
  obtain ⟨hG, hlen, hcol⟩ := HBB.out rfl
  have HG := Lib.hid hG
  have HLE := Lib.hid hlen
  clear hG hcol HBB hlen
  go_enter Try.func34, Try.ntmps34
  go_wp2_with (go_at_call 101; refine HC.out.mono ?_; rintro e w1 ⟨rfl, hb1⟩; have B1 := Lib.hid (bst HB.out hb1 HB.out.size); have Z1 := Lib.hid (Z0.out.below hb1); have A1 := Lib.hid (A0.out.below hb1); have R1 := Lib.hid (R0.out.below hb1); have d0 := R1.out.c0; have d1 := R1.out.c1; have d2 := R1.out.c2; clear hb1)
  refine (c_lostIn _ _ _ _ h cs _ A1.out HG.out Z1.out HLE.out).mono ?_
  rintro e w2 ⟨v2, rfl, ho2, hb2⟩
  have B2 := Lib.hid (bst B1.out hb2 B1.out.size)
  have O2 := Lib.hid ho2
  have BS := Lib.hid B1.out.size
  clear ho2 hb2
  go_wp2_with fail
  go_ret2
  exact endI_yes B2.out O2.out BS.out HR.out rfl
end Go.Proofs.Ytkkigoamphkalaa
