/- The project's visit of the objects: a closure that calls itself. -/
import Derived.Test.YtdagkbgobnaijabHw3
import Derived.Test.YtdagkbgobnaijabHw4
import Derived.Test.YtdagkbgobnaijabHe1
namespace Go.Proofs.Ytdagkbgobnaijab.Ph
theorem left_mono : ∀ (S S' : List Bool), S'.length = S.length → (∀ k, S.getD k false = true → S'.getD k false = true) → left S' ≤ left S
  | [], [], _, _ => Nat.le_refl _
  | [], _ :: _, h, _ => by simp at h
  | _ :: _, [], h, _ => by simp at h
  | b :: S, b' :: S', h, hs => by
    have h1 := left_mono S S' (by simpa using h) (fun k hk => by have := hs (k + 1) (by simpa using hk); simpa using this)
    unfold left at h1 ⊢
    have h0 := hs 0
    cases b <;> cases b' <;> simp_all <;> omega
theorem Vis.left {fs : List (List Int)} {zs : List Int} {S S' : List Bool} (h : Vis fs zs S S') : left S' ≤ left S := left_mono S S' h.len h.sub
end Go.Proofs.Ytdagkbgobnaijab.Ph
namespace Go.Proofs.Ytdagkbgobnaijab
open Go.RowKit Ph

/-- The closure, its captured variables, and what it reads. -/
structure Vst (w : World) (g gr gv gh n lo : Nat) (a b c : Value) (S : List Bool) : Prop where
  own : OwnBs w lo (.slice (some ⟨g, 0, none⟩) n n) S
  r : Row w gr 24 #[.slice (some ⟨g, 0, none⟩) n n]
  v : Row w gv 132 #[.func (.func 138) #[] #[.pointer (some ⟨gr, 0, none⟩), .pointer (some ⟨gv, 0, none⟩), .pointer (some ⟨gh, 0, none⟩)]]
  h : RowH w gh a b c
theorem cellGrown {w w' : World} {g : Nat} {p : Addr} {x : Value} (hg : w.grownBy w' (some g)) (hp : p.block ≠ g) (h : w.cell? p = some x) : w'.cell? p = some x := by
  have hb := hg.block p.block (block_lt_of_cell h) (by simpa using hp)
  rw [World.cell?, hb]; exact h
theorem grown_drew (w : World) (r : Option Nat) : w.grownBy w.drew r := ⟨rfl, rfl, rfl, Nat.le_refl _, fun _ _ _ => rfl⟩
theorem OwnBs.stored {w : World} {B g n cap : Nat} {S : List Bool} (h : OwnBs w B (.slice (some ⟨g, 0, none⟩) n cap) S) (hn : S.length = n) {z : Nat} (hz : z < n) (x : Bool) : OwnBs (w.setCell ⟨g, z, none⟩ (.bool x)) B (.slice (some ⟨g, 0, none⟩) n cap) (S.set z x) ∧ w.grownBy (w.setCell ⟨g, z, none⟩ (.bool x)) (some g) ∧ w.cell? ⟨g, z, none⟩ = some (.bool (S.getD z false)) ∧ w.frozen? ⟨g, z, none⟩ = false := by
  unfold OwnBs at h
  rw [hn] at h
  obtain ⟨s1, s2⟩ := h.stored z (.bool x)
  refine ⟨?_, s2, ?_, h.frozenAt z⟩
  · unfold OwnBs
    rw [List.length_set, hn, List.map_set]
    exact s1
  · rw [h.cellAt z (by omega), List.getElem?_map, List.getElem?_eq_getElem (by omega)]
    simp [List.getD, List.getElem?_eq_getElem (show z < S.length by omega)]
theorem Vst.step {w w' : World} {g gr gv gh n lo : Nat} {a b c : Value} {S S' : List Bool} (k : Vst w g gr gv gh n lo a b c S) (hg : w.grownBy w' (some g)) (h1 : g ≠ gr) (h2 : g ≠ gv) (h3 : g ≠ gh) (ho : OwnBs w' lo (.slice (some ⟨g, 0, none⟩) n n) S') : Vst w' g gr gv gh n lo a b c S' :=
  ⟨ho, Row.grownBy k.r hg (by simpa using h1), Row.grownBy k.v hg (by simpa using h2), Row.grownBy k.h hg (by simpa using h3)⟩
def inR (n : Nat) (z : Int) : Prop := z = -1 ∨ (0 ≤ z ∧ z < n)
set_option maxRecDepth 100000 in
set_option maxHeartbeats 6400000 in
theorem c_visit (W : World) (g gr gv gh n lo : Nat) (a b c : Value) (fs : List (List Int)) (hlo : W.heap.size ≤ g) (h1 : g ≠ gr) (h2 : g ≠ gv) (h3 : g ≠ gh) (hF : RowsAt W a fs) (hn : fs.length = n) (hn1 : n ≤ 12) (hrow : ∀ i, i < n → ∀ z ∈ fs.getD i [], inR n z) (hrl : ∀ i, i < n → (fs.getD i []).length ≤ 3) (fuel : Nat) :
    ∀ (v : Value) (zs : List Int) (S : List Bool) (w : World), left S ≤ fuel → S.length = n → IntsAt W v zs → zs.length ≤ 12 → (∀ z ∈ zs, inR n z) → Below W.heap.size W w → Vst w g gr gv gh n lo a b c S →
      Calls Try.prog 138 #[v, .pointer (some ⟨gr, 0, none⟩), .pointer (some ⟨gv, 0, none⟩), .pointer (some ⟨gh, 0, none⟩)] w fun e w' => e = .returned (.tuple #[]) ∧ ∃ S', Vis fs zs S S' ∧ OwnBs w' lo (.slice (some ⟨g, 0, none⟩) n n) S' ∧ w.grownBy w' (some g) := by
  induction fuel using Nat.strongRecOn with
  | ind fuel ih =>
    intro v zs S w hleft hSn hz hzl hzr hB hV
    obtain ⟨fa, fc, rfl⟩ := hF.shape
    rw [hn] at *
    obtain ⟨va, vc, rfl⟩ := hz.shape
    have HZ := Lib.hid hz; have HZR := Lib.hid hzr; have HB := Lib.hid hB; have HV := Lib.hid hV; have HF := Lib.hid hF; have IH := Lib.hid ih; have HROW := Lib.hid hrow; have HRL := Lib.hid hrl; have HSN := Lib.hid hSn; have HFN := Lib.hid hn; have HLO := Lib.hid hlo; have HLE := Lib.hid hleft
    clear hz hzr hB hV hF ih hrow hrl hSn hn hlo hleft
    generalize hm : zs.length = m at *
    have HM := Lib.hid hm; clear hm
    go_enter Try.func138, Try.ntmps138
    go_wp2
    go_loopw [9] (fun i wr => ∃ j : Nat, j ≤ m ∧ i = .int .i64 j ∧ ∃ S', Hid (Vis fs (zs.take j) S S') ∧ Hid (Vst wr g gr gv gh n lo (.slice fa n fc) b c S') ∧ Hid (w.grownBy wr (some g))) (fun i _ => m - (intOf i).toNat)
    case atStart => exact ⟨0, Nat.zero_le _, rfl, S, Vis.start fs zs S, HV.out, World.grownBy.refl _ _⟩
    case round =>
      obtain ⟨j, hj, rfl, S', hvis, hvst, hgr⟩ := hrel
      by_cases hlt : j < m
      · obtain ⟨zb, zo, rfl, hc⟩ := HZ.out.at' (by omega)
        have BR : Below W.heap.size W wr := by
          have := HLO.out
          exact HB.out.grown hgr.out HB.out.size (fun k hk => by cases hk; omega)
        have q := cellBelow BR (Nat.le_refl _) (hc j hlt)
        have hjl : j < zs.length := by rw [HM.out]; exact hlt
        have hin := HZR.out (zs.getD j 0) (by rw [List.getD, List.getElem?_eq_getElem hjl]; exact List.getElem_mem hjl)
        have hSl : S'.length = n := by rw [hvis.out.len, HSN.out]
        have cr := hvst.out.r.cell 0
        have i1 : (j : Int) < (m : Int) := by omega
        have HJL := Lib.hid hjl
        clear hc
        generalize hzj : zs.getD j 0 = z at *
        have HZJ := Lib.hid hzj
        clear hzj hjl
        by_cases z1 : z = -1
        · subst z1
          have HE : Hid (Vis fs (zs.take (j + 1)) S S') := hvis.out.skip HJL.out (.inl HZJ.out)
          clear hin
          go_wp2_with fail
          go_roundw
          case rel => exact ⟨j + 1, by omega, by go_num, S', HE, hvst, hgr⟩
          case measure => simp [intOf]; omega
        · obtain ⟨t, rfl⟩ : ∃ t : Nat, z = t := ⟨z.toNat, by rcases hin with h | h <;> omega⟩
          have htn : t < n := by rcases hin with h | h <;> omega
          obtain ⟨s1, s2, s3, s4⟩ := hvst.out.own.stored hSl htn true
          have i2 : ((t : Int) == -1) = false := by simp
          have i3 : (t : Int) < (n : Int) := by omega
          have i4 : (0 : Int) ≤ (t : Int) := by omega
          generalize hx : S'.getD t false = x at *
          have HX := Lib.hid hx
          clear hin z1 hx
          cases x
          · have hls := left_set (S := S') (z := t) (by omega) HX.out
            have hlm := hvis.out.left
            have V1 := hvst.out.step s2 h1 h2 h3 s1
            obtain ⟨fb, fo, rfl, hcf⟩ := HF.out.at' (by omega)
            obtain ⟨u, quf, huf⟩ := hcf t htn
            have B1 : Below W.heap.size W (wr.setCell ⟨g, t, none⟩ (.bool true)) := BR.setCell (p := ⟨g, t, none⟩) (by have := HLO.out; exact this) (.bool true)
            have qu := cellBelow B1 (Nat.le_refl _) quf
            have IHC := IH.out (left (S'.set t true)) (by have := HLE.out; omega) u (fs.getD t []) (S'.set t true)
            have HC : Hid (∀ w', Below W.heap.size W w' → Vst w' g gr gv gh n lo (.slice (some ⟨fb, fo, none⟩) n fc) b c (S'.set t true) → Calls Try.prog 138 #[u, .pointer (some ⟨gr, 0, none⟩), .pointer (some ⟨gv, 0, none⟩), .pointer (some ⟨gh, 0, none⟩)] w' fun e w'' => e = .returned (.tuple #[]) ∧ ∃ S2, Vis fs (fs.getD t []) (S'.set t true) S2 ∧ OwnBs w'' lo (.slice (some ⟨g, 0, none⟩) n n) S2 ∧ w'.grownBy w'' (some g)) := fun w' hb hv =>
              IHC w' (Nat.le_refl _) (by rw [List.length_set]; exact hSl) huf (by have := HRL.out t htn; omega) (HROW.out t htn) hb hv
            obtain ⟨ua, uc, hu⟩ := huf.shape
            subst hu
            have HV1 := Lib.hid V1; have HB1 := Lib.hid B1; have HS2 := Lib.hid s2; have HSL := Lib.hid hSl
            clear hls hlm V1 hcf huf B1 IHC s1 s2 hSl
            generalize (fs.getD t []).length = ul at *
            have hfb : fb ≠ g := by have h1 := block_lt_of_cell quf; have h2 := HLO.out; simp only at h1; omega
            clear quf
            go_wp2_with fail
            generalize (wr.setCell ⟨g, t, none⟩ (.bool true)) = cur at *
            have cv : cur.drew.cell? ⟨gv, 0, none⟩ = some (.func (.func 138) #[] #[.pointer (some ⟨gr, 0, none⟩), .pointer (some ⟨gv, 0, none⟩), .pointer (some ⟨gh, 0, none⟩)]) := HV1.out.v.cell 0
            have ch : cur.drew.cell? ⟨gh, 0, none⟩ = some (.slice (some ⟨fb, fo, none⟩) n fc) := HV1.out.h.c0
            replace qu : cur.drew.cell? ⟨fb, fo + t, none⟩ = some (.slice ua ul uc) := qu
            have BD := grown_drew cur (some g)
            have BW : Hid (Below W.heap.size W cur.drew) := below_drew HB1.out
            have VD : Hid (Vst cur.drew g gr gv gh n lo (.slice (some ⟨fb, fo, none⟩) n fc) b c (S'.set t true)) := ⟨HV1.out.own, HV1.out.r, HV1.out.v, HV1.out.h⟩
            have k1 := Lib.hid (Ne.symm h2); have k2 := Lib.hid (Ne.symm h3); have k3 := Lib.hid hfb
            go_region_held3 (fun w' => w'.cell? ⟨gv, 0, none⟩ = some (.func (.func 138) #[] #[.pointer (some ⟨gr, 0, none⟩), .pointer (some ⟨gv, 0, none⟩), .pointer (some ⟨gh, 0, none⟩)]) ∧ w'.cell? ⟨gh, 0, none⟩ = some (.slice (some ⟨fb, fo, none⟩) n fc) ∧ w'.cell? ⟨fb, fo + t, none⟩ = some (.slice ua ul uc) ∧ cur.grownBy w' (some g))
              (first
                | (with_reducible exact ⟨cv, ch, qu, BD⟩)
                | (go_split_ands
                   exact ⟨cellGrown hbk k1.out (by assumption), cellGrown hbk k2.out (by assumption), cellGrown hbk k3.out (by assumption), grownBy_trans (by assumption) hbk⟩)
                | (go_split_ands; refine ⟨?_, ?_, ?_, ?_⟩ <;> assumption))
              (first
                | (go_at_call 138; refine (HC.out _ BW.out VD.out).mono ?_; rintro e w6 ⟨rfl, S2, hvis2, hown2, hbk⟩))
            have hg6 : cur.grownBy w6 (some g) := by go_split_ands; assumption
            have HE : Hid (Vis fs (zs.take (j + 1)) S S2) := hvis.out.down HJL.out HZJ.out (by rw [HSL.out]; exact htn) hvis2
            have HG6 : Hid (w.grownBy w6 (some g)) := grownBy_trans (grownBy_trans hgr.out HS2.out) hg6
            have HV6 : Hid (Vst w6 g gr gv gh n lo (.slice (some ⟨fb, fo, none⟩) n fc) b c S2) := HV1.out.step hg6 h1 h2 h3 hown2
            clear hg6 hown2 hvis2 cv ch qu BD BW VD
            go_wp2_with fail
            go_roundw
            case rel => exact ⟨j + 1, by omega, by go_num, S2, HE, HV6, HG6⟩
            case measure => simp [intOf]; omega
          · have HE : Hid (Vis fs (zs.take (j + 1)) S S') := hvis.out.skip HJL.out (.inr (by rw [HZJ.out]; simpa using HX.out))
            go_wp2_with fail
            go_roundw
            case rel => exact ⟨j + 1, by omega, by go_num, S', HE, hvst, hgr⟩
            case measure => simp [intOf]; omega
      · obtain rfl : j = m := by omega
        have HE : Hid (zs.take j = zs) := List.take_of_length_le (by rw [HM.out]; exact Nat.le_refl _)
        go_wp2_with fail
        go_end0
        exact ⟨rfl, S', by rw [← HE.out]; exact hvis.out, hvst.out.own, hgr.out⟩
end Go.Proofs.Ytdagkbgobnaijab
