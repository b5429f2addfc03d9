/- The project's marking: the choices, and the loop that scans. -/
import Derived.Test.YtdagkbgobnaijaaCs5
namespace Go.Proofs.Ytdagkbgobnaijaa
open Go.RowKit Ph

theorem c_areChoices (v : Value) (zs : List Int) (w : World) (hz : IntsAt w v zs) : Calls Try.prog 107 #[v] w fun e w' => e = .returned (.bool (choB zs)) ∧ w = w' := by
  have HZ := Lib.hid hz
  obtain ⟨va, vc, rfl⟩ := hz.shape
  clear hz
  have hE : choB zs = (decide (zs.length ≤ 40) && zs.all (inB 0 100)) := rfl
  have HC : Hid (zs.length ≤ 40 → Calls Try.prog 126 #[.slice va zs.length vc, .int .i64 0, .int .i64 100] w fun e w' => e = .returned (.bool (zs.all (inB 0 100))) ∧ w = w') := fun h => c_areWithin _ zs 0 100 w HZ.out (by omega)
  generalize zs.all (inB 0 100) = x at *
  generalize choB zs = y at *
  generalize zs.length = n at *
  by_cases h : n ≤ 40
  · have hn : (n : Int) ≤ 40 := by omega
    have HE : Hid (y = x) := by unfold Hid; rw [hE, decide_eq_true h]; simp
    clear hE
    go_enter Try.func107, Try.ntmps107
    go_wp2_with (go_at_call 126; refine (HC.out h).mono ?_; rintro e w1 ⟨rfl, rfl⟩)
    go_ret
    exact ⟨r_b HE.out.symm, rfl⟩
  · have hn : ¬ (n : Int) ≤ 40 := by omega
    have HE : Hid (y = false) := by unfold Hid; rw [hE, decide_eq_false h]; simp
    clear hE
    go_enter Try.func107, Try.ntmps107
    go_wp2
    go_ret
    exact ⟨r_b HE.out.symm, rfl⟩
theorem c_byChoices (a : Option Addr) (n cap : Nat) (w : World) : Calls Try.prog 84 #[.slice a n cap] w fun e w' => e = .returned (.func (.func 119) #[] #[.pointer (some ⟨w.heap.size + 1, 0, none⟩), .pointer (some ⟨w.heap.size, 0, none⟩)]) ∧ w' = (w.alloc (.cells #[.slice a n cap] 24)).alloc (.cells #[.int .i64 0] 3) := by
  go_enter Try.func84, Try.ntmps84
  go_wp2
  go_ret
  exact ⟨rfl, rfl⟩
theorem chg1 (w : World) (g k : Nat) (x : Value) : Chg g (g + 1) w (w.setCell ⟨g, k, none⟩ x) :=
  have bb := (Below.refl g w).setCell (p := ⟨g, k, none⟩) (Nat.le_refl _) x
  ⟨bb.os, bb.tape, bb.output, bb.size, fun i _ hx => heap_setCell_other w ⟨g, k, none⟩ i _ (by simp only; omega)⟩
set_option maxHeartbeats 1600000 in
theorem c_pickOf (W : World) (gu gb q n : Nat) (cv : Value) (zs : List Int) (w : World) (hz : IntsAt W cv zs) (hB : Below W.heap.size W w) (hU : Row w gu 3 #[.int .i64 ((min n zs.length : Nat) : Int)]) (hC : Row w gb 24 #[cv]) (hx : 0 ≤ zs.getD n 0 ∧ zs.getD n 0 ≤ 100) (hzl : zs.length ≤ 40) (hq : 0 < q) (hgu : W.heap.size ≤ gu) (hne : gb ≠ gu) :
    Calls Try.prog 119 #[.int .i64 (q : Int), .pointer (some ⟨gu, 0, none⟩), .pointer (some ⟨gb, 0, none⟩)] w fun e w' => e = .returned (.int .i64 ((zs.getD n 0).tmod (q : Int))) ∧ Row w' gu 3 #[.int .i64 ((min (n + 1) zs.length : Nat) : Int)] ∧ w.grownBy w' (some gu) := by
  obtain ⟨va, vc, rfl⟩ := hz.shape
  have cu := hU.cell 0
  have fu := hU.frozen 0
  have cb := hC.cell 0
  by_cases hn : n < zs.length
  · obtain ⟨vb, vo, rfl, hcv⟩ := hz.at' (by omega)
    have hvl := hcv n hn
    have hvb := block_lt_of_cell hvl
    have hvn : vb ≠ gu := by simp only at hvb; omega
    have qv := cellBelow hB (Nat.le_refl _) hvl
    have e1 : min n zs.length = n := by omega
    have e2 : min (n + 1) zs.length = n + 1 := by omega
    rw [e1] at hU cu
    rw [e2]
    have hs := hU.set 0 (.int .i64 ((n + 1 : Nat) : Int))
    have RU : Hid (Row (w.setCell ⟨gu, 0, none⟩ (.int .i64 ((n + 1 : Nat) : Int))) gu 3 #[.int .i64 ((n + 1 : Nat) : Int)]) := by unfold Hid; simpa using hs
    have GU := Lib.hid (chg1 w gu 0 (.int .i64 ((n + 1 : Nat) : Int)))
    have hcast : ((n + 1 : Nat) : Int) = (n : Int) + 1 := by omega
    rw [hcast] at RU GU ⊢
    have RB := Row.other hC ⟨gu, 0, none⟩ hne (.int .i64 ((n : Int) + 1))
    have cb2 := RB.cell 0
    have cu2 := RU.out.cell 0
    have qv2 : (w.setCell ⟨gu, 0, none⟩ (.int .i64 ((n : Int) + 1))).cell? ⟨vb, vo + n, none⟩ = some (.int .i64 (zs.getD n 0)) := by
      rw [World.cell?, heap_setCell_other w ⟨gu, 0, none⟩ vb _ hvn]; exact qv
    have hlt1 : (n : Int) < (zs.length : Int) := by omega
    have hw1 : IntKind.i64.wrap ((n : Int) + 1) = (n : Int) + 1 := IntWalk.i64_in _ (by omega)
    have hw2 : IntKind.i64.wrap ((n : Int) + 1 - 1) = (n : Int) := by rw [IntWalk.i64_in _ (by omega)]; omega
    have hneq : ((n : Int) == (zs.length : Int)) = false := by simp; omega
    have hn0 : (0 : Int) ≤ (n : Int) := by omega
    have hq0 : ¬ q = 0 := by omega
    have hm40 : Hid (zs.length ≤ 40) := hzl
    clear hz hB hU hC hcv hvl hs RB e1 e2 hcast hvb
    generalize zs.length = m at *
    generalize zs.getD n 0 = x at *
    go_enter Try.func119, Try.ntmps119
    go_wp2_with fail
    go_ret
    exact ⟨r_i (Int.tmod_eq_emod_of_nonneg hx.1).symm, RU.out, ⟨GU.out.os, GU.out.tape, GU.out.output, GU.out.size, fun i hi hx => GU.out.block i hi (by have : i ≠ gu := fun e => hx (by rw [e]); omega)⟩⟩
  · have e1 : min n zs.length = zs.length := by omega
    have e2 : min (n + 1) zs.length = zs.length := by omega
    have e3 : zs.getD n 0 = 0 := getD_outI hn
    rw [e1] at hU cu
    rw [e2, e3, Int.zero_tmod]
    have RU := Lib.hid hU
    have hneq : ((zs.length : Int) == (zs.length : Int)) = true := by simp
    clear hz hB hU hC e1 e2 e3
    generalize zs.length = m at *
    go_enter Try.func119, Try.ntmps119
    go_wp2_with fail
    go_ret
    exact ⟨rfl, RU.out, World.grownBy.refl _ _⟩
/-- While the marking goes on. -/
structure Finis (W w wr : World) (gm gu gb : Nat) (a b c v p cv : Value) (h : H) (zs : List Int) (n : Nat) (cs : List Int) : Prop where
  mark : Mk h cs n
  own : Own wr W.heap.size v cs
  m : Row wr gm 97 (c5 a b c v p)
  u : Row wr gu 3 #[.int .i64 ((min n zs.length : Nat) : Int)]
  b : Row wr gb 24 #[cv]
  low : Below W.heap.size W wr
  fr : ∀ i, i < w.heap.size → v.ownBlock ≠ some i → i ≠ gu → wr.heap[i]? = w.heap[i]?
  sz : w.heap.size ≤ wr.heap.size
section
variable {W w wr w' : World} {gm gu gb n : Nat} {a b c v p cv : Value} {h : H} {zs cs : List Int}
theorem Finis.below (k : Finis W w wr gm gu gb a b c v p cv h zs n cs) (hb : Below wr.heap.size wr w') : Finis W w w' gm gu gb a b c v p cv h zs n cs :=
  ⟨k.mark, k.own.below hb, k.m.below hb, k.u.below hb, k.b.below hb, bst k.low hb k.low.size, fun i hi h1 h2 => (hb.block i (Nat.lt_of_lt_of_le hi k.sz)).trans (k.fr i hi h1 h2), Nat.le_trans k.sz hb.size⟩
theorem Finis.rest (k : Finis W w wr gm gu gb a b c v p cv h zs n cs) (hg : wr.grownBy w' (some gu)) (hu : Row w' gu 3 #[.int .i64 ((min (n + 1) zs.length : Nat) : Int)]) (hgu : W.heap.size ≤ gu) (h1 : v.ownBlock ≠ some gu) (h2 : gm ≠ gu) (h3 : gb ≠ gu) :
    Own w' W.heap.size v cs ∧ Row w' gm 97 (c5 a b c v p) ∧ Row w' gb 24 #[cv] ∧ Below W.heap.size W w' ∧ (∀ i, i < w.heap.size → v.ownBlock ≠ some i → i ≠ gu → w'.heap[i]? = w.heap[i]?) ∧ w.heap.size ≤ w'.heap.size ∧ Row w' gu 3 #[.int .i64 ((min (n + 1) zs.length : Nat) : Int)] :=
  ⟨owns_block k.own fun g hg' => hg.block g (owns_lt k.own hg').2 (fun e => h1 (by rw [hg', e])), Row.grownBy k.m hg (by simpa using Ne.symm h2), Row.grownBy k.b hg (by simpa using Ne.symm h3), k.low.grown hg k.low.size (fun _ e => by cases e; exact hgu), fun i hi q1 q2 => (hg.block i (Nat.lt_of_lt_of_le hi k.sz) (by simpa using q2)).trans (k.fr i hi q1 q2), Nat.le_trans k.sz hg.size, hu⟩
theorem Finis.next {w2 : World} {cs' : List Int} {n' : Nat} (ho : Own w' W.heap.size v cs) (hm : Row w' gm 97 (c5 a b c v p)) (hb : Row w' gb 24 #[cv]) (hlow : Below W.heap.size W w') (hfr : ∀ i, i < w.heap.size → v.ownBlock ≠ some i → i ≠ gu → w'.heap[i]? = w.heap[i]?) (hsz : w.heap.size ≤ w'.heap.size) (hu : Row w' gu 3 #[.int .i64 ((min n' zs.length : Nat) : Int)])
    (hmk : Mk h cs' n') (hg : w'.grownBy w2 v.ownBlock) (ho2 : Own w2 W.heap.size v cs') (h1 : v.ownBlock ≠ some gu) (h2 : v.ownBlock ≠ some gm) (h3 : v.ownBlock ≠ some gb) : Finis W w w2 gm gu gb a b c v p cv h zs n' cs' :=
  ⟨hmk, ho2, Row.grownBy hm hg h2, Row.grownBy hu hg h1, Row.grownBy hb hg h3, hlow.grown hg hlow.size (fun _ e => (owns_lt ho e).1), fun i hi q1 q2 => (hg.block i (Nat.lt_of_lt_of_le hi hsz) (fun e => q1 e.symm)).trans (hfr i hi q1 q2), Nat.le_trans hsz hg.size⟩
end
set_option maxRecDepth 100000 in
set_option maxHeartbeats 3200000 in
theorem c_finish (W : World) (a b c v cv : Value) (h : H) (zs : List Int) (gu gb : Nat) (w : World) (hF : RowsAt W a h.f) (hG : Ph.Good h) (hz : IntsAt W cv zs) (hch : choB zs = true) (hB : Below W.heap.size W w) (ho : Own w W.heap.size v (startC h)) (hU : Row w gu 3 #[.int .i64 0]) (hC : Row w gb 24 #[cv]) (hgu : W.heap.size ≤ gu) (hne : v.ownBlock ≠ some gu) (hne2 : v.ownBlock ≠ some gb) (hgb : gb ≠ gu) :
    Calls Try.prog 86 #[mkv a b c v (.func (.func 119) #[] #[.pointer (some ⟨gu, 0, none⟩), .pointer (some ⟨gb, 0, none⟩)])] w fun e w' => e = .returned (.int .i64 (endN h : Int)) ∧ Own w' W.heap.size v (endC h) ∧ Below W.heap.size W w' ∧ (∀ i, i < w.heap.size → v.ownBlock ≠ some i → i ≠ gu → w'.heap[i]? = w.heap[i]?) := by
  have hb0 := below1 w (.cells (c5 a b c v (.func (.func 119) #[] #[.pointer (some ⟨gu, 0, none⟩), .pointer (some ⟨gb, 0, none⟩)])) 97)
  obtain ⟨hzl, hzr⟩ := choB_iff.1 hch
  have F0 : Finis W w (w.alloc (.cells (c5 a b c v (.func (.func 119) #[] #[.pointer (some ⟨gu, 0, none⟩), .pointer (some ⟨gb, 0, none⟩)])) 97)) w.heap.size gu gb a b c v (.func (.func 119) #[] #[.pointer (some ⟨gu, 0, none⟩), .pointer (some ⟨gb, 0, none⟩)]) cv h zs 0 (startC h) :=
    ⟨Mk.start hG, ho.below hb0, Row.new w _ _, by rw [Nat.zero_min]; exact Row.alloc hU _, Row.alloc hC _, bst hB hb0 hB.size, fun i hi _ _ => hb0.block i hi, hb0.size⟩
  have HGM : Hid (v.ownBlock ≠ some w.heap.size) := fun e => by have := (owns_lt ho e).2; omega
  have HMU : Hid (w.heap.size ≠ gu) := by unfold Hid; have := hU.lt; omega
  have HF := Lib.hid hF; have HG := Lib.hid hG; have HZ := Lib.hid hz; have HN1 := Lib.hid hne; have HN2 := Lib.hid hne2; have HGU := Lib.hid hgu; have HGB := Lib.hid hgb; have HZL := Lib.hid hzl; have HZR := Lib.hid hzr; have FF0 := Lib.hid F0
  clear hF hG hz hch hB ho hU hC hgu hne hne2 hgb hb0 F0 hzl hzr
  go_enter Try.func86, Try.ntmps86
  go_wp2
  generalize hgm : w.heap.size = gm at *
  generalize (w.alloc (.cells (c5 a b c v (.func (.func 119) #[] #[.pointer (some ⟨gu, 0, none⟩), .pointer (some ⟨gb, 0, none⟩)])) 97)) = w0 at *
  go_loopw [3] (fun i wr => ∃ n cs, i = .int .i64 (n : Nat) ∧ n ≤ 12 ∧ Hid (Finis W w wr gm gu gb a b c v (.func (.func 119) #[] #[.pointer (some ⟨gu, 0, none⟩), .pointer (some ⟨gb, 0, none⟩)]) cv h zs n cs)) (fun i _ => 13 - (intOf i).toNat)
  case atStart => exact ⟨0, startC h, rfl, Nat.zero_le _, FF0⟩
  case round =>
    obtain ⟨n, cs, rfl, hn12, hfin⟩ := hrel
    have hcl : cs.length ≤ 12 := by rw [hfin.out.mark.len]; exact HG.out.n
    have m3 := hfin.out.m.cell 3
    go_wp2_with fail
    refine (c_thingsOf v cs 1 wr hfin.out.own.ints hcl).mono ?_
    rintro e w4 ⟨v4, rfl, ho4, hb4⟩
    have F4 := Lib.hid (hfin.out.below hb4)
    have T4 := Lib.hid ho4.ints
    have T4B : Hid (∀ g, v4.ownBlock = some g → wr.heap.size ≤ g) := fun g e => (owns_lt ho4 e).1
    have HLR : Hid (gu < wr.heap.size) := hfin.out.u.lt
    have HDN := Lib.hid hfin.out.mark.done
    have HGA := Lib.hid (greyAt (cs := cs))
    have htl : (ofC cs 1).length ≤ 12 := Nat.le_trans (ofTo_len _ _ _) hcl
    rcases ho4.shape' with ⟨rfl, h0⟩ | ⟨tb, tc, rfl⟩
    · obtain ⟨e1, e2⟩ := HDN.out h0
      have HX1 : Hid (Own w4 W.heap.size v (endC h)) := by rw [← e1]; exact F4.out.own
      have HX2 : Hid ((n : Int) = (endN h : Int)) := by unfold Hid; rw [e2]
      clear e1 e2 ho4 hb4 m3
      go_wp2_with fail
      go_ret
      exact ⟨r_i HX2.out, HX1.out, F4.out.low, F4.out.fr⟩
    clear ho4 hb4 m3
    generalize ofC cs 1 = ts at *
    generalize hk : ts.length = q at *
    have HQ := Lib.hid hk; clear hk
    by_cases hq0 : q = 0
    · subst hq0
      obtain ⟨e1, e2⟩ := HDN.out (List.eq_nil_of_length_eq_zero HQ.out)
      have HX1 : Hid (Own w4 W.heap.size v (endC h)) := by rw [← e1]; exact F4.out.own
      have HX2 : Hid ((n : Int) = (endN h : Int)) := by unfold Hid; rw [e2]
      clear e1 e2
      go_wp2_with fail
      go_ret
      exact ⟨r_i HX2.out, HX1.out, F4.out.low, F4.out.fr⟩
    · have hq1 : ((q : Int) == 0) = false := by simp; omega
      have hq3 : 0 < q := by omega
      obtain ⟨hx0, hx100⟩ := HZR.out n
      obtain ⟨r, hrm, hrq⟩ := pickOf (zs.getD n 0) hx0 hq3
      obtain ⟨k, hgk, hkc, hk1⟩ := HGA.out r hrq
      have qt : w4.cell? ⟨tb, r, none⟩ = some (.int .i64 (ts.getD r 0)) := by
        obtain ⟨tb', to', e, q'⟩ := T4.out.at' hq3
        cases e
        have := q' r hrq
        rwa [Nat.zero_add] at this
      rw [hgk] at qt
      have r0 : (0 : Int) ≤ (r : Int) := by omega
      have r1 : (r : Int) < (q : Int) := by omega
      have HMK : Hid (Mk h (scan cs (h.f.getD k []) k) (n + 1)) := hfin.out.mark.step HG.out hkc hk1
      have hn1 : n + 1 ≤ 12 := by have := HMK.out.le; have := HG.out.n; omega
      have HKC := Lib.hid hkc
      have HK1 : Hid (cs.getD k 0 ≠ 0) := by unfold Hid; rw [hk1]; omega
      have HKF : Hid (k < h.f.length) := by unfold Hid; rw [← hfin.out.mark.len]; exact hkc
      have HIN : Hid (∀ z ∈ h.f.getD k [], inR cs.length z) := fun z hz => by rw [hfin.out.mark.len]; exact (HG.out.field hz).imp id (fun h => ⟨h.1, h.2.1⟩)
      have HRL : Hid ((h.f.getD k []).length ≤ 3) := (HG.out.row k (by rw [← hfin.out.mark.len]; exact hkc)).1
      have HTU : Hid (tb ≠ gu) := by unfold Hid; have := T4B.out tb rfl; have := HLR.out; omega
      have HTV : Hid (v.ownBlock ≠ some tb) := fun e => by have := T4B.out tb rfl; have := (owns_lt hfin.out.own e).2; omega
      have HPK := Lib.hid (fun w' hB hU hC => c_pickOf W gu gb q n cv zs w' HZ.out hB hU hC ⟨hx0, hx100⟩ HZL.out hq3 HGU.out HGB.out)
      rw [hrm] at HPK
      clear hgk hkc hk1 HDN HGA hrm hx100 hx0
      go_wp2_with fail
      have FD : Hid (Finis W w w4.drew gm gu gb a b c v (.func (.func 119) #[] #[.pointer (some ⟨gu, 0, none⟩), .pointer (some ⟨gb, 0, none⟩)]) cv h zs n cs) := F4.out.below (below_drew (Below.refl _ _))
      have d0 := FD.out.m.cell 0
      have d1 := FD.out.m.cell 1
      have d2 := FD.out.m.cell 2
      have d3 := FD.out.m.cell 3
      have d4 := FD.out.m.cell 4
      have dt : w4.drew.cell? ⟨tb, r, none⟩ = some (.int .i64 (k : Int)) := qt
      refine wp_region_held_drew (S := (fun w' => w'.cell? ⟨gm, 0, none⟩ = some a ∧ w'.cell? ⟨gm, 1, none⟩ = some b ∧ w'.cell? ⟨gm, 2, none⟩ = some c ∧ w'.cell? ⟨gm, 3, none⟩ = some v ∧ w'.cell? ⟨gm, 4, none⟩ = some (.func (.func 119) #[] #[.pointer (some ⟨gu, 0, none⟩), .pointer (some ⟨gb, 0, none⟩)]) ∧ w'.cell? ⟨tb, r, none⟩ = some (.int .i64 (k : Int)))) (by kernel_rfl) (⟨d0, d1, d2, d3, d4, dt⟩) (fun hHeld => ?_)
      refine wpAnyH_take (i := 0) (v := ?va0x1) rfl (by kernel_rfl) (by kernel_rfl) (by kernel_rfl) (fun _ _ _ h => h) (Or.inl ⟨by rfl, ?hy0x1⟩) (by assumption) ?rest0x1
      case hy0x1 => (intro w hSw; (try dsimp only at hSw); go_simp; try with_reducible rfl)
      (try simp only [Act.put, List.getElem_toArray, List.getElem_cons_zero, List.setIfInBounds_toArray, List.set_cons_zero, List.set_cons_succ])
      refine wpAnyH_take (i := 1) (v := ?va1x2) rfl (by kernel_rfl) (by kernel_rfl) (by kernel_rfl) (fun _ _ _ h => h) (Or.inl ⟨by rfl, ?hy1x2⟩) (by assumption) ?rest1x2
      case hy1x2 => (intro w hSw; (try dsimp only at hSw); go_simp; try with_reducible rfl)
      (try simp only [Act.put, List.getElem_toArray, List.getElem_cons_zero, List.getElem_cons_succ, List.setIfInBounds_toArray, List.set_cons_zero, List.set_cons_succ])
      refine wpAnyH_take (i := 2) (v := ?va2x3) rfl (by kernel_rfl) (by kernel_rfl) (by kernel_rfl) (fun _ _ _ h => h) (Or.inl ⟨by rfl, ?hy2x3⟩) (by assumption) ?rest2x3
      case hy2x3 => (intro w hSw; (try dsimp only at hSw); go_simp; try with_reducible rfl)
      (try simp only [Act.put, List.getElem_toArray, List.getElem_cons_zero, List.getElem_cons_succ, List.setIfInBounds_toArray, List.set_cons_zero, List.set_cons_succ])
      refine wpAnyH_take (i := 3) (v := ?va3x4) rfl (by kernel_rfl) (by kernel_rfl) (by kernel_rfl) (fun _ _ _ h => h) (Or.inl ⟨by rfl, ?hy3x4⟩) (by assumption) ?rest3x4
      case hy3x4 => (intro w hSw; (try dsimp only at hSw); go_simp; try with_reducible rfl)
      (try simp only [Act.put, List.getElem_toArray, List.getElem_cons_zero, List.getElem_cons_succ, List.setIfInBounds_toArray, List.set_cons_zero, List.set_cons_succ])
      refine wpAnyH_take (i := 4) (v := ?va4x5) rfl (by kernel_rfl) (by kernel_rfl) (by kernel_rfl) (fun _ _ _ h => h) (Or.inl ⟨by rfl, ?hy4x5⟩) (by assumption) ?rest4x5
      case hy4x5 => (intro w hSw; (try dsimp only at hSw); go_simp; try with_reducible rfl)
      (try simp only [Act.put, List.getElem_toArray, List.getElem_cons_zero, List.getElem_cons_succ, List.setIfInBounds_toArray, List.set_cons_zero, List.set_cons_succ])
      refine wpAnyH_take (i := 5) (v := ?va5x6) rfl (by kernel_rfl) (by kernel_rfl) (by kernel_rfl) (fun _ _ _ h => h) (Or.inl ⟨by rfl, ?hy5x6⟩) (by assumption) ?rest5x6
      case hy5x6 => (intro w hSw; (try dsimp only at hSw); go_simp; try with_reducible rfl)
      (try simp only [Act.put, List.getElem_toArray, List.getElem_cons_zero, List.getElem_cons_succ, List.setIfInBounds_toArray, List.set_cons_zero, List.set_cons_succ])
      refine wpAnyH_ready (rs := [6]) (by kernel_rfl) (by simp) ?_
      refine AllReadyH.cons rfl (fun K hK => ?_) AllReadyH.nil
      go_simp
      refine (HPK.out _ FD.out.low FD.out.u FD.out.b).mono ?_
      rintro e w5 ⟨rfl, hu5, hg5⟩
      obtain ⟨o5, m5, b5, l5, f5, s5, u5⟩ := FD.out.rest hg5 hu5 HGU.out HN1.out HMU.out HGB.out
      have dt5 := cellGrown hg5 HTU.out dt
      have O5 := Lib.hid o5; have M5 := Lib.hid m5; have B5 := Lib.hid b5; have L5 := Lib.hid l5; have FR5 := Lib.hid f5; have S5 := Lib.hid s5; have U5 := Lib.hid u5
      clear o5 m5 b5 l5 f5 s5 u5 hu5 hg5
      refine hK.out _ _ (⟨M5.out.cell 0, M5.out.cell 1, M5.out.cell 2, M5.out.cell 3, M5.out.cell 4, dt5⟩) (fun hHeld => ?_)
      clear hK K
      (try simp only [Act.put, List.getElem_toArray, List.getElem_cons_zero, List.getElem_cons_succ, List.setIfInBounds_toArray, List.set_cons_zero, List.set_cons_succ])
      refine wpAnyH_take (i := 7) (v := ?va7x7) rfl (by kernel_rfl) (by kernel_rfl) (by kernel_rfl) (fun _ _ _ h => h) (Or.inl ⟨by rfl, ?hy7x7⟩) (by assumption) ?rest7x7
      case hy7x7 => (intro w hSw; (try dsimp only at hSw); go_simp; try with_reducible rfl)
      (try simp only [Act.put, List.getElem_toArray, List.getElem_cons_zero, List.getElem_cons_succ, List.setIfInBounds_toArray, List.set_cons_zero, List.set_cons_succ])
      refine wpAnyH_take (i := 8) (v := ?va8x8) rfl (by kernel_rfl) (by kernel_rfl) (by kernel_rfl) (fun _ _ _ h => h) (Or.inl ⟨by rfl, ?hy8x8⟩) (by assumption) ?rest8x8
      case hy8x8 => (intro w hSw; (try dsimp only at hSw); go_simp; try with_reducible rfl)
      (try simp only [Act.put, List.getElem_toArray, List.getElem_cons_zero, List.getElem_cons_succ, List.setIfInBounds_toArray, List.set_cons_zero, List.set_cons_succ])
      refine wpAnyH_ready (rs := [9]) (by kernel_rfl) (by simp) ?_
      refine AllReadyH.cons rfl (fun K hK => ?_) AllReadyH.nil
      go_simp
      refine (c_darkenB W a b c (.func (.func 119) #[] #[.pointer (some ⟨gu, 0, none⟩), .pointer (some ⟨gb, 0, none⟩)]) v h.f cs k _ HF.out L5.out O5.out F4.out.mark.col HKC.out HKF.out HK1.out HIN.out HRL.out).mono ?_
      rintro e w6 ⟨rfl, ho6, hg6⟩
      have F6 := Lib.hid (Finis.next O5.out M5.out B5.out L5.out FR5.out S5.out U5.out HMK.out hg6 ho6 HN1.out HGM.out HN2.out)
      have M6 := Lib.hid F6.out.m
      have dt6 : w6.cell? ⟨tb, r, none⟩ = some (.int .i64 (k : Int)) := by rw [World.cell?, hg6.block tb (block_lt_of_cell dt5) (HTV.out ·.symm)]; exact dt5
      clear ho6 hg6
      refine hK.out _ _ (⟨M6.out.cell 0, M6.out.cell 1, M6.out.cell 2, M6.out.cell 3, M6.out.cell 4, dt6⟩) (fun hHeld => ?_)
      clear hK K
      (try simp only [Act.put, List.getElem_toArray, List.getElem_cons_zero, List.getElem_cons_succ, List.setIfInBounds_toArray, List.set_cons_zero, List.set_cons_succ])
      refine wpAnyH_done (by kernel_rfl) ?_ _
      clear hHeld d0 d1 d2 d3 d4 dt
      go_wp2_with fail
      go_roundw
      case rel => exact ⟨n + 1, _, by go_num, hn1, F6⟩
      case measure => simp [intOf]; omega
end Go.Proofs.Ytdagkbgobnaijaa
