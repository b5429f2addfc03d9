/- The project's ReachedIn and ReachFrom. -/
import Derived.Test.YtdagkbgobnaijabHr2
namespace Go.Proofs.Ytdagkbgobnaijab.Ph
def fromOk (h : H) (zs : List Int) : Bool := good h && decide (zs.length ≤ 12) && zs.all (liveB h.l)
theorem fromOk_iff {h : H} {zs : List Int} : fromOk h zs = true ↔ Ph.Good h ∧ zs.length ≤ 12 ∧ ∀ z ∈ zs, liveB h.l z = true := by
  unfold fromOk
  simp only [Bool.and_eq_true, decide_eq_true_eq, List.all_eq_true, good_iff, and_assoc]
noncomputable def reachR (h : H) : List Bool := if good h = true then reachL h.f h.r else []
noncomputable def reachF (h : H) (zs : List Int) : List Bool := if fromOk h zs = true then reachL h.f zs else []
theorem live_inR {h : H} (g : Ph.Good h) {z : Int} (hz : liveB h.l z = true) : 0 ≤ z ∧ z < h.f.length := by
  have := liveB_lt hz
  rw [g.ll] at this
  exact this
theorem all_take_succ {l : List Bool} {zs : List Int} {k : Nat} (h : k < zs.length) : (zs.take (k + 1)).all (liveB l) = ((zs.take k).all (liveB l) && liveB l (zs.getD k 0)) := by
  have e : zs.getD k 0 = zs[k] := by simp [List.getD, List.getElem?_eq_getElem h]
  rw [List.take_succ_eq_append_getElem h, List.all_append, e]; simp
theorem all_false {l : List Bool} {zs : List Int} {k : Nat} (h : k < zs.length) (hn : liveB l (zs.getD k 0) = false) : zs.all (liveB l) = false := by
  cases hq : zs.all (liveB l) with
  | false => rfl
  | true =>
    have e : zs.getD k 0 = zs[k] := by simp [List.getD, List.getElem?_eq_getElem h]
    have := (List.all_eq_true.1 hq) zs[k] (List.getElem_mem h)
    rw [e] at hn; rw [hn] at this; cases this
theorem fromOk_bad {h : H} {zs : List Int} (k : good h = false) : fromOk h zs = false := by unfold fromOk; rw [k]; rfl
theorem fromOk_long {h : H} {zs : List Int} (k : 12 < zs.length) : fromOk h zs = false := by unfold fromOk; rw [decide_eq_false (by omega)]; simp
theorem fromOk_dead {h : H} {zs : List Int} (k : zs.all (liveB h.l) = false) : fromOk h zs = false := by unfold fromOk; rw [k]; simp
theorem fromOk_ok {h : H} {zs : List Int} (k1 : good h = true) (k2 : zs.length ≤ 12) (k3 : zs.all (liveB h.l) = true) : fromOk h zs = true := by unfold fromOk; rw [k1, decide_eq_true k2, k3]; rfl
theorem reachF_no {h : H} {zs : List Int} (k : fromOk h zs = false) : reachF h zs = [] := by unfold reachF; rw [k]; rfl
theorem reachF_yes {h : H} {zs : List Int} (k : fromOk h zs = true) : reachF h zs = reachL h.f zs := by unfold reachF; rw [k]; rfl
theorem reachR_no {h : H} (k : good h = false) : reachR h = [] := by unfold reachR; rw [k]; rfl
theorem reachR_len (h : H) : (reachR h).length ≤ 1000 := by
  cases hg : good h with
  | false => rw [reachR_no hg]; simp
  | true => unfold reachR; rw [hg, if_pos rfl, reachL_length]; have := (good_iff.1 hg).n; omega
theorem reachF_len (h : H) (zs : List Int) : (reachF h zs).length ≤ 1000 := by
  cases hg : fromOk h zs with
  | false => rw [reachF_no hg]; simp
  | true => rw [reachF_yes hg, reachL_length]; have := (fromOk_iff.1 hg).1.n; omega
theorem reachR_yes {h : H} (k : good h = true) : reachR h = reachL h.f h.r := by unfold reachR; rw [k]; rfl
end Go.Proofs.Ytdagkbgobnaijab.Ph
namespace Go.Proofs.Ytdagkbgobnaijab
open Go.RowKit Ph

theorem endB_no {w w' : World} {bs : List Bool} {ok : Bool} (hb : Below w.heap.size w w') (h1 : bs = []) (h2 : ok = false) : EndB bs ok w (.returned (.tuple #[.slice none 0 0, .bool false])) w' := by
  subst h1; subst h2
  exact ⟨_, rfl, OwnH.nil w' _ _, hb⟩
theorem endB_yes {w w' : World} {bs bs' : List Bool} {ok : Bool} {v : Value} {B : Nat} (hb : Below w.heap.size w w') (ho : OwnBs w' B v bs') (hB : w.heap.size ≤ B) (h1 : bs = bs') (h2 : ok = true) : EndB bs ok w (.returned (.tuple #[v, .bool true])) w' := by
  subst h1; subst h2
  exact ⟨_, rfl, OwnH.ofBools (owns_mono ho fun g hg => Nat.le_trans hB (owns_lt ho hg).1) hb.size, hb⟩
set_option maxHeartbeats 1600000 in
theorem c_ReachedIn (a b c : Value) (h : H) (w : World) (hA : HeapAt w a b c h) : Calls Try.prog 34 #[hv a b c] w (EndB (reachR h) (good h) w) := by
  have hb0 := below1 w (.cells (c3 a b c) 27)
  have A0 := Lib.hid (hA.below hb0)
  have HB := Lib.hid hb0
  have R0 := Lib.hid (show RowH _ _ a b c from Row.new w 27 (c3 a b c))
  clear hA hb0
  have HC := Lib.hid (c_GoodHeap a b c h _ A0.out)
  generalize hg : good h = x at *
  have HX := Lib.hid hg
  clear hg
  have c0 := R0.out.c0
  have c1 := R0.out.c1
  have c2 := R0.out.c2
  cases x
  · have HE := Lib.hid (reachR_no HX.out)
    go_enter Try.func34, Try.ntmps34
    go_wp2_with (go_at_call 83; refine HC.out.mono ?_; rintro e w1 ⟨rfl, hb1⟩; have B1 := Lib.hid (bst HB.out hb1 HB.out.size); clear hb1)
    go_ret2
    exact endB_no B1.out HE.out rfl
  · have HE := Lib.hid (reachR_yes HX.out)
    have G := Lib.hid (good_iff.1 HX.out)
    go_enter Try.func34, Try.ntmps34
    go_wp2_with (go_at_call 83; refine HC.out.mono ?_; rintro e w1 ⟨rfl, hb1⟩; have B1 := Lib.hid (bst HB.out hb1 HB.out.size); have A1 := Lib.hid (A0.out.below hb1); have R1 := R0.out.below hb1; have d0 := R1.c0; have d1 := R1.c1; have d2 := R1.c2; clear hb1 R1)
    refine (c_reachedOver a b c c h h.r _ A1.out G.out A1.out.r (by have := G.out.rn; omega) (fun z hz => (refs_bound G.out G.out.rr z hz).imp id (fun h => ⟨h.1, h.2.1⟩))).mono ?_
    rintro e w2 ⟨v', rfl, ho2, hb2⟩
    have B2 := Lib.hid (bst B1.out hb2 B1.out.size); have O2 := Lib.hid ho2
    clear hb2 ho2
    go_wp2_with fail
    go_ret2
    exact endB_yes B2.out O2.out B1.out.size HE.out rfl
end Go.Proofs.Ytdagkbgobnaijab
