import Derived.Test.YtlehddifcjklgaaC
import Derived.Maps.OwnIn
import Derived.Maps.OwnSet
import Derived.Maps.AppendAt
import Derived.RangeFuncNested
import Derived.RangeFuncBound
import Derived.RangeFuncCalls
import Derived.RangeFuncLeaves
import Derived.Shelf.Abstract
import Derived.Shelf.RegionOpen
import Derived.WalkKit
import Derived.OwnWalkIn
import Derived.TacticsInMore
import Derived.LoopNIn
import Derived.LoopIn
import Derived.Sort.QuietThIn
import Derived.Sort.QuietTacIn
import Derived.Sort.BigQuietIn
import Derived.WalkSpells
import Derived.WalkLawsBesides
import Derived.BigQuiet
import Derived.Deep.QuietTactic
import Derived.Lib.Hide
import Derived.Deep.RegionHeld3
import Derived.StillTailTactics
import Derived.Deep.LoopGhost
import Derived.Lib.IndexAny
namespace Go.Proofs.Ytlehddifcjklgaa
open Go.RowKit Go.Shelf
attribute [local go_sem] Oper.semAt_some
theorem below_put {B l : Nat} {w W : World} {o : Obj} (h : Below B w W) (hl : B ≤ l) (hw : W.heap[l]? = some o) (o' : Obj) : Below B w (W.putObj l o') :=
  h.grown (row := some l) (grownBy_putObj' W l o') (Nat.le_of_lt (Nat.lt_of_le_of_lt hl (Array.getElem?_eq_some_iff.1 hw).1)) (fun k e => by cases e; exact hl)
theorem chk_true {ps : List Pt} (h : areP ps = true) (h2 : ∀ x ∈ upto ps.length, sideAt ps x = true) : chk ps = true := by
  unfold chk; rw [h, Bool.true_and, List.all_eq_true]; exact h2
theorem chk_false {ps : List Pt} {x : Nat} (h : x < ps.length) (h2 : sideAt ps x = false) : chk ps = false := by
  unfold chk; rw [Bool.and_eq_false_iff]; right
  rw [List.all_eq_false]; exact ⟨x, List.mem_range.2 h, by simp [h2]⟩
theorem ptAt_bd {ps : List Pt} (h : areP ps = true) {i : Nat} (hi : i < ps.length) : Bd 20 (ptAt ps i).1 ∧ Bd 20 (ptAt ps i).2 := by
  rw [ptAt_lt hi]; exact inR_bd h hi
theorem nx_bd {ps : List Pt} (h : areP ps = true) {i : Nat} (hi : i < ps.length) : Bd 20 (nx ps i).1 ∧ Bd 20 (nx ps i).2 :=
  ptAt_bd h (Nat.mod_lt _ (by omega))
theorem pv_bd {ps : List Pt} (h : areP ps = true) {i : Nat} (hi : i < ps.length) : Bd 20 (pv ps i).1 ∧ Bd 20 (pv ps i).2 :=
  ptAt_bd h (Nat.mod_lt _ (by omega))

set_option maxRecDepth 100000 in
set_option maxHeartbeats 1000000 in
theorem check_in (ps : List Pt) (b c : Nat) (w : World) (hp : PtsAt w b 0 ps) (ha : areP ps = true) :
    CallsIn Fence.wide 3 Try.prog 20 #[.slice (some ⟨b, 0, none⟩) ps.length c] w fun e w' => e = .returned (.int .i64 (if chk ps then 0 else 30)) ∧ Below w.heap.size w w' := by
  obtain ⟨h3, h12⟩ := areP_len ha
  have HA := Lib.hid ha
  obtain ⟨E, hE⟩ : ∃ E : Int, E = if chk ps then 0 else 30 := ⟨_, rfl⟩
  rw [← hE]
  have HE := Lib.hid hE
  clear hE
  refine callsIn_of_wp_marks Try.func20 rfl trivial ?_ rfl
  simp only [Try.ntmps20, List.size_toArray, List.length_cons, List.length_nil, Nat.reduceAdd, Nat.reduceSub, Array.replicate_succ, Array.replicate_zero, List.push_toArray, List.append_toArray, List.nil_append, List.cons_append]
  gi_wp2_with fail
  refine ⟨trivial, ?_⟩
  obtain ⟨W0, hW0⟩ : ∃ W0, W0 = (w.alloc (.cells #[.slice (some ⟨b, 0, none⟩) ps.length c] 22)).alloc (.cells #[.int .i64 0] 25) := ⟨_, rfl⟩
  have B0 : Below w.heap.size w W0 := by rw [hW0]; exact ((Below.refl w.heap.size w).alloc (Nat.le_refl _) _).alloc (by simp) _
  have s0 : W0.heap.size = w.heap.size + 2 := by rw [hW0]; simp
  have x0 : W0.cell? ⟨w.heap.size, 0, none⟩ = some (.slice (some ⟨b, 0, none⟩) ps.length c) := by rw [hW0]; simp [cell_al]
  have x1 : W0.cell? ⟨w.heap.size + 1, 0, none⟩ = some (.int .i64 0) := by rw [hW0]; simp [cell_al]
  have x2 : W0.frozen? ⟨w.heap.size + 1, 0, none⟩ = false := by rw [hW0]; simp [frozen_al]
  rw [← hW0]
  clear hW0
  refine (callsIn_wide.2 (arePoints_any ps b 0 c W0 (hp.grow B0) (by omega))).mono ?_
  rintro e w1 ⟨rfl, hb1⟩
  have y0 := below_at hb1 (by omega) x0
  rw [HA.out]
  gi_wp2_with fail
  refine ⟨trivial, ?_⟩
  refine (callsIn_wide.2 (corners_any _ _ _ _)).mono ?_
  rintro e w2 ⟨rfl, rfl⟩
  obtain ⟨V, hV⟩ : ∃ V, V = w1.alloc (.cells #[.slice (some ⟨b, 0, none⟩) ps.length c] 22) := ⟨_, rfl⟩
  have BV : Below w.heap.size w V := by rw [hV]; exact Below.al (Below.andThen B0 hb1 (Nat.le_refl _)) (Nat.le_refl _) _
  have BV0 : Below W0.heap.size W0 V := by rw [hV]; exact Below.al hb1 (Nat.le_refl _) _
  have sV : V.heap.size = w1.heap.size + 1 := by rw [hV]; simp
  have s1 := hb1.size
  have z0 := below_at BV0 (by omega) x0
  have z1 := below_at BV0 (by omega) x1
  have z2 := (BV0.frozen (p := ⟨w.heap.size + 1, 0, none⟩) (show w.heap.size + 1 < W0.heap.size by omega)).trans x2
  have zb : V.cell? ⟨w1.heap.size, 0, none⟩ = some (.slice (some ⟨b, 0, none⟩) ps.length c) := by rw [hV]; simp [cell_al]
  have zp := hp.grow BV
  rw [← hV]
  have l0 : w.heap.size < V.heap.size := by omega
  have l1 : w.heap.size + 1 < V.heap.size := by omega
  have l2 : w1.heap.size < V.heap.size := by omega
  have BVh := Lib.hid BV
  have ZP := Lib.hid zp
  clear hV BV0 BV B0 s0 x0 x1 x2 y0 hb1 sV s1 hp zp
  gi_wp2_with fail
  refine range_corners 3 w1.heap.size b c (by omega) ps h3 h12 rfl l2 zb ZP.out
    (fun pre W => (∀ x ∈ pre, sideAt ps x = true) ∧ Below V.heap.size V W)
    (fun c W => (c = .ret ∧ chk ps = false) ∧ (W.cell? ⟨w.heap.size + 1, 0, none⟩ = some (.int .i64 30) ∧ Below w.heap.size w W))
    (fun _ => (lasts_pure _ _).and (lasts_below _ _ _ (Nat.le_refl _) (Nat.le_refl _)))
    (fun _ => (lasts_pure _ _).and ((lasts_cell _ _ _).and (lasts_below _ _ _ (Nat.le_of_lt l0) (Nat.le_refl _))))
    ⟨fun _ h => by simp at h, Below.refl _ _⟩
    (fun x Bx => { tmps := #[.slice (some ⟨b, 0, none⟩) ps.length c, .pointer (some ⟨w.heap.size, 0, none⟩), .pointer (some ⟨w.heap.size + 1, 0, none⟩), undef, .pointer (some ⟨Bx, 0, none⟩), .slice (some ⟨b, 0, none⟩) ps.length c, .bool true, .bool false, .slice (some ⟨b, 0, none⟩) ps.length c, .func (.func 97) #[] #[.pointer (some ⟨w1.heap.size, 0, none⟩)], .int .i64 (x : Int), .agg (cornerCells ps x), undef, undef, undef, undef, undef, undef, undef], defers := [] }) ?assign ?body ?done ?stop
  case assign =>
    intro l x W K hK
    simp only [cornerCells, List.setIfInBounds_toArray, List.set_cons_succ, List.set_cons_zero] at hK ⊢
    gi_wp2
    exact hK
  case body =>
    rintro l x Bx pre W hx hBx hW hcx ⟨hpre, hB⟩ _ _
    have c0 := below_at hB l0 z0
    have c1 := below_at hB l1 z1
    have c2 := (hB.frozen (p := ⟨w.heap.size + 1, 0, none⟩) l1).trans z2
    have q2 := hcx.c2
    have q3 := hcx.c3
    have q4 := hcx.c4
    have q5 := hcx.c5
    have qp := Lib.hid (ZP.out.grow hB)
    have HB := Lib.hid hB
    have HX := Lib.hid hx
    have n1 := Lib.hid (ptAt_bd HA.out hx)
    have n2 := Lib.hid (nx_bd HA.out hx)
    have HP := Lib.hid hpre
    have fin : sideAt ps x = isSide ps ((ptAt ps x).1, (ptAt ps x).2) ((nx ps x).1, (nx ps x).2) := rfl
    have Fin := Lib.hid fin
    clear hB hx hcx hpre fin z0 z1 z2 zb
    generalize ptAt ps x = pa at *
    generalize nx ps x = pb at *
    gi_wp2_with fail
    refine ⟨trivial, ?_⟩
    refine (CallsIn.inRound l (callsIn_wide.2 (isSide_any ps b 0 c _ _ _ _ W qp.out HA.out n1.out.1 n1.out.2 n2.out.1 n2.out.2))).mono ?_
    rintro e w3 ⟨rfl, hb3⟩
    have HB3 := Lib.hid (Below.andThen HB.out hb3 (Nat.le_refl _))
    have KF := Lib.hid (show KeepsFrom V.heap.size W w3 from KeepsFrom.of_grownBy (row := none) ⟨hb3.os, hb3.tape, hb3.output, hb3.size, fun k hk _ => hb3.block k hk⟩ (fun r e => by cases e))
    have K2 := Lib.hid (Keeps2.of_below hb3 (b := b) (Bs := w1.heap.size) qp.out.lt (Nat.lt_of_lt_of_le l2 HB.out.size))
    have c1' := below_at hb3 (Nat.lt_of_lt_of_le l1 HB.out.size) c1
    have c2' := (hb3.frozen (p := ⟨w.heap.size + 1, 0, none⟩) (show w.heap.size + 1 < W.heap.size from Nat.lt_of_lt_of_le l1 HB.out.size)).trans c2
    clear hb3 c0 c1 c2 q2 q3 q4 q5
    cases hs : isSide ps (pa.1, pa.2) (pb.1, pb.2)
    · have HS := Lib.hid hs
      clear hs
      gi_wp2_with fail
      refine ⟨KF.out.trans ((KeepsOthers.setCell _ _ _).from _), ⟨rfl, chk_false HX.out (by rw [Fin.out, HS.out])⟩, ?_, ?_⟩
      · exact World.cell?_setCell_same' _ _ _ (by rw [c1']; rfl)
      · exact (BVh.out.trans (HB3.out.mono (Nat.le_of_lt l0))).setCell (p := ⟨w.heap.size + 1, 0, none⟩) (Nat.le_succ _) _
    · have HS := Lib.hid hs
      clear hs
      gi_wp2_with fail
      refine ⟨KF.out, K2.out, fun y hy => ?_, HB3.out⟩
      rcases List.mem_append.1 hy with h | h
      · exact HP.out y h
      · simp at h; subst h; rw [Fin.out, HS.out]
  case done =>
    rintro D W hD ⟨hpre, hB⟩ hK
    have c1 := below_at hB l1 z1
    have c2 := (hB.frozen (p := ⟨w.heap.size + 1, 0, none⟩) l1).trans z2
    have HB := Lib.hid hB
    have HK := Lib.hid hK
    have HC := Lib.hid (chk_true HA.out hpre)
    have HD := Lib.hid hD
    clear hB hK hpre z0 z1 z2 zb hD
    gi_wp2_with fail
    refine ⟨by simp, .inl ⟨_, _, rfl, run_takeDeferred ((KeepsOthers.setCell _ _ _).same D _ HK.out rfl), ?_⟩⟩
    obtain rfl : E = 0 := by rw [HE.out, HC.out]; rfl
    have hc1 : ((W.setCell ⟨w.heap.size + 1, 0, none⟩ (.int .i64 0)).putObj D (.deferred none)).cell? ⟨w.heap.size + 1, 0, none⟩ = some (.int .i64 0) :=
      lasts_cell V.heap.size _ _ _ _ (some D) (World.cell?_setCell_same' _ _ _ (by rw [c1]; rfl)) (grownBy_putObj' _ D _) (fun r e => by
        cases e; exact ⟨HD.out, _, (KeepsOthers.setCell _ _ _).same D _ HK.out rfl, rfl⟩)
    refine ⟨.int .i64 0, by simp [results, Try.results20, go_sem, hc1], rfl, ?_⟩
    have h1 : Below w.heap.size w (W.setCell ⟨w.heap.size + 1, 0, none⟩ (.int .i64 0)) := (BVh.out.trans (HB.out.mono (Nat.le_of_lt l0))).setCell (p := ⟨w.heap.size + 1, 0, none⟩) (Nat.le_succ _) _
    exact below_put h1 (Nat.le_trans (Nat.le_of_lt l0) HD.out) ((KeepsOthers.setCell _ _ _).same D _ HK.out rfl) _
  case stop =>
    rintro D c W hD ⟨⟨rfl, hc⟩, h1, hB⟩ hK
    have HB := Lib.hid hB
    have HK := Lib.hid hK
    have HC := Lib.hid hc
    have HD := Lib.hid hD
    clear hB hK hc z0 z1 z2 zb hD
    gi_wp2_with fail
    refine ⟨by simp, .inl ⟨_, _, rfl, run_takeDeferred HK.out, ?_⟩⟩
    obtain rfl : E = 30 := by rw [HE.out, HC.out]; rfl
    have hc1 : (W.putObj D (.deferred none)).cell? ⟨w.heap.size + 1, 0, none⟩ = some (.int .i64 30) :=
      lasts_cell V.heap.size _ _ _ _ (some D) h1 (grownBy_putObj' _ D _) (fun r e => by cases e; exact ⟨HD.out, _, HK.out, rfl⟩)
    refine ⟨.int .i64 30, by simp [results, Try.results20, go_sem, hc1], rfl, ?_⟩
    exact below_put HB.out (Nat.le_trans (Nat.le_of_lt l0) HD.out) HK.out _

set_option maxHeartbeats 400000 in
theorem check_bad (ps : List Pt) (v : Option Addr) (c : Nat) (w : World) (hl : ps.length ≤ 1000000) (ha : areP ps = false)
    (hp : ∀ W, Below w.heap.size w W → Calls Try.prog 62 #[.slice v ps.length c] W fun e w' => e = .returned (.bool false) ∧ Below W.heap.size W w') :
    Calls Try.prog 20 #[.slice v ps.length c] w fun e w' => e = .returned (.int .i64 30) ∧ Below w.heap.size w w' := by
  have HP := Lib.hid hp
  clear hp
  go_enter Try.func20, Try.ntmps20
  go_wp2_with fail
  obtain ⟨W0, hW0⟩ : ∃ W0, W0 = (w.alloc (.cells #[.slice v ps.length c] 22)).alloc (.cells #[.int .i64 0] 25) := ⟨_, rfl⟩
  have B0 : Below w.heap.size w W0 := by rw [hW0]; exact ((Below.refl w.heap.size w).alloc (Nat.le_refl _) _).alloc (by simp) _
  have s0 : W0.heap.size = w.heap.size + 2 := by rw [hW0]; simp
  have x1 : W0.cell? ⟨w.heap.size + 1, 0, none⟩ = some (.int .i64 0) := by rw [hW0]; simp [cell_al]
  have x2 : W0.frozen? ⟨w.heap.size + 1, 0, none⟩ = false := by rw [hW0]; simp [frozen_al]
  rw [← hW0]
  clear hW0
  refine (HP.out W0 B0).mono ?_
  rintro e w1 ⟨rfl, hb1⟩
  have z1 := below_at hb1 (by omega) x1
  have z2 := (hb1.frozen (p := ⟨w.heap.size + 1, 0, none⟩) (show w.heap.size + 1 < W0.heap.size by omega)).trans x2
  have HB := Lib.hid (Below.andThen B0 hb1 (Nat.le_refl _))
  clear hb1 B0 s0 x1 x2
  go_wp2_with fail
  refine bodyPost_ret (v := .int .i64 30) ?_ rfl ⟨rfl, HB.out.setCell (p := ⟨w.heap.size + 1, 0, none⟩) (Nat.le_succ _) _⟩
  have h1 : (w1.setCell ⟨w.heap.size + 1, 0, none⟩ (.int .i64 30)).cell? ⟨w.heap.size + 1, 0, none⟩ = some (.int .i64 30) := World.cell?_setCell_same' _ _ _ (by rw [z1]; rfl)
  simp [results, Try.results20, go_sem, h1]
/-- **Check, of whatever points** -/
theorem check_any (ps : List Pt) (b c : Nat) (w : World) (hp : PtsAt w b 0 ps) (hl : ps.length ≤ 1000000) :
    Calls Try.prog 20 #[.slice (some ⟨b, 0, none⟩) ps.length c] w fun e w' => e = .returned (.int .i64 (if chk ps then 0 else 30)) ∧ Below w.heap.size w w' := by
  cases ha : areP ps with
  | true => exact callsIn_wide.1 (check_in ps b c w hp ha)
  | false =>
    have e : chk ps = false := by unfold chk; rw [ha]; rfl
    rw [e]
    refine check_bad ps _ c w hl ha (fun W hb => ?_)
    have := arePoints_any ps b 0 c W (hp.grow hb) hl
    rw [ha] at this; exact this
/-- **Check, of nil** -/
theorem check_nil (w : World) :
    Calls Try.prog 20 #[.slice none 0 0] w fun e w' => e = .returned (.int .i64 30) ∧ Below w.heap.size w w' :=
  check_bad [] none 0 w (by simp) rfl (fun W _ => arePoints_short [] none 0 W (by simp) (by simp))
end Go.Proofs.Ytlehddifcjklgaa
