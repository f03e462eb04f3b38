import Derived.Test.YtlehddifcjklgaaA
import Derived.Maps.OwnIn
import Derived.Maps.OwnSet
import Derived.Maps.AppendAt
import Derived.RangeFuncNested
import Derived.RangeFuncBound
import Derived.RangeFuncCalls
import Derived.RangeFuncLeaves
import Derived.Shelf.Abstract
import Derived.Shelf.RegionOpen
import Derived.WalkKit
import Derived.OwnWalkIn
import Derived.TacticsInMore
import Derived.LoopNIn
import Derived.LoopIn
import Derived.WalkSpells
import Derived.WalkLawsBesides
import Derived.BigQuiet
import Derived.Deep.QuietTactic
import Derived.Lib.Hide
import Derived.Deep.RegionHeld3
import Derived.StillTailTactics
import Derived.Deep.LoopGhost
import Derived.Lib.IndexAny
namespace Go.Proofs.Ytlehddifcjklgaa
open Go.RowKit Go.Shelf
attribute [local go_sem] Oper.semAt_some
/-- the points of ps lie at block b from offset o on, two numbers each -/
structure PtsAt (w : World) (b o : Nat) (ps : List Pt) : Prop where
  lt : b < w.heap.size
  x : ∀ i (h : i < ps.length), w.cell? ⟨b, o + i * 2, none⟩ = some (.int .i64 ps[i].1)
  y : ∀ i (h : i < ps.length), w.cell? ⟨b, o + i * 2 + 1, none⟩ = some (.int .i64 ps[i].2)
theorem PtsAt.below {B : Nat} {w w' : World} {b o : Nat} {ps : List Pt} (h : PtsAt w b o ps) (hb : Below B w w') (hB : b < B) : PtsAt w' b o ps :=
  ⟨Nat.lt_of_lt_of_le h.lt hb.size, fun i hi => below_at hb hB (h.x i hi), fun i hi => below_at hb hB (h.y i hi)⟩
theorem PtsAt.grow {w w' : World} {b o : Nat} {ps : List Pt} (h : PtsAt w b o ps) (hb : Below w.heap.size w w') : PtsAt w' b o ps := h.below hb h.lt

theorem inR_false {p1 p2 : Int} (h : p1 < -20 ∨ p2 < -20 ∨ 20 < p1 ∨ 20 < p2) : inR (p1, p2) = false := by
  unfold inR
  rcases h with h | h | h | h <;> simp <;> omega
theorem inR_true {p1 p2 : Int} (h1 : -20 ≤ p1) (h2 : p1 ≤ 20) (h3 : -20 ≤ p2) (h4 : p2 ≤ 20) : inR (p1, p2) = true := by
  unfold inR; simp; omega
set_option maxHeartbeats 400000 in
theorem arePoints_mid (ps : List Pt) (b o c : Nat) (w : World) (hp : PtsAt w b o ps) (h3 : 3 ≤ ps.length) (h12 : ps.length ≤ 12) :
    Calls Try.prog 62 #[.slice (some ⟨b, o, none⟩) ps.length c] w fun e w' => e = .returned (.bool (areP ps)) ∧ Below w.heap.size w w' := by
  have d1 : decide ((ps.length : Int) < 3) = false := by simp; omega
  have d2 : decide (12 < (ps.length : Int)) = false := by simp; omega
  have HP := Lib.hid hp
  clear hp
  go_enter Try.func62, Try.ntmps62
  go_wp2
  go_loopw [15] (fun i wr => ∃ k : Nat, k ≤ ps.length ∧ i = .int .i64 (k : Int) ∧ Hid (Below w.heap.size w wr) ∧ Hid ((ps.take k).all inR = true)) (fun i _ => ps.length - (intOf i).toNat)
  case atStart => exact ⟨0, by omega, rfl, Lib.hid (Below.refl _ _), Lib.hid rfl⟩
  case round =>
    obtain ⟨k, hk, rfl, HB, HK⟩ := hrel
    by_cases hlt : k < ps.length
    · have hd : decide ((k : Int) < (ps.length : Int)) = true := by simp; omega
      have hx := below_at HB.out HP.out.lt (HP.out.x k hlt)
      have hy := below_at HB.out HP.out.lt (HP.out.y k hlt)
      have hs : (ps.take (k + 1)).all inR = inR ps[k] := by
        rw [List.take_succ_eq_append_getElem hlt, List.all_append, HK.out]; simp
      have HS := Lib.hid hs
      have hf : inR ps[k] = false → areP ps = false := fun h => by
        unfold areP
        rw [Bool.and_eq_false_iff]; right
        rw [List.all_eq_false]; exact ⟨ps[k], List.getElem_mem _, by simp [h]⟩
      have HF := Lib.hid hf
      clear hs hf
      generalize ps[k] = p at *
      obtain ⟨p1, p2⟩ := p
      simp only at hx hy
      go_wp2
      all_goals first
        | (go_ret
           exact ⟨ret_bool (HF.out (inR_false (by omega))).symm, Below.al HB.out (Nat.le_refl _) _⟩)
        | (go_roundw
           case rel => exact ⟨k + 1, by omega, rfl, Lib.hid (Below.al HB.out (Nat.le_refl _) _), Lib.hid (by rw [HS.out]; exact inR_true (by omega) (by omega) (by omega) (by omega))⟩
           case measure => simp [intOf]; omega)
    · have hd : decide ((k : Int) < (ps.length : Int)) = false := by simp; omega
      have hk2 : k = ps.length := by omega
      subst hk2
      go_wp2
      go_ret
      refine ⟨ret_bool ?_, HB.out⟩
      have h := HK.out
      rw [List.take_length] at h
      unfold areP; rw [h]; simp [h3, h12]
theorem arePoints_short (ps : List Pt) (v : Option Addr) (c : Nat) (w : World) (hl : ps.length ≤ 1000000) (h : ps.length < 3 ∨ 12 < ps.length) :
    Calls Try.prog 62 #[.slice v ps.length c] w fun e w' => e = .returned (.bool (areP ps)) ∧ Below w.heap.size w w' := by
  have fin : areP ps = false := by
    unfold areP; rcases h with h | h <;> simp <;> omega
  have Fin := Lib.hid fin
  clear fin
  rcases h with h | h
  · have d1 : decide ((ps.length : Int) < 3) = true := by simp; omega
    go_enter Try.func62, Try.ntmps62
    go_wp2
    go_ret
    exact ⟨ret_bool Fin.out.symm, Below.refl _ _⟩
  · have d1 : decide ((ps.length : Int) < 3) = false := by simp; omega
    have d2 : decide (12 < (ps.length : Int)) = true := by simp; omega
    go_enter Try.func62, Try.ntmps62
    go_wp2
    go_ret
    exact ⟨ret_bool Fin.out.symm, Below.refl _ _⟩
theorem arePoints_any (ps : List Pt) (b o c : Nat) (w : World) (hp : PtsAt w b o ps) (hl : ps.length ≤ 1000000) :
    Calls Try.prog 62 #[.slice (some ⟨b, o, none⟩) ps.length c] w fun e w' => e = .returned (.bool (areP ps)) ∧ Below w.heap.size w w' := by
  by_cases h : ps.length < 3 ∨ 12 < ps.length
  · exact arePoints_short ps _ c w hl h
  · exact arePoints_mid ps b o c w hp (by omega) (by omega)
theorem inR_bd {ps : List Pt} (h : areP ps = true) {i : Nat} (hi : i < ps.length) : Bd 20 ps[i].1 ∧ Bd 20 ps[i].2 := by
  unfold areP at h
  simp only [Bool.and_eq_true, List.all_eq_true] at h
  have := h.2 _ (List.getElem_mem hi)
  simp [inR] at this
  unfold Bd; omega
theorem areP_len {ps : List Pt} (h : areP ps = true) : 3 ≤ ps.length ∧ ps.length ≤ 12 := by
  unfold areP at h; simp at h; omega

set_option maxHeartbeats 400000 in
theorem isSide_any (ps : List Pt) (b o c : Nat) (a1 a2 b1 b2 : Int) (w : World) (hp : PtsAt w b o ps) (ha : areP ps = true) (h1 : Bd 20 a1) (h2 : Bd 20 a2) (h3 : Bd 20 b1) (h4 : Bd 20 b2) :
    Calls Try.prog 64 #[.slice (some ⟨b, o, none⟩) ps.length c, .agg #[.int .i64 a1, .int .i64 a2], .agg #[.int .i64 b1, .int .i64 b2]] w fun e w' => e = .returned (.bool (isSide ps (a1, a2) (b1, b2))) ∧ Below w.heap.size w w' := by
  have hl := areP_len ha
  have HA := Lib.hid ha
  have HP := Lib.hid hp
  have H1 := Lib.hid (h1.mono (C := 1000) (by omega))
  have H2 := Lib.hid (h2.mono (C := 1000) (by omega))
  have H3 := Lib.hid (h3.mono (C := 1000) (by omega))
  have H4 := Lib.hid (h4.mono (C := 1000) (by omega))
  clear hp ha h1 h2 h3 h4
  go_enter Try.func64, Try.ntmps64
  go_wp2_with fail
  obtain ⟨W0, hW0⟩ : ∃ W0, W0 = (w.alloc (.cells #[.int .i64 a1, .int .i64 a2] 58)).alloc (.cells #[.int .i64 b1, .int .i64 b2] 58) := ⟨_, rfl⟩
  have B0 : Below w.heap.size w W0 := by rw [hW0]; exact ((Below.refl w.heap.size w).alloc (Nat.le_refl _) _).alloc (by simp) _
  have hsz : W0.heap.size = w.heap.size + 2 := by rw [hW0]; simp
  have x0 : W0.cell? ⟨w.heap.size, 0, none⟩ = some (.int .i64 a1) := by rw [hW0]; simp [cell_al] <;> omega
  have x1 : W0.cell? ⟨w.heap.size, 1, none⟩ = some (.int .i64 a2) := by rw [hW0]; simp [cell_al] <;> omega
  have x2 : W0.cell? ⟨w.heap.size + 1, 0, none⟩ = some (.int .i64 b1) := by rw [hW0]; simp [cell_al] <;> omega
  have x3 : W0.cell? ⟨w.heap.size + 1, 1, none⟩ = some (.int .i64 b2) := by rw [hW0]; simp [cell_al] <;> omega
  have HP0 := Lib.hid (HP.out.grow B0)
  rw [← hW0]
  have BB := Lib.hid B0
  clear hW0 B0 HP
  have l1 : w.heap.size < W0.heap.size := by omega
  have l2 : w.heap.size + 1 < W0.heap.size := by omega
  clear hsz
  go_loopw [7, 12] (fun s i wr => ∃ k : Nat, k ≤ ps.length ∧ s = .int .i64 ((ps.take k).countP (lft (a1, a2) (b1, b2)) : Int) ∧ i = .int .i64 (k : Int) ∧ Hid (Below W0.heap.size W0 wr)) (fun _ i _ => ps.length - (intOf i).toNat)
  case atStart => exact ⟨0, by omega, rfl, rfl, Lib.hid (Below.refl _ _)⟩
  case round =>
    obtain ⟨k, hk, rfl, rfl, HB⟩ := hrel
    by_cases hlt : k < ps.length
    · have hd : decide ((k : Int) < (ps.length : Int)) = true := by simp; omega
      have hx := below_at HB.out HP0.out.lt (HP0.out.x k hlt)
      have hy := below_at HB.out HP0.out.lt (HP0.out.y k hlt)
      have y0 := below_at (Below.al HB.out (Nat.le_refl _) (.cells #[.int .i64 ps[k].1, .int .i64 ps[k].2] 58)) l1 x0
      have y1 := below_at (Below.al HB.out (Nat.le_refl _) (.cells #[.int .i64 ps[k].1, .int .i64 ps[k].2] 58)) l1 x1
      have y2 := below_at (Below.al HB.out (Nat.le_refl _) (.cells #[.int .i64 ps[k].1, .int .i64 ps[k].2] 58)) l2 x2
      have y3 := below_at (Below.al HB.out (Nat.le_refl _) (.cells #[.int .i64 ps[k].1, .int .i64 ps[k].2] 58)) l2 x3
      have hs : (ps.take (k + 1)).countP (lft (a1, a2) (b1, b2)) = (ps.take k).countP (lft (a1, a2) (b1, b2)) + if lft (a1, a2) (b1, b2) ps[k] then 1 else 0 := by
        rw [List.take_succ_eq_append_getElem hlt, List.countP_append]; simp [List.countP_cons]
      have HS := Lib.hid hs
      have Hq := inR_bd HA.out hlt
      have H5 := Lib.hid (Hq.1.mono (C := 1000) (by omega))
      have H6 := Lib.hid (Hq.2.mono (C := 1000) (by omega))
      have hc : (ps.take k).countP (lft (a1, a2) (b1, b2)) ≤ 12 := Nat.le_trans List.countP_le_length (by rw [List.length_take]; omega)
      have HB1 := Lib.hid (Below.al HB.out (Nat.le_refl _) (.cells #[.int .i64 ps[k].1, .int .i64 ps[k].2] 58))
      clear hs Hq HB
      generalize ps[k] = p at *
      obtain ⟨p1, p2⟩ := p
      simp only at hx hy y0 y1 y2 y3 H5 H6 HB1
      generalize (ps.take k).countP (lft (a1, a2) (b1, b2)) = cn at *
      go_wp2_with fail
      refine (turnsLeft_any a1 a2 b1 b2 p1 p2 _ H1.out H2.out H3.out H4.out H5.out H6.out).mono ?_
      rintro e w1 ⟨rfl, hb⟩
      have HB2 := Lib.hid (Below.andThen HB1.out hb (Nat.le_refl _))
      clear hb HB1 y0 y1 y2 y3 hx hy
      cases hL : lft (a1, a2) (b1, b2) (p1, p2)
      · have e1 : (ps.take (k + 1)).countP (lft (a1, a2) (b1, b2)) = cn := by rw [HS.out, hL]; simp
        have E1 := Lib.hid e1
        clear e1 HS hL
        go_wp2_with fail
        go_roundw
        case rel => exact ⟨k + 1, by omega, by rw [E1.out], rfl, HB2⟩
        case measure => simp [intOf]; omega
      · have e1 : (ps.take (k + 1)).countP (lft (a1, a2) (b1, b2)) = cn + 1 := by rw [HS.out, hL]; simp
        have E1 := Lib.hid e1
        clear e1 HS hL
        go_wp2_with fail
        go_roundw
        case rel => exact ⟨k + 1, by omega, by rw [E1.out]; simp, rfl, HB2⟩
        case measure => simp [intOf]; omega
    · have hd : decide ((k : Int) < (ps.length : Int)) = false := by simp; omega
      have hk2 : k = ps.length := by omega
      subst hk2
      have hfin : isSide ps (a1, a2) (b1, b2) = decide (((ps.take ps.length).countP (lft (a1, a2) (b1, b2)) : Int) = (ps.length : Int) - 2) := by unfold isSide; rw [List.take_length]
      have Fin := Lib.hid hfin
      clear hfin
      generalize (ps.take ps.length).countP (lft (a1, a2) (b1, b2)) = cn at *
      go_wp2_with fail
      go_ret
      refine ⟨ret_bool ?_, Below.andThen BB.out HB.out (Nat.le_refl _)⟩
      rw [Fin.out]
      first | rfl | (rw [Bool.eq_iff_iff]; simp)
end Go.Proofs.Ytlehddifcjklgaa
