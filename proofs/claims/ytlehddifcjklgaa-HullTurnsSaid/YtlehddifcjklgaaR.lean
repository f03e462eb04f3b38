import Derived.Test.YtlehddifcjklgaaQ
import Derived.Maps.OwnIn
import Derived.Maps.OwnSet
import Derived.Maps.AppendAt
import Derived.RangeFuncNested
import Derived.RangeFuncBound
import Derived.RangeFuncCalls
import Derived.RangeFuncLeaves
import Derived.Shelf.Abstract
import Derived.Shelf.RegionOpen
import Derived.WalkKit
import Derived.OwnWalkIn
import Derived.TacticsInMore
import Derived.LoopNIn
import Derived.LoopIn
import Derived.Sort.QuietThIn
import Derived.Sort.QuietTacIn
import Derived.Sort.BigQuietIn
import Derived.WalkSpells
import Derived.WalkLawsBesides
import Derived.BigQuiet
import Derived.Deep.QuietTactic
import Derived.Lib.Hide
import Derived.Deep.RegionHeld3
import Derived.StillTailTactics
import Derived.Deep.LoopGhost
import Derived.Lib.IndexAny
namespace Go.Proofs.Ytlehddifcjklgaa
open Go.RowKit Go.Shelf
attribute [local go_sem] Oper.semAt_some
theorem gcdI_dvd_right (n d : Int) : gcdI n d ∣ d := by unfold gcdI; exact Int.gcd_dvd_right ..
theorem tdiv_pos {d g : Int} (hd : 0 < d) (hg : 0 < g) (h : g ∣ d) : 0 < d.tdiv g := by
  obtain ⟨k, rfl⟩ := h
  rw [Int.mul_tdiv_cancel_left _ (by omega)]
  exact Int.pos_of_mul_pos_right (by omega) (by omega) |> fun h => by
    rcases Int.lt_trichotomy k 0 with h | h | h
    · have := Int.mul_neg_of_pos_of_neg hg h; omega
    · subst h; simp at hd
    · exact h
theorem mid_facts {ps : List Pt} (ha : areP ps = true) (hD0 : 0 < area ps) : Bd 400000 (mid ps).1 ∧ Bd 400000 (mid ps).2.1 ∧ Bd 30000 (mid ps).2.2 ∧ 0 < (mid ps).2.2 := by
  have bA := sum_upto_bd ha (crsAt ps) 800 (by omega) (fun x hx => crsAt_bd ha hx)
  have bX := sum_upto_bd ha (xAt ps) 32000 (by omega) (fun x hx => xAt_bd ha hx)
  have bY := sum_upto_bd ha (yAt ps) 32000 (by omega) (fun x hx => yAt_bd ha hx)
  have e1 : ((upto ps.length).map (crsAt ps)).sum = area ps := rfl
  have e2 : ((upto ps.length).map (xAt ps)).sum = xSum ps := rfl
  have e3 : ((upto ps.length).map (yAt ps)).sum = ySum ps := rfl
  rw [e1] at bA
  rw [e2] at bX
  rw [e3] at bY
  have bD : Bd 30000 (3 * area ps) := by unfold Bd at *; omega
  refine ⟨(bX.mono (by omega)).tdiv, (bY.mono (by omega)).tdiv, bD.tdiv, tdiv_pos (by omega) (gcdI_pos (by omega)) (gcdI_dvd_right _ _)⟩
theorem dt_pos {a : Pt} (h : ¬ (a.1 = 0 ∧ a.2 = 0)) : 0 < dt a a := by
  unfold dt
  have h1 : 0 ≤ a.1 * a.1 := by
    rcases Int.le_total 0 a.1 with h | h
    · exact Int.mul_nonneg h h
    · exact Int.mul_nonneg_of_nonpos_of_nonpos h h
  have h2 : 0 ≤ a.2 * a.2 := by
    rcases Int.le_total 0 a.2 with h | h
    · exact Int.mul_nonneg h h
    · exact Int.mul_nonneg_of_nonpos_of_nonpos h h
  by_cases e1 : a.1 = 0
  · have e2 : a.2 ≠ 0 := fun e => h ⟨e1, e⟩
    have : a.2 * a.2 ≠ 0 := Int.mul_ne_zero e2 e2
    omega
  · have : a.1 * a.1 ≠ 0 := Int.mul_ne_zero e1 e1
    omega
theorem along_pos {ps : List Pt} (hck : chk ps = true) {s : Nat} (hs : s < ps.length) : 0 < dt (alongS ps s) (alongS ps s) := by
  refine dt_pos fun ⟨e1, e2⟩ => ?_
  unfold chk at hck
  have hp : areP ps = true ∧ (List.range ps.length).all (sideAt ps) = true := by simpa using hck
  have h3 := areP_len hp.1
  have h := List.all_eq_true.1 hp.2 s (List.mem_range.2 hs)
  unfold sideAt isSide at h
  have hc := of_decide_eq_true h
  have hpos : 0 < ps.countP (lft (ptAt ps s) (nx ps s)) := by omega
  obtain ⟨q, _, hq⟩ := List.countP_pos_iff.1 hpos
  unfold lft at hq
  have hq2 := of_decide_eq_true hq
  have e : mn (nx ps s) (ptAt ps s) = alongS ps s := rfl
  rw [e] at hq2
  unfold crs at hq2
  rw [e1, e2] at hq2
  simp at hq2
set_option maxHeartbeats 1000000 in
theorem Firm_any (ps : List Pt) (b c : Nat) (w : World) (hp : PtsAt w b 0 ps) (hck : chk ps = true) (hD0 : 0 < area ps) :
    Calls Try.prog 24 #[.slice (some ⟨b, 0, none⟩) ps.length c] w fun e w' => ∃ v, e = .returned (.tuple #[v, .int .i64 0]) ∧ w'.ownsRow w.heap.size 3 1 v (sidesL (firmB ps (mid ps)) ps.length).length ((sidesL (firmB ps (mid ps)) ps.length).map encI) ∧ Below w.heap.size w w' := by
  have ha : areP ps = true := by unfold chk at hck; exact (Bool.and_eq_true _ _ ▸ hck : _ ∧ _).1
  obtain ⟨h3, h12⟩ := areP_len ha
  have HM := Lib.hid (fun W (h : PtsAt W b 0 ps) => bodyOf_none ps b c W h hck hD0)
  obtain ⟨m1, m2, m3, m4⟩ := mid_facts ha hD0
  have HW := Lib.hid (fun W (h : PtsAt W b 0 ps) => which_any 70 (firmB ps (mid ps)) ps b c (mid ps).1 (mid ps).2.1 (mid ps).2.2 W h12 h
    (fun s W' hs hp' => isFirm_any ps b c (mid ps).1 (mid ps).2.1 (mid ps).2.2 s W' hp' ha hs m1 m2 m3 m4 (along_pos hck hs)) (fun args w => by kernel_rfl))
  obtain ⟨X, hX⟩ : ∃ X, (mid ps).1 = X := ⟨_, rfl⟩
  obtain ⟨Y, hY⟩ : ∃ Y, (mid ps).2.1 = Y := ⟨_, rfl⟩
  obtain ⟨D, hD⟩ : ∃ D, (mid ps).2.2 = D := ⟨_, rfl⟩
  rw [hX, hY, hD] at HM HW
  generalize sidesL (firmB ps (mid ps)) ps.length = L at *
  have HP := Lib.hid hp
  clear hp hck hD0 ha m1 m2 m3 m4 hX hY hD
  go_enter Try.func24, Try.ntmps24
  go_wp2_with fail
  refine (HM.out w HP.out).mono ?_
  rintro e w1 ⟨rfl, hb1⟩
  have T1 := Lib.hid (Below.al hb1 (Nat.le_refl _) (.cells #[.slice (some ⟨b, 0, none⟩) ps.length c, .int .i64 X, .int .i64 Y, .int .i64 D] 81))
  clear hb1
  go_wp2_with fail
  refine (HW.out _ (HP.out.grow T1.out)).mono ?_
  rintro e w2 ⟨v, rfl, hr, hb2⟩
  have T2 := Lib.hid (Below.andThen T1.out hb2 (Nat.le_refl _))
  have HR := Lib.hid (ownsRow_lower hr T1.out.size)
  clear hr hb2
  go_wp2_with fail
  exact bodyPost_ret (v := .tuple #[v, .int .i64 0]) (by simp [results, Try.results24, go_sem]) rfl ⟨v, rfl, HR.out, T2.out⟩
end Go.Proofs.Ytlehddifcjklgaa
