import Derived.Test.YtbhlddfjfcmncaaYj
import Derived.Maps.OwnIn
import Derived.Maps.OwnSet
import Derived.RangeFuncNested
import Derived.RangeFuncBound
import Derived.RangeFuncCalls
import Derived.RangeFuncLeaves
import Derived.Shelf.Abstract
import Derived.Shelf.RegionOpen
import Derived.WalkKit
import Derived.OwnWalkIn
import Derived.TacticsInMore
import Derived.LoopNIn
import Derived.LoopIn
import Derived.WalkSpells
import Derived.WalkLawsBesides
import Derived.BigQuiet
import Derived.Deep.QuietTactic
import Derived.Lib.Hide
import Derived.Deep.RegionHeld3
import Derived.StillTailTactics
import Derived.Lib.MakeNoZero
import Derived.Laws.CopyOwn
import Derived.Deep.RegionLaw
import Derived.Deep.LoopGhost
import Derived.Deep.CutBlock
import Derived.Deep.DeepCutAuto
import Derived.Lib.IndexAny
namespace Go.Proofs.Ytbhlddfjfcmncaa
open Go.RowKit Go.Shelf
attribute [local go_sem] Oper.semAt_some
theorem refHours_any (f r : ByteArray) (n : Nat) (w : World) (hr1 : 1 ≤ r.size) (hn1 : 1 ≤ n) (hn : n ≤ 1000000) :
    Calls Try.prog 85 #[.agg #[.string f, .string r], .int .i64 n] w fun e w' => ∃ g cap : Nat, e = .returned (.slice (some ⟨g, 0, none⟩) n cap) ∧ n ≤ cap ∧ AtBo w' g 0 (hoursL (hasB f r) n) ∧ w.heap.size < g ∧ g < w'.heap.size ∧ (∀ i, w'.frozen? ⟨g, i, none⟩ = false) ∧ Below w.heap.size w w' := by
  refine (refHours_own f r n w hr1 hn).mono ?_
  rintro e w' ⟨v, rfl, hown, hb⟩
  have hown2 := hown
  obtain ⟨h1, h2⟩ := hown
  rcases h2 with ⟨_, h2⟩ | ⟨g, cap, cur, rfl, hg, hh, hc, hc2, hc3, hc4⟩
  · omega
  · have hlt : g < w'.heap.size := (Array.getElem?_eq_some_iff.1 hh).1
    refine ⟨g, cap, rfl, by omega, fun i hi => ?_, hg, hlt, fun i => hown2.frozenAt i, hb⟩
    rw [hoursL_length] at hi
    rw [Nat.zero_add, hown2.cellAt i (by omega)]
    simp [hi, encBo, hoursL_length]
theorem formedV_row {Y : Nat → Bool} {F R K D N : Nat} (hF : IsForm Y K D) (hp : Per Y F R) (hR : 1 ≤ R) (hN : F + R + 60 ≤ N / 2) :
    formedV (hoursL Y N) = if K ≤ 60 ∧ D ≤ 60 then .tuple #[.agg #[.string (toS (rowF Y K)), .string (toS (rowR Y K D))], .bool true] else .tuple #[.agg #[.string { data := #[] }, .string { data := #[] }], .bool false] := by
  have hKF := hF.le_first hp hR
  have hDR := Nat.le_of_dvd hR (hF.dvd hp hR)
  unfold formedV
  rw [formedO_eq hF hp hR hN]
  split
  · rename_i h
    split at h
    · rename_i hc
      simp only [Option.some.injEq, Prod.mk.injEq] at h
      obtain ⟨rfl, rfl⟩ := h
      rw [if_pos hc, text_first _ _ _ (by omega), text_round _ _ _ _ (by omega)]
    · cases h
  · rename_i h
    split at h
    · cases h
    · rename_i hc; rw [if_neg hc]
theorem enough_self {f r : ByteArray} (h : 1 ≤ r.size) : f.size + r.size + 60 ≤ enoughN f r f r / 2 ∧ 100 ≤ enoughN f r f r := by
  unfold enoughN; rw [spanR_self h]
  have : 1 * r.size ≤ r.size * r.size := Nat.mul_le_mul_right _ h
  omega
theorem enough_le {f r g s : ByteArray} (hf : f.size ≤ 60) (hr1 : 1 ≤ r.size) (hr : r.size ≤ 60) (hg : g.size ≤ 60) (hs1 : 1 ≤ s.size) (hs : s.size ≤ 60) : enoughN f r g s ≤ 100000 := by
  have hL := (spanR_bd hr1 hr hs1 hs).2
  have hM : r.size * s.size ≤ 60 * 60 := Nat.mul_le_mul hr hs
  unfold enoughN; omega
set_option maxRecDepth 100000 in
set_option maxHeartbeats 2000000 in
theorem refForm_any (f r : ByteArray) (w : World) (ht : tideB (f, r) = true) (K D : Nat) (hF : IsForm (hasB f r) K D) :
    Calls Try.prog 43 #[.agg #[.string f, .string r]] w fun e w' => e = .returned (.agg #[.string (toS (rowF (hasB f r) K)), .string (toS (rowR (hasB f r) K D))]) ∧ Below w.heap.size w w' := by
  obtain ⟨z1, z2, z3⟩ := tideB_size ht
  obtain ⟨n1, n2⟩ := enough_self (f := f) z3
  have n3 := enough_le z1 z3 z2 z1 z3 z2
  have hp : Per (hasB f r) f.size r.size := by have := hasB_per f r 1; rwa [Nat.one_mul] at this
  have hKF := hF.le_first hp z3
  have hDR := Nat.le_of_dvd z3 (hF.dvd hp z3)
  have HV : Hid (formedV (hoursL (hasB f r) (enoughN f r f r)) = .tuple #[.agg #[.string (toS (rowF (hasB f r) K)), .string (toS (rowR (hasB f r) K D))], .bool true]) := Lib.hid (by
    rw [formedV_row hF hp z3 n1, if_pos ⟨by omega, by omega⟩])
  have C1 : Hid (∀ W, Calls Try.prog 86 #[.agg #[.string f, .string r], .agg #[.string f, .string r]] W fun e w' => e = .returned (.int .i64 (enoughN f r f r)) ∧ Below W.heap.size W w') := Lib.hid (fun W => refEnough_any f r f r W z1 z3 z2 z1 z3 z2)
  have LN : Hid ((hoursL (hasB f r) (enoughN f r f r)).length = enoughN f r f r) := Lib.hid (hoursL_length _ _)
  have C2 : Hid (∀ W, Calls Try.prog 85 #[.agg #[.string f, .string r], .int .i64 (enoughN f r f r)] W fun e w' => ∃ g cap : Nat, e = .returned (.slice (some ⟨g, 0, none⟩) (enoughN f r f r) cap) ∧ enoughN f r f r ≤ cap ∧ AtBo w' g 0 (hoursL (hasB f r) (enoughN f r f r)) ∧ W.heap.size < g ∧ g < w'.heap.size ∧ (∀ i, w'.frozen? ⟨g, i, none⟩ = false) ∧ Below W.heap.size W w') := Lib.hid (fun W => refHours_any f r _ W z3 (by omega) (by omega))
  generalize hl : hoursL (hasB f r) (enoughN f r f r) = l at *
  generalize enoughN f r f r = n at *
  generalize toS (rowF (hasB f r) K) = FF at *
  generalize toS (rowR (hasB f r) K D) = RR at *
  have C3 : Hid (∀ W g cap, AtBo W g 0 l → g < W.heap.size → n ≤ cap → Calls Try.prog 84 #[.slice (some ⟨g, 0, none⟩) n cap] W fun e w' => e = .returned (.tuple #[.agg #[.string FF, .string RR], .bool true]) ∧ Below W.heap.size W w') := Lib.hid (fun W g cap h1 h2 h3 => by
    have := refFormed_any g n cap l W LN.out n2 (by omega) h3 h1 h2
    rw [HV.out] at this; exact this)
  clear hl n1 HV LN
  go_enter Try.func43, Try.ntmps43
  go_wp2_with fail
  obtain ⟨W0, hW0⟩ : ∃ W0, W0 = (w.alloc (.cells #[.string f, .string r] 24)).alloc (.cells #[.string { data := #[] }, .string { data := #[] }] 24) := ⟨_, rfl⟩
  have B0 : Hid (Below w.heap.size w W0) := Lib.hid (by rw [hW0]; exact ((Below.refl _ _).alloc (Nat.le_refl _) _).alloc (by simp) _)
  have c0 : W0.cell? ⟨w.heap.size, 0, none⟩ = some (.string f) := by rw [hW0]; simp [cell_al]
  have c1 : W0.cell? ⟨w.heap.size, 1, none⟩ = some (.string r) := by rw [hW0]; simp [cell_al]
  have c3 : W0.cell? ⟨w.heap.size + 1, 0, none⟩ = some (.string { data := #[] }) := by rw [hW0]; simp [cell_al]
  have lt : w.heap.size + 1 < W0.heap.size := by rw [hW0]; simp
  have lt2 : w.heap.size < W0.heap.size := by omega
  rw [← hW0]
  have d2 : W0.frozen? ⟨w.heap.size + 1, 0, none⟩ = false := by rw [hW0]; simp [frozen_al]
  have d3 : W0.frozen? ⟨w.heap.size + 1, 1, none⟩ = false := by rw [hW0]; simp [frozen_al]
  have d1 : W0.cell? ⟨w.heap.size + 1, 1, none⟩ = some (.string { data := #[] }) := by rw [hW0]; simp [cell_al]
  clear hW0
  have KEEP : Hid (∀ W, Below W0.heap.size W0 W → w.heap.size + 1 < W.heap.size ∧ W.cell? ⟨w.heap.size + 1, 0, none⟩ = some (.string { data := #[] }) ∧ W.cell? ⟨w.heap.size + 1, 1, none⟩ = some (.string { data := #[] }) ∧ W.frozen? ⟨w.heap.size + 1, 0, none⟩ = false ∧ W.frozen? ⟨w.heap.size + 1, 1, none⟩ = false) :=
    Lib.hid (fun W h => ⟨Nat.lt_of_lt_of_le lt h.size, below_at h lt c3, below_at h lt d1, (h.frozen (p := ⟨w.heap.size + 1, 0, none⟩) lt).trans d2, (h.frozen (p := ⟨w.heap.size + 1, 1, none⟩) lt).trans d3⟩)
  clear d1 d2 d3 c3
  go_cut [3] (fun t3 wx => ∃ b, t3 = .pointer (some ⟨b, 0, none⟩) ∧ w.heap.size + 1 < b ∧ Below W0.heap.size W0 wx ∧ Hid (W0.heap.size ≤ b) ∧ wx.cell? ⟨b, 0, none⟩ = some (.string FF) ∧ wx.cell? ⟨b, 1, none⟩ = some (.string RR) ∧ wx.frozen? ⟨b, 0, none⟩ = false ∧ wx.frozen? ⟨b, 1, none⟩ = false)
  case first =>
    have edr : W0.drew.heap.size = W0.heap.size := rfl
    have BB : Below W0.heap.size W0 W0.drew := (Below.refl _ _).drew
    have SS : Hid (∀ W, Below W0.heap.size W0 W → Below W0.heap.size W0 W ∧ W.cell? ⟨w.heap.size, 0, none⟩ = some (.string f) ∧ W.cell? ⟨w.heap.size, 1, none⟩ = some (.string r)) :=
        Lib.hid (fun W h => ⟨h, below_at h lt2 c0, below_at h lt2 c1⟩)
    go_region_held3 (fun W => Below W0.heap.size W0 W ∧ W.cell? ⟨w.heap.size, 0, none⟩ = some (.string f) ∧ W.cell? ⟨w.heap.size, 1, none⟩ = some (.string r))
      (first
        | exact SS.out _ BB
        | exact SS.out _ (BB.alloc BB.size _)
        | exact SS.out _ ((BB.setCell (by first | exact Nat.le_refl _ | exact BB.size | (dsimp only; omega)) _).setCell (by first | exact Nat.le_refl _ | exact BB.size | (dsimp only; omega)) _))
      (first
        | (go_at_call 86; refine (C1.out _).mono ?_; rintro e wa ⟨rfl, hb⟩; obtain ⟨hc, hfz, hsz⟩ := below_facts hb; clear hc hfz; (try simp only [size_al] at hsz); (first | (have kk := keep_new hb rfl; obtain ⟨klt, k0, k1, k2, k3⟩ := kk) | (have kk := keep_newd hb; obtain ⟨klt, k0, k1, k2, k3⟩ := kk) | (have kk := keep_old hb klt k0 k1 k2 k3; obtain ⟨klt, k0, k1, k2, k3⟩ := kk) | skip); replace BB := (by first | exact Below.andThen BB hb (Nat.le_refl _) | exact Below.andThen (BB.alloc BB.size _) hb (Nat.le_refl _)))
        | (go_at_call 85; refine (C2.out _).mono ?_; rintro e wa ⟨g, cap, rfl, hcap, hat, hg1, hg2, hg3, hb⟩; obtain ⟨hc, hfz, hsz⟩ := below_facts hb; clear hc hfz; (try simp only [size_al] at hsz); (first | (have kk := keep_new hb rfl; obtain ⟨klt, k0, k1, k2, k3⟩ := kk) | (have kk := keep_newd hb; obtain ⟨klt, k0, k1, k2, k3⟩ := kk) | (have kk := keep_old hb klt k0 k1 k2 k3; obtain ⟨klt, k0, k1, k2, k3⟩ := kk) | skip); replace BB := (by first | exact Below.andThen BB hb (Nat.le_refl _) | exact Below.andThen (BB.alloc BB.size _) hb (Nat.le_refl _)))
        | (go_at_call 84; refine (C3.out _ _ _ (by first | exact hat | exact hat.below ((Below.refl _ _).alloc (Nat.le_refl _) _) hg2) (by first | exact hg2 | (rw [size_al]; omega)) hcap).mono ?_; rintro e wa ⟨rfl, hb⟩; obtain ⟨hc, hfz, hsz⟩ := below_facts hb; clear hc hfz; (try simp only [size_al] at hsz); (first | (have kk := keep_new hb rfl; obtain ⟨klt, k0, k1, k2, k3⟩ := kk) | (have kk := keep_newd hb; obtain ⟨klt, k0, k1, k2, k3⟩ := kk) | (have kk := keep_old hb klt k0 k1 k2 k3; obtain ⟨klt, k0, k1, k2, k3⟩ := kk) | skip); replace BB := (by first | exact Below.andThen BB hb (Nat.le_refl _) | exact Below.andThen (BB.alloc BB.size _) hb (Nat.le_refl _))))
    all_goals
      have L1 := BB.size
      go_wp2_with fail
      go_meet
      clear SS C1 C2 C3
      refine ⟨_, rfl, ?_, ?_, ?_, ?_, ?_, ?_, ?_⟩
      · first | omega | (simp only [size_al] at *; omega)
      · first | exact BB.alloc BB.size _ | exact ((BB.setCell (by first | exact Nat.le_refl _ | exact BB.size | (dsimp only; omega)) _).setCell (by first | exact Nat.le_refl _ | exact BB.size | (dsimp only; omega)) _)
      · exact Lib.hid (by first | omega | (simp only [size_al] at *; omega))
      · first | exact (two_set k0 k1).1 | (simp [cell_al]; done)
      · first | exact (two_set k0 k1).2 | (simp [cell_al]; done)
      · first | (simp [*]; done) | (simp [frozen_al]; done)
      · first | (simp [*]; done) | (simp [frozen_al]; done)
  case rest =>
    obtain ⟨b, rfl, hlt, hB, hle, k0, k1, k2, k3⟩ := hcut
    obtain ⟨kl, l0, l1, l2, l3⟩ := KEEP.out _ hB
    have T := Lib.hid (B0.out.trans (hB.mono (by have := B0.out.size; omega)))
    have hne : ¬ (w.heap.size + 1 = b) := by omega
    have hne' : ¬ (b = w.heap.size + 1) := by omega
    clear KEEP C1 C2 C3 B0 hB c0 c1
    go_wp2_with fail
    exact bodyPost_ret (v := .agg #[.string FF, .string RR]) (by simp [results, Try.results43, go_sem, toS, *]) rfl ⟨rfl, (T.out.setCell (p := ⟨w.heap.size + 1, 0, none⟩) (by dsimp only; omega) _).setCell (p := ⟨w.heap.size + 1, 1, none⟩) (by dsimp only; omega) _⟩
end Go.Proofs.Ytbhlddfjfcmncaa
