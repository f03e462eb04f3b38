import Derived.Test.YtbhlddfjfcmncaaYl
import Derived.Maps.OwnIn
import Derived.Maps.OwnSet
import Derived.RangeFuncNested
import Derived.RangeFuncBound
import Derived.RangeFuncCalls
import Derived.RangeFuncLeaves
import Derived.Shelf.Abstract
import Derived.Shelf.RegionOpen
import Derived.WalkKit
import Derived.OwnWalkIn
import Derived.TacticsInMore
import Derived.LoopNIn
import Derived.LoopIn
import Derived.WalkSpells
import Derived.WalkLawsBesides
import Derived.BigQuiet
import Derived.Deep.QuietTactic
import Derived.Lib.Hide
import Derived.Deep.RegionHeld3
import Derived.StillTailTactics
import Derived.Lib.MakeNoZero
import Derived.Laws.CopyOwn
import Derived.Deep.RegionLaw
import Derived.Deep.LoopGhost
import Derived.Deep.CutBlock
import Derived.Deep.DeepCutAuto
import Derived.Lib.IndexAny
namespace Go.Proofs.Ytbhlddfjfcmncaa
open Go.RowKit Go.Shelf
attribute [local go_sem] Oper.semAt_some
def flipL (k : Nat) (l : List Bool) : List Bool := (l.take k).map (fun b => !b) ++ l.drop k
theorem flipL_length (k : Nat) (l : List Bool) (h : k ≤ l.length) : (flipL k l).length = l.length := by unfold flipL; simp; omega
theorem flipL_at (k : Nat) (l : List Bool) (h : k < l.length) : (flipL k l)[k]? = some l[k] := by
  unfold flipL; rw [List.getElem?_append_right (by simp; omega)]; simp [Nat.min_eq_left (Nat.le_of_lt h), h]
theorem flipL_succ (k : Nat) (l : List Bool) (h : k < l.length) : flipL (k + 1) l = (flipL k l).set k (!l[k]) := by
  unfold flipL
  apply List.ext_getElem?
  intro i
  rw [List.getElem?_set]
  by_cases h1 : i < k
  · rw [if_neg (by omega), List.getElem?_append_left (by simp; omega), List.getElem?_append_left (by simp; omega)]
    simp [h1, show i < k + 1 by omega]
  · by_cases h2 : i = k
    · subst h2
      rw [if_pos rfl, if_pos (by simp; omega), List.getElem?_append_left (by simp; omega)]
      simp [h]
    · rw [if_neg (by omega), List.getElem?_append_right (by simp; omega), List.getElem?_append_right (by simp; omega)]
      simp [Nat.min_eq_left (Nat.le_of_lt h), Nat.min_eq_left (show k + 1 ≤ l.length from h)]
      congr 1; omega
theorem flipL_full (X : Nat → Bool) (n : Nat) : flipL n (hoursL X n) = hoursL (fun i => !X i) n := by
  unfold flipL
  rw [List.take_of_length_le (by rw [hoursL_length]; exact Nat.le_refl _), List.drop_of_length_le (by rw [hoursL_length]; exact Nat.le_refl _), List.append_nil]
  unfold hoursL; rw [List.map_map]; rfl
theorem AtBo.set {w : World} {g : Nat} {l : List Bool} (h : AtBo w g 0 l) (k : Nat) (b : Bool) (hk : k < l.length) : AtBo (w.setCell ⟨g, k, none⟩ (.bool b)) g 0 (l.set k b) := by
  intro i hi
  rw [List.length_set] at hi
  have hc := h i hi
  rw [Nat.zero_add] at hc ⊢
  rw [List.getElem_set]
  by_cases e : k = i
  · subst e
    rw [if_pos rfl]
    exact World.cell?_setCell_same _ _ _ hc
  · rw [if_neg e]
    exact (World.cell?_setCell_other _ _ _ _ (by simp [e])).trans hc
set_option maxRecDepth 100000 in
set_option maxHeartbeats 2000000 in
theorem refNot_any (f r : ByteArray) (w : World) (ht : tideB (f, r) = true) (K D : Nat) (hF : IsForm (hasB f r) K D) :
    Calls Try.prog 44 #[.agg #[.string f, .string r]] w fun e w' => e = .returned (.agg #[.string (toS (rowF (fun i => !hasB f r i) K)), .string (toS (rowR (fun i => !hasB f r i) K D))]) ∧ Below w.heap.size w w' := by
  obtain ⟨z1, z2, z3⟩ := tideB_size ht
  obtain ⟨n1, n2⟩ := enough_self (f := f) z3
  have n3 := enough_le z1 z3 z2 z1 z3 z2
  have hp : Per (hasB f r) f.size r.size := by have := hasB_per f r 1; rwa [Nat.one_mul] at this
  have hp2 : Per (fun i => !hasB f r i) f.size r.size := fun i hi => by simp [hp i hi]
  have hKF := hF.le_first hp z3
  have hDR := Nat.le_of_dvd z3 (hF.dvd hp z3)
  have HV : Hid (formedV (hoursL (fun i => !hasB f r i) (enoughN f r f r)) = .tuple #[.agg #[.string (toS (rowF (fun i => !hasB f r i) K)), .string (toS (rowR (fun i => !hasB f r i) K D))], .bool true]) := Lib.hid (by
    rw [formedV_row (isForm_not hF) hp2 z3 n1, if_pos ⟨by omega, by omega⟩])
  have C1 : Hid (∀ W, Calls Try.prog 86 #[.agg #[.string f, .string r], .agg #[.string f, .string r]] W fun e w' => e = .returned (.int .i64 (enoughN f r f r)) ∧ Below W.heap.size W w') := Lib.hid (fun W => refEnough_any f r f r W z1 z3 z2 z1 z3 z2)
  have LN : Hid ((hoursL (hasB f r) (enoughN f r f r)).length = enoughN f r f r) := Lib.hid (hoursL_length _ _)
  have LF : Hid (flipL (enoughN f r f r) (hoursL (hasB f r) (enoughN f r f r)) = hoursL (fun i => !hasB f r i) (enoughN f r f r)) := Lib.hid (flipL_full _ _)
  have LM : Hid ((hoursL (fun i => !hasB f r i) (enoughN f r f r)).length = enoughN f r f r) := Lib.hid (hoursL_length _ _)
  have C2 : Hid (∀ W, Calls Try.prog 85 #[.agg #[.string f, .string r], .int .i64 (enoughN f r f r)] W fun e w' => ∃ g cap : Nat, e = .returned (.slice (some ⟨g, 0, none⟩) (enoughN f r f r) cap) ∧ enoughN f r f r ≤ cap ∧ AtBo w' g 0 (hoursL (hasB f r) (enoughN f r f r)) ∧ W.heap.size < g ∧ g < w'.heap.size ∧ (∀ i, w'.frozen? ⟨g, i, none⟩ = false) ∧ Below W.heap.size W w') := Lib.hid (fun W => refHours_any f r _ W z3 (by omega) (by omega))
  generalize hl : hoursL (hasB f r) (enoughN f r f r) = l at *
  generalize hm : hoursL (fun i => !hasB f r i) (enoughN f r f r) = m at *
  generalize enoughN f r f r = n at *
  generalize toS (rowF (fun i => !hasB f r i) K) = FF at *
  generalize toS (rowR (fun i => !hasB f r i) K D) = RR at *
  have C3 : Hid (∀ W g cap, AtBo W g 0 m → g < W.heap.size → n ≤ cap → Calls Try.prog 84 #[.slice (some ⟨g, 0, none⟩) n cap] W fun e w' => e = .returned (.tuple #[.agg #[.string FF, .string RR], .bool true]) ∧ Below W.heap.size W w') := Lib.hid (fun W g cap h1 h2 h3 => by
    have := refFormed_any g n cap m W LM.out n2 (by omega) h3 h1 h2
    rw [HV.out] at this; exact this)
  clear hl hm n1 HV LM
  go_enter Try.func44, Try.ntmps44
  go_wp2_with fail
  obtain ⟨W0, hW0⟩ : ∃ W0, W0 = (w.alloc (.cells #[.string f, .string r] 24)).alloc (.cells #[.string { data := #[] }, .string { data := #[] }] 24) := ⟨_, rfl⟩
  have B0 : Hid (Below w.heap.size w W0) := Lib.hid (by rw [hW0]; exact ((Below.refl _ _).alloc (Nat.le_refl _) _).alloc (by simp) _)
  have c0 : W0.cell? ⟨w.heap.size, 0, none⟩ = some (.string f) := by rw [hW0]; simp [cell_al]
  have c1 : W0.cell? ⟨w.heap.size, 1, none⟩ = some (.string r) := by rw [hW0]; simp [cell_al]
  have c3 : W0.cell? ⟨w.heap.size + 1, 0, none⟩ = some (.string { data := #[] }) := by rw [hW0]; simp [cell_al]
  have lt : w.heap.size + 1 < W0.heap.size := by rw [hW0]; simp
  have lt2 : w.heap.size < W0.heap.size := by omega
  rw [← hW0]
  have d2 : W0.frozen? ⟨w.heap.size + 1, 0, none⟩ = false := by rw [hW0]; simp [frozen_al]
  have d3 : W0.frozen? ⟨w.heap.size + 1, 1, none⟩ = false := by rw [hW0]; simp [frozen_al]
  have d1 : W0.cell? ⟨w.heap.size + 1, 1, none⟩ = some (.string { data := #[] }) := by rw [hW0]; simp [cell_al]
  clear hW0
  have KEEP : Hid (∀ W, Below W0.heap.size W0 W → w.heap.size + 1 < W.heap.size ∧ W.cell? ⟨w.heap.size + 1, 0, none⟩ = some (.string { data := #[] }) ∧ W.cell? ⟨w.heap.size + 1, 1, none⟩ = some (.string { data := #[] }) ∧ W.frozen? ⟨w.heap.size + 1, 0, none⟩ = false ∧ W.frozen? ⟨w.heap.size + 1, 1, none⟩ = false) :=
    Lib.hid (fun W h => ⟨Nat.lt_of_lt_of_le lt h.size, below_at h lt c3, below_at h lt d1, (h.frozen (p := ⟨w.heap.size + 1, 0, none⟩) lt).trans d2, (h.frozen (p := ⟨w.heap.size + 1, 1, none⟩) lt).trans d3⟩)
  clear d1 d2 d3 c3
  have BB : Below W0.heap.size W0 W0.drew := (Below.refl _ _).drew
  have SS : Hid (∀ W, Below W0.heap.size W0 W → Below W0.heap.size W0 W ∧ W.cell? ⟨w.heap.size, 0, none⟩ = some (.string f) ∧ W.cell? ⟨w.heap.size, 1, none⟩ = some (.string r)) :=
      Lib.hid (fun W h => ⟨h, below_at h lt2 c0, below_at h lt2 c1⟩)
  go_region_held3 (fun W => Below W0.heap.size W0 W ∧ W.cell? ⟨w.heap.size, 0, none⟩ = some (.string f) ∧ W.cell? ⟨w.heap.size, 1, none⟩ = some (.string r))
    (first
      | exact SS.out _ BB)
    (first
      | (go_at_call 86; refine (C1.out _).mono ?_; rintro e wa ⟨rfl, hb⟩; replace BB := Below.andThen BB hb (Nat.le_refl _))
      | (go_at_call 85; refine (C2.out _).mono ?_; rintro e wa ⟨g, cap, rfl, hcap, hat, hg1, hg2, hg3, hb⟩; have hg0 := Nat.lt_of_le_of_lt BB.size hg1; replace BB := Below.andThen BB hb (Nat.le_refl _)))
  have HAT := Lib.hid hat
  have HG3 := Lib.hid hg3
  have HBB := Lib.hid BB
  clear SS C1 C2 c0 c1 hat hg3 BB
  go_wp2_with fail
  go_loopw [4] (fun i wr => ∃ k : Nat, k ≤ n ∧ i = .int .i64 k ∧ Hid (AtBo wr g 0 (flipL k l)) ∧ Hid (∀ i, wr.frozen? ⟨g, i, none⟩ = false) ∧ Hid (Below W0.heap.size W0 wr) ∧ Hid (g < wr.heap.size)) (fun i _ => n - (intOf i).toNat)
  case atStart => exact ⟨0, Nat.zero_le _, rfl, HAT, HG3, HBB, Lib.hid hg2⟩
  case round =>
    clear HAT HG3 HBB
    obtain ⟨k, hk, rfl, hA, hZ, hB, hG⟩ := hrel
    by_cases hlt : k < n
    · have L1 : k < l.length := by rw [LN.out]; exact hlt
      have L2 : k < (flipL k l).length := by rw [flipL_length _ _ (by omega)]; exact L1
      have a1 : wr.cell? ⟨g, k, none⟩ = some (.bool l[k]) := by
        have := hA.out k L2
        rw [Nat.zero_add] at this
        rw [this]
        have e := flipL_at k l L1
        rw [List.getElem?_eq_getElem L2] at e
        simp at e; rw [e]
      have a2 := hZ.out k
      have N1 := Lib.hid (hA.out.set k (!l[k]) L2)
      rw [← flipL_succ k l L1] at N1
      have N2 : Hid (∀ i, (wr.setCell ⟨g, k, none⟩ (.bool !l[k])).frozen? ⟨g, i, none⟩ = false) := Lib.hid (fun i => (World.frozen?_setCell _ _ _ _).trans (hZ.out i))
      have N3 : Hid (Below W0.heap.size W0 (wr.setCell ⟨g, k, none⟩ (.bool !l[k]))) := Lib.hid (hB.out.setCell (p := ⟨g, k, none⟩) (Nat.le_of_lt hg0) _)
      have N4 : Hid (g < (wr.setCell ⟨g, k, none⟩ (.bool !l[k])).heap.size) := Lib.hid (Nat.lt_of_lt_of_le hG.out (by simp [World.setCell]))
      clear hA hZ hB hG
      generalize l[k] = x at *
      go_wp2_with fail
      go_roundw
      case rel => exact ⟨k + 1, by omega, rfl, N1, N2, N3, N4⟩
      case measure => simp [intOf]; omega
    · have hkn : k = n := by omega
      subst hkn
      rw [LF.out] at hA
      have HC := Lib.hid (C3.out wr g cap hA.out hG.out hcap)
      go_wp2_with fail
      refine HC.out.mono ?_
      rintro e w3 ⟨rfl, hb⟩
      have B3 : Below W0.heap.size W0 w3 := Below.andThen hB.out hb (by have := hB.out.size; exact Nat.le_refl _)
      obtain ⟨kl, l0, l1, l2, l3⟩ := KEEP.out _ B3
      have T := Lib.hid (B0.out.trans (B3.mono (by have := B0.out.size; omega)))
      clear hb B3 KEEP C3 B0 hB hA hZ HC
      have hne : ¬ (w.heap.size + 1 = w3.heap.size) := by omega
      have hne' : ¬ (w3.heap.size = w.heap.size + 1) := by omega
      go_wp2_with fail
      exact bodyPost_ret (v := .agg #[.string FF, .string RR]) (by simp [results, Try.results44, go_sem, cell_al, *]) rfl ⟨rfl, ((T.out.setCell (p := ⟨w.heap.size + 1, 0, none⟩) (by dsimp only; omega) _).setCell (p := ⟨w.heap.size + 1, 1, none⟩) (by dsimp only; omega) _).alloc (Below.size ((T.out.setCell (p := ⟨w.heap.size + 1, 0, none⟩) (by dsimp only; omega) _).setCell (p := ⟨w.heap.size + 1, 1, none⟩) (by dsimp only; omega) _)) _⟩
end Go.Proofs.Ytbhlddfjfcmncaa
