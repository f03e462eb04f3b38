import Derived.Test.YtbhlddfjfcmncaaZt
import Derived.Test.YtbhlddfjfcmncaaZb
import Derived.Maps.OwnIn
import Derived.Maps.OwnSet
import Derived.RangeFuncNested
import Derived.RangeFuncBound
import Derived.RangeFuncCalls
import Derived.RangeFuncLeaves
import Derived.Shelf.Abstract
import Derived.Shelf.RegionOpen
import Derived.WalkKit
import Derived.OwnWalkIn
import Derived.TacticsInMore
import Derived.LoopNIn
import Derived.LoopIn
import Derived.WalkSpells
import Derived.WalkLawsBesides
import Derived.BigQuiet
import Derived.Deep.QuietTactic
import Derived.Lib.Hide
import Derived.Deep.RegionHeld3
import Derived.StillTailTactics
import Derived.Lib.MakeNoZero
import Derived.Laws.CopyOwn
import Derived.Deep.RegionLaw
import Derived.Deep.LoopGhost
import Derived.Deep.CutBlock
import Derived.Deep.DeepCutAuto
import Derived.Lib.IndexAny
namespace Go.Proofs.Ytbhlddfjfcmncaa
open Go.RowKit Go.Shelf
attribute [local go_sem] Oper.semAt_some
/-- the sums whose first hour is less than i -/
def sumS (X Y : Nat → Bool) (i j : Nat) : Bool := (List.range i).any fun a => decide (a ≤ j) && X a && Y (j - a)
/-- and those of i and of an hour less than k -/
def sumT (X Y : Nat → Bool) (i k j : Nat) : Bool := sumS X Y i j || (X i && decide (i ≤ j) && decide (j < i + k) && Y (j - i))
theorem sumS_zero (X Y : Nat → Bool) (j : Nat) : sumS X Y 0 j = false := by unfold sumS; simp
theorem sumS_succ (X Y : Nat → Bool) (i j : Nat) : sumS X Y (i + 1) j = (sumS X Y i j || (decide (i ≤ j) && X i && Y (j - i))) := by
  unfold sumS; rw [List.range_succ, List.any_append]; simp
theorem sumS_end {X Y : Nat → Bool} {N j : Nat} (h : j < N) : sumS X Y N j = sumY X Y j := by
  apply bool_iff
  unfold sumS sumY
  rw [List.any_eq_true, List.any_eq_true]
  constructor
  · rintro ⟨a, ha, h1⟩
    rw [Bool.and_eq_true, Bool.and_eq_true, decide_eq_true_eq] at h1
    exact ⟨a, List.mem_range.2 (by omega), by rw [h1.1.2, h1.2]; rfl⟩
  · rintro ⟨a, ha, h1⟩
    rw [List.mem_range] at ha
    rw [Bool.and_eq_true] at h1
    exact ⟨a, List.mem_range.2 (by omega), by rw [h1.1, h1.2, decide_eq_true (show a ≤ j by omega)]; rfl⟩
def rowB (N : Nat) (Z : Nat → Bool) : List Value := (List.range N).map fun j => Value.bool (Z j)
theorem rowB_congr {N : Nat} {Z Z' : Nat → Bool} (h : ∀ j, j < N → Z j = Z' j) : rowB N Z = rowB N Z' := by
  unfold rowB
  refine List.map_congr_left fun j hj => ?_
  rw [h j (List.mem_range.1 hj)]
theorem rowB_set {N i : Nat} {Z Z' : Nat → Bool} {v : Bool} (hi : i < N) (h1 : Z' i = v) (h2 : ∀ j, j < N → j ≠ i → Z' j = Z j) : (rowB N Z).set i (.bool v) = rowB N Z' := by
  unfold rowB
  apply List.ext_getElem
  · simp
  · intro j a b
    have hj : j < N := by simpa using b
    rw [List.getElem_set]
    split
    · rename_i e; subst e; simp [h1]
    · rename_i e; simp [h2 j hj (fun h => e h.symm)]
theorem rowB_get {N i : Nat} {Z : Nat → Bool} (hi : i < N) : (rowB N Z)[i]? = some (.bool (Z i)) := by unfold rowB; simp [hi]
theorem rowB_zero (N : Nat) (X Y : Nat → Bool) : rowB N (sumS X Y 0) = List.replicate N (.bool false) := by
  unfold rowB; rw [List.eq_replicate_iff]; refine ⟨by simp, fun b hb => ?_⟩
  obtain ⟨j, _, rfl⟩ := List.mem_map.1 hb; rw [sumS_zero]
theorem sumT_zero (X Y : Nat → Bool) (N i : Nat) : rowB N (sumT X Y i 0) = rowB N (sumS X Y i) := rowB_congr fun j _ => by
  unfold sumT
  by_cases h : i ≤ j
  · rw [decide_eq_false (show ¬ j < i + 0 by omega)]; simp
  · rw [decide_eq_false h]; simp
theorem sumT_yes {X Y : Nat → Bool} {N i k : Nat} (hX : X i = true) (hY : Y k = true) (h : i + k < N) : (rowB N (sumT X Y i k)).set (i + k) (.bool true) = rowB N (sumT X Y i (k + 1)) := by
  refine rowB_set h ?_ fun j hj hne => ?_
  · unfold sumT; rw [hX, decide_eq_true (show i ≤ i + k by omega), decide_eq_true (show i + k < i + (k + 1) by omega), show i + k - i = k by omega, hY]; simp
  · unfold sumT
    by_cases h1 : j < i + k
    · rw [decide_eq_true (show j < i + (k + 1) by omega), decide_eq_true h1]
    · rw [decide_eq_false (show ¬ j < i + (k + 1) by omega), decide_eq_false h1]
theorem sumT_no {X Y : Nat → Bool} {N i k : Nat} (hY : Y k = false) : rowB N (sumT X Y i k) = rowB N (sumT X Y i (k + 1)) := rowB_congr fun j hj => by
  unfold sumT
  by_cases h1 : j < i + k
  · rw [decide_eq_true (show j < i + (k + 1) by omega), decide_eq_true h1]
  · by_cases h2 : j = i + k
    · subst h2; rw [show i + k - i = k by omega, hY]; simp
    · rw [decide_eq_false (show ¬ j < i + (k + 1) by omega), decide_eq_false h1]
theorem sumT_end {X Y : Nat → Bool} {N i k : Nat} (hX : X i = true) (h : N ≤ i + k) : rowB N (sumT X Y i k) = rowB N (sumS X Y (i + 1)) := rowB_congr fun j hj => by
  rw [sumS_succ]; unfold sumT
  rw [hX, decide_eq_true (show j < i + k by omega)]
  simp
theorem sumS_skip {X Y : Nat → Bool} {N i : Nat} (hX : X i = false) : rowB N (sumS X Y i) = rowB N (sumS X Y (i + 1)) := rowB_congr fun j hj => by
  rw [sumS_succ, hX]; simp
theorem atBo_rowB {W : World} {g N : Nat} {X Y : Nat → Bool} (h : Row W g 4 (rowB N (sumS X Y N))) : AtBo W g 0 (hoursL (sumY X Y) N) := fun i hi => by
  have hi' := hi
  rw [hoursL_length] at hi'
  rw [Nat.zero_add, h.cell, rowB_get hi', sumS_end hi']
  simp [hoursL]
set_option maxRecDepth 100000 in
set_option maxHeartbeats 2000000 in
theorem refSum_any (f r g s : ByteArray) (w : World) (ht : tideB (f, r) = true) (hu : tideB (g, s) = true) (a b : ByteArray) (c : Bool) (hv : formedV (hoursL ((sumY (hasB f r) (hasB g s))) (enoughN f r g s)) = .tuple #[.agg #[.string a, .string b], .bool c]) :
    Calls Try.prog 46 #[.agg #[.string f, .string r], .agg #[.string g, .string s], .int .i64 2] w fun e w' => e = .returned (.tuple #[.agg #[.string a, .string b], .bool c]) ∧ Below w.heap.size w w' := by
  obtain ⟨z1, z2, z3⟩ := tideB_size ht
  obtain ⟨y1, y2, y3⟩ := tideB_size hu
  have n3 := enough_le z1 z3 z2 y1 y3 y2
  have n2 : 100 ≤ enoughN f r g s := by unfold enoughN; omega
  have C1 : Hid (∀ W, Calls Try.prog 86 #[.agg #[.string f, .string r], .agg #[.string g, .string s]] W fun e w' => e = .returned (.int .i64 (enoughN f r g s)) ∧ Below W.heap.size W w') := Lib.hid (fun W => refEnough_any f r g s W z1 z3 z2 y1 y3 y2)
  have C2 : Hid (∀ (f' r' : ByteArray) W, 1 ≤ r'.size → Calls Try.prog 85 #[.agg #[.string f', .string r'], .int .i64 (enoughN f r g s)] W fun e w' => ∃ b cap : Nat, e = .returned (.slice (some ⟨b, 0, none⟩) (enoughN f r g s) cap) ∧ OwnH (enoughN f r g s) w' W.heap.size f' r' b cap ∧ Below W.heap.size W w') := Lib.hid (fun f' r' W h => by
    refine (refHours_any f' r' _ W h (by omega) (by omega)).mono ?_
    rintro e w' ⟨b, cap, rfl, h1, h2, h3, h4, h5, h6⟩
    exact ⟨b, cap, rfl, ⟨h1, h2, h3, h4⟩, h6⟩)
  have C3 : Hid (∀ W bb cap, AtBo W bb 0 (hoursL ((sumY (hasB f r) (hasB g s))) (enoughN f r g s)) → bb < W.heap.size → enoughN f r g s ≤ cap → Calls Try.prog 84 #[.slice (some ⟨bb, 0, none⟩) (enoughN f r g s) cap] W fun e w' => e = .returned (.tuple #[.agg #[.string a, .string b], .bool c]) ∧ Below W.heap.size W w') := Lib.hid (fun W g' cap h1 h2 h3 => by
    have := refFormed_any g' _ cap _ W (hoursL_length _ _) n2 (by omega) h3 h1 h2
    rw [hv] at this; exact this)
  clear hv ht hu
  generalize enoughN f r g s = N at *
  have hmk := fun w => make_boolsA N (by omega) w
  go_enter Try.func46, Try.ntmps46
  go_wp2_with fail
  obtain ⟨W0, hW0⟩ : ∃ W0, W0 = ((w.alloc (.cells #[.string f, .string r] 24)).alloc (.cells #[.string g, .string s] 24)).alloc (.cells #[.string { data := #[] }, .string { data := #[] }] 24) := ⟨_, rfl⟩
  have B0 : Hid (Below w.heap.size w W0) := Lib.hid (by rw [hW0]; exact (((Below.refl _ _).alloc (Nat.le_refl _) _).alloc (by simp) _).alloc (by simp; omega) _)
  have s0 : W0.heap.size = w.heap.size + 3 := by rw [hW0, size_al, size_al, size_al]
  have P : Hid (∀ W, Below W0.heap.size W0 W → W.cell? ⟨w.heap.size, 0, none⟩ = some (.string f) ∧ W.cell? ⟨w.heap.size, 1, none⟩ = some (.string r) ∧ W.cell? ⟨w.heap.size + 1, 0, none⟩ = some (.string g) ∧ W.cell? ⟨w.heap.size + 1, 1, none⟩ = some (.string s)) := Lib.hid (fun W h => by
    refine ⟨below_at h (by omega) ?_, below_at h (by omega) ?_, below_at h (by omega) ?_, below_at h (by omega) ?_⟩ <;> (rw [hW0]; simp [cell_al] <;> (intro h; omega)))
  have KEEP : Hid (∀ W, Below W0.heap.size W0 W → w.heap.size + 2 < W.heap.size ∧ W.cell? ⟨w.heap.size + 1 + 1, 0, none⟩ = some (.string { data := #[] }) ∧ W.cell? ⟨w.heap.size + 1 + 1, 1, none⟩ = some (.string { data := #[] }) ∧ W.frozen? ⟨w.heap.size + 1 + 1, 0, none⟩ = false ∧ W.frozen? ⟨w.heap.size + 1 + 1, 1, none⟩ = false) := Lib.hid (fun W h =>
    ⟨Nat.lt_of_lt_of_le (by omega) h.size, below_at h (by omega) (by rw [hW0]; simp [cell_al]), below_at h (by omega) (by rw [hW0]; simp [cell_al]), (h.frozen (p := ⟨w.heap.size + 1 + 1, 0, none⟩) (by show _ + 1 + 1 < _; omega)).trans (by rw [hW0]; simp [frozen_al]), (h.frozen (p := ⟨w.heap.size + 1 + 1, 1, none⟩) (by show _ + 1 + 1 < _; omega)).trans (by rw [hW0]; simp [frozen_al])⟩)
  refine (C1.out _).mono ?_
  rintro e w1 ⟨rfl, hb1⟩
  have BB : Below W0.heap.size W0 w1 := by rw [← hW0] at hb1; exact hb1
  have S0 := Lib.hid s0
  clear hb1 hW0 s0 C1 hmk
  obtain ⟨c0, c1, c2, c3⟩ := P.out w1 BB
  go_wp2_with fail
  have BB2 : Below W0.heap.size W0 w1.drew := BB.drew
  go_region_held3 (fun W => W.cell? ⟨w.heap.size, 0, none⟩ = some (.string f) ∧ W.cell? ⟨w.heap.size, 1, none⟩ = some (.string r) ∧ W.cell? ⟨w.heap.size + 1, 0, none⟩ = some (.string g) ∧ W.cell? ⟨w.heap.size + 1, 1, none⟩ = some (.string s))
    (exact P.out _ BB2)
    (first | (go_at_call 85; refine (C2.out _ _ _ (by first | exact z3 | exact y3)).mono ?_; rintro e wa ⟨bx, cx, rfl, hk, hb⟩; (first | (have A1 : OwnH N wa _ f r bx cx := hk) | (have A2 : OwnH N wa _ g s bx cx := hk)); (try (replace A1 := A1.below hb)); (try (replace A2 := A2.below hb)); clear hk; replace BB2 := Below.andThen BB2 hb (Nat.le_refl _)))
  rename_i wA bA cA hbA hH
  have AX := Lib.hid A1
  have AY := Lib.hid A2
  have T := Lib.hid BB2
  have lO : Hid (w.heap.size + 3 ≤ wa.heap.size) := Lib.hid (by have := BB2.size; have := S0.out; omega)
  clear A1 A2 hH BB BB2 c0 c1 c2 c3 C2 P hb hbA
  have hmk := fun w => make_boolsA N (by omega) w
  go_wp2_with fail
  clear hmk
  go_loopw [12, 13] (fun i _ wr => ∃ k : Nat, k ≤ N ∧ i = .int .i64 k ∧ Hid (Row wr wa.heap.size 4 (rowB N (sumS (hasB f r) (hasB g s) k))) ∧ Hid (Below wa.heap.size wa wr)) (fun i _ _ => N - (intOf i).toNat)
  case atStart =>
    refine ⟨0, Nat.zero_le _, rfl, Lib.hid ?_, Lib.hid ((Below.refl _ _).alloc (Nat.le_refl _) _)⟩
    have := Row.new wa 4 (List.replicate N (.bool false))
    rw [rowB_zero]
    simpa using this
  case round =>
    obtain ⟨k, hk, rfl, hR, hB⟩ := hrel
    by_cases hlt : k < N
    · have hRow := hR.out
      clear hR
      obtain ⟨wo, hwo⟩ : ∃ wo : World, wo = wr := ⟨_, rfl⟩
      have x1 := (AX.out.get k hlt hB.out)
      cases hX : hasB f r k with
      | false =>
        have N1 : Row wr wa.heap.size 4 (rowB N (sumS (hasB f r) (hasB g s) (k + 1))) := by rw [← sumS_skip hX]; exact hRow
        rw [hX] at x1
        have N2 := Lib.hid N1
        clear N1 hRow hX hwo wo
        go_wp2_with fail
        go_loopw [13] (fun x wq => x = .int .i64 0 ∧ wq = wr) (fun _ _ => 0)
        case atStart => exact ⟨rfl, rfl⟩
        case round =>
          obtain ⟨rfl, rfl⟩ := hrel
          go_wp2_with fail
          go_roundw
          case rel => exact ⟨k + 1, by omega, by go_num, N2, hB⟩
          case measure => simp [intOf]; omega
      | true =>
        subst hwo
        have HX := Lib.hid hX
        have HR := Lib.hid hRow
        clear hX hRow x1
        go_wp2_with fail
        go_loopw [13] (fun x wq => ∃ m : Nat, m ≤ N ∧ x = .int .i64 m ∧ Hid (Row wq wa.heap.size 4 (rowB N (sumT (hasB f r) (hasB g s) k m))) ∧ Hid (Below wa.heap.size wa wq)) (fun x _ => N - (intOf x).toNat)
        case atStart => exact ⟨0, Nat.zero_le _, rfl, Lib.hid (by rw [sumT_zero]; exact HR.out), hB⟩
        case round =>
          clear hB HR
          obtain ⟨m, hm, rfl, hR, hB⟩ := hrel
          by_cases hin : k + m < N
          · have x1 := (AX.out.get k hlt hB.out)
            have x2 := (AY.out.get m (by omega) hB.out)
            rw [HX.out] at x1
            have e1 : (k : Int) + (m : Int) = ((k + m : Nat) : Int) := by omega
            cases hY : hasB g s m with
            | false =>
              have N1 : Row wr wa.heap.size 4 (rowB N (sumT (hasB f r) (hasB g s) k (m + 1))) := by rw [← sumT_no hY]; exact hR.out
              rw [hY] at x2
              have N2 := Lib.hid N1
              clear N1 hR hY e1
              go_wp2_with fail
              go_roundw
              case rel => exact ⟨m + 1, by omega, by go_num, N2, hB⟩
              case measure => simp [intOf]; omega
            | true =>
              have x3 : wr.cell? ⟨wa.heap.size, k + m, none⟩ = some (.bool (sumT (hasB f r) (hasB g s) k m (k + m))) := by rw [hR.out.cell, rowB_get hin]
              have x4 := hR.out.frozen (k + m)
              have N1 : Row (wr.setCell ⟨wa.heap.size, k + m, none⟩ (.bool true)) wa.heap.size 4 (rowB N (sumT (hasB f r) (hasB g s) k (m + 1))) := by
                have h := hR.out.set (k + m) (.bool true)
                rw [sumT_yes HX.out hY hin] at h; exact h
              have N3 := Lib.hid (hB.out.setCell (p := ⟨wa.heap.size, k + m, none⟩) (Nat.le_refl _) (.bool true))
              rw [hY] at x2
              have N2 := Lib.hid N1
              clear N1 hR hY e1
              generalize sumT (hasB f r) (hasB g s) k m (k + m) = vv at *
              go_wp2_with fail
              go_roundw
              case rel => exact ⟨m + 1, by omega, by go_num, N2, N3⟩
              case measure => simp [intOf]; omega
          · have N1 : Row wr wa.heap.size 4 (rowB N (sumS (hasB f r) (hasB g s) (k + 1))) := by rw [← sumT_end HX.out (show N ≤ k + m by omega)]; exact hR.out
            have N2 := Lib.hid N1
            clear N1 hR
            go_wp2_with fail
            go_roundw
            case rel => exact ⟨k + 1, by omega, by go_num, N2, hB⟩
            case measure => simp [intOf]; omega
    · obtain rfl : k = N := by omega
      have hat : AtBo wr wa.heap.size 0 (hoursL ((sumY (hasB f r) (hasB g s))) k) := atBo_rowB hR.out
      have hc := C3.out wr wa.heap.size k hat hR.out.lt (Nat.le_refl _)
      have HC := Lib.hid hc
      clear hc hat C3
      go_wp2_with fail
      refine HC.out.mono ?_
      rintro e w3 ⟨rfl, hb⟩
      have B3 : Below W0.heap.size W0 w3 := (T.out.trans (hB.out.mono (by have := T.out.size; omega))).trans (hb.mono (by have := hB.out.size; have := T.out.size; omega))
      have kk := KEEP.out _ B3
      obtain ⟨kl, l0, l1, l2, l3⟩ := kk
      have T3 := Lib.hid (B0.out.trans (B3.mono (by have := S0.out; omega)))
      clear hb B3 KEEP B0 hB hR HC AX AY T
      go_wp2_with fail
      exact bodyPost_ret (v := .tuple #[.agg #[.string a, .string b], .bool c]) (by simp [results, Try.results46, go_sem, *]) rfl ⟨rfl, (T3.out.setCell (p := ⟨w.heap.size + 1 + 1, 0, none⟩) (by dsimp only; omega) _).setCell (p := ⟨w.heap.size + 1 + 1, 1, none⟩) (by dsimp only; omega) _⟩
end Go.Proofs.Ytbhlddfjfcmncaa
