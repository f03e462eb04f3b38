import Derived.Test.YtlamppplnojpbaaKn
import Derived.Laws.AppendOwn
import Derived.ChangeKeysEq
import Derived.Maps.RangeWalk
import Derived.Laws.OwnMore
import Derived.Maps.OwnIn
import Derived.Maps.AppendAt
import Derived.RangeFuncNested
import Derived.RangeFuncBound
import Derived.RangeFuncCalls
import Derived.RangeFuncLeaves
import Derived.Shelf.Abstract
import Derived.Shelf.RegionOpen
import Derived.WalkKit
import Derived.WalkMore
import Derived.OwnWalkIn
import Derived.TacticsInMore
import Derived.LoopNIn
import Derived.LoopIn
import Derived.WalkSpells
import Derived.WalkLawsBesides
import Derived.BigQuiet
import Derived.Deep.QuietTactic
import Derived.Lib.Hide
import Derived.Deep.RegionHeld3
import Derived.StillTailTactics
import Derived.Deep.LoopGhost
import Derived.Maps.OwnSet
import Derived.Lib.IndexAny
import Derived.Sort.QuietThIn
import Derived.Sort.QuietTacIn
import Derived.Sort.BigQuietIn
namespace Go.Proofs.Ytlamppplnojpbaa
open Go.RowKit Go.Shelf
attribute [local go_sem] Oper.semAt_some
/-- which steps the reference keeps -/
def keepB (ss fs : List Int) (cl : Bool) (x : Int × Int) : Bool := !(cl && (decide (x.1 = -1) || decide (x.2 = -1))) && (!decide (x.1 = x.2) && !decide (fs = afterF ss fs x.1 x.2))
def rowA (m a : Nat) : List (Int × Int) := (List.range m).map fun b : Nat => (-1 + (a : Int), -1 + (b : Int))
def allA (m a b : Nat) : List (Int × Int) := (List.range a).flatMap (rowA m) ++ (rowA b a)
theorem allA_next (m a : Nat) : allA m (a + 1) 0 = allA m a m := by
  unfold allA
  rw [List.range_succ, List.flatMap_append]
  simp [rowA]
theorem allA_snoc (m a b : Nat) : allA m a (b + 1) = allA m a b ++ [(-1 + (a : Int), -1 + (b : Int))] := by
  unfold allA rowA
  rw [List.range_succ, List.map_append, List.append_assoc]; rfl
def refL (ss fs : List Int) (cl : Bool) (m a b : Nat) : List (Int × Int) := (allA m a b).filter (keepB ss fs cl)
theorem refL_snoc (ss fs : List Int) (cl : Bool) (m a b : Nat) : refL ss fs cl m a (b + 1) = refL ss fs cl m a b ++ (if keepB ss fs cl (-1 + (a : Int), -1 + (b : Int)) = true then [(-1 + (a : Int), -1 + (b : Int))] else []) := by
  unfold refL
  rw [allA_snoc, List.filter_append]
  congr 1
  by_cases h : keepB ss fs cl (-1 + (a : Int), -1 + (b : Int)) = true
  · rw [if_pos h]; simp [h]
  · rw [if_neg h]; simp [h]
theorem allA_len (m a b : Nat) (ha : a ≤ m) (hb : b ≤ m) : (allA m a b).length ≤ m * m + m := by
  unfold allA
  rw [List.length_append]
  have h1 := flat_len (rowA m) m (fun a => by simp [rowA]) a
  have h2 : (rowA b a).length = b := by simp [rowA]
  have h3 : a * m ≤ m * m := Nat.mul_le_mul_right m ha
  omega
theorem refL_len (ss fs : List Int) (cl : Bool) (m a b : Nat) (ha : a ≤ m) (hb : b ≤ m) (hm : m ≤ 5) : (refL ss fs cl m a b).length ≤ 30 := by
  have h1 := allA_len m a b ha hb
  have h2 : m * m ≤ 5 * 5 := Nat.mul_le_mul hm hm
  have h3 := List.length_filter_le (keepB ss fs cl) (allA m a b)
  unfold refL; omega
theorem flat_snoc (p : Pt) : ∀ ps : List Pt, flat (ps ++ [p]) = flat ps ++ [.int .i64 p.1, .int .i64 p.2]
  | [] => rfl
  | q :: ps => by simp [flat, flat_snoc p ps]
theorem cells_two_new (w : World) (x y : Value) (t : TypeId) : ∀ j u, [x, y][j]? = some u → (w.alloc (.cells #[x, y] t)).cell? ((⟨w.heap.size, 0, none⟩ : Addr).add j) = some u := by
  intro j u hj
  rw [Go.WideShapes.add_plain, Nat.zero_add, Row.cell (Row.new w t [x, y])]; exact hj
theorem own_belowP {W0 W w2 : World} {o : Obj} {v : Value} {ps : List Pt} (h : OwnP W W0.heap.size v ps) (hb : Below W0.heap.size W0 W) (hg : (W.alloc o).grownBy w2 v.ownBlock) : Below W0.heap.size W0 w2 :=
  (Below.al hb (Nat.le_refl _) o).grown hg (Nat.le_trans hb.size (by simp)) (fun r e => (World.ownsRow.lt h r e).1)
set_option maxRecDepth 100000 in
set_option maxHeartbeats 2000000 in
theorem refSteps_any (ss fs : List Int) (v : Value) (g c : Nat) (cl : Bool) (w : World) (hv : SlI w v ss) (hg : g < w.heap.size) (hu : IntsAt w g 0 fs) (hc : fs.length ≤ c) (hj : jugsB ss = true) (hf : fitsB ss fs = true) :
    Calls Try.prog 33 #[v, .slice (some ⟨g, 0, none⟩) fs.length c, .bool cl] w fun e w' => ∃ s, e = .returned s ∧ OwnP w' w.heap.size s (refL ss fs cl (ss.length + 1) (ss.length + 1) 0) ∧ Below w.heap.size w w' := by
  obtain ⟨i0, hi, hz0, hz1, hz2⟩ := info_parts info48
  have hn : 1 ≤ ss.length ∧ ss.length ≤ 4 := by
    unfold jugsB at hj
    simp only [Bool.and_eq_true, decide_eq_true_eq] at hj
    exact hj.1
  have hfl : fs.length = ss.length := by
    unfold fitsB at hf
    simp only [Bool.and_eq_true, decide_eq_true_eq] at hf
    exact hf.1
  have hus : SlI w (.slice (some ⟨g, 0, none⟩) fs.length c) fs := ⟨_, c, rfl, hc, .inr ⟨g, 0, rfl, hg, hu⟩⟩
  have HV := Lib.hid hv
  have HU := Lib.hid hu
  have HG := Lib.hid hg
  have HUS := Lib.hid hus
  have HST := Lib.hid (fun (W : World) (hb : Below w.heap.size w W) (a b : Int) (ha : -1 ≤ a ∧ a < (ss.length : Int)) (hb' : -1 ≤ b ∧ b < (ss.length : Int)) (hab : a ≠ b) => rStep_any ss fs v _ a b W (hv.grow hb) (hus.grow hb) hj hf ha hb' hab)
  have HSN := Lib.hid (fun (W : World) (hb : Below w.heap.size w W) (a : Int) (ha : -1 ≤ a ∧ a < (ss.length : Int)) => rStep_none ss fs v _ a W (hv.grow hb) (hus.grow hb) ha (by omega))
  obtain ⟨va, vc, rfl, _⟩ := hv
  obtain ⟨n, hnn⟩ : ∃ n, ss.length = n := ⟨_, rfl⟩
  have HFL := Lib.hid hfl
  have HNN := Lib.hid hnn
  rw [hnn] at hn HST HSN ⊢
  clear hj hf hus hu hg hfl hnn
  go_enter Try.func33, Try.ntmps33
  go_wp2_with fail
  go_loopw [7, 8] (fun lv av wr => ∃ i : Nat, i ≤ n + 1 ∧ av = .int .i64 (-1 + (i : Int)) ∧ Hid (OwnP wr w.heap.size lv (refL ss fs cl (n + 1) i 0) ∧ Below w.heap.size w wr)) (fun _ av _ => ((n : Int) - intOf av).toNat)
  case atStart => exact ⟨0, by omega, by simp, Lib.hid ⟨World.ownsRow_nil _ _ _ _, Below.refl _ _⟩⟩
  case round =>
    obtain ⟨i, hi', rfl, HO⟩ := hrel
    have iw : IntKind.i64.wrap (-1 + (i : Int) + 1) = -1 + ((i + 1 : Nat) : Int) := by rw [i64_of _ (by omega) (by omega)]; omega
    by_cases hin : i < n + 1
    · have hd1 : decide (-1 + (i : Int) < (n : Int)) = true := decide_eq_true (by omega)
      go_wp2_with fail
      go_loopw [7, 9] (fun lv bv wx => ∃ j : Nat, j ≤ n + 1 ∧ bv = .int .i64 (-1 + (j : Int)) ∧ Hid (OwnP wx w.heap.size lv (refL ss fs cl (n + 1) i j) ∧ Below w.heap.size w wx)) (fun _ bv _ => ((n : Int) - intOf bv).toNat)
      case atStart => exact ⟨0, by omega, by simp, HO⟩
      case round =>
        clear HO
        obtain ⟨j, hj', rfl, HO⟩ := hrel
        have jw : IntKind.i64.wrap (-1 + (j : Int) + 1) = -1 + ((j + 1 : Nat) : Int) := by rw [i64_of _ (by omega) (by omega)]; omega
        by_cases hjn : j < n + 1
        · have hd2 : decide (-1 + (j : Int) < (n : Int)) = true := decide_eq_true (by omega)
          have hsn := refL_snoc ss fs cl (n + 1) i j
          have hll := refL_len ss fs cl (n + 1) i j (by omega) (by omega) (by omega)
          obtain ⟨cA, hcA⟩ : ∃ cA, decide (-1 + (i : Int) = -1) = cA := ⟨_, rfl⟩
          obtain ⟨cB, hcB⟩ : ∃ cB, decide (-1 + (j : Int) = -1) = cB := ⟨_, rfl⟩
          obtain ⟨cE, hcE⟩ : ∃ cE, decide (-1 + (i : Int) = -1 + (j : Int)) = cE := ⟨_, rfl⟩
          have hkb : keepB ss fs cl (-1 + (i : Int), -1 + (j : Int)) = (!(cl && (cA || cB)) && (!cE && !decide (fs = afterF ss fs (-1 + (i : Int)) (-1 + (j : Int))))) := by
            unfold keepB; rw [hcA, hcB, hcE]
          have HSN2 := Lib.hid hsn
          have hkb2 := hkb
          have HCE := Lib.hid hcE
          have HFN := Lib.hid (HFL.out.trans HNN.out)
          have HAL := Lib.hid (show (afterF ss fs (-1 + (i : Int)) (-1 + (j : Int))).length = n by
            unfold afterF
            split
            · rw [List.length_set]; exact HFN.out
            · split
              · rw [List.length_set]; exact HFN.out
              · rw [List.length_set, List.length_set]; exact HFN.out)
          have hcA2 : ((-1 + (i : Int)) == -1) = cA := hcA
          have hcB2 : ((-1 + (j : Int)) == -1) = cB := hcB
          have HLL := Lib.hid hll
          clear hsn hkb hcE hll
          by_cases hcl : (cl && (cA || cB)) = true
          · have hskip : refL ss fs cl (n + 1) i (j + 1) = refL ss fs cl (n + 1) i j := by
              rw [HSN2.out, hkb2, hcl]; simp
            have HSK := Lib.hid hskip
            clear hskip hkb2
            cases cl <;> cases cA <;> cases cB <;> first | (exfalso; revert hcl; decide) | skip
            all_goals clear hcl
            all_goals go_wp2_with fail
            all_goals exact ⟨⟨j + 1, by omega, by simp, by rw [HSK.out]; exact HO⟩, by simp [intOf]; omega⟩
          · have hcl2 : (cl && (cA || cB)) = false := by simpa using hcl
            rw [hcl2] at hkb2
            have HKB := Lib.hid hkb2
            clear hkb2 hcl2
            cases cE with
            | true =>
              obtain rfl : i = j := by have := of_decide_eq_true HCE.out; omega
              have hskip : refL ss fs cl (n + 1) i (i + 1) = refL ss fs cl (n + 1) i i := by
                rw [HSN2.out, HKB.out]; simp
              have HSK := Lib.hid hskip
              clear hskip
              cases cl with
              | false =>
                clear hcl
                go_wp2_with fail
                refine (HSN.out wr HO.out.2 (-1 + (i : Int)) (by omega)).mono ?_
                rintro e w1 ⟨rfl, hb1⟩
                have HO1 := Lib.hid (show OwnP w1 w.heap.size u7 (refL ss fs false (n + 1) i i) ∧ Below w.heap.size w w1 from ⟨own_grow HO.out.1 hb1, Below.andThen HO.out.2 hb1 (Nat.le_refl _)⟩)
                clear hb1
                go_wp2_with fail
                exact ⟨⟨i + 1, by omega, by simp, by rw [HSK.out]; exact HO1⟩, by simp [intOf]; omega⟩
              | true =>
                obtain ⟨rfl, rfl⟩ : cA = false ∧ cB = false := by revert hcl; cases cA <;> cases cB <;> decide
                clear hcl
                go_wp2_with fail
                refine (HSN.out wr HO.out.2 (-1 + (i : Int)) (by omega)).mono ?_
                rintro e w1 ⟨rfl, hb1⟩
                have HO1 := Lib.hid (show OwnP w1 w.heap.size u7 (refL ss fs true (n + 1) i i) ∧ Below w.heap.size w w1 from ⟨own_grow HO.out.1 hb1, Below.andThen HO.out.2 hb1 (Nat.le_refl _)⟩)
                clear hb1
                go_wp2_with fail
                exact ⟨⟨i + 1, by omega, by simp, by rw [HSK.out]; exact HO1⟩, by simp [intOf]; omega⟩
            | false =>
              cases cl with
              | false =>
                clear hcl
                go_wp2_with fail
                refine (HST.out wr HO.out.2 (-1 + (i : Int)) (-1 + (j : Int)) (by omega) (by omega) (of_decide_eq_false HCE.out)).mono ?_
                rintro e w1 ⟨s, rfl, hs, hb1⟩
                have ho1 : OwnP w1 w.heap.size u7 (refL ss fs false (n + 1) i j) ∧ Below w.heap.size w w1 := ⟨own_grow HO.out.1 hb1, Below.andThen HO.out.2 hb1 (Nat.le_refl _)⟩
                obtain ⟨gs, cs, rfl, _, hsi⟩ := own_ints hs (fun h => by have h1 := HAL.out; rw [h, List.length_nil] at h1; omega)
                have heq := equal_any fs (afterF ss fs (-1 + (i : Int)) (-1 + (j : Int))) g gs c cs w1 (HU.out.below ho1.2 HG.out) hsi (HAL.out.trans HFN.out.symm).symm (by rw [HFN.out]; omega)
                have HEQ := Lib.hid heq
                have HO1 := Lib.hid ho1
                clear ho1 hs hb1 hsi heq
                go_wp2_with fail
                refine HEQ.out.mono ?_
                rintro e w2 ⟨rfl, hb2⟩
                have HO2 := Lib.hid (show OwnP w2 w.heap.size u7 (refL ss fs false (n + 1) i j) ∧ Below w.heap.size w w2 from ⟨own_grow HO1.out.1 hb2, Below.andThen HO1.out.2 hb2 (Nat.le_refl _)⟩)
                clear hb2
                obtain ⟨F, hF⟩ : ∃ F, decide (fs = afterF ss fs (-1 + (i : Int)) (-1 + (j : Int))) = F := ⟨_, rfl⟩
                rw [hF]
                have hnx := HSN2.out
                rw [HKB.out, hF] at hnx
                have HNX := Lib.hid hnx
                clear hF hnx
                clear HEQ
                cases F with
                | true =>
                  go_wp2_with fail
                  exact ⟨⟨j + 1, by omega, by simp, by rw [HNX.out]; exact Lib.hid ⟨by simpa using HO2.out.1, HO2.out.2⟩⟩, by simp [intOf]; omega⟩
                | false =>
                  generalize afterF ss fs (-1 + (i : Int)) (-1 + (j : Int)) = AF at *
                  go_wp2_with (at_builtin; refine wpList_append_own_at _ rfl _ _ 27 rfl w.heap.size 48 i0 (.agg #[.int .i64 0, .int .i64 0]) 2 16 Try.underlying27 hi hz0 hz1 hz2 rfl (by decide) u7 (refL ss fs false (n + 1) i j).length (flat (refL ss fs false (n + 1) i j)) rfl (HO2.out.1.alloc _) ⟨w2.heap.size, 0, none⟩ 1 1 [.int .i64 (-1 + (i : Int)), .int .i64 (-1 + (j : Int))] rfl rfl (cells_two_new _ _ _ _) (by simp [Value.oneCell']) (by unfold maxLen; have := HLL.out; omega) (by have := HLL.out; omega) (Nat.le_trans HO2.out.2.size (by simp)) ?_; intro v' w3 hown' hgrow hnil hat'; have HR3 := Lib.hid (show OwnP w3 w.heap.size v' (refL ss fs false (n + 1) i (j + 1)) from by rw [HNX.out]; simp only [Bool.not_false, Bool.and_self, Bool.true_and, if_true]; unfold OwnP; rw [flat_snoc, List.length_append, List.length_singleton]; exact hown'); have HB3 := Lib.hid (own_belowP HO2.out.1 HO2.out.2 hgrow); clear hown' hgrow hnil hat')
                  exact ⟨⟨j + 1, by omega, by simp, Lib.hid ⟨HR3.out, HB3.out⟩⟩, by simp [intOf]; omega⟩
              | true =>
                obtain ⟨rfl, rfl⟩ : cA = false ∧ cB = false := by revert hcl; cases cA <;> cases cB <;> decide
                clear hcl
                go_wp2_with fail
                refine (HST.out wr HO.out.2 (-1 + (i : Int)) (-1 + (j : Int)) (by omega) (by omega) (of_decide_eq_false HCE.out)).mono ?_
                rintro e w1 ⟨s, rfl, hs, hb1⟩
                have ho1 : OwnP w1 w.heap.size u7 (refL ss fs true (n + 1) i j) ∧ Below w.heap.size w w1 := ⟨own_grow HO.out.1 hb1, Below.andThen HO.out.2 hb1 (Nat.le_refl _)⟩
                obtain ⟨gs, cs, rfl, _, hsi⟩ := own_ints hs (fun h => by have h1 := HAL.out; rw [h, List.length_nil] at h1; omega)
                have heq := equal_any fs (afterF ss fs (-1 + (i : Int)) (-1 + (j : Int))) g gs c cs w1 (HU.out.below ho1.2 HG.out) hsi (HAL.out.trans HFN.out.symm).symm (by rw [HFN.out]; omega)
                have HEQ := Lib.hid heq
                have HO1 := Lib.hid ho1
                clear ho1 hs hb1 hsi heq
                go_wp2_with fail
                refine HEQ.out.mono ?_
                rintro e w2 ⟨rfl, hb2⟩
                have HO2 := Lib.hid (show OwnP w2 w.heap.size u7 (refL ss fs true (n + 1) i j) ∧ Below w.heap.size w w2 from ⟨own_grow HO1.out.1 hb2, Below.andThen HO1.out.2 hb2 (Nat.le_refl _)⟩)
                clear hb2
                obtain ⟨F, hF⟩ : ∃ F, decide (fs = afterF ss fs (-1 + (i : Int)) (-1 + (j : Int))) = F := ⟨_, rfl⟩
                rw [hF]
                have hnx := HSN2.out
                rw [HKB.out, hF] at hnx
                have HNX := Lib.hid hnx
                clear hF hnx
                clear HEQ
                cases F with
                | true =>
                  go_wp2_with fail
                  exact ⟨⟨j + 1, by omega, by simp, by rw [HNX.out]; exact Lib.hid ⟨by simpa using HO2.out.1, HO2.out.2⟩⟩, by simp [intOf]; omega⟩
                | false =>
                  generalize afterF ss fs (-1 + (i : Int)) (-1 + (j : Int)) = AF at *
                  go_wp2_with (at_builtin; refine wpList_append_own_at _ rfl _ _ 27 rfl w.heap.size 48 i0 (.agg #[.int .i64 0, .int .i64 0]) 2 16 Try.underlying27 hi hz0 hz1 hz2 rfl (by decide) u7 (refL ss fs true (n + 1) i j).length (flat (refL ss fs true (n + 1) i j)) rfl (HO2.out.1.alloc _) ⟨w2.heap.size, 0, none⟩ 1 1 [.int .i64 (-1 + (i : Int)), .int .i64 (-1 + (j : Int))] rfl rfl (cells_two_new _ _ _ _) (by simp [Value.oneCell']) (by unfold maxLen; have := HLL.out; omega) (by have := HLL.out; omega) (Nat.le_trans HO2.out.2.size (by simp)) ?_; intro v' w3 hown' hgrow hnil hat'; have HR3 := Lib.hid (show OwnP w3 w.heap.size v' (refL ss fs true (n + 1) i (j + 1)) from by rw [HNX.out]; simp only [Bool.not_false, Bool.and_self, Bool.true_and, if_true]; unfold OwnP; rw [flat_snoc, List.length_append, List.length_singleton]; exact hown'); have HB3 := Lib.hid (own_belowP HO2.out.1 HO2.out.2 hgrow); clear hown' hgrow hnil hat')
                  exact ⟨⟨j + 1, by omega, by simp, Lib.hid ⟨HR3.out, HB3.out⟩⟩, by simp [intOf]; omega⟩
        · have hd2 : decide (-1 + (j : Int) < (n : Int)) = false := decide_eq_false (by omega)
          obtain rfl : j = n + 1 := by omega
          have HO2 := Lib.hid (show OwnP wr w.heap.size u7 (refL ss fs cl (n + 1) (i + 1) 0) ∧ Below w.heap.size w wr by
            have h := HO.out
            unfold refL at h ⊢
            rw [allA_next]; exact h)
          clear HO
          go_wp2_with fail
          exact ⟨⟨i + 1, by omega, by simp, HO2⟩, by simp [intOf]; omega⟩
    · have hd1 : decide (-1 + (i : Int) < (n : Int)) = false := decide_eq_false (by omega)
      obtain rfl : i = n + 1 := by omega
      go_wp2_with fail
      go_ret
      exact ⟨_, rfl, HO.out.1, HO.out.2⟩
end Go.Proofs.Ytlamppplnojpbaa
