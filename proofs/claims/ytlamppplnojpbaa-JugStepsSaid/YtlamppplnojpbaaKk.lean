import Derived.Test.YtlamppplnojpbaaKj
import Derived.Laws.AppendOwn
import Derived.ChangeKeysEq
import Derived.Maps.RangeWalk
import Derived.Maps.OwnIn
import Derived.Maps.AppendAt
import Derived.RangeFuncNested
import Derived.RangeFuncBound
import Derived.RangeFuncCalls
import Derived.RangeFuncLeaves
import Derived.Shelf.Abstract
import Derived.Shelf.RegionOpen
import Derived.WalkKit
import Derived.WalkMore
import Derived.OwnWalkIn
import Derived.TacticsInMore
import Derived.LoopNIn
import Derived.LoopIn
import Derived.WalkSpells
import Derived.WalkLawsBesides
import Derived.BigQuiet
import Derived.Deep.QuietTactic
import Derived.Lib.Hide
import Derived.Deep.RegionHeld3
import Derived.StillTailTactics
import Derived.Deep.LoopGhost
import Derived.Maps.OwnSet
import Derived.Lib.IndexAny
import Derived.Sort.QuietThIn
import Derived.Sort.QuietTacIn
import Derived.Sort.BigQuietIn
namespace Go.Proofs.Ytlamppplnojpbaa
open Go.RowKit Go.Shelf
attribute [local go_sem] Oper.semAt_some
theorem eq48 (W : World) : (Op.equalIn 10000 48 (.agg #[.int .i64 (-1), .int .i64 0]) (.agg #[.int .i64 (-1), .int .i64 0])).run Try.prog W = .ok true W := by kernel_rfl
theorem own1_cells {W : World} {n₀ : Nat} {v : Value} {p : Pt} (h : OwnP W n₀ v [p]) : ∃ g c, v = .slice (some ⟨g, 0, none⟩) 1 c ∧ g < W.heap.size ∧ PtsAt W g 0 [p] := by
  obtain ⟨a, c, rfl, h2⟩ := OwnP.open h
  rcases h2 with ⟨_, _, h3⟩ | ⟨g, _, rfl, h3, _⟩
  · cases h3
  · exact ⟨g, c, rfl, h3.lt, h3⟩
set_option maxRecDepth 100000 in
set_option maxHeartbeats 4000000 in
theorem awake_any (w : World) : Calls Try.prog 24 #[] w fun e w' => e = .returned (.bool true) ∧ Below w.heap.size w w' := by
  go_enter Try.func24, Try.ntmps24
  go_wp2_with fail
  refine (aw_Fewest w).mono ?_
  rintro e w1 ⟨rfl, hb⟩
  have T1 := Lib.hid hb
  clear hb
  go_wp2_with fail
  refine (aw_Way w1).mono ?_
  rintro e w2 ⟨⟨wa, wc, rfl⟩, hb⟩
  have T2 := Lib.hid (Below.andThen T1.out hb (Nat.le_refl _))
  clear hb T1
  go_wp2_with fail
  refine (aw_Amounts w2).mono ?_
  rintro e w3 ⟨sA, rfl, hA, hb⟩
  obtain ⟨gA, cA, rfl, hgA, hiA⟩ := own_ints hA (by simp)
  have T3 := Lib.hid (Below.andThen T2.out hb (Nat.le_refl _))
  have IA := Lib.hid hiA
  have GA := Lib.hid hgA
  clear hb T2 hA hiA hgA
  go_wp2_with fail
  refine (aw_Two w3).mono ?_
  rintro e w4 ⟨rfl, hb⟩
  have T4 := Lib.hid (Below.andThen T3.out hb (Nat.le_refl _))
  have IA4 := Lib.hid (IA.out.below hb GA.out)
  have GA4 := Lib.hid (Nat.lt_of_lt_of_le GA.out hb.size)
  clear hb T3 IA GA
  go_wp2_with fail
  refine (aw_TwoWay w4).mono ?_
  rintro e w5 ⟨⟨sT, rfl, hT⟩, hb⟩
  obtain ⟨gT, cT, rfl, hgT, hpT⟩ := own1_cells hT
  have T5 := Lib.hid (Below.andThen T4.out hb (Nat.le_refl _))
  have IA5 := Lib.hid (IA4.out.below hb GA4.out)
  have GA5 := Lib.hid (Nat.lt_of_lt_of_le GA4.out hb.size)
  have PT := Lib.hid hpT
  clear hb T4 IA4 GA4 hT hpT
  go_wp2_with fail
  refine (aw_Steps w5).mono ?_
  rintro e w6 ⟨⟨sS, rfl, hS⟩, hb⟩
  obtain ⟨gS, cS, rfl, hgS, hpS⟩ := own1_cells hS
  have T6 := Lib.hid (Below.andThen T5.out hb (Nat.le_refl _))
  have IA6 := Lib.hid (IA5.out.below hb GA5.out)
  have GA6 := Lib.hid (Nat.lt_of_lt_of_le GA5.out hb.size)
  have pT6 := PT.out.below hb hgT
  have PT6 := Lib.hid pT6
  have PS6 := Lib.hid hpS
  clear hb T5 IA5 GA5 hS PT hpS pT6
  go_wp2_with fail
  have bq := (Below.refl w6.heap.size w6).alloc (Nat.le_refl _) (.cells #[.int .i64 0, .int .i64 2, .int .i64 4, .int .i64 6] 3)
  have rq := Row.new w6 3 (([0, 2, 4, 6] : List Int).map encI)
  have iq : IntsAt (w6.alloc (.cells #[.int .i64 0, .int .i64 2, .int .i64 4, .int .i64 6] 3)) w6.heap.size 0 [0, 2, 4, 6] := ⟨.inr rq.lt, fun i hi => by
    rw [Nat.zero_add, show (Obj.cells #[.int .i64 0, .int .i64 2, .int .i64 4, .int .i64 6] 3 : Obj) = .cells (([0, 2, 4, 6] : List Int).map encI).toArray 3 from rfl, rq.cell, List.getElem?_map, List.getElem?_eq_getElem hi]; rfl⟩
  have hi4 := ints_any [0, 2, 4, 6] [0, 2, 4, 6] gA w6.heap.size cA 4 _ (IA6.out.below bq GA6.out) iq rfl (by simp)
  rw [show decide (([0, 2, 4, 6] : List Int) = [0, 2, 4, 6]) = true from rfl] at hi4
  refine hi4.mono ?_
  rintro e w7 ⟨rfl, hb⟩
  have hb7 := Below.andThen bq hb (Nat.le_refl _)
  have T7 := Lib.hid (Below.andThen T6.out hb7 (Nat.le_refl _))
  have pT := PT6.out.below hb7 PT6.out.lt
  have pS := PS6.out.below hb7 PS6.out.lt
  have tx : w7.cell? ⟨gT, 0, none⟩ = some (.int .i64 (-1)) := by simpa using pT.x 0 (by simp)
  have ty : w7.cell? ⟨gT, 1, none⟩ = some (.int .i64 0) := by simpa using pT.y 0 (by simp)
  have sx : w7.cell? ⟨gS, 0, none⟩ = some (.int .i64 (-1)) := by simpa using pS.x 0 (by simp)
  have sy : w7.cell? ⟨gS, 1, none⟩ = some (.int .i64 0) := by simpa using pS.y 0 (by simp)
  have HE := eq48 w7
  clear hb hb7 bq rq iq hi4 pT pS T6 IA6 GA6 PT6 PS6
  go_wp2_with fail
  have hck := Check_any [] (.slice none 0 0) w7 ⟨none, 0, rfl, Nat.le_refl _, .inl rfl⟩ (by simp)
  rw [show errJ [] = 20 from rfl] at hck
  refine hck.mono ?_
  rintro e w8 ⟨rfl, hb⟩
  have T8 := Lib.hid (Below.andThen T7.out hb (Nat.le_refl _))
  clear hb T7 hck tx ty sx sy HE
  go_wp2_with fail
  go_ret
  exact ⟨rfl, T8.out⟩
end Go.Proofs.Ytlamppplnojpbaa
