import Derived.Test.YtlamppplnojpbaaJl
import Derived.Laws.AppendOwn
import Derived.Maps.OwnIn
import Derived.Maps.AppendAt
import Derived.RangeFuncNested
import Derived.RangeFuncBound
import Derived.RangeFuncCalls
import Derived.RangeFuncLeaves
import Derived.Shelf.Abstract
import Derived.Shelf.RegionOpen
import Derived.WalkKit
import Derived.WalkMore
import Derived.OwnWalkIn
import Derived.TacticsInMore
import Derived.LoopNIn
import Derived.LoopIn
import Derived.WalkSpells
import Derived.WalkLawsBesides
import Derived.BigQuiet
import Derived.Deep.QuietTactic
import Derived.Lib.Hide
import Derived.Deep.RegionHeld3
import Derived.StillTailTactics
import Derived.Deep.LoopGhost
import Derived.Maps.OwnSet
import Derived.Lib.IndexAny
import Derived.Sort.QuietThIn
import Derived.Sort.QuietTacIn
import Derived.Sort.BigQuietIn
namespace Go.Proofs.Ytlamppplnojpbaa
open Go.RowKit Go.Shelf
attribute [local go_sem] Oper.semAt_some
set_option maxRecDepth 100000 in
set_option maxHeartbeats 1000000 in
theorem search_goal (f0 f1 f2 f3 : Int) (gl : List Int → Bool) (G : FuncId) (caps : Array Value) (jv : Value) (bl bj : Nat) (w : World) (hbl : bl < w.heap.size) (hbj : bj < w.heap.size)
   (hf : Fok [f0, f1, f2, f3])
  (hen : ∀ args W, (callFunc G args).run Try.prog W = .ok (.enter G args) W)
  (hg : ∀ W x0 x1 x2 x3, Below w.heap.size w W → Fok [x0, x1, x2, x3] → Calls Try.prog G (#[.agg #[.int .i64 x0, .int .i64 x1, .int .i64 x2, .int .i64 x3]] ++ caps) W fun e w' => e = .returned (.bool (gl [x0, x1, x2, x3])) ∧ Below W.heap.size W w')
  (hgl : gl [f0, f1, f2, f3] = true) :
    Calls Try.prog 57 #[.agg #[.int .i64 f0, .int .i64 f1, .int .i64 f2, .int .i64 f3], .func (.func 70) #[] #[.pointer (some ⟨bl, 0, none⟩), .pointer (some ⟨bj, 0, none⟩)], .func (.func 54) #[jv] #[], .func (.func G) #[] caps] w fun e w' => e = .returned (.agg #[.map (some (w.heap.size + 1 + 1 + 1 + 1)), .int .i64 f0, .int .i64 f1, .int .i64 f2, .int .i64 f3, .bool true]) ∧ SeenAt w' (w.heap.size + 1 + 1 + 1 + 1) 1 (seenV [([f0, f1, f2, f3], c0)]) ∧ Below w.heap.size w w' := by
  have HG := Lib.hid hg
  have HE := Lib.hid hen
  clear hg hen
  have HF := Lib.hid hf
  obtain ⟨V, W1, S, hr, hV, hW, hz, hB, hs, bw⟩ := search_start2 w f0 f1 f2 f3 hf (.func (.func 54) #[jv] #[]) (.func (.func G) #[] caps)
  clear hf
  have HS := Lib.hid hs
  have HR := Lib.hid hr
  have HB := Lib.hid hB
  have HW := Lib.hid hW
  have HV := Lib.hid hV
  have HZ := Lib.hid hz
  clear hr hs hV hW hz
  have hmm := @run_makeMap Try.prog
  refine callsIn_wide.1 (callsIn_of_wp_marks (F := Fence.wide) (n := 4) Try.func57 rfl trivial (wpIn_wide.2 ?_) rfl)
  simp only [Try.ntmps57, List.size_toArray, List.length_cons, List.length_nil, Nat.reduceAdd, Nat.reduceSub, Array.replicate_succ, Array.replicate_zero, List.push_toArray, List.append_toArray, List.nil_append, List.cons_append]
  go_wp2_with fail
  go_step3
  go_wp2_with fail
  rw [HR.out, Result.andThen_ok]
  have c2 : W1.cell? ⟨w.heap.size + 1 + 1, 0, none⟩ = some (.func (.func G) #[] caps) := hB.r2.cell 0
  have q0 : W1.cell? ⟨w.heap.size, 0, none⟩ = some (.int .i64 f0) := hB.r0.cell 0
  have q1 : W1.cell? ⟨w.heap.size, 1, none⟩ = some (.int .i64 f1) := hB.r0.cell 1
  have q2 : W1.cell? ⟨w.heap.size, 2, none⟩ = some (.int .i64 f2) := hB.r0.cell 2
  have q3 : W1.cell? ⟨w.heap.size, 3, none⟩ = some (.int .i64 f3) := hB.r0.cell 3
  rw [← HW.out] at c2 q0 q1 q2 q3
  clear hB
  go_wp2_with fail
  rw [HE.out, Oper.upon_enter]
  clear c2 q0 q1 q2 q3
  rw [HW.out, HV.out]
  refine (HG.out _ f0 f1 f2 f3 bw HF.out).mono ?_
  rintro e w1 ⟨rfl, hb1⟩
  rw [hgl]
  have hB1 := HB.out.below hb1 (by rw [HZ.out]; omega)
  have hs1 := HS.out.grow hb1
  have cS : w1.cell? ⟨S, 0, none⟩ = some (.map (some (w.heap.size + 1 + 1 + 1 + 1))) := hB1.rS.cell 0
  have q0 : w1.cell? ⟨w.heap.size, 0, none⟩ = some (.int .i64 f0) := hB1.r0.cell 0
  have q1 : w1.cell? ⟨w.heap.size, 1, none⟩ = some (.int .i64 f1) := hB1.r0.cell 1
  have q2 : w1.cell? ⟨w.heap.size, 2, none⟩ = some (.int .i64 f2) := hB1.r0.cell 2
  have q3 : w1.cell? ⟨w.heap.size, 3, none⟩ = some (.int .i64 f3) := hB1.r0.cell 3
  have t0 : w1.cell? ⟨w.heap.size + 1 + 1 + 1, 0, none⟩ = some (.map none) := hB1.r3.cell 0
  have k0 := frozen_of_row w1 (w.heap.size + 1 + 1 + 1) 0 _ _ hB1.r3
  have t1 : w1.cell? ⟨w.heap.size + 1 + 1 + 1, 1, none⟩ = some (.int .i64 0) := hB1.r3.cell 1
  have k1 := frozen_of_row w1 (w.heap.size + 1 + 1 + 1) 1 _ _ hB1.r3
  have t2 : w1.cell? ⟨w.heap.size + 1 + 1 + 1, 2, none⟩ = some (.int .i64 0) := hB1.r3.cell 2
  have k2 := frozen_of_row w1 (w.heap.size + 1 + 1 + 1) 2 _ _ hB1.r3
  have t3 : w1.cell? ⟨w.heap.size + 1 + 1 + 1, 3, none⟩ = some (.int .i64 0) := hB1.r3.cell 3
  have k3 := frozen_of_row w1 (w.heap.size + 1 + 1 + 1) 3 _ _ hB1.r3
  have t4 : w1.cell? ⟨w.heap.size + 1 + 1 + 1, 4, none⟩ = some (.int .i64 0) := hB1.r3.cell 4
  have k4 := frozen_of_row w1 (w.heap.size + 1 + 1 + 1) 4 _ _ hB1.r3
  have t5 : w1.cell? ⟨w.heap.size + 1 + 1 + 1, 5, none⟩ = some (.bool false) := hB1.r3.cell 5
  have k5 := frozen_of_row w1 (w.heap.size + 1 + 1 + 1) 5 _ _ hB1.r3
  have HB1 := Lib.hid hB1
  have HS1 := Lib.hid hs1
  have HK1 := Lib.hid (Below.andThen bw hb1 (Nat.le_refl _))
  have HZ1 := Lib.hid (show S + 1 ≤ w1.heap.size by have := hb1.size; have := HZ.out; omega)
  clear hs1 hB1 hb1 hbl hbj bw
  go_wp2_with fail
  rw [Exit.noGoto_ret]
  have hr3 := ((((((HB1.out.r3.set 0 (.map (some (w.heap.size + 1 + 1 + 1 + 1)))).set 1 (.int .i64 f0)).set 2 (.int .i64 f1)).set 3 (.int .i64 f2)).set 4 (.int .i64 f3)).set 5 (.bool true))
  have hN := HB1.out.hS
  have G6 : w1.grownBy ((((((w1.setCell ⟨w.heap.size + 1 + 1 + 1, 0, none⟩ (.map (some (w.heap.size + 1 + 1 + 1 + 1)))).setCell ⟨w.heap.size + 1 + 1 + 1, 1, none⟩ (.int .i64 f0)).setCell ⟨w.heap.size + 1 + 1 + 1, 2, none⟩ (.int .i64 f1)).setCell ⟨w.heap.size + 1 + 1 + 1, 3, none⟩ (.int .i64 f2)).setCell ⟨w.heap.size + 1 + 1 + 1, 4, none⟩ (.int .i64 f3)).setCell ⟨w.heap.size + 1 + 1 + 1, 5, none⟩ (.bool true)) (some (w.heap.size + 1 + 1 + 1)) := six_set w1 _ _ _ _ _ _ _
  generalize ((((((w1.setCell ⟨w.heap.size + 1 + 1 + 1, 0, none⟩ (.map (some (w.heap.size + 1 + 1 + 1 + 1)))).setCell ⟨w.heap.size + 1 + 1 + 1, 1, none⟩ (.int .i64 f0)).setCell ⟨w.heap.size + 1 + 1 + 1, 2, none⟩ (.int .i64 f1)).setCell ⟨w.heap.size + 1 + 1 + 1, 3, none⟩ (.int .i64 f2)).setCell ⟨w.heap.size + 1 + 1 + 1, 4, none⟩ (.int .i64 f3)).setCell ⟨w.heap.size + 1 + 1 + 1, 5, none⟩ (.bool true)) = W6 at *
  refine leaves_marks (B := w1.heap.size) (fun X => Row X (w.heap.size + 1 + 1 + 1) 89 [.map (some (w.heap.size + 1 + 1 + 1 + 1)), .int .i64 f0, .int .i64 f1, .int .i64 f2, .int .i64 f3, .bool true] ∧ SeenAt X (w.heap.size + 1 + 1 + 1 + 1) 1 (seenV [([f0, f1, f2, f3], c0)]) ∧ Below w.heap.size w X)
    ((lasts_row _ _ _ _).and ((lasts_seen _ _ _ _ (by have := HZ1.out; omega)).and (lasts_below _ _ _ (by have := HZ1.out; omega) (Nat.le_refl _)))) ?leave [] _ (marks_nil _ _) ⟨hr3, HS1.out.kept G6 (fun e => by have := Option.some.inj e; omega), HK1.out.grown G6 HK1.out.size (fun k e => by have := Option.some.inj e; omega)⟩
  rintro X ⟨x3, xs, xb⟩
  have e0 : X.cell? ⟨w.heap.size + 1 + 1 + 1, 0, none⟩ = some (.map (some (w.heap.size + 1 + 1 + 1 + 1))) := x3.cell 0
  have e1 : X.cell? ⟨w.heap.size + 1 + 1 + 1, 1, none⟩ = some (.int .i64 f0) := x3.cell 1
  have e2 : X.cell? ⟨w.heap.size + 1 + 1 + 1, 2, none⟩ = some (.int .i64 f1) := x3.cell 2
  have e3 : X.cell? ⟨w.heap.size + 1 + 1 + 1, 3, none⟩ = some (.int .i64 f2) := x3.cell 3
  have e4 : X.cell? ⟨w.heap.size + 1 + 1 + 1, 4, none⟩ = some (.int .i64 f3) := x3.cell 4
  have e5 : X.cell? ⟨w.heap.size + 1 + 1 + 1, 5, none⟩ = some (.bool true) := x3.cell 5
  refine ⟨.agg #[.map (some (w.heap.size + 1 + 1 + 1 + 1)), .int .i64 f0, .int .i64 f1, .int .i64 f2, .int .i64 f3, .bool true], ?_, rfl, xs, xb⟩
  simp [results, Try.results57, go_sem, e0, e1, e2, e3, e4, e5]
end Go.Proofs.Ytlamppplnojpbaa
