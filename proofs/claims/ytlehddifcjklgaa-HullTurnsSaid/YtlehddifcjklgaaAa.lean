import Derived.Test.YtlehddifcjklgaaY
import Derived.Maps.OwnIn
import Derived.Maps.OwnSet
import Derived.Maps.AppendAt
import Derived.RangeFuncNested
import Derived.RangeFuncBound
import Derived.RangeFuncCalls
import Derived.RangeFuncLeaves
import Derived.Shelf.Abstract
import Derived.Shelf.RegionOpen
import Derived.WalkKit
import Derived.OwnWalkIn
import Derived.TacticsInMore
import Derived.LoopNIn
import Derived.LoopIn
import Derived.WalkMore
import Derived.Sort.QuietThIn
import Derived.Sort.QuietTacIn
import Derived.Sort.BigQuietIn
import Derived.WalkSpells
import Derived.WalkLawsBesides
import Derived.BigQuiet
import Derived.Deep.QuietTactic
import Derived.Lib.Hide
import Derived.Deep.RegionHeld3
import Derived.StillTailTactics
import Derived.Deep.LoopGhost
import Derived.Lib.IndexAny
namespace Go.Proofs.Ytlehddifcjklgaa
open Go.RowKit Go.Shelf
attribute [local go_sem] Oper.semAt_some
theorem own_append_other {Wt w1 : World} {n₀ j : Nat} {v v' u : Value} {ys : List Value} (hu : Wt.ownsRow n₀ 3 1 u j ys) (hap : Apart u v) (hg : Wt.grownBy w1 v.ownBlock) (hat : v'.ownBlock = v.ownBlock ∨ v'.ownBlock = some Wt.heap.size) :
    w1.ownsRow n₀ 3 1 u j ys ∧ Apart u v' := by
  refine ⟨hu.kept hg ?_, ?_⟩
  · rcases hap with h | h | h
    · exact .inl h
    · cases hu2 : u.ownBlock with
      | none => exact .inl rfl
      | some g => right; rw [h]; simp
    · exact .inr h
  · rcases hat with h | h
    · unfold Apart; rw [h]; exact hap
    · cases hu2 : u.ownBlock with
      | none => exact .inl hu2
      | some g =>
        refine .inr (.inr ?_)
        rw [hu2, h]
        have := own_lt hu g hu2
        simp; omega
theorem own_below' {n₀ : Nat} {Wt w2 : World} {k : Nat} {v : Value} {xs : List Value} (h : Wt.ownsRow n₀ 3 1 v k xs) (hn : n₀ ≤ Wt.heap.size) (hg : Wt.grownBy w2 v.ownBlock) : Below n₀ Wt w2 :=
  (Below.refl n₀ Wt).grown hg hn (fun r e => by
    rcases h.2 with ⟨rfl, _⟩ | ⟨g', cap, cur, rfl, h1, _⟩
    · simp [Value.ownBlock] at e
    · simp [Value.ownBlock] at e; omega)
structure BalJ (Wr : World) (n₀ k : Nat) (ys : List Value) (vM : Value) (B6 : Nat) (p1 p2 M : Int) (b0 b1 b2 b3 b4 b5 b6 b7 b8 b9 b10 : Bool) (x0 x1 x2 x3 x4 x5 x6 x7 x8 x9 x10 : Value) (W : World) : Prop where
  below : b9 = false → Below Wr.heap.size Wr W
  s0 : b0 = true → x0 = vM
  s1 : b1 = true → x1 = .int .i64 p2
  s2 : b2 = true → x2 = .pointer (some ⟨B6, 0, none⟩)
  s3 : b3 = true → x3 = .int .i64 p1
  s4 : b4 = true → x4 = .agg #[.int .i64 p1, .int .i64 p2]
  s5 : b5 = true → x5 = .int .i64 (p1 + p2)
  s6 : b6 = true → x6 = .int .i64 (p1 + (p1 + p2))
  s7 : b7 = true → x7 = .int .i64 M
  s8 : b8 = true → ∃ g, x8 = .slice (some ⟨g, 0, none⟩) 1 1 ∧ (b9 = false → W.cell? ⟨g, 0, none⟩ = some (.int .i64 M))
  s9 : b9 = true → Below n₀ Wr W ∧ W.ownsRow n₀ 3 1 x9 (k + 1) (ys ++ [encI M]) ∧ (∀ u zs j, Wr.ownsRow n₀ 3 1 u j zs → Apart u vM → W.ownsRow n₀ 3 1 u j zs ∧ Apart u x9)
  s10 : b10 = true → x10 = x9
  o98 : b9 = true → b8 = true
  o90 : b9 = true → b0 = true
  o87 : b8 = true → b7 = true
  o71 : b7 = true → b1 = true
  o76 : b7 = true → b6 = true
  o63 : b6 = true → b3 = true
  o65 : b6 = true → b5 = true
  o54 : b5 = true → b4 = true
  o32 : b3 = true → b2 = true
  o109 : b10 = true → b9 = true
  tt : b10 = false → x10 = vM
def balJ (Wr : World) (n₀ k : Nat) (ys : List Value) (vM : Value) (B6 : Nat) (p1 p2 M : Int) (bs : List Bool) (vs : List Value) (W : World) : Prop :=
  ∃ b0 b1 b2 b3 b4 b5 b6 b7 b8 b9 b10 x0 x1 x2 x3 x4 x5 x6 x7 x8 x9 x10, bs = [b0, b1, b2, b3, b4, b5, b6, b7, b8, b9, b10] ∧ vs = [x0, x1, x2, x3, x4, x5, x6, x7, x8, x9, x10] ∧ BalJ Wr n₀ k ys vM B6 p1 p2 M b0 b1 b2 b3 b4 b5 b6 b7 b8 b9 b10 x0 x1 x2 x3 x4 x5 x6 x7 x8 x9 x10 W
theorem balJ_start (Wr : World) (n₀ k : Nat) (ys : List Value) (vM : Value) (B6 : Nat) (p1 p2 M : Int) (x0 x1 x2 x3 x4 x5 x6 x7 x8 x9 x10 : Value) (W : World) (h : Below Wr.heap.size Wr W) (hx : x10 = vM) : balJ Wr n₀ k ys vM B6 p1 p2 M (List.replicate 11 false) [x0, x1, x2, x3, x4, x5, x6, x7, x8, x9, x10] W :=
  ⟨false, false, false, false, false, false, false, false, false, false, false, x0, x1, x2, x3, x4, x5, x6, x7, x8, x9, x10, rfl, rfl, { below := fun _ => h, s0 := (fun h => by cases h), s1 := (fun h => by cases h), s2 := (fun h => by cases h), s3 := (fun h => by cases h), s4 := (fun h => by cases h), s5 := (fun h => by cases h), s6 := (fun h => by cases h), s7 := (fun h => by cases h), s8 := (fun h => by cases h), s9 := (fun h => by cases h), s10 := (fun h => by cases h), o98 := (fun h => by cases h), o90 := (fun h => by cases h), o87 := (fun h => by cases h), o71 := (fun h => by cases h), o76 := (fun h => by cases h), o63 := (fun h => by cases h), o65 := (fun h => by cases h), o54 := (fun h => by cases h), o32 := (fun h => by cases h), o109 := (fun h => by cases h), tt := fun _ => hx }⟩
section
variable {Wr : World} {n₀ k : Nat} {ys : List Value} {vM : Value} {B6 : Nat} {p1 p2 M : Int} {b0 b1 b2 b3 b4 b5 b6 b7 b8 b9 b10 : Bool} {x0 x1 x2 x3 x4 x5 x6 x7 x8 x9 x10 : Value} {W : World}
theorem balJ_mk (h : BalJ Wr n₀ k ys vM B6 p1 p2 M b0 b1 b2 b3 b4 b5 b6 b7 b8 b9 b10 x0 x1 x2 x3 x4 x5 x6 x7 x8 x9 x10 W) : balJ Wr n₀ k ys vM B6 p1 p2 M [b0, b1, b2, b3, b4, b5, b6, b7, b8, b9, b10] [x0, x1, x2, x3, x4, x5, x6, x7, x8, x9, x10] W :=
  ⟨_, _, _, _, _, _, _, _, _, _, _, _, _, _, _, _, _, _, _, _, _, _, rfl, rfl, h⟩
theorem BalJ.up8 (J : BalJ Wr n₀ k ys vM B6 p1 p2 M b0 b1 b2 b3 b4 b5 b6 b7 b8 b9 b10 x0 x1 x2 x3 x4 x5 x6 x7 x8 x9 x10 W) (h : b9 = true) : b8 = true := J.o98 h
theorem BalJ.up0 (J : BalJ Wr n₀ k ys vM B6 p1 p2 M b0 b1 b2 b3 b4 b5 b6 b7 b8 b9 b10 x0 x1 x2 x3 x4 x5 x6 x7 x8 x9 x10 W) (h : b9 = true) : b0 = true := J.o90 h
theorem BalJ.up7 (J : BalJ Wr n₀ k ys vM B6 p1 p2 M b0 b1 b2 b3 b4 b5 b6 b7 b8 b9 b10 x0 x1 x2 x3 x4 x5 x6 x7 x8 x9 x10 W) (h : b9 = true) : b7 = true := J.o87 (J.up8 h)
theorem BalJ.up1 (J : BalJ Wr n₀ k ys vM B6 p1 p2 M b0 b1 b2 b3 b4 b5 b6 b7 b8 b9 b10 x0 x1 x2 x3 x4 x5 x6 x7 x8 x9 x10 W) (h : b9 = true) : b1 = true := J.o71 (J.up7 h)
theorem BalJ.up6 (J : BalJ Wr n₀ k ys vM B6 p1 p2 M b0 b1 b2 b3 b4 b5 b6 b7 b8 b9 b10 x0 x1 x2 x3 x4 x5 x6 x7 x8 x9 x10 W) (h : b9 = true) : b6 = true := J.o76 (J.up7 h)
theorem BalJ.up3 (J : BalJ Wr n₀ k ys vM B6 p1 p2 M b0 b1 b2 b3 b4 b5 b6 b7 b8 b9 b10 x0 x1 x2 x3 x4 x5 x6 x7 x8 x9 x10 W) (h : b9 = true) : b3 = true := J.o63 (J.up6 h)
theorem BalJ.up5 (J : BalJ Wr n₀ k ys vM B6 p1 p2 M b0 b1 b2 b3 b4 b5 b6 b7 b8 b9 b10 x0 x1 x2 x3 x4 x5 x6 x7 x8 x9 x10 W) (h : b9 = true) : b5 = true := J.o65 (J.up6 h)
theorem BalJ.up4 (J : BalJ Wr n₀ k ys vM B6 p1 p2 M b0 b1 b2 b3 b4 b5 b6 b7 b8 b9 b10 x0 x1 x2 x3 x4 x5 x6 x7 x8 x9 x10 W) (h : b9 = true) : b4 = true := J.o54 (J.up5 h)
theorem BalJ.up2 (J : BalJ Wr n₀ k ys vM B6 p1 p2 M b0 b1 b2 b3 b4 b5 b6 b7 b8 b9 b10 x0 x1 x2 x3 x4 x5 x6 x7 x8 x9 x10 W) (h : b9 = true) : b2 = true := J.o32 (J.up3 h)
end
end Go.Proofs.Ytlehddifcjklgaa
