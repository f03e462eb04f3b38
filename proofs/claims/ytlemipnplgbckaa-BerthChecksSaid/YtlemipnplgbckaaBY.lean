import Derived.Test.YtlemipnplgbckaaBX
import Derived.Test.YtlemipnplgbckaaBC
import Derived.Laws.AppendOwn
import Derived.ChangeKeysEq
import Derived.Maps.RangeWalk
import Derived.Maps.OwnIn
import Derived.Maps.AppendAt
import Derived.RangeFuncNested
import Derived.RangeFuncBound
import Derived.RangeFuncCalls
import Derived.RangeFuncLeaves
import Derived.Shelf.Abstract
import Derived.Shelf.RegionOpen
import Derived.WalkKit
import Derived.WalkMore
import Derived.OwnWalkIn
import Derived.TacticsInMore
import Derived.LoopNIn
import Derived.LoopIn
import Derived.WalkSpells
import Derived.WalkLawsBesides
import Derived.BigQuiet
import Derived.Deep.QuietTactic
import Derived.Lib.Hide
import Derived.Deep.RegionHeld3
import Derived.StillTailTactics
import Derived.Deep.LoopGhost
import Derived.Maps.OwnSet
import Derived.Lib.IndexAny
import Derived.Sort.QuietThIn
import Derived.Sort.QuietTacIn
import Derived.Sort.BigQuietIn
import Derived.Laws.OwnMore
import Derived.DeepKeys4
import Derived.Maps.Views
import Derived.Maps.OwnOps
import Derived.Laws.OwnMore
import Derived.Deep.DeepCutAuto
import Derived.ChangeKeysEq
namespace Go.Proofs.Ytlemipnplgbckaa
open Go.RowKit Go.Shelf
attribute [local go_sem] Oper.semAt_some
theorem box_get {vs : List Value} {n : Nat} {R : Value → Prop} (h : ∃ v, vs[n]? = some v ∧ R v) {x : Value} (hx : vs[n]? = some x) : R x := by
  obtain ⟨v, h1, h2⟩ := h
  rw [hx] at h1; cases h1; exact h2
theorem grown_put {W W' : World} {b i : Nat} {v : Value} (h : W.grownBy W' (some b)) : W.grownBy (W'.setCell ⟨b, i, none⟩ v) (some b) :=
  ⟨h.os, h.tape, h.output, by simpa [World.setCell] using h.size, fun k hk hne => by
    rw [Below.heap_setCell _ _ _ _ (fun e => hne (by rw [e]))]
    exact h.block k hk hne⟩
theorem grown_self (W : World) (row : Option Nat) : W.grownBy W row := ⟨rfl, rfl, rfl, Nat.le_refl _, fun _ _ _ => rfl⟩
theorem len4 {vs : List Value} (h : vs.length = 4) : ∃ x0 x1 x2 x3, vs = [x0, x1, x2, x3] := by
  obtain ⟨x0, r0, rfl, h0⟩ := len_cons h
  obtain ⟨x1, r1, rfl, h1⟩ := len_cons h0
  obtain ⟨x2, r2, rfl, h2⟩ := len_cons h1
  obtain ⟨x3, r3, rfl, h3⟩ := len_cons h2
  obtain rfl := List.eq_nil_of_length_eq_zero h3
  exact ⟨_, _, _, _, rfl⟩
theorem len5 {vs : List Value} (h : vs.length = 5) : ∃ x0 x1 x2 x3 x4, vs = [x0, x1, x2, x3, x4] := by
  obtain ⟨x0, r0, rfl, h0⟩ := len_cons h
  obtain ⟨x1, r1, rfl, h1⟩ := len_cons h0
  obtain ⟨x2, r2, rfl, h2⟩ := len_cons h1
  obtain ⟨x3, r3, rfl, h3⟩ := len_cons h2
  obtain ⟨x4, r4, rfl, h4⟩ := len_cons h3
  obtain rfl := List.eq_nil_of_length_eq_zero h4
  exact ⟨_, _, _, _, _, rfl⟩
theorem len6 {vs : List Value} (h : vs.length = 6) : ∃ x0 x1 x2 x3 x4 x5, vs = [x0, x1, x2, x3, x4, x5] := by
  obtain ⟨x0, r0, rfl, h0⟩ := len_cons h
  obtain ⟨x1, r1, rfl, h1⟩ := len_cons h0
  obtain ⟨x2, r2, rfl, h2⟩ := len_cons h1
  obtain ⟨x3, r3, rfl, h3⟩ := len_cons h2
  obtain ⟨x4, r4, rfl, h4⟩ := len_cons h3
  obtain ⟨x5, r5, rfl, h5⟩ := len_cons h4
  obtain rfl := List.eq_nil_of_length_eq_zero h5
  exact ⟨_, _, _, _, _, _, rfl⟩
theorem len7 {vs : List Value} (h : vs.length = 7) : ∃ x0 x1 x2 x3 x4 x5 x6, vs = [x0, x1, x2, x3, x4, x5, x6] := by
  obtain ⟨x0, r0, rfl, h0⟩ := len_cons h
  obtain ⟨x1, r1, rfl, h1⟩ := len_cons h0
  obtain ⟨x2, r2, rfl, h2⟩ := len_cons h1
  obtain ⟨x3, r3, rfl, h3⟩ := len_cons h2
  obtain ⟨x4, r4, rfl, h4⟩ := len_cons h3
  obtain ⟨x5, r5, rfl, h5⟩ := len_cons h4
  obtain ⟨x6, r6, rfl, h6⟩ := len_cons h5
  obtain rfl := List.eq_nil_of_length_eq_zero h6
  exact ⟨_, _, _, _, _, _, _, rfl⟩
theorem len8 {vs : List Value} (h : vs.length = 8) : ∃ x0 x1 x2 x3 x4 x5 x6 x7, vs = [x0, x1, x2, x3, x4, x5, x6, x7] := by
  obtain ⟨x0, r0, rfl, h0⟩ := len_cons h
  obtain ⟨x1, r1, rfl, h1⟩ := len_cons h0
  obtain ⟨x2, r2, rfl, h2⟩ := len_cons h1
  obtain ⟨x3, r3, rfl, h3⟩ := len_cons h2
  obtain ⟨x4, r4, rfl, h4⟩ := len_cons h3
  obtain ⟨x5, r5, rfl, h5⟩ := len_cons h4
  obtain ⟨x6, r6, rfl, h6⟩ := len_cons h5
  obtain ⟨x7, r7, rfl, h7⟩ := len_cons h6
  obtain rfl := List.eq_nil_of_length_eq_zero h7
  exact ⟨_, _, _, _, _, _, _, _, rfl⟩
theorem len9 {vs : List Value} (h : vs.length = 9) : ∃ x0 x1 x2 x3 x4 x5 x6 x7 x8, vs = [x0, x1, x2, x3, x4, x5, x6, x7, x8] := by
  obtain ⟨x0, r0, rfl, h0⟩ := len_cons h
  obtain ⟨x1, r1, rfl, h1⟩ := len_cons h0
  obtain ⟨x2, r2, rfl, h2⟩ := len_cons h1
  obtain ⟨x3, r3, rfl, h3⟩ := len_cons h2
  obtain ⟨x4, r4, rfl, h4⟩ := len_cons h3
  obtain ⟨x5, r5, rfl, h5⟩ := len_cons h4
  obtain ⟨x6, r6, rfl, h6⟩ := len_cons h5
  obtain ⟨x7, r7, rfl, h7⟩ := len_cons h6
  obtain ⟨x8, r8, rfl, h8⟩ := len_cons h7
  obtain rfl := List.eq_nil_of_length_eq_zero h8
  exact ⟨_, _, _, _, _, _, _, _, _, rfl⟩
theorem len10 {vs : List Value} (h : vs.length = 10) : ∃ x0 x1 x2 x3 x4 x5 x6 x7 x8 x9, vs = [x0, x1, x2, x3, x4, x5, x6, x7, x8, x9] := by
  obtain ⟨x0, r0, rfl, h0⟩ := len_cons h
  obtain ⟨x1, r1, rfl, h1⟩ := len_cons h0
  obtain ⟨x2, r2, rfl, h2⟩ := len_cons h1
  obtain ⟨x3, r3, rfl, h3⟩ := len_cons h2
  obtain ⟨x4, r4, rfl, h4⟩ := len_cons h3
  obtain ⟨x5, r5, rfl, h5⟩ := len_cons h4
  obtain ⟨x6, r6, rfl, h6⟩ := len_cons h5
  obtain ⟨x7, r7, rfl, h7⟩ := len_cons h6
  obtain ⟨x8, r8, rfl, h8⟩ := len_cons h7
  obtain ⟨x9, r9, rfl, h9⟩ := len_cons h8
  obtain rfl := List.eq_nil_of_length_eq_zero h9
  exact ⟨_, _, _, _, _, _, _, _, _, _, rfl⟩
theorem len11 {vs : List Value} (h : vs.length = 11) : ∃ x0 x1 x2 x3 x4 x5 x6 x7 x8 x9 x10, vs = [x0, x1, x2, x3, x4, x5, x6, x7, x8, x9, x10] := by
  obtain ⟨x0, r0, rfl, h0⟩ := len_cons h
  obtain ⟨x1, r1, rfl, h1⟩ := len_cons h0
  obtain ⟨x2, r2, rfl, h2⟩ := len_cons h1
  obtain ⟨x3, r3, rfl, h3⟩ := len_cons h2
  obtain ⟨x4, r4, rfl, h4⟩ := len_cons h3
  obtain ⟨x5, r5, rfl, h5⟩ := len_cons h4
  obtain ⟨x6, r6, rfl, h6⟩ := len_cons h5
  obtain ⟨x7, r7, rfl, h7⟩ := len_cons h6
  obtain ⟨x8, r8, rfl, h8⟩ := len_cons h7
  obtain ⟨x9, r9, rfl, h9⟩ := len_cons h8
  obtain ⟨x10, r10, rfl, h10⟩ := len_cons h9
  obtain rfl := List.eq_nil_of_length_eq_zero h10
  exact ⟨_, _, _, _, _, _, _, _, _, _, _, rfl⟩
theorem len12 {vs : List Value} (h : vs.length = 12) : ∃ x0 x1 x2 x3 x4 x5 x6 x7 x8 x9 x10 x11, vs = [x0, x1, x2, x3, x4, x5, x6, x7, x8, x9, x10, x11] := by
  obtain ⟨x0, r0, rfl, h0⟩ := len_cons h
  obtain ⟨x1, r1, rfl, h1⟩ := len_cons h0
  obtain ⟨x2, r2, rfl, h2⟩ := len_cons h1
  obtain ⟨x3, r3, rfl, h3⟩ := len_cons h2
  obtain ⟨x4, r4, rfl, h4⟩ := len_cons h3
  obtain ⟨x5, r5, rfl, h5⟩ := len_cons h4
  obtain ⟨x6, r6, rfl, h6⟩ := len_cons h5
  obtain ⟨x7, r7, rfl, h7⟩ := len_cons h6
  obtain ⟨x8, r8, rfl, h8⟩ := len_cons h7
  obtain ⟨x9, r9, rfl, h9⟩ := len_cons h8
  obtain ⟨x10, r10, rfl, h10⟩ := len_cons h9
  obtain ⟨x11, r11, rfl, h11⟩ := len_cons h10
  obtain rfl := List.eq_nil_of_length_eq_zero h11
  exact ⟨_, _, _, _, _, _, _, _, _, _, _, _, rfl⟩
theorem len13 {vs : List Value} (h : vs.length = 13) : ∃ x0 x1 x2 x3 x4 x5 x6 x7 x8 x9 x10 x11 x12, vs = [x0, x1, x2, x3, x4, x5, x6, x7, x8, x9, x10, x11, x12] := by
  obtain ⟨x0, r0, rfl, h0⟩ := len_cons h
  obtain ⟨x1, r1, rfl, h1⟩ := len_cons h0
  obtain ⟨x2, r2, rfl, h2⟩ := len_cons h1
  obtain ⟨x3, r3, rfl, h3⟩ := len_cons h2
  obtain ⟨x4, r4, rfl, h4⟩ := len_cons h3
  obtain ⟨x5, r5, rfl, h5⟩ := len_cons h4
  obtain ⟨x6, r6, rfl, h6⟩ := len_cons h5
  obtain ⟨x7, r7, rfl, h7⟩ := len_cons h6
  obtain ⟨x8, r8, rfl, h8⟩ := len_cons h7
  obtain ⟨x9, r9, rfl, h9⟩ := len_cons h8
  obtain ⟨x10, r10, rfl, h10⟩ := len_cons h9
  obtain ⟨x11, r11, rfl, h11⟩ := len_cons h10
  obtain ⟨x12, r12, rfl, h12⟩ := len_cons h11
  obtain rfl := List.eq_nil_of_length_eq_zero h12
  exact ⟨_, _, _, _, _, _, _, _, _, _, _, _, _, rfl⟩
theorem len14 {vs : List Value} (h : vs.length = 14) : ∃ x0 x1 x2 x3 x4 x5 x6 x7 x8 x9 x10 x11 x12 x13, vs = [x0, x1, x2, x3, x4, x5, x6, x7, x8, x9, x10, x11, x12, x13] := by
  obtain ⟨x0, r0, rfl, h0⟩ := len_cons h
  obtain ⟨x1, r1, rfl, h1⟩ := len_cons h0
  obtain ⟨x2, r2, rfl, h2⟩ := len_cons h1
  obtain ⟨x3, r3, rfl, h3⟩ := len_cons h2
  obtain ⟨x4, r4, rfl, h4⟩ := len_cons h3
  obtain ⟨x5, r5, rfl, h5⟩ := len_cons h4
  obtain ⟨x6, r6, rfl, h6⟩ := len_cons h5
  obtain ⟨x7, r7, rfl, h7⟩ := len_cons h6
  obtain ⟨x8, r8, rfl, h8⟩ := len_cons h7
  obtain ⟨x9, r9, rfl, h9⟩ := len_cons h8
  obtain ⟨x10, r10, rfl, h10⟩ := len_cons h9
  obtain ⟨x11, r11, rfl, h11⟩ := len_cons h10
  obtain ⟨x12, r12, rfl, h12⟩ := len_cons h11
  obtain ⟨x13, r13, rfl, h13⟩ := len_cons h12
  obtain rfl := List.eq_nil_of_length_eq_zero h13
  exact ⟨_, _, _, _, _, _, _, _, _, _, _, _, _, _, rfl⟩
theorem len15 {vs : List Value} (h : vs.length = 15) : ∃ x0 x1 x2 x3 x4 x5 x6 x7 x8 x9 x10 x11 x12 x13 x14, vs = [x0, x1, x2, x3, x4, x5, x6, x7, x8, x9, x10, x11, x12, x13, x14] := by
  obtain ⟨x0, r0, rfl, h0⟩ := len_cons h
  obtain ⟨x1, r1, rfl, h1⟩ := len_cons h0
  obtain ⟨x2, r2, rfl, h2⟩ := len_cons h1
  obtain ⟨x3, r3, rfl, h3⟩ := len_cons h2
  obtain ⟨x4, r4, rfl, h4⟩ := len_cons h3
  obtain ⟨x5, r5, rfl, h5⟩ := len_cons h4
  obtain ⟨x6, r6, rfl, h6⟩ := len_cons h5
  obtain ⟨x7, r7, rfl, h7⟩ := len_cons h6
  obtain ⟨x8, r8, rfl, h8⟩ := len_cons h7
  obtain ⟨x9, r9, rfl, h9⟩ := len_cons h8
  obtain ⟨x10, r10, rfl, h10⟩ := len_cons h9
  obtain ⟨x11, r11, rfl, h11⟩ := len_cons h10
  obtain ⟨x12, r12, rfl, h12⟩ := len_cons h11
  obtain ⟨x13, r13, rfl, h13⟩ := len_cons h12
  obtain ⟨x14, r14, rfl, h14⟩ := len_cons h13
  obtain rfl := List.eq_nil_of_length_eq_zero h14
  exact ⟨_, _, _, _, _, _, _, _, _, _, _, _, _, _, _, rfl⟩
theorem len16 {vs : List Value} (h : vs.length = 16) : ∃ x0 x1 x2 x3 x4 x5 x6 x7 x8 x9 x10 x11 x12 x13 x14 x15, vs = [x0, x1, x2, x3, x4, x5, x6, x7, x8, x9, x10, x11, x12, x13, x14, x15] := by
  obtain ⟨x0, r0, rfl, h0⟩ := len_cons h
  obtain ⟨x1, r1, rfl, h1⟩ := len_cons h0
  obtain ⟨x2, r2, rfl, h2⟩ := len_cons h1
  obtain ⟨x3, r3, rfl, h3⟩ := len_cons h2
  obtain ⟨x4, r4, rfl, h4⟩ := len_cons h3
  obtain ⟨x5, r5, rfl, h5⟩ := len_cons h4
  obtain ⟨x6, r6, rfl, h6⟩ := len_cons h5
  obtain ⟨x7, r7, rfl, h7⟩ := len_cons h6
  obtain ⟨x8, r8, rfl, h8⟩ := len_cons h7
  obtain ⟨x9, r9, rfl, h9⟩ := len_cons h8
  obtain ⟨x10, r10, rfl, h10⟩ := len_cons h9
  obtain ⟨x11, r11, rfl, h11⟩ := len_cons h10
  obtain ⟨x12, r12, rfl, h12⟩ := len_cons h11
  obtain ⟨x13, r13, rfl, h13⟩ := len_cons h12
  obtain ⟨x14, r14, rfl, h14⟩ := len_cons h13
  obtain ⟨x15, r15, rfl, h15⟩ := len_cons h14
  obtain rfl := List.eq_nil_of_length_eq_zero h15
  exact ⟨_, _, _, _, _, _, _, _, _, _, _, _, _, _, _, _, rfl⟩
theorem len17 {vs : List Value} (h : vs.length = 17) : ∃ x0 x1 x2 x3 x4 x5 x6 x7 x8 x9 x10 x11 x12 x13 x14 x15 x16, vs = [x0, x1, x2, x3, x4, x5, x6, x7, x8, x9, x10, x11, x12, x13, x14, x15, x16] := by
  obtain ⟨x0, r0, rfl, h0⟩ := len_cons h
  obtain ⟨x1, r1, rfl, h1⟩ := len_cons h0
  obtain ⟨x2, r2, rfl, h2⟩ := len_cons h1
  obtain ⟨x3, r3, rfl, h3⟩ := len_cons h2
  obtain ⟨x4, r4, rfl, h4⟩ := len_cons h3
  obtain ⟨x5, r5, rfl, h5⟩ := len_cons h4
  obtain ⟨x6, r6, rfl, h6⟩ := len_cons h5
  obtain ⟨x7, r7, rfl, h7⟩ := len_cons h6
  obtain ⟨x8, r8, rfl, h8⟩ := len_cons h7
  obtain ⟨x9, r9, rfl, h9⟩ := len_cons h8
  obtain ⟨x10, r10, rfl, h10⟩ := len_cons h9
  obtain ⟨x11, r11, rfl, h11⟩ := len_cons h10
  obtain ⟨x12, r12, rfl, h12⟩ := len_cons h11
  obtain ⟨x13, r13, rfl, h13⟩ := len_cons h12
  obtain ⟨x14, r14, rfl, h14⟩ := len_cons h13
  obtain ⟨x15, r15, rfl, h15⟩ := len_cons h14
  obtain ⟨x16, r16, rfl, h16⟩ := len_cons h15
  obtain rfl := List.eq_nil_of_length_eq_zero h16
  exact ⟨_, _, _, _, _, _, _, _, _, _, _, _, _, _, _, _, _, rfl⟩
theorem len18 {vs : List Value} (h : vs.length = 18) : ∃ x0 x1 x2 x3 x4 x5 x6 x7 x8 x9 x10 x11 x12 x13 x14 x15 x16 x17, vs = [x0, x1, x2, x3, x4, x5, x6, x7, x8, x9, x10, x11, x12, x13, x14, x15, x16, x17] := by
  obtain ⟨x0, r0, rfl, h0⟩ := len_cons h
  obtain ⟨x1, r1, rfl, h1⟩ := len_cons h0
  obtain ⟨x2, r2, rfl, h2⟩ := len_cons h1
  obtain ⟨x3, r3, rfl, h3⟩ := len_cons h2
  obtain ⟨x4, r4, rfl, h4⟩ := len_cons h3
  obtain ⟨x5, r5, rfl, h5⟩ := len_cons h4
  obtain ⟨x6, r6, rfl, h6⟩ := len_cons h5
  obtain ⟨x7, r7, rfl, h7⟩ := len_cons h6
  obtain ⟨x8, r8, rfl, h8⟩ := len_cons h7
  obtain ⟨x9, r9, rfl, h9⟩ := len_cons h8
  obtain ⟨x10, r10, rfl, h10⟩ := len_cons h9
  obtain ⟨x11, r11, rfl, h11⟩ := len_cons h10
  obtain ⟨x12, r12, rfl, h12⟩ := len_cons h11
  obtain ⟨x13, r13, rfl, h13⟩ := len_cons h12
  obtain ⟨x14, r14, rfl, h14⟩ := len_cons h13
  obtain ⟨x15, r15, rfl, h15⟩ := len_cons h14
  obtain ⟨x16, r16, rfl, h16⟩ := len_cons h15
  obtain ⟨x17, r17, rfl, h17⟩ := len_cons h16
  obtain rfl := List.eq_nil_of_length_eq_zero h17
  exact ⟨_, _, _, _, _, _, _, _, _, _, _, _, _, _, _, _, _, _, rfl⟩
theorem len19 {vs : List Value} (h : vs.length = 19) : ∃ x0 x1 x2 x3 x4 x5 x6 x7 x8 x9 x10 x11 x12 x13 x14 x15 x16 x17 x18, vs = [x0, x1, x2, x3, x4, x5, x6, x7, x8, x9, x10, x11, x12, x13, x14, x15, x16, x17, x18] := by
  obtain ⟨x0, r0, rfl, h0⟩ := len_cons h
  obtain ⟨x1, r1, rfl, h1⟩ := len_cons h0
  obtain ⟨x2, r2, rfl, h2⟩ := len_cons h1
  obtain ⟨x3, r3, rfl, h3⟩ := len_cons h2
  obtain ⟨x4, r4, rfl, h4⟩ := len_cons h3
  obtain ⟨x5, r5, rfl, h5⟩ := len_cons h4
  obtain ⟨x6, r6, rfl, h6⟩ := len_cons h5
  obtain ⟨x7, r7, rfl, h7⟩ := len_cons h6
  obtain ⟨x8, r8, rfl, h8⟩ := len_cons h7
  obtain ⟨x9, r9, rfl, h9⟩ := len_cons h8
  obtain ⟨x10, r10, rfl, h10⟩ := len_cons h9
  obtain ⟨x11, r11, rfl, h11⟩ := len_cons h10
  obtain ⟨x12, r12, rfl, h12⟩ := len_cons h11
  obtain ⟨x13, r13, rfl, h13⟩ := len_cons h12
  obtain ⟨x14, r14, rfl, h14⟩ := len_cons h13
  obtain ⟨x15, r15, rfl, h15⟩ := len_cons h14
  obtain ⟨x16, r16, rfl, h16⟩ := len_cons h15
  obtain ⟨x17, r17, rfl, h17⟩ := len_cons h16
  obtain ⟨x18, r18, rfl, h18⟩ := len_cons h17
  obtain rfl := List.eq_nil_of_length_eq_zero h18
  exact ⟨_, _, _, _, _, _, _, _, _, _, _, _, _, _, _, _, _, _, _, rfl⟩
theorem len20 {vs : List Value} (h : vs.length = 20) : ∃ x0 x1 x2 x3 x4 x5 x6 x7 x8 x9 x10 x11 x12 x13 x14 x15 x16 x17 x18 x19, vs = [x0, x1, x2, x3, x4, x5, x6, x7, x8, x9, x10, x11, x12, x13, x14, x15, x16, x17, x18, x19] := by
  obtain ⟨x0, r0, rfl, h0⟩ := len_cons h
  obtain ⟨x1, r1, rfl, h1⟩ := len_cons h0
  obtain ⟨x2, r2, rfl, h2⟩ := len_cons h1
  obtain ⟨x3, r3, rfl, h3⟩ := len_cons h2
  obtain ⟨x4, r4, rfl, h4⟩ := len_cons h3
  obtain ⟨x5, r5, rfl, h5⟩ := len_cons h4
  obtain ⟨x6, r6, rfl, h6⟩ := len_cons h5
  obtain ⟨x7, r7, rfl, h7⟩ := len_cons h6
  obtain ⟨x8, r8, rfl, h8⟩ := len_cons h7
  obtain ⟨x9, r9, rfl, h9⟩ := len_cons h8
  obtain ⟨x10, r10, rfl, h10⟩ := len_cons h9
  obtain ⟨x11, r11, rfl, h11⟩ := len_cons h10
  obtain ⟨x12, r12, rfl, h12⟩ := len_cons h11
  obtain ⟨x13, r13, rfl, h13⟩ := len_cons h12
  obtain ⟨x14, r14, rfl, h14⟩ := len_cons h13
  obtain ⟨x15, r15, rfl, h15⟩ := len_cons h14
  obtain ⟨x16, r16, rfl, h16⟩ := len_cons h15
  obtain ⟨x17, r17, rfl, h17⟩ := len_cons h16
  obtain ⟨x18, r18, rfl, h18⟩ := len_cons h17
  obtain ⟨x19, r19, rfl, h19⟩ := len_cons h18
  obtain rfl := List.eq_nil_of_length_eq_zero h19
  exact ⟨_, _, _, _, _, _, _, _, _, _, _, _, _, _, _, _, _, _, _, _, rfl⟩
theorem len21 {vs : List Value} (h : vs.length = 21) : ∃ x0 x1 x2 x3 x4 x5 x6 x7 x8 x9 x10 x11 x12 x13 x14 x15 x16 x17 x18 x19 x20, vs = [x0, x1, x2, x3, x4, x5, x6, x7, x8, x9, x10, x11, x12, x13, x14, x15, x16, x17, x18, x19, x20] := by
  obtain ⟨x0, r0, rfl, h0⟩ := len_cons h
  obtain ⟨x1, r1, rfl, h1⟩ := len_cons h0
  obtain ⟨x2, r2, rfl, h2⟩ := len_cons h1
  obtain ⟨x3, r3, rfl, h3⟩ := len_cons h2
  obtain ⟨x4, r4, rfl, h4⟩ := len_cons h3
  obtain ⟨x5, r5, rfl, h5⟩ := len_cons h4
  obtain ⟨x6, r6, rfl, h6⟩ := len_cons h5
  obtain ⟨x7, r7, rfl, h7⟩ := len_cons h6
  obtain ⟨x8, r8, rfl, h8⟩ := len_cons h7
  obtain ⟨x9, r9, rfl, h9⟩ := len_cons h8
  obtain ⟨x10, r10, rfl, h10⟩ := len_cons h9
  obtain ⟨x11, r11, rfl, h11⟩ := len_cons h10
  obtain ⟨x12, r12, rfl, h12⟩ := len_cons h11
  obtain ⟨x13, r13, rfl, h13⟩ := len_cons h12
  obtain ⟨x14, r14, rfl, h14⟩ := len_cons h13
  obtain ⟨x15, r15, rfl, h15⟩ := len_cons h14
  obtain ⟨x16, r16, rfl, h16⟩ := len_cons h15
  obtain ⟨x17, r17, rfl, h17⟩ := len_cons h16
  obtain ⟨x18, r18, rfl, h18⟩ := len_cons h17
  obtain ⟨x19, r19, rfl, h19⟩ := len_cons h18
  obtain ⟨x20, r20, rfl, h20⟩ := len_cons h19
  obtain rfl := List.eq_nil_of_length_eq_zero h20
  exact ⟨_, _, _, _, _, _, _, _, _, _, _, _, _, _, _, _, _, _, _, _, _, rfl⟩
theorem len22 {vs : List Value} (h : vs.length = 22) : ∃ x0 x1 x2 x3 x4 x5 x6 x7 x8 x9 x10 x11 x12 x13 x14 x15 x16 x17 x18 x19 x20 x21, vs = [x0, x1, x2, x3, x4, x5, x6, x7, x8, x9, x10, x11, x12, x13, x14, x15, x16, x17, x18, x19, x20, x21] := by
  obtain ⟨x0, r0, rfl, h0⟩ := len_cons h
  obtain ⟨x1, r1, rfl, h1⟩ := len_cons h0
  obtain ⟨x2, r2, rfl, h2⟩ := len_cons h1
  obtain ⟨x3, r3, rfl, h3⟩ := len_cons h2
  obtain ⟨x4, r4, rfl, h4⟩ := len_cons h3
  obtain ⟨x5, r5, rfl, h5⟩ := len_cons h4
  obtain ⟨x6, r6, rfl, h6⟩ := len_cons h5
  obtain ⟨x7, r7, rfl, h7⟩ := len_cons h6
  obtain ⟨x8, r8, rfl, h8⟩ := len_cons h7
  obtain ⟨x9, r9, rfl, h9⟩ := len_cons h8
  obtain ⟨x10, r10, rfl, h10⟩ := len_cons h9
  obtain ⟨x11, r11, rfl, h11⟩ := len_cons h10
  obtain ⟨x12, r12, rfl, h12⟩ := len_cons h11
  obtain ⟨x13, r13, rfl, h13⟩ := len_cons h12
  obtain ⟨x14, r14, rfl, h14⟩ := len_cons h13
  obtain ⟨x15, r15, rfl, h15⟩ := len_cons h14
  obtain ⟨x16, r16, rfl, h16⟩ := len_cons h15
  obtain ⟨x17, r17, rfl, h17⟩ := len_cons h16
  obtain ⟨x18, r18, rfl, h18⟩ := len_cons h17
  obtain ⟨x19, r19, rfl, h19⟩ := len_cons h18
  obtain ⟨x20, r20, rfl, h20⟩ := len_cons h19
  obtain ⟨x21, r21, rfl, h21⟩ := len_cons h20
  obtain rfl := List.eq_nil_of_length_eq_zero h21
  exact ⟨_, _, _, _, _, _, _, _, _, _, _, _, _, _, _, _, _, _, _, _, _, _, rfl⟩
theorem len23 {vs : List Value} (h : vs.length = 23) : ∃ x0 x1 x2 x3 x4 x5 x6 x7 x8 x9 x10 x11 x12 x13 x14 x15 x16 x17 x18 x19 x20 x21 x22, vs = [x0, x1, x2, x3, x4, x5, x6, x7, x8, x9, x10, x11, x12, x13, x14, x15, x16, x17, x18, x19, x20, x21, x22] := by
  obtain ⟨x0, r0, rfl, h0⟩ := len_cons h
  obtain ⟨x1, r1, rfl, h1⟩ := len_cons h0
  obtain ⟨x2, r2, rfl, h2⟩ := len_cons h1
  obtain ⟨x3, r3, rfl, h3⟩ := len_cons h2
  obtain ⟨x4, r4, rfl, h4⟩ := len_cons h3
  obtain ⟨x5, r5, rfl, h5⟩ := len_cons h4
  obtain ⟨x6, r6, rfl, h6⟩ := len_cons h5
  obtain ⟨x7, r7, rfl, h7⟩ := len_cons h6
  obtain ⟨x8, r8, rfl, h8⟩ := len_cons h7
  obtain ⟨x9, r9, rfl, h9⟩ := len_cons h8
  obtain ⟨x10, r10, rfl, h10⟩ := len_cons h9
  obtain ⟨x11, r11, rfl, h11⟩ := len_cons h10
  obtain ⟨x12, r12, rfl, h12⟩ := len_cons h11
  obtain ⟨x13, r13, rfl, h13⟩ := len_cons h12
  obtain ⟨x14, r14, rfl, h14⟩ := len_cons h13
  obtain ⟨x15, r15, rfl, h15⟩ := len_cons h14
  obtain ⟨x16, r16, rfl, h16⟩ := len_cons h15
  obtain ⟨x17, r17, rfl, h17⟩ := len_cons h16
  obtain ⟨x18, r18, rfl, h18⟩ := len_cons h17
  obtain ⟨x19, r19, rfl, h19⟩ := len_cons h18
  obtain ⟨x20, r20, rfl, h20⟩ := len_cons h19
  obtain ⟨x21, r21, rfl, h21⟩ := len_cons h20
  obtain ⟨x22, r22, rfl, h22⟩ := len_cons h21
  obtain rfl := List.eq_nil_of_length_eq_zero h22
  exact ⟨_, _, _, _, _, _, _, _, _, _, _, _, _, _, _, _, _, _, _, _, _, _, _, rfl⟩
theorem len24 {vs : List Value} (h : vs.length = 24) : ∃ x0 x1 x2 x3 x4 x5 x6 x7 x8 x9 x10 x11 x12 x13 x14 x15 x16 x17 x18 x19 x20 x21 x22 x23, vs = [x0, x1, x2, x3, x4, x5, x6, x7, x8, x9, x10, x11, x12, x13, x14, x15, x16, x17, x18, x19, x20, x21, x22, x23] := by
  obtain ⟨x0, r0, rfl, h0⟩ := len_cons h
  obtain ⟨x1, r1, rfl, h1⟩ := len_cons h0
  obtain ⟨x2, r2, rfl, h2⟩ := len_cons h1
  obtain ⟨x3, r3, rfl, h3⟩ := len_cons h2
  obtain ⟨x4, r4, rfl, h4⟩ := len_cons h3
  obtain ⟨x5, r5, rfl, h5⟩ := len_cons h4
  obtain ⟨x6, r6, rfl, h6⟩ := len_cons h5
  obtain ⟨x7, r7, rfl, h7⟩ := len_cons h6
  obtain ⟨x8, r8, rfl, h8⟩ := len_cons h7
  obtain ⟨x9, r9, rfl, h9⟩ := len_cons h8
  obtain ⟨x10, r10, rfl, h10⟩ := len_cons h9
  obtain ⟨x11, r11, rfl, h11⟩ := len_cons h10
  obtain ⟨x12, r12, rfl, h12⟩ := len_cons h11
  obtain ⟨x13, r13, rfl, h13⟩ := len_cons h12
  obtain ⟨x14, r14, rfl, h14⟩ := len_cons h13
  obtain ⟨x15, r15, rfl, h15⟩ := len_cons h14
  obtain ⟨x16, r16, rfl, h16⟩ := len_cons h15
  obtain ⟨x17, r17, rfl, h17⟩ := len_cons h16
  obtain ⟨x18, r18, rfl, h18⟩ := len_cons h17
  obtain ⟨x19, r19, rfl, h19⟩ := len_cons h18
  obtain ⟨x20, r20, rfl, h20⟩ := len_cons h19
  obtain ⟨x21, r21, rfl, h21⟩ := len_cons h20
  obtain ⟨x22, r22, rfl, h22⟩ := len_cons h21
  obtain ⟨x23, r23, rfl, h23⟩ := len_cons h22
  obtain rfl := List.eq_nil_of_length_eq_zero h23
  exact ⟨_, _, _, _, _, _, _, _, _, _, _, _, _, _, _, _, _, _, _, _, _, _, _, _, rfl⟩
theorem len25 {vs : List Value} (h : vs.length = 25) : ∃ x0 x1 x2 x3 x4 x5 x6 x7 x8 x9 x10 x11 x12 x13 x14 x15 x16 x17 x18 x19 x20 x21 x22 x23 x24, vs = [x0, x1, x2, x3, x4, x5, x6, x7, x8, x9, x10, x11, x12, x13, x14, x15, x16, x17, x18, x19, x20, x21, x22, x23, x24] := by
  obtain ⟨x0, r0, rfl, h0⟩ := len_cons h
  obtain ⟨x1, r1, rfl, h1⟩ := len_cons h0
  obtain ⟨x2, r2, rfl, h2⟩ := len_cons h1
  obtain ⟨x3, r3, rfl, h3⟩ := len_cons h2
  obtain ⟨x4, r4, rfl, h4⟩ := len_cons h3
  obtain ⟨x5, r5, rfl, h5⟩ := len_cons h4
  obtain ⟨x6, r6, rfl, h6⟩ := len_cons h5
  obtain ⟨x7, r7, rfl, h7⟩ := len_cons h6
  obtain ⟨x8, r8, rfl, h8⟩ := len_cons h7
  obtain ⟨x9, r9, rfl, h9⟩ := len_cons h8
  obtain ⟨x10, r10, rfl, h10⟩ := len_cons h9
  obtain ⟨x11, r11, rfl, h11⟩ := len_cons h10
  obtain ⟨x12, r12, rfl, h12⟩ := len_cons h11
  obtain ⟨x13, r13, rfl, h13⟩ := len_cons h12
  obtain ⟨x14, r14, rfl, h14⟩ := len_cons h13
  obtain ⟨x15, r15, rfl, h15⟩ := len_cons h14
  obtain ⟨x16, r16, rfl, h16⟩ := len_cons h15
  obtain ⟨x17, r17, rfl, h17⟩ := len_cons h16
  obtain ⟨x18, r18, rfl, h18⟩ := len_cons h17
  obtain ⟨x19, r19, rfl, h19⟩ := len_cons h18
  obtain ⟨x20, r20, rfl, h20⟩ := len_cons h19
  obtain ⟨x21, r21, rfl, h21⟩ := len_cons h20
  obtain ⟨x22, r22, rfl, h22⟩ := len_cons h21
  obtain ⟨x23, r23, rfl, h23⟩ := len_cons h22
  obtain ⟨x24, r24, rfl, h24⟩ := len_cons h23
  obtain rfl := List.eq_nil_of_length_eq_zero h24
  exact ⟨_, _, _, _, _, _, _, _, _, _, _, _, _, _, _, _, _, _, _, _, _, _, _, _, _, rfl⟩
theorem len26 {vs : List Value} (h : vs.length = 26) : ∃ x0 x1 x2 x3 x4 x5 x6 x7 x8 x9 x10 x11 x12 x13 x14 x15 x16 x17 x18 x19 x20 x21 x22 x23 x24 x25, vs = [x0, x1, x2, x3, x4, x5, x6, x7, x8, x9, x10, x11, x12, x13, x14, x15, x16, x17, x18, x19, x20, x21, x22, x23, x24, x25] := by
  obtain ⟨x0, r0, rfl, h0⟩ := len_cons h
  obtain ⟨x1, r1, rfl, h1⟩ := len_cons h0
  obtain ⟨x2, r2, rfl, h2⟩ := len_cons h1
  obtain ⟨x3, r3, rfl, h3⟩ := len_cons h2
  obtain ⟨x4, r4, rfl, h4⟩ := len_cons h3
  obtain ⟨x5, r5, rfl, h5⟩ := len_cons h4
  obtain ⟨x6, r6, rfl, h6⟩ := len_cons h5
  obtain ⟨x7, r7, rfl, h7⟩ := len_cons h6
  obtain ⟨x8, r8, rfl, h8⟩ := len_cons h7
  obtain ⟨x9, r9, rfl, h9⟩ := len_cons h8
  obtain ⟨x10, r10, rfl, h10⟩ := len_cons h9
  obtain ⟨x11, r11, rfl, h11⟩ := len_cons h10
  obtain ⟨x12, r12, rfl, h12⟩ := len_cons h11
  obtain ⟨x13, r13, rfl, h13⟩ := len_cons h12
  obtain ⟨x14, r14, rfl, h14⟩ := len_cons h13
  obtain ⟨x15, r15, rfl, h15⟩ := len_cons h14
  obtain ⟨x16, r16, rfl, h16⟩ := len_cons h15
  obtain ⟨x17, r17, rfl, h17⟩ := len_cons h16
  obtain ⟨x18, r18, rfl, h18⟩ := len_cons h17
  obtain ⟨x19, r19, rfl, h19⟩ := len_cons h18
  obtain ⟨x20, r20, rfl, h20⟩ := len_cons h19
  obtain ⟨x21, r21, rfl, h21⟩ := len_cons h20
  obtain ⟨x22, r22, rfl, h22⟩ := len_cons h21
  obtain ⟨x23, r23, rfl, h23⟩ := len_cons h22
  obtain ⟨x24, r24, rfl, h24⟩ := len_cons h23
  obtain ⟨x25, r25, rfl, h25⟩ := len_cons h24
  obtain rfl := List.eq_nil_of_length_eq_zero h25
  exact ⟨_, _, _, _, _, _, _, _, _, _, _, _, _, _, _, _, _, _, _, _, _, _, _, _, _, _, rfl⟩
theorem len27 {vs : List Value} (h : vs.length = 27) : ∃ x0 x1 x2 x3 x4 x5 x6 x7 x8 x9 x10 x11 x12 x13 x14 x15 x16 x17 x18 x19 x20 x21 x22 x23 x24 x25 x26, vs = [x0, x1, x2, x3, x4, x5, x6, x7, x8, x9, x10, x11, x12, x13, x14, x15, x16, x17, x18, x19, x20, x21, x22, x23, x24, x25, x26] := by
  obtain ⟨x0, r0, rfl, h0⟩ := len_cons h
  obtain ⟨x1, r1, rfl, h1⟩ := len_cons h0
  obtain ⟨x2, r2, rfl, h2⟩ := len_cons h1
  obtain ⟨x3, r3, rfl, h3⟩ := len_cons h2
  obtain ⟨x4, r4, rfl, h4⟩ := len_cons h3
  obtain ⟨x5, r5, rfl, h5⟩ := len_cons h4
  obtain ⟨x6, r6, rfl, h6⟩ := len_cons h5
  obtain ⟨x7, r7, rfl, h7⟩ := len_cons h6
  obtain ⟨x8, r8, rfl, h8⟩ := len_cons h7
  obtain ⟨x9, r9, rfl, h9⟩ := len_cons h8
  obtain ⟨x10, r10, rfl, h10⟩ := len_cons h9
  obtain ⟨x11, r11, rfl, h11⟩ := len_cons h10
  obtain ⟨x12, r12, rfl, h12⟩ := len_cons h11
  obtain ⟨x13, r13, rfl, h13⟩ := len_cons h12
  obtain ⟨x14, r14, rfl, h14⟩ := len_cons h13
  obtain ⟨x15, r15, rfl, h15⟩ := len_cons h14
  obtain ⟨x16, r16, rfl, h16⟩ := len_cons h15
  obtain ⟨x17, r17, rfl, h17⟩ := len_cons h16
  obtain ⟨x18, r18, rfl, h18⟩ := len_cons h17
  obtain ⟨x19, r19, rfl, h19⟩ := len_cons h18
  obtain ⟨x20, r20, rfl, h20⟩ := len_cons h19
  obtain ⟨x21, r21, rfl, h21⟩ := len_cons h20
  obtain ⟨x22, r22, rfl, h22⟩ := len_cons h21
  obtain ⟨x23, r23, rfl, h23⟩ := len_cons h22
  obtain ⟨x24, r24, rfl, h24⟩ := len_cons h23
  obtain ⟨x25, r25, rfl, h25⟩ := len_cons h24
  obtain ⟨x26, r26, rfl, h26⟩ := len_cons h25
  obtain rfl := List.eq_nil_of_length_eq_zero h26
  exact ⟨_, _, _, _, _, _, _, _, _, _, _, _, _, _, _, _, _, _, _, _, _, _, _, _, _, _, _, rfl⟩
theorem len28 {vs : List Value} (h : vs.length = 28) : ∃ x0 x1 x2 x3 x4 x5 x6 x7 x8 x9 x10 x11 x12 x13 x14 x15 x16 x17 x18 x19 x20 x21 x22 x23 x24 x25 x26 x27, vs = [x0, x1, x2, x3, x4, x5, x6, x7, x8, x9, x10, x11, x12, x13, x14, x15, x16, x17, x18, x19, x20, x21, x22, x23, x24, x25, x26, x27] := by
  obtain ⟨x0, r0, rfl, h0⟩ := len_cons h
  obtain ⟨x1, r1, rfl, h1⟩ := len_cons h0
  obtain ⟨x2, r2, rfl, h2⟩ := len_cons h1
  obtain ⟨x3, r3, rfl, h3⟩ := len_cons h2
  obtain ⟨x4, r4, rfl, h4⟩ := len_cons h3
  obtain ⟨x5, r5, rfl, h5⟩ := len_cons h4
  obtain ⟨x6, r6, rfl, h6⟩ := len_cons h5
  obtain ⟨x7, r7, rfl, h7⟩ := len_cons h6
  obtain ⟨x8, r8, rfl, h8⟩ := len_cons h7
  obtain ⟨x9, r9, rfl, h9⟩ := len_cons h8
  obtain ⟨x10, r10, rfl, h10⟩ := len_cons h9
  obtain ⟨x11, r11, rfl, h11⟩ := len_cons h10
  obtain ⟨x12, r12, rfl, h12⟩ := len_cons h11
  obtain ⟨x13, r13, rfl, h13⟩ := len_cons h12
  obtain ⟨x14, r14, rfl, h14⟩ := len_cons h13
  obtain ⟨x15, r15, rfl, h15⟩ := len_cons h14
  obtain ⟨x16, r16, rfl, h16⟩ := len_cons h15
  obtain ⟨x17, r17, rfl, h17⟩ := len_cons h16
  obtain ⟨x18, r18, rfl, h18⟩ := len_cons h17
  obtain ⟨x19, r19, rfl, h19⟩ := len_cons h18
  obtain ⟨x20, r20, rfl, h20⟩ := len_cons h19
  obtain ⟨x21, r21, rfl, h21⟩ := len_cons h20
  obtain ⟨x22, r22, rfl, h22⟩ := len_cons h21
  obtain ⟨x23, r23, rfl, h23⟩ := len_cons h22
  obtain ⟨x24, r24, rfl, h24⟩ := len_cons h23
  obtain ⟨x25, r25, rfl, h25⟩ := len_cons h24
  obtain ⟨x26, r26, rfl, h26⟩ := len_cons h25
  obtain ⟨x27, r27, rfl, h27⟩ := len_cons h26
  obtain rfl := List.eq_nil_of_length_eq_zero h27
  exact ⟨_, _, _, _, _, _, _, _, _, _, _, _, _, _, _, _, _, _, _, _, _, _, _, _, _, _, _, _, rfl⟩
theorem len29 {vs : List Value} (h : vs.length = 29) : ∃ x0 x1 x2 x3 x4 x5 x6 x7 x8 x9 x10 x11 x12 x13 x14 x15 x16 x17 x18 x19 x20 x21 x22 x23 x24 x25 x26 x27 x28, vs = [x0, x1, x2, x3, x4, x5, x6, x7, x8, x9, x10, x11, x12, x13, x14, x15, x16, x17, x18, x19, x20, x21, x22, x23, x24, x25, x26, x27, x28] := by
  obtain ⟨x0, r0, rfl, h0⟩ := len_cons h
  obtain ⟨x1, r1, rfl, h1⟩ := len_cons h0
  obtain ⟨x2, r2, rfl, h2⟩ := len_cons h1
  obtain ⟨x3, r3, rfl, h3⟩ := len_cons h2
  obtain ⟨x4, r4, rfl, h4⟩ := len_cons h3
  obtain ⟨x5, r5, rfl, h5⟩ := len_cons h4
  obtain ⟨x6, r6, rfl, h6⟩ := len_cons h5
  obtain ⟨x7, r7, rfl, h7⟩ := len_cons h6
  obtain ⟨x8, r8, rfl, h8⟩ := len_cons h7
  obtain ⟨x9, r9, rfl, h9⟩ := len_cons h8
  obtain ⟨x10, r10, rfl, h10⟩ := len_cons h9
  obtain ⟨x11, r11, rfl, h11⟩ := len_cons h10
  obtain ⟨x12, r12, rfl, h12⟩ := len_cons h11
  obtain ⟨x13, r13, rfl, h13⟩ := len_cons h12
  obtain ⟨x14, r14, rfl, h14⟩ := len_cons h13
  obtain ⟨x15, r15, rfl, h15⟩ := len_cons h14
  obtain ⟨x16, r16, rfl, h16⟩ := len_cons h15
  obtain ⟨x17, r17, rfl, h17⟩ := len_cons h16
  obtain ⟨x18, r18, rfl, h18⟩ := len_cons h17
  obtain ⟨x19, r19, rfl, h19⟩ := len_cons h18
  obtain ⟨x20, r20, rfl, h20⟩ := len_cons h19
  obtain ⟨x21, r21, rfl, h21⟩ := len_cons h20
  obtain ⟨x22, r22, rfl, h22⟩ := len_cons h21
  obtain ⟨x23, r23, rfl, h23⟩ := len_cons h22
  obtain ⟨x24, r24, rfl, h24⟩ := len_cons h23
  obtain ⟨x25, r25, rfl, h25⟩ := len_cons h24
  obtain ⟨x26, r26, rfl, h26⟩ := len_cons h25
  obtain ⟨x27, r27, rfl, h27⟩ := len_cons h26
  obtain ⟨x28, r28, rfl, h28⟩ := len_cons h27
  obtain rfl := List.eq_nil_of_length_eq_zero h28
  exact ⟨_, _, _, _, _, _, _, _, _, _, _, _, _, _, _, _, _, _, _, _, _, _, _, _, _, _, _, _, _, rfl⟩
theorem len30 {vs : List Value} (h : vs.length = 30) : ∃ x0 x1 x2 x3 x4 x5 x6 x7 x8 x9 x10 x11 x12 x13 x14 x15 x16 x17 x18 x19 x20 x21 x22 x23 x24 x25 x26 x27 x28 x29, vs = [x0, x1, x2, x3, x4, x5, x6, x7, x8, x9, x10, x11, x12, x13, x14, x15, x16, x17, x18, x19, x20, x21, x22, x23, x24, x25, x26, x27, x28, x29] := by
  obtain ⟨x0, r0, rfl, h0⟩ := len_cons h
  obtain ⟨x1, r1, rfl, h1⟩ := len_cons h0
  obtain ⟨x2, r2, rfl, h2⟩ := len_cons h1
  obtain ⟨x3, r3, rfl, h3⟩ := len_cons h2
  obtain ⟨x4, r4, rfl, h4⟩ := len_cons h3
  obtain ⟨x5, r5, rfl, h5⟩ := len_cons h4
  obtain ⟨x6, r6, rfl, h6⟩ := len_cons h5
  obtain ⟨x7, r7, rfl, h7⟩ := len_cons h6
  obtain ⟨x8, r8, rfl, h8⟩ := len_cons h7
  obtain ⟨x9, r9, rfl, h9⟩ := len_cons h8
  obtain ⟨x10, r10, rfl, h10⟩ := len_cons h9
  obtain ⟨x11, r11, rfl, h11⟩ := len_cons h10
  obtain ⟨x12, r12, rfl, h12⟩ := len_cons h11
  obtain ⟨x13, r13, rfl, h13⟩ := len_cons h12
  obtain ⟨x14, r14, rfl, h14⟩ := len_cons h13
  obtain ⟨x15, r15, rfl, h15⟩ := len_cons h14
  obtain ⟨x16, r16, rfl, h16⟩ := len_cons h15
  obtain ⟨x17, r17, rfl, h17⟩ := len_cons h16
  obtain ⟨x18, r18, rfl, h18⟩ := len_cons h17
  obtain ⟨x19, r19, rfl, h19⟩ := len_cons h18
  obtain ⟨x20, r20, rfl, h20⟩ := len_cons h19
  obtain ⟨x21, r21, rfl, h21⟩ := len_cons h20
  obtain ⟨x22, r22, rfl, h22⟩ := len_cons h21
  obtain ⟨x23, r23, rfl, h23⟩ := len_cons h22
  obtain ⟨x24, r24, rfl, h24⟩ := len_cons h23
  obtain ⟨x25, r25, rfl, h25⟩ := len_cons h24
  obtain ⟨x26, r26, rfl, h26⟩ := len_cons h25
  obtain ⟨x27, r27, rfl, h27⟩ := len_cons h26
  obtain ⟨x28, r28, rfl, h28⟩ := len_cons h27
  obtain ⟨x29, r29, rfl, h29⟩ := len_cons h28
  obtain rfl := List.eq_nil_of_length_eq_zero h29
  exact ⟨_, _, _, _, _, _, _, _, _, _, _, _, _, _, _, _, _, _, _, _, _, _, _, _, _, _, _, _, _, _, rfl⟩
end Go.Proofs.Ytlemipnplgbckaa
