import Derived.Test.YtlemipnplgbckaaPC
import Derived.Test.YtlemipnplgbckaaBY
import Derived.Laws.AppendOwn
import Derived.ChangeKeysEq
import Derived.Maps.RangeWalk
import Derived.Maps.OwnIn
import Derived.Maps.AppendAt
import Derived.RangeFuncNested
import Derived.RangeFuncBound
import Derived.RangeFuncCalls
import Derived.RangeFuncLeaves
import Derived.Shelf.Abstract
import Derived.Shelf.RegionOpen
import Derived.WalkKit
import Derived.WalkMore
import Derived.OwnWalkIn
import Derived.TacticsInMore
import Derived.LoopNIn
import Derived.LoopIn
import Derived.WalkSpells
import Derived.WalkLawsBesides
import Derived.BigQuiet
import Derived.Deep.QuietTactic
import Derived.Lib.Hide
import Derived.Deep.RegionHeld3
import Derived.StillTailTactics
import Derived.Deep.LoopGhost
import Derived.Maps.OwnSet
import Derived.Lib.IndexAny
import Derived.Sort.QuietThIn
import Derived.Sort.QuietTacIn
import Derived.Sort.BigQuietIn
import Derived.Laws.OwnMore
import Derived.DeepKeys4
import Derived.Maps.Views
import Derived.Maps.OwnOps
import Derived.Laws.OwnMore
import Derived.Deep.DeepCutAuto
import Derived.ChangeKeysEq
namespace Go.Proofs.Ytlemipnplgbckaa
open Go.RowKit Go.Shelf
attribute [local go_sem] Oper.semAt_some
/-- the point a on the circle, and the angle there less than a right one? -/
def shO (c : Cir) (a b d : Pt) : Bool := decide (whF c a = 0) && decide (0 < dt (b.1 - a.1, b.2 - a.2) (d.1 - a.1, d.2 - a.2))
def shB (c : Cir) (p q r : Pt) : Bool := shO c p q r && shO c q r p && shO c r p q
set_option maxRecDepth 100000 in
set_option maxHeartbeats 1000000 in
theorem isSharp_any (c : Cir) (hc : CirB c) (s0 t0 s1 t1 s2 t2 : Int) (g : Nat) (w : World) (h0 : Bd 20 s0 ∧ Bd 20 t0) (h1 : Bd 20 s1 ∧ Bd 20 t1) (h2 : Bd 20 s2 ∧ Bd 20 t2)
    (hr : Row w g 28 [.int .i64 s0, .int .i64 t0, .int .i64 s1, .int .i64 t1, .int .i64 s2, .int .i64 t2]) :
    Calls Try.prog 88 #[.agg #[.int .i64 c.X, .int .i64 c.Y, .int .i64 c.D, .int .i64 c.R], .slice (some ⟨g, 0, none⟩) 3 3] w fun e w' => e = .returned (.bool (shB c (s0, t0) (s1, t1) (s2, t2))) ∧ Below w.heap.size w w' := by
  have W0 := Lib.hid (fun (W : World) => where_any c.X c.Y c.D c.R s0 t0 W hc.1 hc.2.1 hc.d h0.1 h0.2)
  have W1 := Lib.hid (fun (W : World) => where_any c.X c.Y c.D c.R s1 t1 W hc.1 hc.2.1 hc.d h1.1 h1.2)
  have W2 := Lib.hid (fun (W : World) => where_any c.X c.Y c.D c.R s2 t2 W hc.1 hc.2.1 hc.d h2.1 h2.2)
  have HM := Lib.hid (fun (a b a' b' : Int) (W : World) (h : Bd 20 a ∧ Bd 20 b) (h' : Bd 20 a' ∧ Bd 20 b') => minus_any a b a' b' W (h.1.mono (by omega)) (h.2.mono (by omega)) (h'.1.mono (by omega)) (h'.2.mono (by omega)))
  have HDT := Lib.hid (fun (a b a' b' : Int) (W : World) (h : Bd 40 a ∧ Bd 40 b) (h' : Bd 40 a' ∧ Bd 40 b') => dot_any a b a' b' W (h.1.mono (by omega)) (h.2.mono (by omega)) (h'.1.mono (by omega)) (h'.2.mono (by omega)))
  have K := Lib.hid (And.intro h0 (And.intro h1 h2))
  obtain ⟨S0, hS0⟩ : ∃ S, shO c (s0, t0) (s1, t1) (s2, t2) = S := ⟨_, rfl⟩
  obtain ⟨S1, hS1⟩ : ∃ S, shO c (s1, t1) (s2, t2) (s0, t0) = S := ⟨_, rfl⟩
  obtain ⟨S2, hS2⟩ : ∃ S, shO c (s2, t2) (s0, t0) (s1, t1) = S := ⟨_, rfl⟩
  unfold shB
  rw [hS0, hS1, hS2]
  unfold shO whF at hS0 hS1 hS2
  dsimp only at hS0 hS1 hS2
  generalize cmpI (apF c.X c.Y c.D (s0, t0)) c.R = m0 at *
  generalize cmpI (apF c.X c.Y c.D (s1, t1)) c.R = m1 at *
  generalize cmpI (apF c.X c.Y c.D (s2, t2)) c.R = m2 at *
  obtain ⟨D0, hD0⟩ : ∃ D, dt (s1 - s0, t1 - t0) (s2 - s0, t2 - t0) = D := ⟨_, rfl⟩
  rw [hD0] at hS0
  have T0 := Lib.hid (fun (W : World) => hD0 ▸ HDT.out (s1 - s0) (t1 - t0) (s2 - s0) (t2 - t0) W ⟨K.out.2.1.1.sub K.out.1.1, K.out.2.1.2.sub K.out.1.2⟩ ⟨K.out.2.2.1.sub K.out.1.1, K.out.2.2.2.sub K.out.1.2⟩)
  have M0 := Lib.hid (fun (W : World) => HM.out s1 t1 s0 t0 W K.out.2.1 K.out.1)
  have N0 := Lib.hid (fun (W : World) => HM.out s2 t2 s0 t0 W K.out.2.2 K.out.1)
  have HS0 := Lib.hid hS0
  clear hS0 hD0
  obtain ⟨D1, hD1⟩ : ∃ D, dt (s2 - s1, t2 - t1) (s0 - s1, t0 - t1) = D := ⟨_, rfl⟩
  rw [hD1] at hS1
  have T1 := Lib.hid (fun (W : World) => hD1 ▸ HDT.out (s2 - s1) (t2 - t1) (s0 - s1) (t0 - t1) W ⟨K.out.2.2.1.sub K.out.2.1.1, K.out.2.2.2.sub K.out.2.1.2⟩ ⟨K.out.1.1.sub K.out.2.1.1, K.out.1.2.sub K.out.2.1.2⟩)
  have M1 := Lib.hid (fun (W : World) => HM.out s2 t2 s1 t1 W K.out.2.2 K.out.2.1)
  have N1 := Lib.hid (fun (W : World) => HM.out s0 t0 s1 t1 W K.out.1 K.out.2.1)
  have HS1 := Lib.hid hS1
  clear hS1 hD1
  obtain ⟨D2, hD2⟩ : ∃ D, dt (s0 - s2, t0 - t2) (s1 - s2, t1 - t2) = D := ⟨_, rfl⟩
  rw [hD2] at hS2
  have T2 := Lib.hid (fun (W : World) => hD2 ▸ HDT.out (s0 - s2) (t0 - t2) (s1 - s2) (t1 - t2) W ⟨K.out.1.1.sub K.out.2.2.1, K.out.1.2.sub K.out.2.2.2⟩ ⟨K.out.2.1.1.sub K.out.2.2.1, K.out.2.1.2.sub K.out.2.2.2⟩)
  have M2 := Lib.hid (fun (W : World) => HM.out s0 t0 s2 t2 W K.out.1 K.out.2.2)
  have N2 := Lib.hid (fun (W : World) => HM.out s1 t1 s2 t2 W K.out.2.1 K.out.2.2)
  have HS2 := Lib.hid hS2
  clear hS2 hD2
  clear HM HDT K h0 h1 h2
  have ba := Below.al (Below.refl w.heap.size w) (Nat.le_refl _) (.cells #[.int .i64 c.X, .int .i64 c.Y, .int .i64 c.D, .int .i64 c.R] 30)
  have rC := Row.new w 30 [.int .i64 c.X, .int .i64 c.Y, .int .i64 c.D, .int .i64 c.R]
  have rG := hr.below ba hr.lt
  obtain ⟨c1, c2, c3, c4⟩ := c
  dsimp only at *
  have BA := Lib.hid ba
  have RC := Lib.hid rC
  have RG := Lib.hid rG
  clear ba rC rG hr hc
  go_enter Try.func88, Try.ntmps88
  go_wp2_with fail
  obtain ⟨V, hV⟩ : ∃ V, V = w.alloc (.cells #[.int .i64 c1, .int .i64 c2, .int .i64 c3, .int .i64 c4] 30) := ⟨_, rfl⟩
  replace RC : Hid (Row V w.heap.size 30 [.int .i64 c1, .int .i64 c2, .int .i64 c3, .int .i64 c4]) := by rw [hV]; exact RC
  replace RG : Hid (Row V g 28 [.int .i64 s0, .int .i64 t0, .int .i64 s1, .int .i64 t1, .int .i64 s2, .int .i64 t2]) := by rw [hV]; exact RG
  replace BA : Hid (Below w.heap.size w V) := by rw [hV]; exact BA
  rw [← hV]
  clear hV
  go_loopw [11] (fun iv wr => ∃ k : Nat, k ≤ 3 ∧ iv = .int .i64 (k : Int) ∧ Hid ((1 ≤ k → S0 = true) ∧ (2 ≤ k → S1 = true) ∧ (3 ≤ k → S2 = true) ∧ Below V.heap.size V wr)) (fun iv _ => (3 - intOf iv).toNat)
  case atStart => exact ⟨0, by omega, rfl, Lib.hid ⟨by omega, by omega, by omega, Below.refl _ _⟩⟩
  case round =>
    obtain ⟨k, hk, rfl, HB⟩ := hrel
    have RC2 := Lib.hid (RC.out.below HB.out.2.2.2 RC.out.lt)
    have RG2 := Lib.hid (RG.out.below HB.out.2.2.2 RG.out.lt)
    have rg := RG2.out
    have k0 := rg.cell 0
    have k1 := rg.cell 1
    have k2 := rg.cell 2
    have k3 := rg.cell 3
    have k4 := rg.cell 4
    have k5 := rg.cell 5
    simp only [List.getElem?_cons_zero, List.getElem?_cons_succ] at k0 k1 k2 k3 k4 k5
    clear rg
    obtain rfl | rfl | rfl | rfl : k = 0 ∨ k = 1 ∨ k = 2 ∨ k = 3 := by omega
    · go_wp2_with fail
      have rB := Row.new wr 28 [.int .i64 s0, .int .i64 t0]
      have bB := Below.al (Below.refl wr.heap.size wr) (Nat.le_refl _) (.cells #[.int .i64 s0, .int .i64 t0] 28)
      have RB := Lib.hid rB
      have BB := Lib.hid bB
      have RC3 := Lib.hid (RC2.out.below bB RC2.out.lt)
      have RG3 := Lib.hid (RG2.out.below bB RG2.out.lt)
      clear rB bB k0 k1 k2 k3 k4 k5
      obtain ⟨U, hU⟩ : ∃ V, V = wr.alloc (.cells #[.int .i64 s0, .int .i64 t0] 28) := ⟨_, rfl⟩
      rw [← hU] at RB BB RC3 RG3 ⊢
      clear hU
      refine wp_region_box (by kernel_rfl) (by kernel_rfl) [16, 17, 18, 19, 20, 21, 22, 23, 24, 25, 26, 27, 7, 8, 1000, 1001] [(fun v => v = .slice (some ⟨g, 0, none⟩) 3 3), (fun v => v = .int .i64 0), (fun v => v = .int .i64 1), (fun v => v = .int .i64 1), (fun v => v = .pointer (some ⟨g, 2, none⟩)), (fun v => v = .agg #[.int .i64 s1, .int .i64 t1]), (fun v => v = .slice (some ⟨g, 0, none⟩) 3 3), (fun v => v = .int .i64 0), (fun v => v = .int .i64 2), (fun v => v = .int .i64 2), (fun v => v = .pointer (some ⟨g, 4, none⟩)), (fun v => v = .agg #[.int .i64 s2, .int .i64 t2]), (fun _ => True), (fun _ => True), (fun _ => True), (fun _ => True)] [none, none, none, none, none, none, none, none, none, none, none, none, some (28, [.int .i64 0, .int .i64 0], [.int .i64 s1, .int .i64 t1]), some (28, [.int .i64 0, .int .i64 0], [.int .i64 s2, .int .i64 t2]), none, none] [none, none, none, none, none, none, none, none, none, none, none, none, none, none, some 12, some 13] 16 rfl (by kernel_rfl) ?tr ⟨[u16, u17, u18, u19, u20, u21, u22, u23, u24, u25, u26, u27, u7, u8, undef, undef], by simp only [putAll, Act.put, List.setIfInBounds_toArray, List.set_cons_succ, List.set_cons_zero, List.set_nil], rfl⟩ ?steps ?fin
      case tr =>
        rintro i v h
        rcases i with _ | _ | _ | _ | _ | _ | _ | _ | _ | _ | _ | _ | _ | _ | _ | _ | i
        all_goals first | trivial | (exfalso; rcases h with h | h <;> simp at h)
      case steps =>
        simp only [boxSteps, Nat.reduceAdd, Nat.zero_add, List.getD_cons_succ, List.getD_cons_zero]
        refine ⟨?_, ?_, ?_, ?_, ?_, ?_, ?_, ?_, ?_, ?_, ?_, ?_, ?_, ?_, ?_, ?_, trivial⟩
        · rintro vs W K hc hvl hw hK
          obtain ⟨x0, x1, x2, x3, x4, x5, x6, x7, x8, x9, x10, x11, x12, x13, x14, x15, rfl⟩ := len16 hvl
          have HK := Lib.hid hK
          have HC := Lib.hid hc
          have HW := Lib.hid hw
          clear hK hc hw hvl
          simp only [putAll, Act.put, List.setIfInBounds_toArray, List.set_cons_succ, List.set_cons_zero, List.set_nil]
          clear HW
          go_wp2_with fail
          have fin := HK.out (.slice (some ⟨g, 0, none⟩) 3 3) W (Below.refl _ _) rfl
          simp only [putAll, Act.put, List.setIfInBounds_toArray, List.set_cons_succ, List.set_cons_zero, List.set_nil] at fin
          exact fin
        · rintro vs W K hc hvl hw hK
          obtain ⟨x0, x1, x2, x3, x4, x5, x6, x7, x8, x9, x10, x11, x12, x13, x14, x15, rfl⟩ := len16 hvl
          have HK := Lib.hid hK
          have HC := Lib.hid hc
          have HW := Lib.hid hw
          clear hK hc hw hvl
          simp only [putAll, Act.put, List.setIfInBounds_toArray, List.set_cons_succ, List.set_cons_zero, List.set_nil]
          clear HW
          go_wp2_with fail
          have fin := HK.out (.int .i64 0) W (Below.refl _ _) rfl
          simp only [putAll, Act.put, List.setIfInBounds_toArray, List.set_cons_succ, List.set_cons_zero, List.set_nil] at fin
          exact fin
        · rintro vs W K hc hvl hw hK
          obtain ⟨x0, x1, x2, x3, x4, x5, x6, x7, x8, x9, x10, x11, x12, x13, x14, x15, rfl⟩ := len16 hvl
          have HK := Lib.hid hK
          have HC := Lib.hid hc
          have HW := Lib.hid hw
          clear hK hc hw hvl
          obtain rfl : x1 = .int .i64 0 := box_get (HW.out ⟨1, .data⟩ (by simp) rfl) rfl
          simp only [putAll, Act.put, List.setIfInBounds_toArray, List.set_cons_succ, List.set_cons_zero, List.set_nil]
          clear HW
          go_wp2_with fail
          have fin := HK.out (.int .i64 1) W (Below.refl _ _) rfl
          simp only [putAll, Act.put, List.setIfInBounds_toArray, List.set_cons_succ, List.set_cons_zero, List.set_nil] at fin
          exact fin
        · rintro vs W K hc hvl hw hK
          obtain ⟨x0, x1, x2, x3, x4, x5, x6, x7, x8, x9, x10, x11, x12, x13, x14, x15, rfl⟩ := len16 hvl
          have HK := Lib.hid hK
          have HC := Lib.hid hc
          have HW := Lib.hid hw
          clear hK hc hw hvl
          obtain rfl : x2 = .int .i64 1 := box_get (HW.out ⟨2, .data⟩ (by simp) rfl) rfl
          simp only [putAll, Act.put, List.setIfInBounds_toArray, List.set_cons_succ, List.set_cons_zero, List.set_nil]
          clear HW
          go_wp2_with fail
          have fin := HK.out (.int .i64 1) W (Below.refl _ _) rfl
          simp only [putAll, Act.put, List.setIfInBounds_toArray, List.set_cons_succ, List.set_cons_zero, List.set_nil] at fin
          exact fin
        · rintro vs W K hc hvl hw hK
          obtain ⟨x0, x1, x2, x3, x4, x5, x6, x7, x8, x9, x10, x11, x12, x13, x14, x15, rfl⟩ := len16 hvl
          have HK := Lib.hid hK
          have HC := Lib.hid hc
          have HW := Lib.hid hw
          clear hK hc hw hvl
          obtain rfl : x0 = .slice (some ⟨g, 0, none⟩) 3 3 := box_get (HW.out ⟨0, .data⟩ (by simp) rfl) rfl
          obtain rfl : x3 = .int .i64 1 := box_get (HW.out ⟨3, .data⟩ (by simp) rfl) rfl
          simp only [putAll, Act.put, List.setIfInBounds_toArray, List.set_cons_succ, List.set_cons_zero, List.set_nil]
          clear HW
          go_wp2_with fail
          have fin := HK.out (.pointer (some ⟨g, 2, none⟩)) W (Below.refl _ _) rfl
          simp only [putAll, Act.put, List.setIfInBounds_toArray, List.set_cons_succ, List.set_cons_zero, List.set_nil] at fin
          exact fin
        · rintro vs W K hc hvl hw hK
          obtain ⟨x0, x1, x2, x3, x4, x5, x6, x7, x8, x9, x10, x11, x12, x13, x14, x15, rfl⟩ := len16 hvl
          have HK := Lib.hid hK
          have HC := Lib.hid hc
          have HW := Lib.hid hw
          clear hK hc hw hvl
          obtain rfl : x4 = .pointer (some ⟨g, 2, none⟩) := box_get (HW.out ⟨4, .data⟩ (by simp) rfl) rfl
          simp only [putAll, Act.put, List.setIfInBounds_toArray, List.set_cons_succ, List.set_cons_zero, List.set_nil]
          have rr := RG3.out.below HC.out RG3.out.lt
          have d2 := rr.cell 2
          have d3 := rr.cell 3
          simp only [List.getElem?_cons_zero, List.getElem?_cons_succ] at d2 d3
          clear rr
          clear HW
          go_wp2_with fail
          have fin := HK.out (.agg #[.int .i64 s1, .int .i64 t1]) W (Below.refl _ _) rfl
          simp only [putAll, Act.put, List.setIfInBounds_toArray, List.set_cons_succ, List.set_cons_zero, List.set_nil] at fin
          exact fin
        · rintro vs W K hc hvl hw hK
          obtain ⟨x0, x1, x2, x3, x4, x5, x6, x7, x8, x9, x10, x11, x12, x13, x14, x15, rfl⟩ := len16 hvl
          have HK := Lib.hid hK
          have HC := Lib.hid hc
          have HW := Lib.hid hw
          clear hK hc hw hvl
          simp only [putAll, Act.put, List.setIfInBounds_toArray, List.set_cons_succ, List.set_cons_zero, List.set_nil]
          clear HW
          go_wp2_with fail
          have fin := HK.out (.slice (some ⟨g, 0, none⟩) 3 3) W (Below.refl _ _) rfl
          simp only [putAll, Act.put, List.setIfInBounds_toArray, List.set_cons_succ, List.set_cons_zero, List.set_nil] at fin
          exact fin
        · rintro vs W K hc hvl hw hK
          obtain ⟨x0, x1, x2, x3, x4, x5, x6, x7, x8, x9, x10, x11, x12, x13, x14, x15, rfl⟩ := len16 hvl
          have HK := Lib.hid hK
          have HC := Lib.hid hc
          have HW := Lib.hid hw
          clear hK hc hw hvl
          simp only [putAll, Act.put, List.setIfInBounds_toArray, List.set_cons_succ, List.set_cons_zero, List.set_nil]
          clear HW
          go_wp2_with fail
          have fin := HK.out (.int .i64 0) W (Below.refl _ _) rfl
          simp only [putAll, Act.put, List.setIfInBounds_toArray, List.set_cons_succ, List.set_cons_zero, List.set_nil] at fin
          exact fin
        · rintro vs W K hc hvl hw hK
          obtain ⟨x0, x1, x2, x3, x4, x5, x6, x7, x8, x9, x10, x11, x12, x13, x14, x15, rfl⟩ := len16 hvl
          have HK := Lib.hid hK
          have HC := Lib.hid hc
          have HW := Lib.hid hw
          clear hK hc hw hvl
          obtain rfl : x7 = .int .i64 0 := box_get (HW.out ⟨7, .data⟩ (by simp) rfl) rfl
          simp only [putAll, Act.put, List.setIfInBounds_toArray, List.set_cons_succ, List.set_cons_zero, List.set_nil]
          clear HW
          go_wp2_with fail
          have fin := HK.out (.int .i64 2) W (Below.refl _ _) rfl
          simp only [putAll, Act.put, List.setIfInBounds_toArray, List.set_cons_succ, List.set_cons_zero, List.set_nil] at fin
          exact fin
        · rintro vs W K hc hvl hw hK
          obtain ⟨x0, x1, x2, x3, x4, x5, x6, x7, x8, x9, x10, x11, x12, x13, x14, x15, rfl⟩ := len16 hvl
          have HK := Lib.hid hK
          have HC := Lib.hid hc
          have HW := Lib.hid hw
          clear hK hc hw hvl
          obtain rfl : x8 = .int .i64 2 := box_get (HW.out ⟨8, .data⟩ (by simp) rfl) rfl
          simp only [putAll, Act.put, List.setIfInBounds_toArray, List.set_cons_succ, List.set_cons_zero, List.set_nil]
          clear HW
          go_wp2_with fail
          have fin := HK.out (.int .i64 2) W (Below.refl _ _) rfl
          simp only [putAll, Act.put, List.setIfInBounds_toArray, List.set_cons_succ, List.set_cons_zero, List.set_nil] at fin
          exact fin
        · rintro vs W K hc hvl hw hK
          obtain ⟨x0, x1, x2, x3, x4, x5, x6, x7, x8, x9, x10, x11, x12, x13, x14, x15, rfl⟩ := len16 hvl
          have HK := Lib.hid hK
          have HC := Lib.hid hc
          have HW := Lib.hid hw
          clear hK hc hw hvl
          obtain rfl : x6 = .slice (some ⟨g, 0, none⟩) 3 3 := box_get (HW.out ⟨6, .data⟩ (by simp) rfl) rfl
          obtain rfl : x9 = .int .i64 2 := box_get (HW.out ⟨9, .data⟩ (by simp) rfl) rfl
          simp only [putAll, Act.put, List.setIfInBounds_toArray, List.set_cons_succ, List.set_cons_zero, List.set_nil]
          clear HW
          go_wp2_with fail
          have fin := HK.out (.pointer (some ⟨g, 4, none⟩)) W (Below.refl _ _) rfl
          simp only [putAll, Act.put, List.setIfInBounds_toArray, List.set_cons_succ, List.set_cons_zero, List.set_nil] at fin
          exact fin
        · rintro vs W K hc hvl hw hK
          obtain ⟨x0, x1, x2, x3, x4, x5, x6, x7, x8, x9, x10, x11, x12, x13, x14, x15, rfl⟩ := len16 hvl
          have HK := Lib.hid hK
          have HC := Lib.hid hc
          have HW := Lib.hid hw
          clear hK hc hw hvl
          obtain rfl : x10 = .pointer (some ⟨g, 4, none⟩) := box_get (HW.out ⟨10, .data⟩ (by simp) rfl) rfl
          simp only [putAll, Act.put, List.setIfInBounds_toArray, List.set_cons_succ, List.set_cons_zero, List.set_nil]
          have rr := RG3.out.below HC.out RG3.out.lt
          have d4 := rr.cell 4
          have d5 := rr.cell 5
          simp only [List.getElem?_cons_zero, List.getElem?_cons_succ] at d4 d5
          clear rr
          clear HW
          go_wp2_with fail
          have fin := HK.out (.agg #[.int .i64 s2, .int .i64 t2]) W (Below.refl _ _) rfl
          simp only [putAll, Act.put, List.setIfInBounds_toArray, List.set_cons_succ, List.set_cons_zero, List.set_nil] at fin
          exact fin
        · rintro vs W K hc hvl hw hK
          obtain ⟨x0, x1, x2, x3, x4, x5, x6, x7, x8, x9, x10, x11, x12, x13, x14, x15, rfl⟩ := len16 hvl
          have HK := Lib.hid hK
          have HC := Lib.hid hc
          have HW := Lib.hid hw
          clear hK hc hw hvl
          simp only [putAll, Act.put, List.setIfInBounds_toArray, List.set_cons_succ, List.set_cons_zero, List.set_nil]
          clear HW
          go_wp2_with fail
          have fin := HK.out
          simp only [putAll, Act.put, List.setIfInBounds_toArray, List.set_cons_succ, List.set_cons_zero, List.set_nil] at fin
          exact fin
        · rintro vs W K hc hvl hw hK
          obtain ⟨x0, x1, x2, x3, x4, x5, x6, x7, x8, x9, x10, x11, x12, x13, x14, x15, rfl⟩ := len16 hvl
          have HK := Lib.hid hK
          have HC := Lib.hid hc
          have HW := Lib.hid hw
          clear hK hc hw hvl
          simp only [putAll, Act.put, List.setIfInBounds_toArray, List.set_cons_succ, List.set_cons_zero, List.set_nil]
          clear HW
          go_wp2_with fail
          have fin := HK.out
          simp only [putAll, Act.put, List.setIfInBounds_toArray, List.set_cons_succ, List.set_cons_zero, List.set_nil] at fin
          exact fin
        · rintro vs W K hc hvl hw b E z f hia hva hb0 hr hK
          cases hia
          obtain ⟨x0, x1, x2, x3, x4, x5, x6, x7, x8, x9, x10, x11, x12, x13, x14, x15, rfl⟩ := len16 hvl
          have HK := Lib.hid hK
          have HC := Lib.hid hc
          have HW := Lib.hid hw
          clear hK hc hw hvl
          obtain rfl : x5 = .agg #[.int .i64 s1, .int .i64 t1] := box_get (HW.out ⟨5, .data⟩ (by simp) rfl) rfl
          obtain rfl : x12 = .pointer (some ⟨b, 0, none⟩) := Option.some.inj hva
          simp only [putAll, Act.put, List.setIfInBounds_toArray, List.set_cons_succ, List.set_cons_zero, List.set_nil]
          have kf0 := frozen_of_row W b 0 _ _ hr
          have kc0 : W.cell? ⟨b, 0, none⟩ = some (.int .i64 0) := hr.cell 0
          have kf1 := frozen_of_row W b 1 _ _ hr
          have kc1 : W.cell? ⟨b, 1, none⟩ = some (.int .i64 0) := hr.cell 1
          have HRW := Lib.hid hr
          clear HW hr hva
          go_wp2_with fail
          have fin := HK.out _ (show Row _ b 28 [.int .i64 s1, .int .i64 t1] from by simpa using (show Row _ b 28 _ from ((HRW.out.set 0 (.int .i64 s1)).set 1 (.int .i64 t1)))) (grown_put (grown_put (grown_self W _)))
          simp only [putAll, Act.put, List.setIfInBounds_toArray, List.set_cons_succ, List.set_cons_zero, List.set_nil] at fin
          exact fin
        · rintro vs W K hc hvl hw b E z f hia hva hb0 hr hK
          cases hia
          obtain ⟨x0, x1, x2, x3, x4, x5, x6, x7, x8, x9, x10, x11, x12, x13, x14, x15, rfl⟩ := len16 hvl
          have HK := Lib.hid hK
          have HC := Lib.hid hc
          have HW := Lib.hid hw
          clear hK hc hw hvl
          obtain rfl : x11 = .agg #[.int .i64 s2, .int .i64 t2] := box_get (HW.out ⟨11, .data⟩ (by simp) rfl) rfl
          obtain rfl : x13 = .pointer (some ⟨b, 0, none⟩) := Option.some.inj hva
          simp only [putAll, Act.put, List.setIfInBounds_toArray, List.set_cons_succ, List.set_cons_zero, List.set_nil]
          have kf0 := frozen_of_row W b 0 _ _ hr
          have kc0 : W.cell? ⟨b, 0, none⟩ = some (.int .i64 0) := hr.cell 0
          have kf1 := frozen_of_row W b 1 _ _ hr
          have kc1 : W.cell? ⟨b, 1, none⟩ = some (.int .i64 0) := hr.cell 1
          have HRW := Lib.hid hr
          clear HW hr hva
          go_wp2_with fail
          have fin := HK.out _ (show Row _ b 28 [.int .i64 s2, .int .i64 t2] from by simpa using (show Row _ b 28 _ from ((HRW.out.set 0 (.int .i64 s2)).set 1 (.int .i64 t2)))) (grown_put (grown_put (grown_self W _)))
          simp only [putAll, Act.put, List.setIfInBounds_toArray, List.set_cons_succ, List.set_cons_zero, List.set_nil] at fin
          exact fin
      case fin =>
        rintro vs W hJ
        obtain ⟨x0, x1, x2, x3, x4, x5, x6, x7, x8, x9, x10, x11, x12, x13, x14, x15, rfl⟩ := len16 hJ.ln
        obtain rfl : x0 = .slice (some ⟨g, 0, none⟩) 3 3 := box_get (hJ.val 0 rfl) rfl
        obtain rfl : x1 = .int .i64 0 := box_get (hJ.val 1 rfl) rfl
        obtain rfl : x2 = .int .i64 1 := box_get (hJ.val 2 rfl) rfl
        obtain rfl : x3 = .int .i64 1 := box_get (hJ.val 3 rfl) rfl
        obtain rfl : x4 = .pointer (some ⟨g, 2, none⟩) := box_get (hJ.val 4 rfl) rfl
        obtain rfl : x5 = .agg #[.int .i64 s1, .int .i64 t1] := box_get (hJ.val 5 rfl) rfl
        obtain rfl : x6 = .slice (some ⟨g, 0, none⟩) 3 3 := box_get (hJ.val 6 rfl) rfl
        obtain rfl : x7 = .int .i64 0 := box_get (hJ.val 7 rfl) rfl
        obtain rfl : x8 = .int .i64 2 := box_get (hJ.val 8 rfl) rfl
        obtain rfl : x9 = .int .i64 2 := box_get (hJ.val 9 rfl) rfl
        obtain rfl : x10 = .pointer (some ⟨g, 4, none⟩) := box_get (hJ.val 10 rfl) rfl
        obtain rfl : x11 = .agg #[.int .i64 s2, .int .i64 t2] := box_get (hJ.val 11 rfl) rfl
        obtain ⟨b12, e12, hb12, hr12⟩ := hJ.box 12 _ _ _ rfl rfl
        obtain rfl : x12 = .pointer (some ⟨b12, 0, none⟩) := Option.some.inj e12
        replace hr12 : Row W b12 28 [.int .i64 s1, .int .i64 t1] := hr12
        have HR12 := Lib.hid hr12
        clear e12 hr12
        obtain ⟨b13, e13, hb13, hr13⟩ := hJ.box 13 _ _ _ rfl rfl
        obtain rfl : x13 = .pointer (some ⟨b13, 0, none⟩) := Option.some.inj e13
        replace hr13 : Row W b13 28 [.int .i64 s2, .int .i64 t2] := hr13
        have HR13 := Lib.hid hr13
        clear e13 hr13
        have HC := Lib.hid hJ.bl
        clear hJ
        simp only [putAll, Act.put, List.setIfInBounds_toArray, List.set_cons_succ, List.set_cons_zero, List.set_nil]
        have HC4 := HC
        clear HC
        have RC4 := Lib.hid (RC3.out.below HC4.out RC3.out.lt)
        have RB4 := Lib.hid (RB.out.below HC4.out RB.out.lt)
        clear RC3 RG3 RC2 RG2
        go_wp2_with fail
        obtain ⟨E, hE⟩ : ∃ E, decide (D0 ≤ 0) = E := ⟨_, rfl⟩
        have HE := Lib.hid hE
        clear hE
        cases hm : (m0 != 0) with
        | true =>
          refine wp_region_box (by kernel_rfl) (by kernel_rfl) [28, 29, 30, 31, 32, 33, 34, 35, 36, 37, 38, 39, 40, 41] [(fun v => v = .agg #[.int .i64 c1, .int .i64 c2, .int .i64 c3, .int .i64 c4]), (fun v => v = .agg #[.int .i64 s0, .int .i64 t0]), (fun v => v = .int .i64 m0), (fun v => v = .bool true), (fun v => v = .bool true), (fun v => v = undef), (fun v => v = undef), (fun v => v = undef), (fun v => v = undef), (fun v => v = undef), (fun v => v = undef), (fun v => v = undef), (fun v => v = undef), (fun v => v = .bool true)] [none, none, none, none, none, none, none, none, none, none, none, none, none, none] [none, none, none, none, none, none, none, none, none, none, none, none, none, none] 14 rfl (by kernel_rfl) ?tr ⟨[u28, u29, u30, u31, u32, u33, u34, u35, u36, u37, u38, u39, u40, u41], by simp only [putAll, Act.put, List.setIfInBounds_toArray, List.set_cons_succ, List.set_cons_zero], rfl⟩ ?steps ?fin
          case tr =>
            rintro i v h
            rcases i with _ | _ | _ | _ | _ | _ | _ | _ | _ | _ | _ | _ | _ | _ | i
            all_goals first | trivial | (exfalso; rcases h with h | h <;> simp at h)
          case steps =>
            simp only [boxSteps, Nat.reduceAdd, Nat.zero_add, List.getD_cons_succ, List.getD_cons_zero]
            refine ⟨?_, ?_, ?_, ?_, ?_, ?_, ?_, ?_, ?_, ?_, ?_, ?_, ?_, ?_, trivial⟩
            · rintro vs W K hc hvl hw hK
              obtain ⟨x0, x1, x2, x3, x4, x5, x6, x7, x8, x9, x10, x11, x12, x13, rfl⟩ := len14 hvl
              have HK := Lib.hid hK
              have HC := Lib.hid hc
              have HW := Lib.hid hw
              clear hK hc hw hvl
              simp only [putAll, Act.put, List.setIfInBounds_toArray, List.set_cons_succ, List.set_cons_zero]
              have rr := RC4.out.below HC.out RC4.out.lt
              have d0 := rr.cell 0
              have d1 := rr.cell 1
              have d2 := rr.cell 2
              have d3 := rr.cell 3
              simp only [List.getElem?_cons_zero, List.getElem?_cons_succ] at d0 d1 d2 d3
              clear rr
              clear HW
              go_wp2_with fail
              have fin := HK.out (.agg #[.int .i64 c1, .int .i64 c2, .int .i64 c3, .int .i64 c4]) W (Below.refl _ _) rfl
              simp only [putAll, Act.put, List.setIfInBounds_toArray, List.set_cons_succ, List.set_cons_zero] at fin
              exact fin
            · rintro vs W K hc hvl hw hK
              obtain ⟨x0, x1, x2, x3, x4, x5, x6, x7, x8, x9, x10, x11, x12, x13, rfl⟩ := len14 hvl
              have HK := Lib.hid hK
              have HC := Lib.hid hc
              have HW := Lib.hid hw
              clear hK hc hw hvl
              simp only [putAll, Act.put, List.setIfInBounds_toArray, List.set_cons_succ, List.set_cons_zero]
              have rr := RB4.out.below HC.out RB4.out.lt
              have d0 := rr.cell 0
              have d1 := rr.cell 1
              simp only [List.getElem?_cons_zero, List.getElem?_cons_succ] at d0 d1
              clear rr
              clear HW
              go_wp2_with fail
              have fin := HK.out (.agg #[.int .i64 s0, .int .i64 t0]) W (Below.refl _ _) rfl
              simp only [putAll, Act.put, List.setIfInBounds_toArray, List.set_cons_succ, List.set_cons_zero] at fin
              exact fin
            · rintro vs W K hc hvl hw hK
              obtain ⟨x0, x1, x2, x3, x4, x5, x6, x7, x8, x9, x10, x11, x12, x13, rfl⟩ := len14 hvl
              have HK := Lib.hid hK
              have HC := Lib.hid hc
              have HW := Lib.hid hw
              clear hK hc hw hvl
              obtain rfl : x0 = .agg #[.int .i64 c1, .int .i64 c2, .int .i64 c3, .int .i64 c4] := box_get (HW.out ⟨0, .data⟩ (by simp) rfl) rfl
              obtain rfl : x1 = .agg #[.int .i64 s0, .int .i64 t0] := box_get (HW.out ⟨1, .data⟩ (by simp) rfl) rfl
              simp only [putAll, Act.put, List.setIfInBounds_toArray, List.set_cons_succ, List.set_cons_zero]
              clear HW
              go_wp2_with fail
              refine (W0.out W).mono ?_
              rintro e W' ⟨rfl, hb'⟩
              have HB' := Lib.hid hb'
              clear hb'
              go_wp2_with fail
              have fin := HK.out (.int .i64 m0) W' HB'.out rfl
              simp only [putAll, Act.put, List.setIfInBounds_toArray, List.set_cons_succ, List.set_cons_zero] at fin
              exact fin
            · rintro vs W K hc hvl hw hK
              obtain ⟨x0, x1, x2, x3, x4, x5, x6, x7, x8, x9, x10, x11, x12, x13, rfl⟩ := len14 hvl
              have HK := Lib.hid hK
              have HC := Lib.hid hc
              have HW := Lib.hid hw
              clear hK hc hw hvl
              obtain rfl : x2 = .int .i64 m0 := box_get (HW.out ⟨2, .data⟩ (by simp) rfl) rfl
              simp only [putAll, Act.put, List.setIfInBounds_toArray, List.set_cons_succ, List.set_cons_zero]
              clear HW
              go_wp2_with fail
              have fin := HK.out (.bool true) W (Below.refl _ _) rfl
              simp only [putAll, Act.put, List.setIfInBounds_toArray, List.set_cons_succ, List.set_cons_zero] at fin
              exact fin
            · rintro vs W K hc hvl hw hK
              obtain ⟨x0, x1, x2, x3, x4, x5, x6, x7, x8, x9, x10, x11, x12, x13, rfl⟩ := len14 hvl
              have HK := Lib.hid hK
              have HC := Lib.hid hc
              have HW := Lib.hid hw
              clear hK hc hw hvl
              obtain rfl : x3 = .bool true := box_get (HW.out ⟨3, .data⟩ (by simp) rfl) rfl
              simp only [putAll, Act.put, List.setIfInBounds_toArray, List.set_cons_succ, List.set_cons_zero]
              clear HW
              go_wp2_with fail
              have fin := HK.out (.bool true) W (Below.refl _ _) rfl
              simp only [putAll, Act.put, List.setIfInBounds_toArray, List.set_cons_succ, List.set_cons_zero] at fin
              exact fin
            · rintro vs W K hc hvl hw hK
              obtain ⟨x0, x1, x2, x3, x4, x5, x6, x7, x8, x9, x10, x11, x12, x13, rfl⟩ := len14 hvl
              have HK := Lib.hid hK
              have HC := Lib.hid hc
              have HW := Lib.hid hw
              clear hK hc hw hvl
              obtain rfl : x4 = .bool true := box_get (HW.out ⟨4, .guard⟩ (by simp) rfl) rfl
              simp only [putAll, Act.put, List.setIfInBounds_toArray, List.set_cons_succ, List.set_cons_zero]
              clear HW
              go_wp2_with fail
              have fin := HK.out (undef) W (Below.refl _ _) rfl
              simp only [putAll, Act.put, List.setIfInBounds_toArray, List.set_cons_succ, List.set_cons_zero] at fin
              exact fin
            · rintro vs W K hc hvl hw hK
              obtain ⟨x0, x1, x2, x3, x4, x5, x6, x7, x8, x9, x10, x11, x12, x13, rfl⟩ := len14 hvl
              have HK := Lib.hid hK
              have HC := Lib.hid hc
              have HW := Lib.hid hw
              clear hK hc hw hvl
              obtain rfl : x4 = .bool true := box_get (HW.out ⟨4, .guard⟩ (by simp) rfl) rfl
              simp only [putAll, Act.put, List.setIfInBounds_toArray, List.set_cons_succ, List.set_cons_zero]
              clear HW
              go_wp2_with fail
              have fin := HK.out (undef) W (Below.refl _ _) rfl
              simp only [putAll, Act.put, List.setIfInBounds_toArray, List.set_cons_succ, List.set_cons_zero] at fin
              exact fin
            · rintro vs W K hc hvl hw hK
              obtain ⟨x0, x1, x2, x3, x4, x5, x6, x7, x8, x9, x10, x11, x12, x13, rfl⟩ := len14 hvl
              have HK := Lib.hid hK
              have HC := Lib.hid hc
              have HW := Lib.hid hw
              clear hK hc hw hvl
              obtain rfl : x5 = undef := box_get (HW.out ⟨5, .data⟩ (by simp) rfl) rfl
              obtain rfl : x6 = undef := box_get (HW.out ⟨6, .data⟩ (by simp) rfl) rfl
              obtain rfl : x4 = .bool true := box_get (HW.out ⟨4, .guard⟩ (by simp) rfl) rfl
              simp only [putAll, Act.put, List.setIfInBounds_toArray, List.set_cons_succ, List.set_cons_zero]
              clear HW
              go_wp2_with fail
              have fin := HK.out (undef) W (Below.refl _ _) rfl
              simp only [putAll, Act.put, List.setIfInBounds_toArray, List.set_cons_succ, List.set_cons_zero] at fin
              exact fin
            · rintro vs W K hc hvl hw hK
              obtain ⟨x0, x1, x2, x3, x4, x5, x6, x7, x8, x9, x10, x11, x12, x13, rfl⟩ := len14 hvl
              have HK := Lib.hid hK
              have HC := Lib.hid hc
              have HW := Lib.hid hw
              clear hK hc hw hvl
              obtain rfl : x4 = .bool true := box_get (HW.out ⟨4, .guard⟩ (by simp) rfl) rfl
              simp only [putAll, Act.put, List.setIfInBounds_toArray, List.set_cons_succ, List.set_cons_zero]
              clear HW
              go_wp2_with fail
              have fin := HK.out (undef) W (Below.refl _ _) rfl
              simp only [putAll, Act.put, List.setIfInBounds_toArray, List.set_cons_succ, List.set_cons_zero] at fin
              exact fin
            · rintro vs W K hc hvl hw hK
              obtain ⟨x0, x1, x2, x3, x4, x5, x6, x7, x8, x9, x10, x11, x12, x13, rfl⟩ := len14 hvl
              have HK := Lib.hid hK
              have HC := Lib.hid hc
              have HW := Lib.hid hw
              clear hK hc hw hvl
              obtain rfl : x4 = .bool true := box_get (HW.out ⟨4, .guard⟩ (by simp) rfl) rfl
              simp only [putAll, Act.put, List.setIfInBounds_toArray, List.set_cons_succ, List.set_cons_zero]
              clear HW
              go_wp2_with fail
              have fin := HK.out (undef) W (Below.refl _ _) rfl
              simp only [putAll, Act.put, List.setIfInBounds_toArray, List.set_cons_succ, List.set_cons_zero] at fin
              exact fin
            · rintro vs W K hc hvl hw hK
              obtain ⟨x0, x1, x2, x3, x4, x5, x6, x7, x8, x9, x10, x11, x12, x13, rfl⟩ := len14 hvl
              have HK := Lib.hid hK
              have HC := Lib.hid hc
              have HW := Lib.hid hw
              clear hK hc hw hvl
              obtain rfl : x8 = undef := box_get (HW.out ⟨8, .data⟩ (by simp) rfl) rfl
              obtain rfl : x9 = undef := box_get (HW.out ⟨9, .data⟩ (by simp) rfl) rfl
              obtain rfl : x4 = .bool true := box_get (HW.out ⟨4, .guard⟩ (by simp) rfl) rfl
              simp only [putAll, Act.put, List.setIfInBounds_toArray, List.set_cons_succ, List.set_cons_zero]
              clear HW
              go_wp2_with fail
              have fin := HK.out (undef) W (Below.refl _ _) rfl
              simp only [putAll, Act.put, List.setIfInBounds_toArray, List.set_cons_succ, List.set_cons_zero] at fin
              exact fin
            · rintro vs W K hc hvl hw hK
              obtain ⟨x0, x1, x2, x3, x4, x5, x6, x7, x8, x9, x10, x11, x12, x13, rfl⟩ := len14 hvl
              have HK := Lib.hid hK
              have HC := Lib.hid hc
              have HW := Lib.hid hw
              clear hK hc hw hvl
              obtain rfl : x7 = undef := box_get (HW.out ⟨7, .data⟩ (by simp) rfl) rfl
              obtain rfl : x10 = undef := box_get (HW.out ⟨10, .data⟩ (by simp) rfl) rfl
              obtain rfl : x4 = .bool true := box_get (HW.out ⟨4, .guard⟩ (by simp) rfl) rfl
              simp only [putAll, Act.put, List.setIfInBounds_toArray, List.set_cons_succ, List.set_cons_zero]
              clear HW
              go_wp2_with fail
              have fin := HK.out (undef) W (Below.refl _ _) rfl
              simp only [putAll, Act.put, List.setIfInBounds_toArray, List.set_cons_succ, List.set_cons_zero] at fin
              exact fin
            · rintro vs W K hc hvl hw hK
              obtain ⟨x0, x1, x2, x3, x4, x5, x6, x7, x8, x9, x10, x11, x12, x13, rfl⟩ := len14 hvl
              have HK := Lib.hid hK
              have HC := Lib.hid hc
              have HW := Lib.hid hw
              clear hK hc hw hvl
              obtain rfl : x11 = undef := box_get (HW.out ⟨11, .data⟩ (by simp) rfl) rfl
              obtain rfl : x4 = .bool true := box_get (HW.out ⟨4, .guard⟩ (by simp) rfl) rfl
              simp only [putAll, Act.put, List.setIfInBounds_toArray, List.set_cons_succ, List.set_cons_zero]
              clear HW
              go_wp2_with fail
              have fin := HK.out (undef) W (Below.refl _ _) rfl
              simp only [putAll, Act.put, List.setIfInBounds_toArray, List.set_cons_succ, List.set_cons_zero] at fin
              exact fin
            · rintro vs W K hc hvl hw hK
              obtain ⟨x0, x1, x2, x3, x4, x5, x6, x7, x8, x9, x10, x11, x12, x13, rfl⟩ := len14 hvl
              have HK := Lib.hid hK
              have HC := Lib.hid hc
              have HW := Lib.hid hw
              clear hK hc hw hvl
              obtain rfl : x4 = .bool true := box_get (HW.out ⟨4, .data⟩ (by simp) rfl) rfl
              obtain rfl : x12 = undef := box_get (HW.out ⟨12, .data⟩ (by simp) rfl) rfl
              simp only [putAll, Act.put, List.setIfInBounds_toArray, List.set_cons_succ, List.set_cons_zero]
              clear HW
              go_wp2_with fail
              have fin := HK.out (.bool true) W (Below.refl _ _) rfl
              simp only [putAll, Act.put, List.setIfInBounds_toArray, List.set_cons_succ, List.set_cons_zero] at fin
              exact fin
          case fin =>
            rintro vs W hJ
            obtain ⟨x0, x1, x2, x3, x4, x5, x6, x7, x8, x9, x10, x11, x12, x13, rfl⟩ := len14 hJ.ln
            obtain rfl : x13 = .bool true := box_get (hJ.val 13 rfl) rfl
            have HC := Lib.hid hJ.bl
            clear hJ
            simp only [putAll, Act.put, List.setIfInBounds_toArray, List.set_cons_succ, List.set_cons_zero]
            clear T0 M0 N0 W0
            go_wp2_with fail
            go_ret
            refine ⟨ret_bool ?_, Below.andThen (Below.andThen (Below.andThen (Below.andThen BA.out HB.out.2.2.2 (Nat.le_refl _)) BB.out (Nat.le_refl _)) HC4.out (Nat.le_refl _)) HC.out (Nat.le_refl _)⟩
            have h := HS0.out
            have h2 : ¬ m0 = 0 := by simpa using hm
            rw [decide_eq_false h2, Bool.false_and] at h
            rw [← h]; simp
        | false =>
          refine wp_region_box (by kernel_rfl) (by kernel_rfl) [28, 29, 30, 31, 32, 33, 34, 35, 36, 37, 38, 39, 40, 41] [(fun v => v = .agg #[.int .i64 c1, .int .i64 c2, .int .i64 c3, .int .i64 c4]), (fun v => v = .agg #[.int .i64 s0, .int .i64 t0]), (fun v => v = .int .i64 m0), (fun v => v = .bool false), (fun v => v = .bool false), (fun v => v = .agg #[.int .i64 s1, .int .i64 t1]), (fun v => v = .agg #[.int .i64 s0, .int .i64 t0]), (fun v => v = .agg #[.int .i64 (s1 - s0), .int .i64 (t1 - t0)]), (fun v => v = .agg #[.int .i64 s2, .int .i64 t2]), (fun v => v = .agg #[.int .i64 s0, .int .i64 t0]), (fun v => v = .agg #[.int .i64 (s2 - s0), .int .i64 (t2 - t0)]), (fun v => v = .int .i64 D0), (fun v => v = .bool E), (fun v => v = .bool E)] [none, none, none, none, none, none, none, none, none, none, none, none, none, none] [none, none, none, none, none, none, none, none, none, none, none, none, none, none] 14 rfl (by kernel_rfl) ?tr ⟨[u28, u29, u30, u31, u32, u33, u34, u35, u36, u37, u38, u39, u40, u41], by simp only [putAll, Act.put, List.setIfInBounds_toArray, List.set_cons_succ, List.set_cons_zero], rfl⟩ ?steps ?fin
          case tr =>
            rintro i v h
            rcases i with _ | _ | _ | _ | _ | _ | _ | _ | _ | _ | _ | _ | _ | _ | i
            all_goals first | trivial | (exfalso; rcases h with h | h <;> simp at h)
          case steps =>
            simp only [boxSteps, Nat.reduceAdd, Nat.zero_add, List.getD_cons_succ, List.getD_cons_zero]
            refine ⟨?_, ?_, ?_, ?_, ?_, ?_, ?_, ?_, ?_, ?_, ?_, ?_, ?_, ?_, trivial⟩
            · rintro vs W K hc hvl hw hK
              obtain ⟨x0, x1, x2, x3, x4, x5, x6, x7, x8, x9, x10, x11, x12, x13, rfl⟩ := len14 hvl
              have HK := Lib.hid hK
              have HC := Lib.hid hc
              have HW := Lib.hid hw
              clear hK hc hw hvl
              simp only [putAll, Act.put, List.setIfInBounds_toArray, List.set_cons_succ, List.set_cons_zero]
              have rr := RC4.out.below HC.out RC4.out.lt
              have d0 := rr.cell 0
              have d1 := rr.cell 1
              have d2 := rr.cell 2
              have d3 := rr.cell 3
              simp only [List.getElem?_cons_zero, List.getElem?_cons_succ] at d0 d1 d2 d3
              clear rr
              clear HW
              go_wp2_with fail
              have fin := HK.out (.agg #[.int .i64 c1, .int .i64 c2, .int .i64 c3, .int .i64 c4]) W (Below.refl _ _) rfl
              simp only [putAll, Act.put, List.setIfInBounds_toArray, List.set_cons_succ, List.set_cons_zero] at fin
              exact fin
            · rintro vs W K hc hvl hw hK
              obtain ⟨x0, x1, x2, x3, x4, x5, x6, x7, x8, x9, x10, x11, x12, x13, rfl⟩ := len14 hvl
              have HK := Lib.hid hK
              have HC := Lib.hid hc
              have HW := Lib.hid hw
              clear hK hc hw hvl
              simp only [putAll, Act.put, List.setIfInBounds_toArray, List.set_cons_succ, List.set_cons_zero]
              have rr := RB4.out.below HC.out RB4.out.lt
              have d0 := rr.cell 0
              have d1 := rr.cell 1
              simp only [List.getElem?_cons_zero, List.getElem?_cons_succ] at d0 d1
              clear rr
              clear HW
              go_wp2_with fail
              have fin := HK.out (.agg #[.int .i64 s0, .int .i64 t0]) W (Below.refl _ _) rfl
              simp only [putAll, Act.put, List.setIfInBounds_toArray, List.set_cons_succ, List.set_cons_zero] at fin
              exact fin
            · rintro vs W K hc hvl hw hK
              obtain ⟨x0, x1, x2, x3, x4, x5, x6, x7, x8, x9, x10, x11, x12, x13, rfl⟩ := len14 hvl
              have HK := Lib.hid hK
              have HC := Lib.hid hc
              have HW := Lib.hid hw
              clear hK hc hw hvl
              obtain rfl : x0 = .agg #[.int .i64 c1, .int .i64 c2, .int .i64 c3, .int .i64 c4] := box_get (HW.out ⟨0, .data⟩ (by simp) rfl) rfl
              obtain rfl : x1 = .agg #[.int .i64 s0, .int .i64 t0] := box_get (HW.out ⟨1, .data⟩ (by simp) rfl) rfl
              simp only [putAll, Act.put, List.setIfInBounds_toArray, List.set_cons_succ, List.set_cons_zero]
              clear HW
              go_wp2_with fail
              refine (W0.out W).mono ?_
              rintro e W' ⟨rfl, hb'⟩
              have HB' := Lib.hid hb'
              clear hb'
              go_wp2_with fail
              have fin := HK.out (.int .i64 m0) W' HB'.out rfl
              simp only [putAll, Act.put, List.setIfInBounds_toArray, List.set_cons_succ, List.set_cons_zero] at fin
              exact fin
            · rintro vs W K hc hvl hw hK
              obtain ⟨x0, x1, x2, x3, x4, x5, x6, x7, x8, x9, x10, x11, x12, x13, rfl⟩ := len14 hvl
              have HK := Lib.hid hK
              have HC := Lib.hid hc
              have HW := Lib.hid hw
              clear hK hc hw hvl
              obtain rfl : x2 = .int .i64 m0 := box_get (HW.out ⟨2, .data⟩ (by simp) rfl) rfl
              simp only [putAll, Act.put, List.setIfInBounds_toArray, List.set_cons_succ, List.set_cons_zero]
              clear HW
              go_wp2_with fail
              have fin := HK.out (.bool false) W (Below.refl _ _) rfl
              simp only [putAll, Act.put, List.setIfInBounds_toArray, List.set_cons_succ, List.set_cons_zero] at fin
              exact fin
            · rintro vs W K hc hvl hw hK
              obtain ⟨x0, x1, x2, x3, x4, x5, x6, x7, x8, x9, x10, x11, x12, x13, rfl⟩ := len14 hvl
              have HK := Lib.hid hK
              have HC := Lib.hid hc
              have HW := Lib.hid hw
              clear hK hc hw hvl
              obtain rfl : x3 = .bool false := box_get (HW.out ⟨3, .data⟩ (by simp) rfl) rfl
              simp only [putAll, Act.put, List.setIfInBounds_toArray, List.set_cons_succ, List.set_cons_zero]
              clear HW
              go_wp2_with fail
              have fin := HK.out (.bool false) W (Below.refl _ _) rfl
              simp only [putAll, Act.put, List.setIfInBounds_toArray, List.set_cons_succ, List.set_cons_zero] at fin
              exact fin
            · rintro vs W K hc hvl hw hK
              obtain ⟨x0, x1, x2, x3, x4, x5, x6, x7, x8, x9, x10, x11, x12, x13, rfl⟩ := len14 hvl
              have HK := Lib.hid hK
              have HC := Lib.hid hc
              have HW := Lib.hid hw
              clear hK hc hw hvl
              obtain rfl : x4 = .bool false := box_get (HW.out ⟨4, .guard⟩ (by simp) rfl) rfl
              simp only [putAll, Act.put, List.setIfInBounds_toArray, List.set_cons_succ, List.set_cons_zero]
              have rr := HR12.out.below HC.out HR12.out.lt
              have d0 := rr.cell 0
              have d1 := rr.cell 1
              simp only [List.getElem?_cons_zero, List.getElem?_cons_succ] at d0 d1
              clear rr
              clear HW
              go_wp2_with fail
              have fin := HK.out (.agg #[.int .i64 s1, .int .i64 t1]) W (Below.refl _ _) rfl
              simp only [putAll, Act.put, List.setIfInBounds_toArray, List.set_cons_succ, List.set_cons_zero] at fin
              exact fin
            · rintro vs W K hc hvl hw hK
              obtain ⟨x0, x1, x2, x3, x4, x5, x6, x7, x8, x9, x10, x11, x12, x13, rfl⟩ := len14 hvl
              have HK := Lib.hid hK
              have HC := Lib.hid hc
              have HW := Lib.hid hw
              clear hK hc hw hvl
              obtain rfl : x4 = .bool false := box_get (HW.out ⟨4, .guard⟩ (by simp) rfl) rfl
              simp only [putAll, Act.put, List.setIfInBounds_toArray, List.set_cons_succ, List.set_cons_zero]
              have rr := RB4.out.below HC.out RB4.out.lt
              have d0 := rr.cell 0
              have d1 := rr.cell 1
              simp only [List.getElem?_cons_zero, List.getElem?_cons_succ] at d0 d1
              clear rr
              clear HW
              go_wp2_with fail
              have fin := HK.out (.agg #[.int .i64 s0, .int .i64 t0]) W (Below.refl _ _) rfl
              simp only [putAll, Act.put, List.setIfInBounds_toArray, List.set_cons_succ, List.set_cons_zero] at fin
              exact fin
            · rintro vs W K hc hvl hw hK
              obtain ⟨x0, x1, x2, x3, x4, x5, x6, x7, x8, x9, x10, x11, x12, x13, rfl⟩ := len14 hvl
              have HK := Lib.hid hK
              have HC := Lib.hid hc
              have HW := Lib.hid hw
              clear hK hc hw hvl
              obtain rfl : x5 = .agg #[.int .i64 s1, .int .i64 t1] := box_get (HW.out ⟨5, .data⟩ (by simp) rfl) rfl
              obtain rfl : x6 = .agg #[.int .i64 s0, .int .i64 t0] := box_get (HW.out ⟨6, .data⟩ (by simp) rfl) rfl
              obtain rfl : x4 = .bool false := box_get (HW.out ⟨4, .guard⟩ (by simp) rfl) rfl
              simp only [putAll, Act.put, List.setIfInBounds_toArray, List.set_cons_succ, List.set_cons_zero]
              clear HW
              go_wp2_with fail
              refine (M0.out W).mono ?_
              rintro e W' ⟨rfl, hb'⟩
              have HB' := Lib.hid hb'
              clear hb'
              go_wp2_with fail
              have fin := HK.out (.agg #[.int .i64 (s1 - s0), .int .i64 (t1 - t0)]) W' HB'.out rfl
              simp only [putAll, Act.put, List.setIfInBounds_toArray, List.set_cons_succ, List.set_cons_zero] at fin
              exact fin
            · rintro vs W K hc hvl hw hK
              obtain ⟨x0, x1, x2, x3, x4, x5, x6, x7, x8, x9, x10, x11, x12, x13, rfl⟩ := len14 hvl
              have HK := Lib.hid hK
              have HC := Lib.hid hc
              have HW := Lib.hid hw
              clear hK hc hw hvl
              obtain rfl : x4 = .bool false := box_get (HW.out ⟨4, .guard⟩ (by simp) rfl) rfl
              simp only [putAll, Act.put, List.setIfInBounds_toArray, List.set_cons_succ, List.set_cons_zero]
              have rr := HR13.out.below HC.out HR13.out.lt
              have d0 := rr.cell 0
              have d1 := rr.cell 1
              simp only [List.getElem?_cons_zero, List.getElem?_cons_succ] at d0 d1
              clear rr
              clear HW
              go_wp2_with fail
              have fin := HK.out (.agg #[.int .i64 s2, .int .i64 t2]) W (Below.refl _ _) rfl
              simp only [putAll, Act.put, List.setIfInBounds_toArray, List.set_cons_succ, List.set_cons_zero] at fin
              exact fin
            · rintro vs W K hc hvl hw hK
              obtain ⟨x0, x1, x2, x3, x4, x5, x6, x7, x8, x9, x10, x11, x12, x13, rfl⟩ := len14 hvl
              have HK := Lib.hid hK
              have HC := Lib.hid hc
              have HW := Lib.hid hw
              clear hK hc hw hvl
              obtain rfl : x4 = .bool false := box_get (HW.out ⟨4, .guard⟩ (by simp) rfl) rfl
              simp only [putAll, Act.put, List.setIfInBounds_toArray, List.set_cons_succ, List.set_cons_zero]
              have rr := RB4.out.below HC.out RB4.out.lt
              have d0 := rr.cell 0
              have d1 := rr.cell 1
              simp only [List.getElem?_cons_zero, List.getElem?_cons_succ] at d0 d1
              clear rr
              clear HW
              go_wp2_with fail
              have fin := HK.out (.agg #[.int .i64 s0, .int .i64 t0]) W (Below.refl _ _) rfl
              simp only [putAll, Act.put, List.setIfInBounds_toArray, List.set_cons_succ, List.set_cons_zero] at fin
              exact fin
            · rintro vs W K hc hvl hw hK
              obtain ⟨x0, x1, x2, x3, x4, x5, x6, x7, x8, x9, x10, x11, x12, x13, rfl⟩ := len14 hvl
              have HK := Lib.hid hK
              have HC := Lib.hid hc
              have HW := Lib.hid hw
              clear hK hc hw hvl
              obtain rfl : x8 = .agg #[.int .i64 s2, .int .i64 t2] := box_get (HW.out ⟨8, .data⟩ (by simp) rfl) rfl
              obtain rfl : x9 = .agg #[.int .i64 s0, .int .i64 t0] := box_get (HW.out ⟨9, .data⟩ (by simp) rfl) rfl
              obtain rfl : x4 = .bool false := box_get (HW.out ⟨4, .guard⟩ (by simp) rfl) rfl
              simp only [putAll, Act.put, List.setIfInBounds_toArray, List.set_cons_succ, List.set_cons_zero]
              clear HW
              go_wp2_with fail
              refine (N0.out W).mono ?_
              rintro e W' ⟨rfl, hb'⟩
              have HB' := Lib.hid hb'
              clear hb'
              go_wp2_with fail
              have fin := HK.out (.agg #[.int .i64 (s2 - s0), .int .i64 (t2 - t0)]) W' HB'.out rfl
              simp only [putAll, Act.put, List.setIfInBounds_toArray, List.set_cons_succ, List.set_cons_zero] at fin
              exact fin
            · rintro vs W K hc hvl hw hK
              obtain ⟨x0, x1, x2, x3, x4, x5, x6, x7, x8, x9, x10, x11, x12, x13, rfl⟩ := len14 hvl
              have HK := Lib.hid hK
              have HC := Lib.hid hc
              have HW := Lib.hid hw
              clear hK hc hw hvl
              obtain rfl : x7 = .agg #[.int .i64 (s1 - s0), .int .i64 (t1 - t0)] := box_get (HW.out ⟨7, .data⟩ (by simp) rfl) rfl
              obtain rfl : x10 = .agg #[.int .i64 (s2 - s0), .int .i64 (t2 - t0)] := box_get (HW.out ⟨10, .data⟩ (by simp) rfl) rfl
              obtain rfl : x4 = .bool false := box_get (HW.out ⟨4, .guard⟩ (by simp) rfl) rfl
              simp only [putAll, Act.put, List.setIfInBounds_toArray, List.set_cons_succ, List.set_cons_zero]
              clear HW
              go_wp2_with fail
              refine (T0.out W).mono ?_
              rintro e W' ⟨rfl, hb'⟩
              have HB' := Lib.hid hb'
              clear hb'
              go_wp2_with fail
              have fin := HK.out (.int .i64 D0) W' HB'.out rfl
              simp only [putAll, Act.put, List.setIfInBounds_toArray, List.set_cons_succ, List.set_cons_zero] at fin
              exact fin
            · rintro vs W K hc hvl hw hK
              obtain ⟨x0, x1, x2, x3, x4, x5, x6, x7, x8, x9, x10, x11, x12, x13, rfl⟩ := len14 hvl
              have HK := Lib.hid hK
              have HC := Lib.hid hc
              have HW := Lib.hid hw
              clear hK hc hw hvl
              obtain rfl : x11 = .int .i64 D0 := box_get (HW.out ⟨11, .data⟩ (by simp) rfl) rfl
              obtain rfl : x4 = .bool false := box_get (HW.out ⟨4, .guard⟩ (by simp) rfl) rfl
              simp only [putAll, Act.put, List.setIfInBounds_toArray, List.set_cons_succ, List.set_cons_zero]
              have hE := HE.out
              clear HW
              go_wp2_with fail
              have fin := HK.out (.bool E) W (Below.refl _ _) rfl
              simp only [putAll, Act.put, List.setIfInBounds_toArray, List.set_cons_succ, List.set_cons_zero] at fin
              exact fin
            · rintro vs W K hc hvl hw hK
              obtain ⟨x0, x1, x2, x3, x4, x5, x6, x7, x8, x9, x10, x11, x12, x13, rfl⟩ := len14 hvl
              have HK := Lib.hid hK
              have HC := Lib.hid hc
              have HW := Lib.hid hw
              clear hK hc hw hvl
              obtain rfl : x4 = .bool false := box_get (HW.out ⟨4, .data⟩ (by simp) rfl) rfl
              obtain rfl : x12 = .bool E := box_get (HW.out ⟨12, .data⟩ (by simp) rfl) rfl
              simp only [putAll, Act.put, List.setIfInBounds_toArray, List.set_cons_succ, List.set_cons_zero]
              clear HW
              go_wp2_with fail
              have fin := HK.out (.bool E) W (Below.refl _ _) rfl
              simp only [putAll, Act.put, List.setIfInBounds_toArray, List.set_cons_succ, List.set_cons_zero] at fin
              exact fin
          case fin =>
            rintro vs W hJ
            obtain ⟨x0, x1, x2, x3, x4, x5, x6, x7, x8, x9, x10, x11, x12, x13, rfl⟩ := len14 hJ.ln
            obtain rfl : x13 = .bool E := box_get (hJ.val 13 rfl) rfl
            have HC := Lib.hid hJ.bl
            clear hJ
            simp only [putAll, Act.put, List.setIfInBounds_toArray, List.set_cons_succ, List.set_cons_zero]
            clear T0 M0 N0 W0
            cases E with
            | true =>
              go_wp2_with fail
              go_ret
              refine ⟨ret_bool ?_, Below.andThen (Below.andThen (Below.andThen (Below.andThen BA.out HB.out.2.2.2 (Nat.le_refl _)) BB.out (Nat.le_refl _)) HC4.out (Nat.le_refl _)) HC.out (Nat.le_refl _)⟩
              have h := HS0.out
              have h2 : ¬ 0 < D0 := by have := of_decide_eq_true HE.out; omega
              rw [decide_eq_false h2, Bool.and_false] at h
              rw [← h]; simp
            | false =>
              have HN := Lib.hid (show S0 = true by
                rw [← HS0.out]
                have h2 : m0 = 0 := by simpa using hm
                have h3 := of_decide_eq_false HE.out
                rw [decide_eq_true h2, Bool.true_and]
                exact decide_eq_true (by omega))
              go_wp2_with fail
              exact ⟨⟨1, by omega, rfl, Lib.hid ⟨fun _ => HN.out, by omega, by omega, Below.andThen (Below.andThen (Below.andThen HB.out.2.2.2 BB.out (Nat.le_refl _)) HC4.out (Nat.le_refl _)) HC.out (Nat.le_refl _)⟩⟩, by simp [intOf]⟩
    · go_wp2_with fail
      have rB := Row.new wr 28 [.int .i64 s1, .int .i64 t1]
      have bB := Below.al (Below.refl wr.heap.size wr) (Nat.le_refl _) (.cells #[.int .i64 s1, .int .i64 t1] 28)
      have RB := Lib.hid rB
      have BB := Lib.hid bB
      have RC3 := Lib.hid (RC2.out.below bB RC2.out.lt)
      have RG3 := Lib.hid (RG2.out.below bB RG2.out.lt)
      clear rB bB k0 k1 k2 k3 k4 k5
      obtain ⟨U, hU⟩ : ∃ V, V = wr.alloc (.cells #[.int .i64 s1, .int .i64 t1] 28) := ⟨_, rfl⟩
      rw [← hU] at RB BB RC3 RG3 ⊢
      clear hU
      refine wp_region_box (by kernel_rfl) (by kernel_rfl) [16, 17, 18, 19, 20, 21, 22, 23, 24, 25, 26, 27, 7, 8, 1000, 1001] [(fun v => v = .slice (some ⟨g, 0, none⟩) 3 3), (fun v => v = .int .i64 1), (fun v => v = .int .i64 2), (fun v => v = .int .i64 2), (fun v => v = .pointer (some ⟨g, 4, none⟩)), (fun v => v = .agg #[.int .i64 s2, .int .i64 t2]), (fun v => v = .slice (some ⟨g, 0, none⟩) 3 3), (fun v => v = .int .i64 1), (fun v => v = .int .i64 3), (fun v => v = .int .i64 0), (fun v => v = .pointer (some ⟨g, 0, none⟩)), (fun v => v = .agg #[.int .i64 s0, .int .i64 t0]), (fun _ => True), (fun _ => True), (fun _ => True), (fun _ => True)] [none, none, none, none, none, none, none, none, none, none, none, none, some (28, [.int .i64 0, .int .i64 0], [.int .i64 s2, .int .i64 t2]), some (28, [.int .i64 0, .int .i64 0], [.int .i64 s0, .int .i64 t0]), none, none] [none, none, none, none, none, none, none, none, none, none, none, none, none, none, some 12, some 13] 16 rfl (by kernel_rfl) ?tr ⟨[u16, u17, u18, u19, u20, u21, u22, u23, u24, u25, u26, u27, u7, u8, undef, undef], by simp only [putAll, Act.put, List.setIfInBounds_toArray, List.set_cons_succ, List.set_cons_zero, List.set_nil], rfl⟩ ?steps ?fin
      case tr =>
        rintro i v h
        rcases i with _ | _ | _ | _ | _ | _ | _ | _ | _ | _ | _ | _ | _ | _ | _ | _ | i
        all_goals first | trivial | (exfalso; rcases h with h | h <;> simp at h)
      case steps =>
        simp only [boxSteps, Nat.reduceAdd, Nat.zero_add, List.getD_cons_succ, List.getD_cons_zero]
        refine ⟨?_, ?_, ?_, ?_, ?_, ?_, ?_, ?_, ?_, ?_, ?_, ?_, ?_, ?_, ?_, ?_, trivial⟩
        · rintro vs W K hc hvl hw hK
          obtain ⟨x0, x1, x2, x3, x4, x5, x6, x7, x8, x9, x10, x11, x12, x13, x14, x15, rfl⟩ := len16 hvl
          have HK := Lib.hid hK
          have HC := Lib.hid hc
          have HW := Lib.hid hw
          clear hK hc hw hvl
          simp only [putAll, Act.put, List.setIfInBounds_toArray, List.set_cons_succ, List.set_cons_zero, List.set_nil]
          clear HW
          go_wp2_with fail
          have fin := HK.out (.slice (some ⟨g, 0, none⟩) 3 3) W (Below.refl _ _) rfl
          simp only [putAll, Act.put, List.setIfInBounds_toArray, List.set_cons_succ, List.set_cons_zero, List.set_nil] at fin
          exact fin
        · rintro vs W K hc hvl hw hK
          obtain ⟨x0, x1, x2, x3, x4, x5, x6, x7, x8, x9, x10, x11, x12, x13, x14, x15, rfl⟩ := len16 hvl
          have HK := Lib.hid hK
          have HC := Lib.hid hc
          have HW := Lib.hid hw
          clear hK hc hw hvl
          simp only [putAll, Act.put, List.setIfInBounds_toArray, List.set_cons_succ, List.set_cons_zero, List.set_nil]
          clear HW
          go_wp2_with fail
          have fin := HK.out (.int .i64 1) W (Below.refl _ _) rfl
          simp only [putAll, Act.put, List.setIfInBounds_toArray, List.set_cons_succ, List.set_cons_zero, List.set_nil] at fin
          exact fin
        · rintro vs W K hc hvl hw hK
          obtain ⟨x0, x1, x2, x3, x4, x5, x6, x7, x8, x9, x10, x11, x12, x13, x14, x15, rfl⟩ := len16 hvl
          have HK := Lib.hid hK
          have HC := Lib.hid hc
          have HW := Lib.hid hw
          clear hK hc hw hvl
          obtain rfl : x1 = .int .i64 1 := box_get (HW.out ⟨1, .data⟩ (by simp) rfl) rfl
          simp only [putAll, Act.put, List.setIfInBounds_toArray, List.set_cons_succ, List.set_cons_zero, List.set_nil]
          clear HW
          go_wp2_with fail
          have fin := HK.out (.int .i64 2) W (Below.refl _ _) rfl
          simp only [putAll, Act.put, List.setIfInBounds_toArray, List.set_cons_succ, List.set_cons_zero, List.set_nil] at fin
          exact fin
        · rintro vs W K hc hvl hw hK
          obtain ⟨x0, x1, x2, x3, x4, x5, x6, x7, x8, x9, x10, x11, x12, x13, x14, x15, rfl⟩ := len16 hvl
          have HK := Lib.hid hK
          have HC := Lib.hid hc
          have HW := Lib.hid hw
          clear hK hc hw hvl
          obtain rfl : x2 = .int .i64 2 := box_get (HW.out ⟨2, .data⟩ (by simp) rfl) rfl
          simp only [putAll, Act.put, List.setIfInBounds_toArray, List.set_cons_succ, List.set_cons_zero, List.set_nil]
          clear HW
          go_wp2_with fail
          have fin := HK.out (.int .i64 2) W (Below.refl _ _) rfl
          simp only [putAll, Act.put, List.setIfInBounds_toArray, List.set_cons_succ, List.set_cons_zero, List.set_nil] at fin
          exact fin
        · rintro vs W K hc hvl hw hK
          obtain ⟨x0, x1, x2, x3, x4, x5, x6, x7, x8, x9, x10, x11, x12, x13, x14, x15, rfl⟩ := len16 hvl
          have HK := Lib.hid hK
          have HC := Lib.hid hc
          have HW := Lib.hid hw
          clear hK hc hw hvl
          obtain rfl : x0 = .slice (some ⟨g, 0, none⟩) 3 3 := box_get (HW.out ⟨0, .data⟩ (by simp) rfl) rfl
          obtain rfl : x3 = .int .i64 2 := box_get (HW.out ⟨3, .data⟩ (by simp) rfl) rfl
          simp only [putAll, Act.put, List.setIfInBounds_toArray, List.set_cons_succ, List.set_cons_zero, List.set_nil]
          clear HW
          go_wp2_with fail
          have fin := HK.out (.pointer (some ⟨g, 4, none⟩)) W (Below.refl _ _) rfl
          simp only [putAll, Act.put, List.setIfInBounds_toArray, List.set_cons_succ, List.set_cons_zero, List.set_nil] at fin
          exact fin
        · rintro vs W K hc hvl hw hK
          obtain ⟨x0, x1, x2, x3, x4, x5, x6, x7, x8, x9, x10, x11, x12, x13, x14, x15, rfl⟩ := len16 hvl
          have HK := Lib.hid hK
          have HC := Lib.hid hc
          have HW := Lib.hid hw
          clear hK hc hw hvl
          obtain rfl : x4 = .pointer (some ⟨g, 4, none⟩) := box_get (HW.out ⟨4, .data⟩ (by simp) rfl) rfl
          simp only [putAll, Act.put, List.setIfInBounds_toArray, List.set_cons_succ, List.set_cons_zero, List.set_nil]
          have rr := RG3.out.below HC.out RG3.out.lt
          have d4 := rr.cell 4
          have d5 := rr.cell 5
          simp only [List.getElem?_cons_zero, List.getElem?_cons_succ] at d4 d5
          clear rr
          clear HW
          go_wp2_with fail
          have fin := HK.out (.agg #[.int .i64 s2, .int .i64 t2]) W (Below.refl _ _) rfl
          simp only [putAll, Act.put, List.setIfInBounds_toArray, List.set_cons_succ, List.set_cons_zero, List.set_nil] at fin
          exact fin
        · rintro vs W K hc hvl hw hK
          obtain ⟨x0, x1, x2, x3, x4, x5, x6, x7, x8, x9, x10, x11, x12, x13, x14, x15, rfl⟩ := len16 hvl
          have HK := Lib.hid hK
          have HC := Lib.hid hc
          have HW := Lib.hid hw
          clear hK hc hw hvl
          simp only [putAll, Act.put, List.setIfInBounds_toArray, List.set_cons_succ, List.set_cons_zero, List.set_nil]
          clear HW
          go_wp2_with fail
          have fin := HK.out (.slice (some ⟨g, 0, none⟩) 3 3) W (Below.refl _ _) rfl
          simp only [putAll, Act.put, List.setIfInBounds_toArray, List.set_cons_succ, List.set_cons_zero, List.set_nil] at fin
          exact fin
        · rintro vs W K hc hvl hw hK
          obtain ⟨x0, x1, x2, x3, x4, x5, x6, x7, x8, x9, x10, x11, x12, x13, x14, x15, rfl⟩ := len16 hvl
          have HK := Lib.hid hK
          have HC := Lib.hid hc
          have HW := Lib.hid hw
          clear hK hc hw hvl
          simp only [putAll, Act.put, List.setIfInBounds_toArray, List.set_cons_succ, List.set_cons_zero, List.set_nil]
          clear HW
          go_wp2_with fail
          have fin := HK.out (.int .i64 1) W (Below.refl _ _) rfl
          simp only [putAll, Act.put, List.setIfInBounds_toArray, List.set_cons_succ, List.set_cons_zero, List.set_nil] at fin
          exact fin
        · rintro vs W K hc hvl hw hK
          obtain ⟨x0, x1, x2, x3, x4, x5, x6, x7, x8, x9, x10, x11, x12, x13, x14, x15, rfl⟩ := len16 hvl
          have HK := Lib.hid hK
          have HC := Lib.hid hc
          have HW := Lib.hid hw
          clear hK hc hw hvl
          obtain rfl : x7 = .int .i64 1 := box_get (HW.out ⟨7, .data⟩ (by simp) rfl) rfl
          simp only [putAll, Act.put, List.setIfInBounds_toArray, List.set_cons_succ, List.set_cons_zero, List.set_nil]
          clear HW
          go_wp2_with fail
          have fin := HK.out (.int .i64 3) W (Below.refl _ _) rfl
          simp only [putAll, Act.put, List.setIfInBounds_toArray, List.set_cons_succ, List.set_cons_zero, List.set_nil] at fin
          exact fin
        · rintro vs W K hc hvl hw hK
          obtain ⟨x0, x1, x2, x3, x4, x5, x6, x7, x8, x9, x10, x11, x12, x13, x14, x15, rfl⟩ := len16 hvl
          have HK := Lib.hid hK
          have HC := Lib.hid hc
          have HW := Lib.hid hw
          clear hK hc hw hvl
          obtain rfl : x8 = .int .i64 3 := box_get (HW.out ⟨8, .data⟩ (by simp) rfl) rfl
          simp only [putAll, Act.put, List.setIfInBounds_toArray, List.set_cons_succ, List.set_cons_zero, List.set_nil]
          clear HW
          go_wp2_with fail
          have fin := HK.out (.int .i64 0) W (Below.refl _ _) rfl
          simp only [putAll, Act.put, List.setIfInBounds_toArray, List.set_cons_succ, List.set_cons_zero, List.set_nil] at fin
          exact fin
        · rintro vs W K hc hvl hw hK
          obtain ⟨x0, x1, x2, x3, x4, x5, x6, x7, x8, x9, x10, x11, x12, x13, x14, x15, rfl⟩ := len16 hvl
          have HK := Lib.hid hK
          have HC := Lib.hid hc
          have HW := Lib.hid hw
          clear hK hc hw hvl
          obtain rfl : x6 = .slice (some ⟨g, 0, none⟩) 3 3 := box_get (HW.out ⟨6, .data⟩ (by simp) rfl) rfl
          obtain rfl : x9 = .int .i64 0 := box_get (HW.out ⟨9, .data⟩ (by simp) rfl) rfl
          simp only [putAll, Act.put, List.setIfInBounds_toArray, List.set_cons_succ, List.set_cons_zero, List.set_nil]
          clear HW
          go_wp2_with fail
          have fin := HK.out (.pointer (some ⟨g, 0, none⟩)) W (Below.refl _ _) rfl
          simp only [putAll, Act.put, List.setIfInBounds_toArray, List.set_cons_succ, List.set_cons_zero, List.set_nil] at fin
          exact fin
        · rintro vs W K hc hvl hw hK
          obtain ⟨x0, x1, x2, x3, x4, x5, x6, x7, x8, x9, x10, x11, x12, x13, x14, x15, rfl⟩ := len16 hvl
          have HK := Lib.hid hK
          have HC := Lib.hid hc
          have HW := Lib.hid hw
          clear hK hc hw hvl
          obtain rfl : x10 = .pointer (some ⟨g, 0, none⟩) := box_get (HW.out ⟨10, .data⟩ (by simp) rfl) rfl
          simp only [putAll, Act.put, List.setIfInBounds_toArray, List.set_cons_succ, List.set_cons_zero, List.set_nil]
          have rr := RG3.out.below HC.out RG3.out.lt
          have d0 := rr.cell 0
          have d1 := rr.cell 1
          simp only [List.getElem?_cons_zero, List.getElem?_cons_succ] at d0 d1
          clear rr
          clear HW
          go_wp2_with fail
          have fin := HK.out (.agg #[.int .i64 s0, .int .i64 t0]) W (Below.refl _ _) rfl
          simp only [putAll, Act.put, List.setIfInBounds_toArray, List.set_cons_succ, List.set_cons_zero, List.set_nil] at fin
          exact fin
        · rintro vs W K hc hvl hw hK
          obtain ⟨x0, x1, x2, x3, x4, x5, x6, x7, x8, x9, x10, x11, x12, x13, x14, x15, rfl⟩ := len16 hvl
          have HK := Lib.hid hK
          have HC := Lib.hid hc
          have HW := Lib.hid hw
          clear hK hc hw hvl
          simp only [putAll, Act.put, List.setIfInBounds_toArray, List.set_cons_succ, List.set_cons_zero, List.set_nil]
          clear HW
          go_wp2_with fail
          have fin := HK.out
          simp only [putAll, Act.put, List.setIfInBounds_toArray, List.set_cons_succ, List.set_cons_zero, List.set_nil] at fin
          exact fin
        · rintro vs W K hc hvl hw hK
          obtain ⟨x0, x1, x2, x3, x4, x5, x6, x7, x8, x9, x10, x11, x12, x13, x14, x15, rfl⟩ := len16 hvl
          have HK := Lib.hid hK
          have HC := Lib.hid hc
          have HW := Lib.hid hw
          clear hK hc hw hvl
          simp only [putAll, Act.put, List.setIfInBounds_toArray, List.set_cons_succ, List.set_cons_zero, List.set_nil]
          clear HW
          go_wp2_with fail
          have fin := HK.out
          simp only [putAll, Act.put, List.setIfInBounds_toArray, List.set_cons_succ, List.set_cons_zero, List.set_nil] at fin
          exact fin
        · rintro vs W K hc hvl hw b E z f hia hva hb0 hr hK
          cases hia
          obtain ⟨x0, x1, x2, x3, x4, x5, x6, x7, x8, x9, x10, x11, x12, x13, x14, x15, rfl⟩ := len16 hvl
          have HK := Lib.hid hK
          have HC := Lib.hid hc
          have HW := Lib.hid hw
          clear hK hc hw hvl
          obtain rfl : x5 = .agg #[.int .i64 s2, .int .i64 t2] := box_get (HW.out ⟨5, .data⟩ (by simp) rfl) rfl
          obtain rfl : x12 = .pointer (some ⟨b, 0, none⟩) := Option.some.inj hva
          simp only [putAll, Act.put, List.setIfInBounds_toArray, List.set_cons_succ, List.set_cons_zero, List.set_nil]
          have kf0 := frozen_of_row W b 0 _ _ hr
          have kc0 : W.cell? ⟨b, 0, none⟩ = some (.int .i64 0) := hr.cell 0
          have kf1 := frozen_of_row W b 1 _ _ hr
          have kc1 : W.cell? ⟨b, 1, none⟩ = some (.int .i64 0) := hr.cell 1
          have HRW := Lib.hid hr
          clear HW hr hva
          go_wp2_with fail
          have fin := HK.out _ (show Row _ b 28 [.int .i64 s2, .int .i64 t2] from by simpa using (show Row _ b 28 _ from ((HRW.out.set 0 (.int .i64 s2)).set 1 (.int .i64 t2)))) (grown_put (grown_put (grown_self W _)))
          simp only [putAll, Act.put, List.setIfInBounds_toArray, List.set_cons_succ, List.set_cons_zero, List.set_nil] at fin
          exact fin
        · rintro vs W K hc hvl hw b E z f hia hva hb0 hr hK
          cases hia
          obtain ⟨x0, x1, x2, x3, x4, x5, x6, x7, x8, x9, x10, x11, x12, x13, x14, x15, rfl⟩ := len16 hvl
          have HK := Lib.hid hK
          have HC := Lib.hid hc
          have HW := Lib.hid hw
          clear hK hc hw hvl
          obtain rfl : x11 = .agg #[.int .i64 s0, .int .i64 t0] := box_get (HW.out ⟨11, .data⟩ (by simp) rfl) rfl
          obtain rfl : x13 = .pointer (some ⟨b, 0, none⟩) := Option.some.inj hva
          simp only [putAll, Act.put, List.setIfInBounds_toArray, List.set_cons_succ, List.set_cons_zero, List.set_nil]
          have kf0 := frozen_of_row W b 0 _ _ hr
          have kc0 : W.cell? ⟨b, 0, none⟩ = some (.int .i64 0) := hr.cell 0
          have kf1 := frozen_of_row W b 1 _ _ hr
          have kc1 : W.cell? ⟨b, 1, none⟩ = some (.int .i64 0) := hr.cell 1
          have HRW := Lib.hid hr
          clear HW hr hva
          go_wp2_with fail
          have fin := HK.out _ (show Row _ b 28 [.int .i64 s0, .int .i64 t0] from by simpa using (show Row _ b 28 _ from ((HRW.out.set 0 (.int .i64 s0)).set 1 (.int .i64 t0)))) (grown_put (grown_put (grown_self W _)))
          simp only [putAll, Act.put, List.setIfInBounds_toArray, List.set_cons_succ, List.set_cons_zero, List.set_nil] at fin
          exact fin
      case fin =>
        rintro vs W hJ
        obtain ⟨x0, x1, x2, x3, x4, x5, x6, x7, x8, x9, x10, x11, x12, x13, x14, x15, rfl⟩ := len16 hJ.ln
        obtain rfl : x0 = .slice (some ⟨g, 0, none⟩) 3 3 := box_get (hJ.val 0 rfl) rfl
        obtain rfl : x1 = .int .i64 1 := box_get (hJ.val 1 rfl) rfl
        obtain rfl : x2 = .int .i64 2 := box_get (hJ.val 2 rfl) rfl
        obtain rfl : x3 = .int .i64 2 := box_get (hJ.val 3 rfl) rfl
        obtain rfl : x4 = .pointer (some ⟨g, 4, none⟩) := box_get (hJ.val 4 rfl) rfl
        obtain rfl : x5 = .agg #[.int .i64 s2, .int .i64 t2] := box_get (hJ.val 5 rfl) rfl
        obtain rfl : x6 = .slice (some ⟨g, 0, none⟩) 3 3 := box_get (hJ.val 6 rfl) rfl
        obtain rfl : x7 = .int .i64 1 := box_get (hJ.val 7 rfl) rfl
        obtain rfl : x8 = .int .i64 3 := box_get (hJ.val 8 rfl) rfl
        obtain rfl : x9 = .int .i64 0 := box_get (hJ.val 9 rfl) rfl
        obtain rfl : x10 = .pointer (some ⟨g, 0, none⟩) := box_get (hJ.val 10 rfl) rfl
        obtain rfl : x11 = .agg #[.int .i64 s0, .int .i64 t0] := box_get (hJ.val 11 rfl) rfl
        obtain ⟨b12, e12, hb12, hr12⟩ := hJ.box 12 _ _ _ rfl rfl
        obtain rfl : x12 = .pointer (some ⟨b12, 0, none⟩) := Option.some.inj e12
        replace hr12 : Row W b12 28 [.int .i64 s2, .int .i64 t2] := hr12
        have HR12 := Lib.hid hr12
        clear e12 hr12
        obtain ⟨b13, e13, hb13, hr13⟩ := hJ.box 13 _ _ _ rfl rfl
        obtain rfl : x13 = .pointer (some ⟨b13, 0, none⟩) := Option.some.inj e13
        replace hr13 : Row W b13 28 [.int .i64 s0, .int .i64 t0] := hr13
        have HR13 := Lib.hid hr13
        clear e13 hr13
        have HC := Lib.hid hJ.bl
        clear hJ
        simp only [putAll, Act.put, List.setIfInBounds_toArray, List.set_cons_succ, List.set_cons_zero, List.set_nil]
        have HC4 := HC
        clear HC
        have RC4 := Lib.hid (RC3.out.below HC4.out RC3.out.lt)
        have RB4 := Lib.hid (RB.out.below HC4.out RB.out.lt)
        clear RC3 RG3 RC2 RG2
        go_wp2_with fail
        obtain ⟨E, hE⟩ : ∃ E, decide (D1 ≤ 0) = E := ⟨_, rfl⟩
        have HE := Lib.hid hE
        clear hE
        cases hm : (m1 != 0) with
        | true =>
          refine wp_region_box (by kernel_rfl) (by kernel_rfl) [28, 29, 30, 31, 32, 33, 34, 35, 36, 37, 38, 39, 40, 41] [(fun v => v = .agg #[.int .i64 c1, .int .i64 c2, .int .i64 c3, .int .i64 c4]), (fun v => v = .agg #[.int .i64 s1, .int .i64 t1]), (fun v => v = .int .i64 m1), (fun v => v = .bool true), (fun v => v = .bool true), (fun v => v = undef), (fun v => v = undef), (fun v => v = undef), (fun v => v = undef), (fun v => v = undef), (fun v => v = undef), (fun v => v = undef), (fun v => v = undef), (fun v => v = .bool true)] [none, none, none, none, none, none, none, none, none, none, none, none, none, none] [none, none, none, none, none, none, none, none, none, none, none, none, none, none] 14 rfl (by kernel_rfl) ?tr ⟨[u28, u29, u30, u31, u32, u33, u34, u35, u36, u37, u38, u39, u40, u41], by simp only [putAll, Act.put, List.setIfInBounds_toArray, List.set_cons_succ, List.set_cons_zero], rfl⟩ ?steps ?fin
          case tr =>
            rintro i v h
            rcases i with _ | _ | _ | _ | _ | _ | _ | _ | _ | _ | _ | _ | _ | _ | i
            all_goals first | trivial | (exfalso; rcases h with h | h <;> simp at h)
          case steps =>
            simp only [boxSteps, Nat.reduceAdd, Nat.zero_add, List.getD_cons_succ, List.getD_cons_zero]
            refine ⟨?_, ?_, ?_, ?_, ?_, ?_, ?_, ?_, ?_, ?_, ?_, ?_, ?_, ?_, trivial⟩
            · rintro vs W K hc hvl hw hK
              obtain ⟨x0, x1, x2, x3, x4, x5, x6, x7, x8, x9, x10, x11, x12, x13, rfl⟩ := len14 hvl
              have HK := Lib.hid hK
              have HC := Lib.hid hc
              have HW := Lib.hid hw
              clear hK hc hw hvl
              simp only [putAll, Act.put, List.setIfInBounds_toArray, List.set_cons_succ, List.set_cons_zero]
              have rr := RC4.out.below HC.out RC4.out.lt
              have d0 := rr.cell 0
              have d1 := rr.cell 1
              have d2 := rr.cell 2
              have d3 := rr.cell 3
              simp only [List.getElem?_cons_zero, List.getElem?_cons_succ] at d0 d1 d2 d3
              clear rr
              clear HW
              go_wp2_with fail
              have fin := HK.out (.agg #[.int .i64 c1, .int .i64 c2, .int .i64 c3, .int .i64 c4]) W (Below.refl _ _) rfl
              simp only [putAll, Act.put, List.setIfInBounds_toArray, List.set_cons_succ, List.set_cons_zero] at fin
              exact fin
            · rintro vs W K hc hvl hw hK
              obtain ⟨x0, x1, x2, x3, x4, x5, x6, x7, x8, x9, x10, x11, x12, x13, rfl⟩ := len14 hvl
              have HK := Lib.hid hK
              have HC := Lib.hid hc
              have HW := Lib.hid hw
              clear hK hc hw hvl
              simp only [putAll, Act.put, List.setIfInBounds_toArray, List.set_cons_succ, List.set_cons_zero]
              have rr := RB4.out.below HC.out RB4.out.lt
              have d0 := rr.cell 0
              have d1 := rr.cell 1
              simp only [List.getElem?_cons_zero, List.getElem?_cons_succ] at d0 d1
              clear rr
              clear HW
              go_wp2_with fail
              have fin := HK.out (.agg #[.int .i64 s1, .int .i64 t1]) W (Below.refl _ _) rfl
              simp only [putAll, Act.put, List.setIfInBounds_toArray, List.set_cons_succ, List.set_cons_zero] at fin
              exact fin
            · rintro vs W K hc hvl hw hK
              obtain ⟨x0, x1, x2, x3, x4, x5, x6, x7, x8, x9, x10, x11, x12, x13, rfl⟩ := len14 hvl
              have HK := Lib.hid hK
              have HC := Lib.hid hc
              have HW := Lib.hid hw
              clear hK hc hw hvl
              obtain rfl : x0 = .agg #[.int .i64 c1, .int .i64 c2, .int .i64 c3, .int .i64 c4] := box_get (HW.out ⟨0, .data⟩ (by simp) rfl) rfl
              obtain rfl : x1 = .agg #[.int .i64 s1, .int .i64 t1] := box_get (HW.out ⟨1, .data⟩ (by simp) rfl) rfl
              simp only [putAll, Act.put, List.setIfInBounds_toArray, List.set_cons_succ, List.set_cons_zero]
              clear HW
              go_wp2_with fail
              refine (W1.out W).mono ?_
              rintro e W' ⟨rfl, hb'⟩
              have HB' := Lib.hid hb'
              clear hb'
              go_wp2_with fail
              have fin := HK.out (.int .i64 m1) W' HB'.out rfl
              simp only [putAll, Act.put, List.setIfInBounds_toArray, List.set_cons_succ, List.set_cons_zero] at fin
              exact fin
            · rintro vs W K hc hvl hw hK
              obtain ⟨x0, x1, x2, x3, x4, x5, x6, x7, x8, x9, x10, x11, x12, x13, rfl⟩ := len14 hvl
              have HK := Lib.hid hK
              have HC := Lib.hid hc
              have HW := Lib.hid hw
              clear hK hc hw hvl
              obtain rfl : x2 = .int .i64 m1 := box_get (HW.out ⟨2, .data⟩ (by simp) rfl) rfl
              simp only [putAll, Act.put, List.setIfInBounds_toArray, List.set_cons_succ, List.set_cons_zero]
              clear HW
              go_wp2_with fail
              have fin := HK.out (.bool true) W (Below.refl _ _) rfl
              simp only [putAll, Act.put, List.setIfInBounds_toArray, List.set_cons_succ, List.set_cons_zero] at fin
              exact fin
            · rintro vs W K hc hvl hw hK
              obtain ⟨x0, x1, x2, x3, x4, x5, x6, x7, x8, x9, x10, x11, x12, x13, rfl⟩ := len14 hvl
              have HK := Lib.hid hK
              have HC := Lib.hid hc
              have HW := Lib.hid hw
              clear hK hc hw hvl
              obtain rfl : x3 = .bool true := box_get (HW.out ⟨3, .data⟩ (by simp) rfl) rfl
              simp only [putAll, Act.put, List.setIfInBounds_toArray, List.set_cons_succ, List.set_cons_zero]
              clear HW
              go_wp2_with fail
              have fin := HK.out (.bool true) W (Below.refl _ _) rfl
              simp only [putAll, Act.put, List.setIfInBounds_toArray, List.set_cons_succ, List.set_cons_zero] at fin
              exact fin
            · rintro vs W K hc hvl hw hK
              obtain ⟨x0, x1, x2, x3, x4, x5, x6, x7, x8, x9, x10, x11, x12, x13, rfl⟩ := len14 hvl
              have HK := Lib.hid hK
              have HC := Lib.hid hc
              have HW := Lib.hid hw
              clear hK hc hw hvl
              obtain rfl : x4 = .bool true := box_get (HW.out ⟨4, .guard⟩ (by simp) rfl) rfl
              simp only [putAll, Act.put, List.setIfInBounds_toArray, List.set_cons_succ, List.set_cons_zero]
              clear HW
              go_wp2_with fail
              have fin := HK.out (undef) W (Below.refl _ _) rfl
              simp only [putAll, Act.put, List.setIfInBounds_toArray, List.set_cons_succ, List.set_cons_zero] at fin
              exact fin
            · rintro vs W K hc hvl hw hK
              obtain ⟨x0, x1, x2, x3, x4, x5, x6, x7, x8, x9, x10, x11, x12, x13, rfl⟩ := len14 hvl
              have HK := Lib.hid hK
              have HC := Lib.hid hc
              have HW := Lib.hid hw
              clear hK hc hw hvl
              obtain rfl : x4 = .bool true := box_get (HW.out ⟨4, .guard⟩ (by simp) rfl) rfl
              simp only [putAll, Act.put, List.setIfInBounds_toArray, List.set_cons_succ, List.set_cons_zero]
              clear HW
              go_wp2_with fail
              have fin := HK.out (undef) W (Below.refl _ _) rfl
              simp only [putAll, Act.put, List.setIfInBounds_toArray, List.set_cons_succ, List.set_cons_zero] at fin
              exact fin
            · rintro vs W K hc hvl hw hK
              obtain ⟨x0, x1, x2, x3, x4, x5, x6, x7, x8, x9, x10, x11, x12, x13, rfl⟩ := len14 hvl
              have HK := Lib.hid hK
              have HC := Lib.hid hc
              have HW := Lib.hid hw
              clear hK hc hw hvl
              obtain rfl : x5 = undef := box_get (HW.out ⟨5, .data⟩ (by simp) rfl) rfl
              obtain rfl : x6 = undef := box_get (HW.out ⟨6, .data⟩ (by simp) rfl) rfl
              obtain rfl : x4 = .bool true := box_get (HW.out ⟨4, .guard⟩ (by simp) rfl) rfl
              simp only [putAll, Act.put, List.setIfInBounds_toArray, List.set_cons_succ, List.set_cons_zero]
              clear HW
              go_wp2_with fail
              have fin := HK.out (undef) W (Below.refl _ _) rfl
              simp only [putAll, Act.put, List.setIfInBounds_toArray, List.set_cons_succ, List.set_cons_zero] at fin
              exact fin
            · rintro vs W K hc hvl hw hK
              obtain ⟨x0, x1, x2, x3, x4, x5, x6, x7, x8, x9, x10, x11, x12, x13, rfl⟩ := len14 hvl
              have HK := Lib.hid hK
              have HC := Lib.hid hc
              have HW := Lib.hid hw
              clear hK hc hw hvl
              obtain rfl : x4 = .bool true := box_get (HW.out ⟨4, .guard⟩ (by simp) rfl) rfl
              simp only [putAll, Act.put, List.setIfInBounds_toArray, List.set_cons_succ, List.set_cons_zero]
              clear HW
              go_wp2_with fail
              have fin := HK.out (undef) W (Below.refl _ _) rfl
              simp only [putAll, Act.put, List.setIfInBounds_toArray, List.set_cons_succ, List.set_cons_zero] at fin
              exact fin
            · rintro vs W K hc hvl hw hK
              obtain ⟨x0, x1, x2, x3, x4, x5, x6, x7, x8, x9, x10, x11, x12, x13, rfl⟩ := len14 hvl
              have HK := Lib.hid hK
              have HC := Lib.hid hc
              have HW := Lib.hid hw
              clear hK hc hw hvl
              obtain rfl : x4 = .bool true := box_get (HW.out ⟨4, .guard⟩ (by simp) rfl) rfl
              simp only [putAll, Act.put, List.setIfInBounds_toArray, List.set_cons_succ, List.set_cons_zero]
              clear HW
              go_wp2_with fail
              have fin := HK.out (undef) W (Below.refl _ _) rfl
              simp only [putAll, Act.put, List.setIfInBounds_toArray, List.set_cons_succ, List.set_cons_zero] at fin
              exact fin
            · rintro vs W K hc hvl hw hK
              obtain ⟨x0, x1, x2, x3, x4, x5, x6, x7, x8, x9, x10, x11, x12, x13, rfl⟩ := len14 hvl
              have HK := Lib.hid hK
              have HC := Lib.hid hc
              have HW := Lib.hid hw
              clear hK hc hw hvl
              obtain rfl : x8 = undef := box_get (HW.out ⟨8, .data⟩ (by simp) rfl) rfl
              obtain rfl : x9 = undef := box_get (HW.out ⟨9, .data⟩ (by simp) rfl) rfl
              obtain rfl : x4 = .bool true := box_get (HW.out ⟨4, .guard⟩ (by simp) rfl) rfl
              simp only [putAll, Act.put, List.setIfInBounds_toArray, List.set_cons_succ, List.set_cons_zero]
              clear HW
              go_wp2_with fail
              have fin := HK.out (undef) W (Below.refl _ _) rfl
              simp only [putAll, Act.put, List.setIfInBounds_toArray, List.set_cons_succ, List.set_cons_zero] at fin
              exact fin
            · rintro vs W K hc hvl hw hK
              obtain ⟨x0, x1, x2, x3, x4, x5, x6, x7, x8, x9, x10, x11, x12, x13, rfl⟩ := len14 hvl
              have HK := Lib.hid hK
              have HC := Lib.hid hc
              have HW := Lib.hid hw
              clear hK hc hw hvl
              obtain rfl : x7 = undef := box_get (HW.out ⟨7, .data⟩ (by simp) rfl) rfl
              obtain rfl : x10 = undef := box_get (HW.out ⟨10, .data⟩ (by simp) rfl) rfl
              obtain rfl : x4 = .bool true := box_get (HW.out ⟨4, .guard⟩ (by simp) rfl) rfl
              simp only [putAll, Act.put, List.setIfInBounds_toArray, List.set_cons_succ, List.set_cons_zero]
              clear HW
              go_wp2_with fail
              have fin := HK.out (undef) W (Below.refl _ _) rfl
              simp only [putAll, Act.put, List.setIfInBounds_toArray, List.set_cons_succ, List.set_cons_zero] at fin
              exact fin
            · rintro vs W K hc hvl hw hK
              obtain ⟨x0, x1, x2, x3, x4, x5, x6, x7, x8, x9, x10, x11, x12, x13, rfl⟩ := len14 hvl
              have HK := Lib.hid hK
              have HC := Lib.hid hc
              have HW := Lib.hid hw
              clear hK hc hw hvl
              obtain rfl : x11 = undef := box_get (HW.out ⟨11, .data⟩ (by simp) rfl) rfl
              obtain rfl : x4 = .bool true := box_get (HW.out ⟨4, .guard⟩ (by simp) rfl) rfl
              simp only [putAll, Act.put, List.setIfInBounds_toArray, List.set_cons_succ, List.set_cons_zero]
              clear HW
              go_wp2_with fail
              have fin := HK.out (undef) W (Below.refl _ _) rfl
              simp only [putAll, Act.put, List.setIfInBounds_toArray, List.set_cons_succ, List.set_cons_zero] at fin
              exact fin
            · rintro vs W K hc hvl hw hK
              obtain ⟨x0, x1, x2, x3, x4, x5, x6, x7, x8, x9, x10, x11, x12, x13, rfl⟩ := len14 hvl
              have HK := Lib.hid hK
              have HC := Lib.hid hc
              have HW := Lib.hid hw
              clear hK hc hw hvl
              obtain rfl : x4 = .bool true := box_get (HW.out ⟨4, .data⟩ (by simp) rfl) rfl
              obtain rfl : x12 = undef := box_get (HW.out ⟨12, .data⟩ (by simp) rfl) rfl
              simp only [putAll, Act.put, List.setIfInBounds_toArray, List.set_cons_succ, List.set_cons_zero]
              clear HW
              go_wp2_with fail
              have fin := HK.out (.bool true) W (Below.refl _ _) rfl
              simp only [putAll, Act.put, List.setIfInBounds_toArray, List.set_cons_succ, List.set_cons_zero] at fin
              exact fin
          case fin =>
            rintro vs W hJ
            obtain ⟨x0, x1, x2, x3, x4, x5, x6, x7, x8, x9, x10, x11, x12, x13, rfl⟩ := len14 hJ.ln
            obtain rfl : x13 = .bool true := box_get (hJ.val 13 rfl) rfl
            have HC := Lib.hid hJ.bl
            clear hJ
            simp only [putAll, Act.put, List.setIfInBounds_toArray, List.set_cons_succ, List.set_cons_zero]
            clear T1 M1 N1 W1
            go_wp2_with fail
            go_ret
            refine ⟨ret_bool ?_, Below.andThen (Below.andThen (Below.andThen (Below.andThen BA.out HB.out.2.2.2 (Nat.le_refl _)) BB.out (Nat.le_refl _)) HC4.out (Nat.le_refl _)) HC.out (Nat.le_refl _)⟩
            have h := HS1.out
            have h2 : ¬ m1 = 0 := by simpa using hm
            rw [decide_eq_false h2, Bool.false_and] at h
            rw [← h]; simp
        | false =>
          refine wp_region_box (by kernel_rfl) (by kernel_rfl) [28, 29, 30, 31, 32, 33, 34, 35, 36, 37, 38, 39, 40, 41] [(fun v => v = .agg #[.int .i64 c1, .int .i64 c2, .int .i64 c3, .int .i64 c4]), (fun v => v = .agg #[.int .i64 s1, .int .i64 t1]), (fun v => v = .int .i64 m1), (fun v => v = .bool false), (fun v => v = .bool false), (fun v => v = .agg #[.int .i64 s2, .int .i64 t2]), (fun v => v = .agg #[.int .i64 s1, .int .i64 t1]), (fun v => v = .agg #[.int .i64 (s2 - s1), .int .i64 (t2 - t1)]), (fun v => v = .agg #[.int .i64 s0, .int .i64 t0]), (fun v => v = .agg #[.int .i64 s1, .int .i64 t1]), (fun v => v = .agg #[.int .i64 (s0 - s1), .int .i64 (t0 - t1)]), (fun v => v = .int .i64 D1), (fun v => v = .bool E), (fun v => v = .bool E)] [none, none, none, none, none, none, none, none, none, none, none, none, none, none] [none, none, none, none, none, none, none, none, none, none, none, none, none, none] 14 rfl (by kernel_rfl) ?tr ⟨[u28, u29, u30, u31, u32, u33, u34, u35, u36, u37, u38, u39, u40, u41], by simp only [putAll, Act.put, List.setIfInBounds_toArray, List.set_cons_succ, List.set_cons_zero], rfl⟩ ?steps ?fin
          case tr =>
            rintro i v h
            rcases i with _ | _ | _ | _ | _ | _ | _ | _ | _ | _ | _ | _ | _ | _ | i
            all_goals first | trivial | (exfalso; rcases h with h | h <;> simp at h)
          case steps =>
            simp only [boxSteps, Nat.reduceAdd, Nat.zero_add, List.getD_cons_succ, List.getD_cons_zero]
            refine ⟨?_, ?_, ?_, ?_, ?_, ?_, ?_, ?_, ?_, ?_, ?_, ?_, ?_, ?_, trivial⟩
            · rintro vs W K hc hvl hw hK
              obtain ⟨x0, x1, x2, x3, x4, x5, x6, x7, x8, x9, x10, x11, x12, x13, rfl⟩ := len14 hvl
              have HK := Lib.hid hK
              have HC := Lib.hid hc
              have HW := Lib.hid hw
              clear hK hc hw hvl
              simp only [putAll, Act.put, List.setIfInBounds_toArray, List.set_cons_succ, List.set_cons_zero]
              have rr := RC4.out.below HC.out RC4.out.lt
              have d0 := rr.cell 0
              have d1 := rr.cell 1
              have d2 := rr.cell 2
              have d3 := rr.cell 3
              simp only [List.getElem?_cons_zero, List.getElem?_cons_succ] at d0 d1 d2 d3
              clear rr
              clear HW
              go_wp2_with fail
              have fin := HK.out (.agg #[.int .i64 c1, .int .i64 c2, .int .i64 c3, .int .i64 c4]) W (Below.refl _ _) rfl
              simp only [putAll, Act.put, List.setIfInBounds_toArray, List.set_cons_succ, List.set_cons_zero] at fin
              exact fin
            · rintro vs W K hc hvl hw hK
              obtain ⟨x0, x1, x2, x3, x4, x5, x6, x7, x8, x9, x10, x11, x12, x13, rfl⟩ := len14 hvl
              have HK := Lib.hid hK
              have HC := Lib.hid hc
              have HW := Lib.hid hw
              clear hK hc hw hvl
              simp only [putAll, Act.put, List.setIfInBounds_toArray, List.set_cons_succ, List.set_cons_zero]
              have rr := RB4.out.below HC.out RB4.out.lt
              have d0 := rr.cell 0
              have d1 := rr.cell 1
              simp only [List.getElem?_cons_zero, List.getElem?_cons_succ] at d0 d1
              clear rr
              clear HW
              go_wp2_with fail
              have fin := HK.out (.agg #[.int .i64 s1, .int .i64 t1]) W (Below.refl _ _) rfl
              simp only [putAll, Act.put, List.setIfInBounds_toArray, List.set_cons_succ, List.set_cons_zero] at fin
              exact fin
            · rintro vs W K hc hvl hw hK
              obtain ⟨x0, x1, x2, x3, x4, x5, x6, x7, x8, x9, x10, x11, x12, x13, rfl⟩ := len14 hvl
              have HK := Lib.hid hK
              have HC := Lib.hid hc
              have HW := Lib.hid hw
              clear hK hc hw hvl
              obtain rfl : x0 = .agg #[.int .i64 c1, .int .i64 c2, .int .i64 c3, .int .i64 c4] := box_get (HW.out ⟨0, .data⟩ (by simp) rfl) rfl
              obtain rfl : x1 = .agg #[.int .i64 s1, .int .i64 t1] := box_get (HW.out ⟨1, .data⟩ (by simp) rfl) rfl
              simp only [putAll, Act.put, List.setIfInBounds_toArray, List.set_cons_succ, List.set_cons_zero]
              clear HW
              go_wp2_with fail
              refine (W1.out W).mono ?_
              rintro e W' ⟨rfl, hb'⟩
              have HB' := Lib.hid hb'
              clear hb'
              go_wp2_with fail
              have fin := HK.out (.int .i64 m1) W' HB'.out rfl
              simp only [putAll, Act.put, List.setIfInBounds_toArray, List.set_cons_succ, List.set_cons_zero] at fin
              exact fin
            · rintro vs W K hc hvl hw hK
              obtain ⟨x0, x1, x2, x3, x4, x5, x6, x7, x8, x9, x10, x11, x12, x13, rfl⟩ := len14 hvl
              have HK := Lib.hid hK
              have HC := Lib.hid hc
              have HW := Lib.hid hw
              clear hK hc hw hvl
              obtain rfl : x2 = .int .i64 m1 := box_get (HW.out ⟨2, .data⟩ (by simp) rfl) rfl
              simp only [putAll, Act.put, List.setIfInBounds_toArray, List.set_cons_succ, List.set_cons_zero]
              clear HW
              go_wp2_with fail
              have fin := HK.out (.bool false) W (Below.refl _ _) rfl
              simp only [putAll, Act.put, List.setIfInBounds_toArray, List.set_cons_succ, List.set_cons_zero] at fin
              exact fin
            · rintro vs W K hc hvl hw hK
              obtain ⟨x0, x1, x2, x3, x4, x5, x6, x7, x8, x9, x10, x11, x12, x13, rfl⟩ := len14 hvl
              have HK := Lib.hid hK
              have HC := Lib.hid hc
              have HW := Lib.hid hw
              clear hK hc hw hvl
              obtain rfl : x3 = .bool false := box_get (HW.out ⟨3, .data⟩ (by simp) rfl) rfl
              simp only [putAll, Act.put, List.setIfInBounds_toArray, List.set_cons_succ, List.set_cons_zero]
              clear HW
              go_wp2_with fail
              have fin := HK.out (.bool false) W (Below.refl _ _) rfl
              simp only [putAll, Act.put, List.setIfInBounds_toArray, List.set_cons_succ, List.set_cons_zero] at fin
              exact fin
            · rintro vs W K hc hvl hw hK
              obtain ⟨x0, x1, x2, x3, x4, x5, x6, x7, x8, x9, x10, x11, x12, x13, rfl⟩ := len14 hvl
              have HK := Lib.hid hK
              have HC := Lib.hid hc
              have HW := Lib.hid hw
              clear hK hc hw hvl
              obtain rfl : x4 = .bool false := box_get (HW.out ⟨4, .guard⟩ (by simp) rfl) rfl
              simp only [putAll, Act.put, List.setIfInBounds_toArray, List.set_cons_succ, List.set_cons_zero]
              have rr := HR12.out.below HC.out HR12.out.lt
              have d0 := rr.cell 0
              have d1 := rr.cell 1
              simp only [List.getElem?_cons_zero, List.getElem?_cons_succ] at d0 d1
              clear rr
              clear HW
              go_wp2_with fail
              have fin := HK.out (.agg #[.int .i64 s2, .int .i64 t2]) W (Below.refl _ _) rfl
              simp only [putAll, Act.put, List.setIfInBounds_toArray, List.set_cons_succ, List.set_cons_zero] at fin
              exact fin
            · rintro vs W K hc hvl hw hK
              obtain ⟨x0, x1, x2, x3, x4, x5, x6, x7, x8, x9, x10, x11, x12, x13, rfl⟩ := len14 hvl
              have HK := Lib.hid hK
              have HC := Lib.hid hc
              have HW := Lib.hid hw
              clear hK hc hw hvl
              obtain rfl : x4 = .bool false := box_get (HW.out ⟨4, .guard⟩ (by simp) rfl) rfl
              simp only [putAll, Act.put, List.setIfInBounds_toArray, List.set_cons_succ, List.set_cons_zero]
              have rr := RB4.out.below HC.out RB4.out.lt
              have d0 := rr.cell 0
              have d1 := rr.cell 1
              simp only [List.getElem?_cons_zero, List.getElem?_cons_succ] at d0 d1
              clear rr
              clear HW
              go_wp2_with fail
              have fin := HK.out (.agg #[.int .i64 s1, .int .i64 t1]) W (Below.refl _ _) rfl
              simp only [putAll, Act.put, List.setIfInBounds_toArray, List.set_cons_succ, List.set_cons_zero] at fin
              exact fin
            · rintro vs W K hc hvl hw hK
              obtain ⟨x0, x1, x2, x3, x4, x5, x6, x7, x8, x9, x10, x11, x12, x13, rfl⟩ := len14 hvl
              have HK := Lib.hid hK
              have HC := Lib.hid hc
              have HW := Lib.hid hw
              clear hK hc hw hvl
              obtain rfl : x5 = .agg #[.int .i64 s2, .int .i64 t2] := box_get (HW.out ⟨5, .data⟩ (by simp) rfl) rfl
              obtain rfl : x6 = .agg #[.int .i64 s1, .int .i64 t1] := box_get (HW.out ⟨6, .data⟩ (by simp) rfl) rfl
              obtain rfl : x4 = .bool false := box_get (HW.out ⟨4, .guard⟩ (by simp) rfl) rfl
              simp only [putAll, Act.put, List.setIfInBounds_toArray, List.set_cons_succ, List.set_cons_zero]
              clear HW
              go_wp2_with fail
              refine (M1.out W).mono ?_
              rintro e W' ⟨rfl, hb'⟩
              have HB' := Lib.hid hb'
              clear hb'
              go_wp2_with fail
              have fin := HK.out (.agg #[.int .i64 (s2 - s1), .int .i64 (t2 - t1)]) W' HB'.out rfl
              simp only [putAll, Act.put, List.setIfInBounds_toArray, List.set_cons_succ, List.set_cons_zero] at fin
              exact fin
            · rintro vs W K hc hvl hw hK
              obtain ⟨x0, x1, x2, x3, x4, x5, x6, x7, x8, x9, x10, x11, x12, x13, rfl⟩ := len14 hvl
              have HK := Lib.hid hK
              have HC := Lib.hid hc
              have HW := Lib.hid hw
              clear hK hc hw hvl
              obtain rfl : x4 = .bool false := box_get (HW.out ⟨4, .guard⟩ (by simp) rfl) rfl
              simp only [putAll, Act.put, List.setIfInBounds_toArray, List.set_cons_succ, List.set_cons_zero]
              have rr := HR13.out.below HC.out HR13.out.lt
              have d0 := rr.cell 0
              have d1 := rr.cell 1
              simp only [List.getElem?_cons_zero, List.getElem?_cons_succ] at d0 d1
              clear rr
              clear HW
              go_wp2_with fail
              have fin := HK.out (.agg #[.int .i64 s0, .int .i64 t0]) W (Below.refl _ _) rfl
              simp only [putAll, Act.put, List.setIfInBounds_toArray, List.set_cons_succ, List.set_cons_zero] at fin
              exact fin
            · rintro vs W K hc hvl hw hK
              obtain ⟨x0, x1, x2, x3, x4, x5, x6, x7, x8, x9, x10, x11, x12, x13, rfl⟩ := len14 hvl
              have HK := Lib.hid hK
              have HC := Lib.hid hc
              have HW := Lib.hid hw
              clear hK hc hw hvl
              obtain rfl : x4 = .bool false := box_get (HW.out ⟨4, .guard⟩ (by simp) rfl) rfl
              simp only [putAll, Act.put, List.setIfInBounds_toArray, List.set_cons_succ, List.set_cons_zero]
              have rr := RB4.out.below HC.out RB4.out.lt
              have d0 := rr.cell 0
              have d1 := rr.cell 1
              simp only [List.getElem?_cons_zero, List.getElem?_cons_succ] at d0 d1
              clear rr
              clear HW
              go_wp2_with fail
              have fin := HK.out (.agg #[.int .i64 s1, .int .i64 t1]) W (Below.refl _ _) rfl
              simp only [putAll, Act.put, List.setIfInBounds_toArray, List.set_cons_succ, List.set_cons_zero] at fin
              exact fin
            · rintro vs W K hc hvl hw hK
              obtain ⟨x0, x1, x2, x3, x4, x5, x6, x7, x8, x9, x10, x11, x12, x13, rfl⟩ := len14 hvl
              have HK := Lib.hid hK
              have HC := Lib.hid hc
              have HW := Lib.hid hw
              clear hK hc hw hvl
              obtain rfl : x8 = .agg #[.int .i64 s0, .int .i64 t0] := box_get (HW.out ⟨8, .data⟩ (by simp) rfl) rfl
              obtain rfl : x9 = .agg #[.int .i64 s1, .int .i64 t1] := box_get (HW.out ⟨9, .data⟩ (by simp) rfl) rfl
              obtain rfl : x4 = .bool false := box_get (HW.out ⟨4, .guard⟩ (by simp) rfl) rfl
              simp only [putAll, Act.put, List.setIfInBounds_toArray, List.set_cons_succ, List.set_cons_zero]
              clear HW
              go_wp2_with fail
              refine (N1.out W).mono ?_
              rintro e W' ⟨rfl, hb'⟩
              have HB' := Lib.hid hb'
              clear hb'
              go_wp2_with fail
              have fin := HK.out (.agg #[.int .i64 (s0 - s1), .int .i64 (t0 - t1)]) W' HB'.out rfl
              simp only [putAll, Act.put, List.setIfInBounds_toArray, List.set_cons_succ, List.set_cons_zero] at fin
              exact fin
            · rintro vs W K hc hvl hw hK
              obtain ⟨x0, x1, x2, x3, x4, x5, x6, x7, x8, x9, x10, x11, x12, x13, rfl⟩ := len14 hvl
              have HK := Lib.hid hK
              have HC := Lib.hid hc
              have HW := Lib.hid hw
              clear hK hc hw hvl
              obtain rfl : x7 = .agg #[.int .i64 (s2 - s1), .int .i64 (t2 - t1)] := box_get (HW.out ⟨7, .data⟩ (by simp) rfl) rfl
              obtain rfl : x10 = .agg #[.int .i64 (s0 - s1), .int .i64 (t0 - t1)] := box_get (HW.out ⟨10, .data⟩ (by simp) rfl) rfl
              obtain rfl : x4 = .bool false := box_get (HW.out ⟨4, .guard⟩ (by simp) rfl) rfl
              simp only [putAll, Act.put, List.setIfInBounds_toArray, List.set_cons_succ, List.set_cons_zero]
              clear HW
              go_wp2_with fail
              refine (T1.out W).mono ?_
              rintro e W' ⟨rfl, hb'⟩
              have HB' := Lib.hid hb'
              clear hb'
              go_wp2_with fail
              have fin := HK.out (.int .i64 D1) W' HB'.out rfl
              simp only [putAll, Act.put, List.setIfInBounds_toArray, List.set_cons_succ, List.set_cons_zero] at fin
              exact fin
            · rintro vs W K hc hvl hw hK
              obtain ⟨x0, x1, x2, x3, x4, x5, x6, x7, x8, x9, x10, x11, x12, x13, rfl⟩ := len14 hvl
              have HK := Lib.hid hK
              have HC := Lib.hid hc
              have HW := Lib.hid hw
              clear hK hc hw hvl
              obtain rfl : x11 = .int .i64 D1 := box_get (HW.out ⟨11, .data⟩ (by simp) rfl) rfl
              obtain rfl : x4 = .bool false := box_get (HW.out ⟨4, .guard⟩ (by simp) rfl) rfl
              simp only [putAll, Act.put, List.setIfInBounds_toArray, List.set_cons_succ, List.set_cons_zero]
              have hE := HE.out
              clear HW
              go_wp2_with fail
              have fin := HK.out (.bool E) W (Below.refl _ _) rfl
              simp only [putAll, Act.put, List.setIfInBounds_toArray, List.set_cons_succ, List.set_cons_zero] at fin
              exact fin
            · rintro vs W K hc hvl hw hK
              obtain ⟨x0, x1, x2, x3, x4, x5, x6, x7, x8, x9, x10, x11, x12, x13, rfl⟩ := len14 hvl
              have HK := Lib.hid hK
              have HC := Lib.hid hc
              have HW := Lib.hid hw
              clear hK hc hw hvl
              obtain rfl : x4 = .bool false := box_get (HW.out ⟨4, .data⟩ (by simp) rfl) rfl
              obtain rfl : x12 = .bool E := box_get (HW.out ⟨12, .data⟩ (by simp) rfl) rfl
              simp only [putAll, Act.put, List.setIfInBounds_toArray, List.set_cons_succ, List.set_cons_zero]
              clear HW
              go_wp2_with fail
              have fin := HK.out (.bool E) W (Below.refl _ _) rfl
              simp only [putAll, Act.put, List.setIfInBounds_toArray, List.set_cons_succ, List.set_cons_zero] at fin
              exact fin
          case fin =>
            rintro vs W hJ
            obtain ⟨x0, x1, x2, x3, x4, x5, x6, x7, x8, x9, x10, x11, x12, x13, rfl⟩ := len14 hJ.ln
            obtain rfl : x13 = .bool E := box_get (hJ.val 13 rfl) rfl
            have HC := Lib.hid hJ.bl
            clear hJ
            simp only [putAll, Act.put, List.setIfInBounds_toArray, List.set_cons_succ, List.set_cons_zero]
            clear T1 M1 N1 W1
            cases E with
            | true =>
              go_wp2_with fail
              go_ret
              refine ⟨ret_bool ?_, Below.andThen (Below.andThen (Below.andThen (Below.andThen BA.out HB.out.2.2.2 (Nat.le_refl _)) BB.out (Nat.le_refl _)) HC4.out (Nat.le_refl _)) HC.out (Nat.le_refl _)⟩
              have h := HS1.out
              have h2 : ¬ 0 < D1 := by have := of_decide_eq_true HE.out; omega
              rw [decide_eq_false h2, Bool.and_false] at h
              rw [← h]; simp
            | false =>
              have HN := Lib.hid (show S1 = true by
                rw [← HS1.out]
                have h2 : m1 = 0 := by simpa using hm
                have h3 := of_decide_eq_false HE.out
                rw [decide_eq_true h2, Bool.true_and]
                exact decide_eq_true (by omega))
              go_wp2_with fail
              exact ⟨⟨2, by omega, rfl, Lib.hid ⟨fun _ => HB.out.1 (by omega), fun _ => HN.out, by omega, Below.andThen (Below.andThen (Below.andThen HB.out.2.2.2 BB.out (Nat.le_refl _)) HC4.out (Nat.le_refl _)) HC.out (Nat.le_refl _)⟩⟩, by simp [intOf]⟩
    · go_wp2_with fail
      have rB := Row.new wr 28 [.int .i64 s2, .int .i64 t2]
      have bB := Below.al (Below.refl wr.heap.size wr) (Nat.le_refl _) (.cells #[.int .i64 s2, .int .i64 t2] 28)
      have RB := Lib.hid rB
      have BB := Lib.hid bB
      have RC3 := Lib.hid (RC2.out.below bB RC2.out.lt)
      have RG3 := Lib.hid (RG2.out.below bB RG2.out.lt)
      clear rB bB k0 k1 k2 k3 k4 k5
      obtain ⟨U, hU⟩ : ∃ V, V = wr.alloc (.cells #[.int .i64 s2, .int .i64 t2] 28) := ⟨_, rfl⟩
      rw [← hU] at RB BB RC3 RG3 ⊢
      clear hU
      refine wp_region_box (by kernel_rfl) (by kernel_rfl) [16, 17, 18, 19, 20, 21, 22, 23, 24, 25, 26, 27, 7, 8, 1000, 1001] [(fun v => v = .slice (some ⟨g, 0, none⟩) 3 3), (fun v => v = .int .i64 2), (fun v => v = .int .i64 3), (fun v => v = .int .i64 0), (fun v => v = .pointer (some ⟨g, 0, none⟩)), (fun v => v = .agg #[.int .i64 s0, .int .i64 t0]), (fun v => v = .slice (some ⟨g, 0, none⟩) 3 3), (fun v => v = .int .i64 2), (fun v => v = .int .i64 4), (fun v => v = .int .i64 1), (fun v => v = .pointer (some ⟨g, 2, none⟩)), (fun v => v = .agg #[.int .i64 s1, .int .i64 t1]), (fun _ => True), (fun _ => True), (fun _ => True), (fun _ => True)] [none, none, none, none, none, none, none, none, none, none, none, none, some (28, [.int .i64 0, .int .i64 0], [.int .i64 s0, .int .i64 t0]), some (28, [.int .i64 0, .int .i64 0], [.int .i64 s1, .int .i64 t1]), none, none] [none, none, none, none, none, none, none, none, none, none, none, none, none, none, some 12, some 13] 16 rfl (by kernel_rfl) ?tr ⟨[u16, u17, u18, u19, u20, u21, u22, u23, u24, u25, u26, u27, u7, u8, undef, undef], by simp only [putAll, Act.put, List.setIfInBounds_toArray, List.set_cons_succ, List.set_cons_zero, List.set_nil], rfl⟩ ?steps ?fin
      case tr =>
        rintro i v h
        rcases i with _ | _ | _ | _ | _ | _ | _ | _ | _ | _ | _ | _ | _ | _ | _ | _ | i
        all_goals first | trivial | (exfalso; rcases h with h | h <;> simp at h)
      case steps =>
        simp only [boxSteps, Nat.reduceAdd, Nat.zero_add, List.getD_cons_succ, List.getD_cons_zero]
        refine ⟨?_, ?_, ?_, ?_, ?_, ?_, ?_, ?_, ?_, ?_, ?_, ?_, ?_, ?_, ?_, ?_, trivial⟩
        · rintro vs W K hc hvl hw hK
          obtain ⟨x0, x1, x2, x3, x4, x5, x6, x7, x8, x9, x10, x11, x12, x13, x14, x15, rfl⟩ := len16 hvl
          have HK := Lib.hid hK
          have HC := Lib.hid hc
          have HW := Lib.hid hw
          clear hK hc hw hvl
          simp only [putAll, Act.put, List.setIfInBounds_toArray, List.set_cons_succ, List.set_cons_zero, List.set_nil]
          clear HW
          go_wp2_with fail
          have fin := HK.out (.slice (some ⟨g, 0, none⟩) 3 3) W (Below.refl _ _) rfl
          simp only [putAll, Act.put, List.setIfInBounds_toArray, List.set_cons_succ, List.set_cons_zero, List.set_nil] at fin
          exact fin
        · rintro vs W K hc hvl hw hK
          obtain ⟨x0, x1, x2, x3, x4, x5, x6, x7, x8, x9, x10, x11, x12, x13, x14, x15, rfl⟩ := len16 hvl
          have HK := Lib.hid hK
          have HC := Lib.hid hc
          have HW := Lib.hid hw
          clear hK hc hw hvl
          simp only [putAll, Act.put, List.setIfInBounds_toArray, List.set_cons_succ, List.set_cons_zero, List.set_nil]
          clear HW
          go_wp2_with fail
          have fin := HK.out (.int .i64 2) W (Below.refl _ _) rfl
          simp only [putAll, Act.put, List.setIfInBounds_toArray, List.set_cons_succ, List.set_cons_zero, List.set_nil] at fin
          exact fin
        · rintro vs W K hc hvl hw hK
          obtain ⟨x0, x1, x2, x3, x4, x5, x6, x7, x8, x9, x10, x11, x12, x13, x14, x15, rfl⟩ := len16 hvl
          have HK := Lib.hid hK
          have HC := Lib.hid hc
          have HW := Lib.hid hw
          clear hK hc hw hvl
          obtain rfl : x1 = .int .i64 2 := box_get (HW.out ⟨1, .data⟩ (by simp) rfl) rfl
          simp only [putAll, Act.put, List.setIfInBounds_toArray, List.set_cons_succ, List.set_cons_zero, List.set_nil]
          clear HW
          go_wp2_with fail
          have fin := HK.out (.int .i64 3) W (Below.refl _ _) rfl
          simp only [putAll, Act.put, List.setIfInBounds_toArray, List.set_cons_succ, List.set_cons_zero, List.set_nil] at fin
          exact fin
        · rintro vs W K hc hvl hw hK
          obtain ⟨x0, x1, x2, x3, x4, x5, x6, x7, x8, x9, x10, x11, x12, x13, x14, x15, rfl⟩ := len16 hvl
          have HK := Lib.hid hK
          have HC := Lib.hid hc
          have HW := Lib.hid hw
          clear hK hc hw hvl
          obtain rfl : x2 = .int .i64 3 := box_get (HW.out ⟨2, .data⟩ (by simp) rfl) rfl
          simp only [putAll, Act.put, List.setIfInBounds_toArray, List.set_cons_succ, List.set_cons_zero, List.set_nil]
          clear HW
          go_wp2_with fail
          have fin := HK.out (.int .i64 0) W (Below.refl _ _) rfl
          simp only [putAll, Act.put, List.setIfInBounds_toArray, List.set_cons_succ, List.set_cons_zero, List.set_nil] at fin
          exact fin
        · rintro vs W K hc hvl hw hK
          obtain ⟨x0, x1, x2, x3, x4, x5, x6, x7, x8, x9, x10, x11, x12, x13, x14, x15, rfl⟩ := len16 hvl
          have HK := Lib.hid hK
          have HC := Lib.hid hc
          have HW := Lib.hid hw
          clear hK hc hw hvl
          obtain rfl : x0 = .slice (some ⟨g, 0, none⟩) 3 3 := box_get (HW.out ⟨0, .data⟩ (by simp) rfl) rfl
          obtain rfl : x3 = .int .i64 0 := box_get (HW.out ⟨3, .data⟩ (by simp) rfl) rfl
          simp only [putAll, Act.put, List.setIfInBounds_toArray, List.set_cons_succ, List.set_cons_zero, List.set_nil]
          clear HW
          go_wp2_with fail
          have fin := HK.out (.pointer (some ⟨g, 0, none⟩)) W (Below.refl _ _) rfl
          simp only [putAll, Act.put, List.setIfInBounds_toArray, List.set_cons_succ, List.set_cons_zero, List.set_nil] at fin
          exact fin
        · rintro vs W K hc hvl hw hK
          obtain ⟨x0, x1, x2, x3, x4, x5, x6, x7, x8, x9, x10, x11, x12, x13, x14, x15, rfl⟩ := len16 hvl
          have HK := Lib.hid hK
          have HC := Lib.hid hc
          have HW := Lib.hid hw
          clear hK hc hw hvl
          obtain rfl : x4 = .pointer (some ⟨g, 0, none⟩) := box_get (HW.out ⟨4, .data⟩ (by simp) rfl) rfl
          simp only [putAll, Act.put, List.setIfInBounds_toArray, List.set_cons_succ, List.set_cons_zero, List.set_nil]
          have rr := RG3.out.below HC.out RG3.out.lt
          have d0 := rr.cell 0
          have d1 := rr.cell 1
          simp only [List.getElem?_cons_zero, List.getElem?_cons_succ] at d0 d1
          clear rr
          clear HW
          go_wp2_with fail
          have fin := HK.out (.agg #[.int .i64 s0, .int .i64 t0]) W (Below.refl _ _) rfl
          simp only [putAll, Act.put, List.setIfInBounds_toArray, List.set_cons_succ, List.set_cons_zero, List.set_nil] at fin
          exact fin
        · rintro vs W K hc hvl hw hK
          obtain ⟨x0, x1, x2, x3, x4, x5, x6, x7, x8, x9, x10, x11, x12, x13, x14, x15, rfl⟩ := len16 hvl
          have HK := Lib.hid hK
          have HC := Lib.hid hc
          have HW := Lib.hid hw
          clear hK hc hw hvl
          simp only [putAll, Act.put, List.setIfInBounds_toArray, List.set_cons_succ, List.set_cons_zero, List.set_nil]
          clear HW
          go_wp2_with fail
          have fin := HK.out (.slice (some ⟨g, 0, none⟩) 3 3) W (Below.refl _ _) rfl
          simp only [putAll, Act.put, List.setIfInBounds_toArray, List.set_cons_succ, List.set_cons_zero, List.set_nil] at fin
          exact fin
        · rintro vs W K hc hvl hw hK
          obtain ⟨x0, x1, x2, x3, x4, x5, x6, x7, x8, x9, x10, x11, x12, x13, x14, x15, rfl⟩ := len16 hvl
          have HK := Lib.hid hK
          have HC := Lib.hid hc
          have HW := Lib.hid hw
          clear hK hc hw hvl
          simp only [putAll, Act.put, List.setIfInBounds_toArray, List.set_cons_succ, List.set_cons_zero, List.set_nil]
          clear HW
          go_wp2_with fail
          have fin := HK.out (.int .i64 2) W (Below.refl _ _) rfl
          simp only [putAll, Act.put, List.setIfInBounds_toArray, List.set_cons_succ, List.set_cons_zero, List.set_nil] at fin
          exact fin
        · rintro vs W K hc hvl hw hK
          obtain ⟨x0, x1, x2, x3, x4, x5, x6, x7, x8, x9, x10, x11, x12, x13, x14, x15, rfl⟩ := len16 hvl
          have HK := Lib.hid hK
          have HC := Lib.hid hc
          have HW := Lib.hid hw
          clear hK hc hw hvl
          obtain rfl : x7 = .int .i64 2 := box_get (HW.out ⟨7, .data⟩ (by simp) rfl) rfl
          simp only [putAll, Act.put, List.setIfInBounds_toArray, List.set_cons_succ, List.set_cons_zero, List.set_nil]
          clear HW
          go_wp2_with fail
          have fin := HK.out (.int .i64 4) W (Below.refl _ _) rfl
          simp only [putAll, Act.put, List.setIfInBounds_toArray, List.set_cons_succ, List.set_cons_zero, List.set_nil] at fin
          exact fin
        · rintro vs W K hc hvl hw hK
          obtain ⟨x0, x1, x2, x3, x4, x5, x6, x7, x8, x9, x10, x11, x12, x13, x14, x15, rfl⟩ := len16 hvl
          have HK := Lib.hid hK
          have HC := Lib.hid hc
          have HW := Lib.hid hw
          clear hK hc hw hvl
          obtain rfl : x8 = .int .i64 4 := box_get (HW.out ⟨8, .data⟩ (by simp) rfl) rfl
          simp only [putAll, Act.put, List.setIfInBounds_toArray, List.set_cons_succ, List.set_cons_zero, List.set_nil]
          clear HW
          go_wp2_with fail
          have fin := HK.out (.int .i64 1) W (Below.refl _ _) rfl
          simp only [putAll, Act.put, List.setIfInBounds_toArray, List.set_cons_succ, List.set_cons_zero, List.set_nil] at fin
          exact fin
        · rintro vs W K hc hvl hw hK
          obtain ⟨x0, x1, x2, x3, x4, x5, x6, x7, x8, x9, x10, x11, x12, x13, x14, x15, rfl⟩ := len16 hvl
          have HK := Lib.hid hK
          have HC := Lib.hid hc
          have HW := Lib.hid hw
          clear hK hc hw hvl
          obtain rfl : x6 = .slice (some ⟨g, 0, none⟩) 3 3 := box_get (HW.out ⟨6, .data⟩ (by simp) rfl) rfl
          obtain rfl : x9 = .int .i64 1 := box_get (HW.out ⟨9, .data⟩ (by simp) rfl) rfl
          simp only [putAll, Act.put, List.setIfInBounds_toArray, List.set_cons_succ, List.set_cons_zero, List.set_nil]
          clear HW
          go_wp2_with fail
          have fin := HK.out (.pointer (some ⟨g, 2, none⟩)) W (Below.refl _ _) rfl
          simp only [putAll, Act.put, List.setIfInBounds_toArray, List.set_cons_succ, List.set_cons_zero, List.set_nil] at fin
          exact fin
        · rintro vs W K hc hvl hw hK
          obtain ⟨x0, x1, x2, x3, x4, x5, x6, x7, x8, x9, x10, x11, x12, x13, x14, x15, rfl⟩ := len16 hvl
          have HK := Lib.hid hK
          have HC := Lib.hid hc
          have HW := Lib.hid hw
          clear hK hc hw hvl
          obtain rfl : x10 = .pointer (some ⟨g, 2, none⟩) := box_get (HW.out ⟨10, .data⟩ (by simp) rfl) rfl
          simp only [putAll, Act.put, List.setIfInBounds_toArray, List.set_cons_succ, List.set_cons_zero, List.set_nil]
          have rr := RG3.out.below HC.out RG3.out.lt
          have d2 := rr.cell 2
          have d3 := rr.cell 3
          simp only [List.getElem?_cons_zero, List.getElem?_cons_succ] at d2 d3
          clear rr
          clear HW
          go_wp2_with fail
          have fin := HK.out (.agg #[.int .i64 s1, .int .i64 t1]) W (Below.refl _ _) rfl
          simp only [putAll, Act.put, List.setIfInBounds_toArray, List.set_cons_succ, List.set_cons_zero, List.set_nil] at fin
          exact fin
        · rintro vs W K hc hvl hw hK
          obtain ⟨x0, x1, x2, x3, x4, x5, x6, x7, x8, x9, x10, x11, x12, x13, x14, x15, rfl⟩ := len16 hvl
          have HK := Lib.hid hK
          have HC := Lib.hid hc
          have HW := Lib.hid hw
          clear hK hc hw hvl
          simp only [putAll, Act.put, List.setIfInBounds_toArray, List.set_cons_succ, List.set_cons_zero, List.set_nil]
          clear HW
          go_wp2_with fail
          have fin := HK.out
          simp only [putAll, Act.put, List.setIfInBounds_toArray, List.set_cons_succ, List.set_cons_zero, List.set_nil] at fin
          exact fin
        · rintro vs W K hc hvl hw hK
          obtain ⟨x0, x1, x2, x3, x4, x5, x6, x7, x8, x9, x10, x11, x12, x13, x14, x15, rfl⟩ := len16 hvl
          have HK := Lib.hid hK
          have HC := Lib.hid hc
          have HW := Lib.hid hw
          clear hK hc hw hvl
          simp only [putAll, Act.put, List.setIfInBounds_toArray, List.set_cons_succ, List.set_cons_zero, List.set_nil]
          clear HW
          go_wp2_with fail
          have fin := HK.out
          simp only [putAll, Act.put, List.setIfInBounds_toArray, List.set_cons_succ, List.set_cons_zero, List.set_nil] at fin
          exact fin
        · rintro vs W K hc hvl hw b E z f hia hva hb0 hr hK
          cases hia
          obtain ⟨x0, x1, x2, x3, x4, x5, x6, x7, x8, x9, x10, x11, x12, x13, x14, x15, rfl⟩ := len16 hvl
          have HK := Lib.hid hK
          have HC := Lib.hid hc
          have HW := Lib.hid hw
          clear hK hc hw hvl
          obtain rfl : x5 = .agg #[.int .i64 s0, .int .i64 t0] := box_get (HW.out ⟨5, .data⟩ (by simp) rfl) rfl
          obtain rfl : x12 = .pointer (some ⟨b, 0, none⟩) := Option.some.inj hva
          simp only [putAll, Act.put, List.setIfInBounds_toArray, List.set_cons_succ, List.set_cons_zero, List.set_nil]
          have kf0 := frozen_of_row W b 0 _ _ hr
          have kc0 : W.cell? ⟨b, 0, none⟩ = some (.int .i64 0) := hr.cell 0
          have kf1 := frozen_of_row W b 1 _ _ hr
          have kc1 : W.cell? ⟨b, 1, none⟩ = some (.int .i64 0) := hr.cell 1
          have HRW := Lib.hid hr
          clear HW hr hva
          go_wp2_with fail
          have fin := HK.out _ (show Row _ b 28 [.int .i64 s0, .int .i64 t0] from by simpa using (show Row _ b 28 _ from ((HRW.out.set 0 (.int .i64 s0)).set 1 (.int .i64 t0)))) (grown_put (grown_put (grown_self W _)))
          simp only [putAll, Act.put, List.setIfInBounds_toArray, List.set_cons_succ, List.set_cons_zero, List.set_nil] at fin
          exact fin
        · rintro vs W K hc hvl hw b E z f hia hva hb0 hr hK
          cases hia
          obtain ⟨x0, x1, x2, x3, x4, x5, x6, x7, x8, x9, x10, x11, x12, x13, x14, x15, rfl⟩ := len16 hvl
          have HK := Lib.hid hK
          have HC := Lib.hid hc
          have HW := Lib.hid hw
          clear hK hc hw hvl
          obtain rfl : x11 = .agg #[.int .i64 s1, .int .i64 t1] := box_get (HW.out ⟨11, .data⟩ (by simp) rfl) rfl
          obtain rfl : x13 = .pointer (some ⟨b, 0, none⟩) := Option.some.inj hva
          simp only [putAll, Act.put, List.setIfInBounds_toArray, List.set_cons_succ, List.set_cons_zero, List.set_nil]
          have kf0 := frozen_of_row W b 0 _ _ hr
          have kc0 : W.cell? ⟨b, 0, none⟩ = some (.int .i64 0) := hr.cell 0
          have kf1 := frozen_of_row W b 1 _ _ hr
          have kc1 : W.cell? ⟨b, 1, none⟩ = some (.int .i64 0) := hr.cell 1
          have HRW := Lib.hid hr
          clear HW hr hva
          go_wp2_with fail
          have fin := HK.out _ (show Row _ b 28 [.int .i64 s1, .int .i64 t1] from by simpa using (show Row _ b 28 _ from ((HRW.out.set 0 (.int .i64 s1)).set 1 (.int .i64 t1)))) (grown_put (grown_put (grown_self W _)))
          simp only [putAll, Act.put, List.setIfInBounds_toArray, List.set_cons_succ, List.set_cons_zero, List.set_nil] at fin
          exact fin
      case fin =>
        rintro vs W hJ
        obtain ⟨x0, x1, x2, x3, x4, x5, x6, x7, x8, x9, x10, x11, x12, x13, x14, x15, rfl⟩ := len16 hJ.ln
        obtain rfl : x0 = .slice (some ⟨g, 0, none⟩) 3 3 := box_get (hJ.val 0 rfl) rfl
        obtain rfl : x1 = .int .i64 2 := box_get (hJ.val 1 rfl) rfl
        obtain rfl : x2 = .int .i64 3 := box_get (hJ.val 2 rfl) rfl
        obtain rfl : x3 = .int .i64 0 := box_get (hJ.val 3 rfl) rfl
        obtain rfl : x4 = .pointer (some ⟨g, 0, none⟩) := box_get (hJ.val 4 rfl) rfl
        obtain rfl : x5 = .agg #[.int .i64 s0, .int .i64 t0] := box_get (hJ.val 5 rfl) rfl
        obtain rfl : x6 = .slice (some ⟨g, 0, none⟩) 3 3 := box_get (hJ.val 6 rfl) rfl
        obtain rfl : x7 = .int .i64 2 := box_get (hJ.val 7 rfl) rfl
        obtain rfl : x8 = .int .i64 4 := box_get (hJ.val 8 rfl) rfl
        obtain rfl : x9 = .int .i64 1 := box_get (hJ.val 9 rfl) rfl
        obtain rfl : x10 = .pointer (some ⟨g, 2, none⟩) := box_get (hJ.val 10 rfl) rfl
        obtain rfl : x11 = .agg #[.int .i64 s1, .int .i64 t1] := box_get (hJ.val 11 rfl) rfl
        obtain ⟨b12, e12, hb12, hr12⟩ := hJ.box 12 _ _ _ rfl rfl
        obtain rfl : x12 = .pointer (some ⟨b12, 0, none⟩) := Option.some.inj e12
        replace hr12 : Row W b12 28 [.int .i64 s0, .int .i64 t0] := hr12
        have HR12 := Lib.hid hr12
        clear e12 hr12
        obtain ⟨b13, e13, hb13, hr13⟩ := hJ.box 13 _ _ _ rfl rfl
        obtain rfl : x13 = .pointer (some ⟨b13, 0, none⟩) := Option.some.inj e13
        replace hr13 : Row W b13 28 [.int .i64 s1, .int .i64 t1] := hr13
        have HR13 := Lib.hid hr13
        clear e13 hr13
        have HC := Lib.hid hJ.bl
        clear hJ
        simp only [putAll, Act.put, List.setIfInBounds_toArray, List.set_cons_succ, List.set_cons_zero, List.set_nil]
        have HC4 := HC
        clear HC
        have RC4 := Lib.hid (RC3.out.below HC4.out RC3.out.lt)
        have RB4 := Lib.hid (RB.out.below HC4.out RB.out.lt)
        clear RC3 RG3 RC2 RG2
        go_wp2_with fail
        obtain ⟨E, hE⟩ : ∃ E, decide (D2 ≤ 0) = E := ⟨_, rfl⟩
        have HE := Lib.hid hE
        clear hE
        cases hm : (m2 != 0) with
        | true =>
          refine wp_region_box (by kernel_rfl) (by kernel_rfl) [28, 29, 30, 31, 32, 33, 34, 35, 36, 37, 38, 39, 40, 41] [(fun v => v = .agg #[.int .i64 c1, .int .i64 c2, .int .i64 c3, .int .i64 c4]), (fun v => v = .agg #[.int .i64 s2, .int .i64 t2]), (fun v => v = .int .i64 m2), (fun v => v = .bool true), (fun v => v = .bool true), (fun v => v = undef), (fun v => v = undef), (fun v => v = undef), (fun v => v = undef), (fun v => v = undef), (fun v => v = undef), (fun v => v = undef), (fun v => v = undef), (fun v => v = .bool true)] [none, none, none, none, none, none, none, none, none, none, none, none, none, none] [none, none, none, none, none, none, none, none, none, none, none, none, none, none] 14 rfl (by kernel_rfl) ?tr ⟨[u28, u29, u30, u31, u32, u33, u34, u35, u36, u37, u38, u39, u40, u41], by simp only [putAll, Act.put, List.setIfInBounds_toArray, List.set_cons_succ, List.set_cons_zero], rfl⟩ ?steps ?fin
          case tr =>
            rintro i v h
            rcases i with _ | _ | _ | _ | _ | _ | _ | _ | _ | _ | _ | _ | _ | _ | i
            all_goals first | trivial | (exfalso; rcases h with h | h <;> simp at h)
          case steps =>
            simp only [boxSteps, Nat.reduceAdd, Nat.zero_add, List.getD_cons_succ, List.getD_cons_zero]
            refine ⟨?_, ?_, ?_, ?_, ?_, ?_, ?_, ?_, ?_, ?_, ?_, ?_, ?_, ?_, trivial⟩
            · rintro vs W K hc hvl hw hK
              obtain ⟨x0, x1, x2, x3, x4, x5, x6, x7, x8, x9, x10, x11, x12, x13, rfl⟩ := len14 hvl
              have HK := Lib.hid hK
              have HC := Lib.hid hc
              have HW := Lib.hid hw
              clear hK hc hw hvl
              simp only [putAll, Act.put, List.setIfInBounds_toArray, List.set_cons_succ, List.set_cons_zero]
              have rr := RC4.out.below HC.out RC4.out.lt
              have d0 := rr.cell 0
              have d1 := rr.cell 1
              have d2 := rr.cell 2
              have d3 := rr.cell 3
              simp only [List.getElem?_cons_zero, List.getElem?_cons_succ] at d0 d1 d2 d3
              clear rr
              clear HW
              go_wp2_with fail
              have fin := HK.out (.agg #[.int .i64 c1, .int .i64 c2, .int .i64 c3, .int .i64 c4]) W (Below.refl _ _) rfl
              simp only [putAll, Act.put, List.setIfInBounds_toArray, List.set_cons_succ, List.set_cons_zero] at fin
              exact fin
            · rintro vs W K hc hvl hw hK
              obtain ⟨x0, x1, x2, x3, x4, x5, x6, x7, x8, x9, x10, x11, x12, x13, rfl⟩ := len14 hvl
              have HK := Lib.hid hK
              have HC := Lib.hid hc
              have HW := Lib.hid hw
              clear hK hc hw hvl
              simp only [putAll, Act.put, List.setIfInBounds_toArray, List.set_cons_succ, List.set_cons_zero]
              have rr := RB4.out.below HC.out RB4.out.lt
              have d0 := rr.cell 0
              have d1 := rr.cell 1
              simp only [List.getElem?_cons_zero, List.getElem?_cons_succ] at d0 d1
              clear rr
              clear HW
              go_wp2_with fail
              have fin := HK.out (.agg #[.int .i64 s2, .int .i64 t2]) W (Below.refl _ _) rfl
              simp only [putAll, Act.put, List.setIfInBounds_toArray, List.set_cons_succ, List.set_cons_zero] at fin
              exact fin
            · rintro vs W K hc hvl hw hK
              obtain ⟨x0, x1, x2, x3, x4, x5, x6, x7, x8, x9, x10, x11, x12, x13, rfl⟩ := len14 hvl
              have HK := Lib.hid hK
              have HC := Lib.hid hc
              have HW := Lib.hid hw
              clear hK hc hw hvl
              obtain rfl : x0 = .agg #[.int .i64 c1, .int .i64 c2, .int .i64 c3, .int .i64 c4] := box_get (HW.out ⟨0, .data⟩ (by simp) rfl) rfl
              obtain rfl : x1 = .agg #[.int .i64 s2, .int .i64 t2] := box_get (HW.out ⟨1, .data⟩ (by simp) rfl) rfl
              simp only [putAll, Act.put, List.setIfInBounds_toArray, List.set_cons_succ, List.set_cons_zero]
              clear HW
              go_wp2_with fail
              refine (W2.out W).mono ?_
              rintro e W' ⟨rfl, hb'⟩
              have HB' := Lib.hid hb'
              clear hb'
              go_wp2_with fail
              have fin := HK.out (.int .i64 m2) W' HB'.out rfl
              simp only [putAll, Act.put, List.setIfInBounds_toArray, List.set_cons_succ, List.set_cons_zero] at fin
              exact fin
            · rintro vs W K hc hvl hw hK
              obtain ⟨x0, x1, x2, x3, x4, x5, x6, x7, x8, x9, x10, x11, x12, x13, rfl⟩ := len14 hvl
              have HK := Lib.hid hK
              have HC := Lib.hid hc
              have HW := Lib.hid hw
              clear hK hc hw hvl
              obtain rfl : x2 = .int .i64 m2 := box_get (HW.out ⟨2, .data⟩ (by simp) rfl) rfl
              simp only [putAll, Act.put, List.setIfInBounds_toArray, List.set_cons_succ, List.set_cons_zero]
              clear HW
              go_wp2_with fail
              have fin := HK.out (.bool true) W (Below.refl _ _) rfl
              simp only [putAll, Act.put, List.setIfInBounds_toArray, List.set_cons_succ, List.set_cons_zero] at fin
              exact fin
            · rintro vs W K hc hvl hw hK
              obtain ⟨x0, x1, x2, x3, x4, x5, x6, x7, x8, x9, x10, x11, x12, x13, rfl⟩ := len14 hvl
              have HK := Lib.hid hK
              have HC := Lib.hid hc
              have HW := Lib.hid hw
              clear hK hc hw hvl
              obtain rfl : x3 = .bool true := box_get (HW.out ⟨3, .data⟩ (by simp) rfl) rfl
              simp only [putAll, Act.put, List.setIfInBounds_toArray, List.set_cons_succ, List.set_cons_zero]
              clear HW
              go_wp2_with fail
              have fin := HK.out (.bool true) W (Below.refl _ _) rfl
              simp only [putAll, Act.put, List.setIfInBounds_toArray, List.set_cons_succ, List.set_cons_zero] at fin
              exact fin
            · rintro vs W K hc hvl hw hK
              obtain ⟨x0, x1, x2, x3, x4, x5, x6, x7, x8, x9, x10, x11, x12, x13, rfl⟩ := len14 hvl
              have HK := Lib.hid hK
              have HC := Lib.hid hc
              have HW := Lib.hid hw
              clear hK hc hw hvl
              obtain rfl : x4 = .bool true := box_get (HW.out ⟨4, .guard⟩ (by simp) rfl) rfl
              simp only [putAll, Act.put, List.setIfInBounds_toArray, List.set_cons_succ, List.set_cons_zero]
              clear HW
              go_wp2_with fail
              have fin := HK.out (undef) W (Below.refl _ _) rfl
              simp only [putAll, Act.put, List.setIfInBounds_toArray, List.set_cons_succ, List.set_cons_zero] at fin
              exact fin
            · rintro vs W K hc hvl hw hK
              obtain ⟨x0, x1, x2, x3, x4, x5, x6, x7, x8, x9, x10, x11, x12, x13, rfl⟩ := len14 hvl
              have HK := Lib.hid hK
              have HC := Lib.hid hc
              have HW := Lib.hid hw
              clear hK hc hw hvl
              obtain rfl : x4 = .bool true := box_get (HW.out ⟨4, .guard⟩ (by simp) rfl) rfl
              simp only [putAll, Act.put, List.setIfInBounds_toArray, List.set_cons_succ, List.set_cons_zero]
              clear HW
              go_wp2_with fail
              have fin := HK.out (undef) W (Below.refl _ _) rfl
              simp only [putAll, Act.put, List.setIfInBounds_toArray, List.set_cons_succ, List.set_cons_zero] at fin
              exact fin
            · rintro vs W K hc hvl hw hK
              obtain ⟨x0, x1, x2, x3, x4, x5, x6, x7, x8, x9, x10, x11, x12, x13, rfl⟩ := len14 hvl
              have HK := Lib.hid hK
              have HC := Lib.hid hc
              have HW := Lib.hid hw
              clear hK hc hw hvl
              obtain rfl : x5 = undef := box_get (HW.out ⟨5, .data⟩ (by simp) rfl) rfl
              obtain rfl : x6 = undef := box_get (HW.out ⟨6, .data⟩ (by simp) rfl) rfl
              obtain rfl : x4 = .bool true := box_get (HW.out ⟨4, .guard⟩ (by simp) rfl) rfl
              simp only [putAll, Act.put, List.setIfInBounds_toArray, List.set_cons_succ, List.set_cons_zero]
              clear HW
              go_wp2_with fail
              have fin := HK.out (undef) W (Below.refl _ _) rfl
              simp only [putAll, Act.put, List.setIfInBounds_toArray, List.set_cons_succ, List.set_cons_zero] at fin
              exact fin
            · rintro vs W K hc hvl hw hK
              obtain ⟨x0, x1, x2, x3, x4, x5, x6, x7, x8, x9, x10, x11, x12, x13, rfl⟩ := len14 hvl
              have HK := Lib.hid hK
              have HC := Lib.hid hc
              have HW := Lib.hid hw
              clear hK hc hw hvl
              obtain rfl : x4 = .bool true := box_get (HW.out ⟨4, .guard⟩ (by simp) rfl) rfl
              simp only [putAll, Act.put, List.setIfInBounds_toArray, List.set_cons_succ, List.set_cons_zero]
              clear HW
              go_wp2_with fail
              have fin := HK.out (undef) W (Below.refl _ _) rfl
              simp only [putAll, Act.put, List.setIfInBounds_toArray, List.set_cons_succ, List.set_cons_zero] at fin
              exact fin
            · rintro vs W K hc hvl hw hK
              obtain ⟨x0, x1, x2, x3, x4, x5, x6, x7, x8, x9, x10, x11, x12, x13, rfl⟩ := len14 hvl
              have HK := Lib.hid hK
              have HC := Lib.hid hc
              have HW := Lib.hid hw
              clear hK hc hw hvl
              obtain rfl : x4 = .bool true := box_get (HW.out ⟨4, .guard⟩ (by simp) rfl) rfl
              simp only [putAll, Act.put, List.setIfInBounds_toArray, List.set_cons_succ, List.set_cons_zero]
              clear HW
              go_wp2_with fail
              have fin := HK.out (undef) W (Below.refl _ _) rfl
              simp only [putAll, Act.put, List.setIfInBounds_toArray, List.set_cons_succ, List.set_cons_zero] at fin
              exact fin
            · rintro vs W K hc hvl hw hK
              obtain ⟨x0, x1, x2, x3, x4, x5, x6, x7, x8, x9, x10, x11, x12, x13, rfl⟩ := len14 hvl
              have HK := Lib.hid hK
              have HC := Lib.hid hc
              have HW := Lib.hid hw
              clear hK hc hw hvl
              obtain rfl : x8 = undef := box_get (HW.out ⟨8, .data⟩ (by simp) rfl) rfl
              obtain rfl : x9 = undef := box_get (HW.out ⟨9, .data⟩ (by simp) rfl) rfl
              obtain rfl : x4 = .bool true := box_get (HW.out ⟨4, .guard⟩ (by simp) rfl) rfl
              simp only [putAll, Act.put, List.setIfInBounds_toArray, List.set_cons_succ, List.set_cons_zero]
              clear HW
              go_wp2_with fail
              have fin := HK.out (undef) W (Below.refl _ _) rfl
              simp only [putAll, Act.put, List.setIfInBounds_toArray, List.set_cons_succ, List.set_cons_zero] at fin
              exact fin
            · rintro vs W K hc hvl hw hK
              obtain ⟨x0, x1, x2, x3, x4, x5, x6, x7, x8, x9, x10, x11, x12, x13, rfl⟩ := len14 hvl
              have HK := Lib.hid hK
              have HC := Lib.hid hc
              have HW := Lib.hid hw
              clear hK hc hw hvl
              obtain rfl : x7 = undef := box_get (HW.out ⟨7, .data⟩ (by simp) rfl) rfl
              obtain rfl : x10 = undef := box_get (HW.out ⟨10, .data⟩ (by simp) rfl) rfl
              obtain rfl : x4 = .bool true := box_get (HW.out ⟨4, .guard⟩ (by simp) rfl) rfl
              simp only [putAll, Act.put, List.setIfInBounds_toArray, List.set_cons_succ, List.set_cons_zero]
              clear HW
              go_wp2_with fail
              have fin := HK.out (undef) W (Below.refl _ _) rfl
              simp only [putAll, Act.put, List.setIfInBounds_toArray, List.set_cons_succ, List.set_cons_zero] at fin
              exact fin
            · rintro vs W K hc hvl hw hK
              obtain ⟨x0, x1, x2, x3, x4, x5, x6, x7, x8, x9, x10, x11, x12, x13, rfl⟩ := len14 hvl
              have HK := Lib.hid hK
              have HC := Lib.hid hc
              have HW := Lib.hid hw
              clear hK hc hw hvl
              obtain rfl : x11 = undef := box_get (HW.out ⟨11, .data⟩ (by simp) rfl) rfl
              obtain rfl : x4 = .bool true := box_get (HW.out ⟨4, .guard⟩ (by simp) rfl) rfl
              simp only [putAll, Act.put, List.setIfInBounds_toArray, List.set_cons_succ, List.set_cons_zero]
              clear HW
              go_wp2_with fail
              have fin := HK.out (undef) W (Below.refl _ _) rfl
              simp only [putAll, Act.put, List.setIfInBounds_toArray, List.set_cons_succ, List.set_cons_zero] at fin
              exact fin
            · rintro vs W K hc hvl hw hK
              obtain ⟨x0, x1, x2, x3, x4, x5, x6, x7, x8, x9, x10, x11, x12, x13, rfl⟩ := len14 hvl
              have HK := Lib.hid hK
              have HC := Lib.hid hc
              have HW := Lib.hid hw
              clear hK hc hw hvl
              obtain rfl : x4 = .bool true := box_get (HW.out ⟨4, .data⟩ (by simp) rfl) rfl
              obtain rfl : x12 = undef := box_get (HW.out ⟨12, .data⟩ (by simp) rfl) rfl
              simp only [putAll, Act.put, List.setIfInBounds_toArray, List.set_cons_succ, List.set_cons_zero]
              clear HW
              go_wp2_with fail
              have fin := HK.out (.bool true) W (Below.refl _ _) rfl
              simp only [putAll, Act.put, List.setIfInBounds_toArray, List.set_cons_succ, List.set_cons_zero] at fin
              exact fin
          case fin =>
            rintro vs W hJ
            obtain ⟨x0, x1, x2, x3, x4, x5, x6, x7, x8, x9, x10, x11, x12, x13, rfl⟩ := len14 hJ.ln
            obtain rfl : x13 = .bool true := box_get (hJ.val 13 rfl) rfl
            have HC := Lib.hid hJ.bl
            clear hJ
            simp only [putAll, Act.put, List.setIfInBounds_toArray, List.set_cons_succ, List.set_cons_zero]
            clear T2 M2 N2 W2
            go_wp2_with fail
            go_ret
            refine ⟨ret_bool ?_, Below.andThen (Below.andThen (Below.andThen (Below.andThen BA.out HB.out.2.2.2 (Nat.le_refl _)) BB.out (Nat.le_refl _)) HC4.out (Nat.le_refl _)) HC.out (Nat.le_refl _)⟩
            have h := HS2.out
            have h2 : ¬ m2 = 0 := by simpa using hm
            rw [decide_eq_false h2, Bool.false_and] at h
            rw [← h]; simp
        | false =>
          refine wp_region_box (by kernel_rfl) (by kernel_rfl) [28, 29, 30, 31, 32, 33, 34, 35, 36, 37, 38, 39, 40, 41] [(fun v => v = .agg #[.int .i64 c1, .int .i64 c2, .int .i64 c3, .int .i64 c4]), (fun v => v = .agg #[.int .i64 s2, .int .i64 t2]), (fun v => v = .int .i64 m2), (fun v => v = .bool false), (fun v => v = .bool false), (fun v => v = .agg #[.int .i64 s0, .int .i64 t0]), (fun v => v = .agg #[.int .i64 s2, .int .i64 t2]), (fun v => v = .agg #[.int .i64 (s0 - s2), .int .i64 (t0 - t2)]), (fun v => v = .agg #[.int .i64 s1, .int .i64 t1]), (fun v => v = .agg #[.int .i64 s2, .int .i64 t2]), (fun v => v = .agg #[.int .i64 (s1 - s2), .int .i64 (t1 - t2)]), (fun v => v = .int .i64 D2), (fun v => v = .bool E), (fun v => v = .bool E)] [none, none, none, none, none, none, none, none, none, none, none, none, none, none] [none, none, none, none, none, none, none, none, none, none, none, none, none, none] 14 rfl (by kernel_rfl) ?tr ⟨[u28, u29, u30, u31, u32, u33, u34, u35, u36, u37, u38, u39, u40, u41], by simp only [putAll, Act.put, List.setIfInBounds_toArray, List.set_cons_succ, List.set_cons_zero], rfl⟩ ?steps ?fin
          case tr =>
            rintro i v h
            rcases i with _ | _ | _ | _ | _ | _ | _ | _ | _ | _ | _ | _ | _ | _ | i
            all_goals first | trivial | (exfalso; rcases h with h | h <;> simp at h)
          case steps =>
            simp only [boxSteps, Nat.reduceAdd, Nat.zero_add, List.getD_cons_succ, List.getD_cons_zero]
            refine ⟨?_, ?_, ?_, ?_, ?_, ?_, ?_, ?_, ?_, ?_, ?_, ?_, ?_, ?_, trivial⟩
            · rintro vs W K hc hvl hw hK
              obtain ⟨x0, x1, x2, x3, x4, x5, x6, x7, x8, x9, x10, x11, x12, x13, rfl⟩ := len14 hvl
              have HK := Lib.hid hK
              have HC := Lib.hid hc
              have HW := Lib.hid hw
              clear hK hc hw hvl
              simp only [putAll, Act.put, List.setIfInBounds_toArray, List.set_cons_succ, List.set_cons_zero]
              have rr := RC4.out.below HC.out RC4.out.lt
              have d0 := rr.cell 0
              have d1 := rr.cell 1
              have d2 := rr.cell 2
              have d3 := rr.cell 3
              simp only [List.getElem?_cons_zero, List.getElem?_cons_succ] at d0 d1 d2 d3
              clear rr
              clear HW
              go_wp2_with fail
              have fin := HK.out (.agg #[.int .i64 c1, .int .i64 c2, .int .i64 c3, .int .i64 c4]) W (Below.refl _ _) rfl
              simp only [putAll, Act.put, List.setIfInBounds_toArray, List.set_cons_succ, List.set_cons_zero] at fin
              exact fin
            · rintro vs W K hc hvl hw hK
              obtain ⟨x0, x1, x2, x3, x4, x5, x6, x7, x8, x9, x10, x11, x12, x13, rfl⟩ := len14 hvl
              have HK := Lib.hid hK
              have HC := Lib.hid hc
              have HW := Lib.hid hw
              clear hK hc hw hvl
              simp only [putAll, Act.put, List.setIfInBounds_toArray, List.set_cons_succ, List.set_cons_zero]
              have rr := RB4.out.below HC.out RB4.out.lt
              have d0 := rr.cell 0
              have d1 := rr.cell 1
              simp only [List.getElem?_cons_zero, List.getElem?_cons_succ] at d0 d1
              clear rr
              clear HW
              go_wp2_with fail
              have fin := HK.out (.agg #[.int .i64 s2, .int .i64 t2]) W (Below.refl _ _) rfl
              simp only [putAll, Act.put, List.setIfInBounds_toArray, List.set_cons_succ, List.set_cons_zero] at fin
              exact fin
            · rintro vs W K hc hvl hw hK
              obtain ⟨x0, x1, x2, x3, x4, x5, x6, x7, x8, x9, x10, x11, x12, x13, rfl⟩ := len14 hvl
              have HK := Lib.hid hK
              have HC := Lib.hid hc
              have HW := Lib.hid hw
              clear hK hc hw hvl
              obtain rfl : x0 = .agg #[.int .i64 c1, .int .i64 c2, .int .i64 c3, .int .i64 c4] := box_get (HW.out ⟨0, .data⟩ (by simp) rfl) rfl
              obtain rfl : x1 = .agg #[.int .i64 s2, .int .i64 t2] := box_get (HW.out ⟨1, .data⟩ (by simp) rfl) rfl
              simp only [putAll, Act.put, List.setIfInBounds_toArray, List.set_cons_succ, List.set_cons_zero]
              clear HW
              go_wp2_with fail
              refine (W2.out W).mono ?_
              rintro e W' ⟨rfl, hb'⟩
              have HB' := Lib.hid hb'
              clear hb'
              go_wp2_with fail
              have fin := HK.out (.int .i64 m2) W' HB'.out rfl
              simp only [putAll, Act.put, List.setIfInBounds_toArray, List.set_cons_succ, List.set_cons_zero] at fin
              exact fin
            · rintro vs W K hc hvl hw hK
              obtain ⟨x0, x1, x2, x3, x4, x5, x6, x7, x8, x9, x10, x11, x12, x13, rfl⟩ := len14 hvl
              have HK := Lib.hid hK
              have HC := Lib.hid hc
              have HW := Lib.hid hw
              clear hK hc hw hvl
              obtain rfl : x2 = .int .i64 m2 := box_get (HW.out ⟨2, .data⟩ (by simp) rfl) rfl
              simp only [putAll, Act.put, List.setIfInBounds_toArray, List.set_cons_succ, List.set_cons_zero]
              clear HW
              go_wp2_with fail
              have fin := HK.out (.bool false) W (Below.refl _ _) rfl
              simp only [putAll, Act.put, List.setIfInBounds_toArray, List.set_cons_succ, List.set_cons_zero] at fin
              exact fin
            · rintro vs W K hc hvl hw hK
              obtain ⟨x0, x1, x2, x3, x4, x5, x6, x7, x8, x9, x10, x11, x12, x13, rfl⟩ := len14 hvl
              have HK := Lib.hid hK
              have HC := Lib.hid hc
              have HW := Lib.hid hw
              clear hK hc hw hvl
              obtain rfl : x3 = .bool false := box_get (HW.out ⟨3, .data⟩ (by simp) rfl) rfl
              simp only [putAll, Act.put, List.setIfInBounds_toArray, List.set_cons_succ, List.set_cons_zero]
              clear HW
              go_wp2_with fail
              have fin := HK.out (.bool false) W (Below.refl _ _) rfl
              simp only [putAll, Act.put, List.setIfInBounds_toArray, List.set_cons_succ, List.set_cons_zero] at fin
              exact fin
            · rintro vs W K hc hvl hw hK
              obtain ⟨x0, x1, x2, x3, x4, x5, x6, x7, x8, x9, x10, x11, x12, x13, rfl⟩ := len14 hvl
              have HK := Lib.hid hK
              have HC := Lib.hid hc
              have HW := Lib.hid hw
              clear hK hc hw hvl
              obtain rfl : x4 = .bool false := box_get (HW.out ⟨4, .guard⟩ (by simp) rfl) rfl
              simp only [putAll, Act.put, List.setIfInBounds_toArray, List.set_cons_succ, List.set_cons_zero]
              have rr := HR12.out.below HC.out HR12.out.lt
              have d0 := rr.cell 0
              have d1 := rr.cell 1
              simp only [List.getElem?_cons_zero, List.getElem?_cons_succ] at d0 d1
              clear rr
              clear HW
              go_wp2_with fail
              have fin := HK.out (.agg #[.int .i64 s0, .int .i64 t0]) W (Below.refl _ _) rfl
              simp only [putAll, Act.put, List.setIfInBounds_toArray, List.set_cons_succ, List.set_cons_zero] at fin
              exact fin
            · rintro vs W K hc hvl hw hK
              obtain ⟨x0, x1, x2, x3, x4, x5, x6, x7, x8, x9, x10, x11, x12, x13, rfl⟩ := len14 hvl
              have HK := Lib.hid hK
              have HC := Lib.hid hc
              have HW := Lib.hid hw
              clear hK hc hw hvl
              obtain rfl : x4 = .bool false := box_get (HW.out ⟨4, .guard⟩ (by simp) rfl) rfl
              simp only [putAll, Act.put, List.setIfInBounds_toArray, List.set_cons_succ, List.set_cons_zero]
              have rr := RB4.out.below HC.out RB4.out.lt
              have d0 := rr.cell 0
              have d1 := rr.cell 1
              simp only [List.getElem?_cons_zero, List.getElem?_cons_succ] at d0 d1
              clear rr
              clear HW
              go_wp2_with fail
              have fin := HK.out (.agg #[.int .i64 s2, .int .i64 t2]) W (Below.refl _ _) rfl
              simp only [putAll, Act.put, List.setIfInBounds_toArray, List.set_cons_succ, List.set_cons_zero] at fin
              exact fin
            · rintro vs W K hc hvl hw hK
              obtain ⟨x0, x1, x2, x3, x4, x5, x6, x7, x8, x9, x10, x11, x12, x13, rfl⟩ := len14 hvl
              have HK := Lib.hid hK
              have HC := Lib.hid hc
              have HW := Lib.hid hw
              clear hK hc hw hvl
              obtain rfl : x5 = .agg #[.int .i64 s0, .int .i64 t0] := box_get (HW.out ⟨5, .data⟩ (by simp) rfl) rfl
              obtain rfl : x6 = .agg #[.int .i64 s2, .int .i64 t2] := box_get (HW.out ⟨6, .data⟩ (by simp) rfl) rfl
              obtain rfl : x4 = .bool false := box_get (HW.out ⟨4, .guard⟩ (by simp) rfl) rfl
              simp only [putAll, Act.put, List.setIfInBounds_toArray, List.set_cons_succ, List.set_cons_zero]
              clear HW
              go_wp2_with fail
              refine (M2.out W).mono ?_
              rintro e W' ⟨rfl, hb'⟩
              have HB' := Lib.hid hb'
              clear hb'
              go_wp2_with fail
              have fin := HK.out (.agg #[.int .i64 (s0 - s2), .int .i64 (t0 - t2)]) W' HB'.out rfl
              simp only [putAll, Act.put, List.setIfInBounds_toArray, List.set_cons_succ, List.set_cons_zero] at fin
              exact fin
            · rintro vs W K hc hvl hw hK
              obtain ⟨x0, x1, x2, x3, x4, x5, x6, x7, x8, x9, x10, x11, x12, x13, rfl⟩ := len14 hvl
              have HK := Lib.hid hK
              have HC := Lib.hid hc
              have HW := Lib.hid hw
              clear hK hc hw hvl
              obtain rfl : x4 = .bool false := box_get (HW.out ⟨4, .guard⟩ (by simp) rfl) rfl
              simp only [putAll, Act.put, List.setIfInBounds_toArray, List.set_cons_succ, List.set_cons_zero]
              have rr := HR13.out.below HC.out HR13.out.lt
              have d0 := rr.cell 0
              have d1 := rr.cell 1
              simp only [List.getElem?_cons_zero, List.getElem?_cons_succ] at d0 d1
              clear rr
              clear HW
              go_wp2_with fail
              have fin := HK.out (.agg #[.int .i64 s1, .int .i64 t1]) W (Below.refl _ _) rfl
              simp only [putAll, Act.put, List.setIfInBounds_toArray, List.set_cons_succ, List.set_cons_zero] at fin
              exact fin
            · rintro vs W K hc hvl hw hK
              obtain ⟨x0, x1, x2, x3, x4, x5, x6, x7, x8, x9, x10, x11, x12, x13, rfl⟩ := len14 hvl
              have HK := Lib.hid hK
              have HC := Lib.hid hc
              have HW := Lib.hid hw
              clear hK hc hw hvl
              obtain rfl : x4 = .bool false := box_get (HW.out ⟨4, .guard⟩ (by simp) rfl) rfl
              simp only [putAll, Act.put, List.setIfInBounds_toArray, List.set_cons_succ, List.set_cons_zero]
              have rr := RB4.out.below HC.out RB4.out.lt
              have d0 := rr.cell 0
              have d1 := rr.cell 1
              simp only [List.getElem?_cons_zero, List.getElem?_cons_succ] at d0 d1
              clear rr
              clear HW
              go_wp2_with fail
              have fin := HK.out (.agg #[.int .i64 s2, .int .i64 t2]) W (Below.refl _ _) rfl
              simp only [putAll, Act.put, List.setIfInBounds_toArray, List.set_cons_succ, List.set_cons_zero] at fin
              exact fin
            · rintro vs W K hc hvl hw hK
              obtain ⟨x0, x1, x2, x3, x4, x5, x6, x7, x8, x9, x10, x11, x12, x13, rfl⟩ := len14 hvl
              have HK := Lib.hid hK
              have HC := Lib.hid hc
              have HW := Lib.hid hw
              clear hK hc hw hvl
              obtain rfl : x8 = .agg #[.int .i64 s1, .int .i64 t1] := box_get (HW.out ⟨8, .data⟩ (by simp) rfl) rfl
              obtain rfl : x9 = .agg #[.int .i64 s2, .int .i64 t2] := box_get (HW.out ⟨9, .data⟩ (by simp) rfl) rfl
              obtain rfl : x4 = .bool false := box_get (HW.out ⟨4, .guard⟩ (by simp) rfl) rfl
              simp only [putAll, Act.put, List.setIfInBounds_toArray, List.set_cons_succ, List.set_cons_zero]
              clear HW
              go_wp2_with fail
              refine (N2.out W).mono ?_
              rintro e W' ⟨rfl, hb'⟩
              have HB' := Lib.hid hb'
              clear hb'
              go_wp2_with fail
              have fin := HK.out (.agg #[.int .i64 (s1 - s2), .int .i64 (t1 - t2)]) W' HB'.out rfl
              simp only [putAll, Act.put, List.setIfInBounds_toArray, List.set_cons_succ, List.set_cons_zero] at fin
              exact fin
            · rintro vs W K hc hvl hw hK
              obtain ⟨x0, x1, x2, x3, x4, x5, x6, x7, x8, x9, x10, x11, x12, x13, rfl⟩ := len14 hvl
              have HK := Lib.hid hK
              have HC := Lib.hid hc
              have HW := Lib.hid hw
              clear hK hc hw hvl
              obtain rfl : x7 = .agg #[.int .i64 (s0 - s2), .int .i64 (t0 - t2)] := box_get (HW.out ⟨7, .data⟩ (by simp) rfl) rfl
              obtain rfl : x10 = .agg #[.int .i64 (s1 - s2), .int .i64 (t1 - t2)] := box_get (HW.out ⟨10, .data⟩ (by simp) rfl) rfl
              obtain rfl : x4 = .bool false := box_get (HW.out ⟨4, .guard⟩ (by simp) rfl) rfl
              simp only [putAll, Act.put, List.setIfInBounds_toArray, List.set_cons_succ, List.set_cons_zero]
              clear HW
              go_wp2_with fail
              refine (T2.out W).mono ?_
              rintro e W' ⟨rfl, hb'⟩
              have HB' := Lib.hid hb'
              clear hb'
              go_wp2_with fail
              have fin := HK.out (.int .i64 D2) W' HB'.out rfl
              simp only [putAll, Act.put, List.setIfInBounds_toArray, List.set_cons_succ, List.set_cons_zero] at fin
              exact fin
            · rintro vs W K hc hvl hw hK
              obtain ⟨x0, x1, x2, x3, x4, x5, x6, x7, x8, x9, x10, x11, x12, x13, rfl⟩ := len14 hvl
              have HK := Lib.hid hK
              have HC := Lib.hid hc
              have HW := Lib.hid hw
              clear hK hc hw hvl
              obtain rfl : x11 = .int .i64 D2 := box_get (HW.out ⟨11, .data⟩ (by simp) rfl) rfl
              obtain rfl : x4 = .bool false := box_get (HW.out ⟨4, .guard⟩ (by simp) rfl) rfl
              simp only [putAll, Act.put, List.setIfInBounds_toArray, List.set_cons_succ, List.set_cons_zero]
              have hE := HE.out
              clear HW
              go_wp2_with fail
              have fin := HK.out (.bool E) W (Below.refl _ _) rfl
              simp only [putAll, Act.put, List.setIfInBounds_toArray, List.set_cons_succ, List.set_cons_zero] at fin
              exact fin
            · rintro vs W K hc hvl hw hK
              obtain ⟨x0, x1, x2, x3, x4, x5, x6, x7, x8, x9, x10, x11, x12, x13, rfl⟩ := len14 hvl
              have HK := Lib.hid hK
              have HC := Lib.hid hc
              have HW := Lib.hid hw
              clear hK hc hw hvl
              obtain rfl : x4 = .bool false := box_get (HW.out ⟨4, .data⟩ (by simp) rfl) rfl
              obtain rfl : x12 = .bool E := box_get (HW.out ⟨12, .data⟩ (by simp) rfl) rfl
              simp only [putAll, Act.put, List.setIfInBounds_toArray, List.set_cons_succ, List.set_cons_zero]
              clear HW
              go_wp2_with fail
              have fin := HK.out (.bool E) W (Below.refl _ _) rfl
              simp only [putAll, Act.put, List.setIfInBounds_toArray, List.set_cons_succ, List.set_cons_zero] at fin
              exact fin
          case fin =>
            rintro vs W hJ
            obtain ⟨x0, x1, x2, x3, x4, x5, x6, x7, x8, x9, x10, x11, x12, x13, rfl⟩ := len14 hJ.ln
            obtain rfl : x13 = .bool E := box_get (hJ.val 13 rfl) rfl
            have HC := Lib.hid hJ.bl
            clear hJ
            simp only [putAll, Act.put, List.setIfInBounds_toArray, List.set_cons_succ, List.set_cons_zero]
            clear T2 M2 N2 W2
            cases E with
            | true =>
              go_wp2_with fail
              go_ret
              refine ⟨ret_bool ?_, Below.andThen (Below.andThen (Below.andThen (Below.andThen BA.out HB.out.2.2.2 (Nat.le_refl _)) BB.out (Nat.le_refl _)) HC4.out (Nat.le_refl _)) HC.out (Nat.le_refl _)⟩
              have h := HS2.out
              have h2 : ¬ 0 < D2 := by have := of_decide_eq_true HE.out; omega
              rw [decide_eq_false h2, Bool.and_false] at h
              rw [← h]; simp
            | false =>
              have HN := Lib.hid (show S2 = true by
                rw [← HS2.out]
                have h2 : m2 = 0 := by simpa using hm
                have h3 := of_decide_eq_false HE.out
                rw [decide_eq_true h2, Bool.true_and]
                exact decide_eq_true (by omega))
              go_wp2_with fail
              exact ⟨⟨3, by omega, rfl, Lib.hid ⟨fun _ => HB.out.1 (by omega), fun _ => HB.out.2.1 (by omega), fun _ => HN.out, Below.andThen (Below.andThen (Below.andThen HB.out.2.2.2 BB.out (Nat.le_refl _)) HC4.out (Nat.le_refl _)) HC.out (Nat.le_refl _)⟩⟩, by simp [intOf]⟩
    · go_wp2_with fail
      go_ret
      refine ⟨ret_bool ?_, Below.andThen BA.out HB.out.2.2.2 (Nat.le_refl _)⟩
      rw [HB.out.1 (by omega), HB.out.2.1 (by omega), HB.out.2.2.1 (by omega)]; rfl
end Go.Proofs.Ytlemipnplgbckaa
