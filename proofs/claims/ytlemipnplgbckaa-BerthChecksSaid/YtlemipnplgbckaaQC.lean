import Derived.Test.YtlemipnplgbckaaMH
import Derived.Test.YtlemipnplgbckaaMF
import Derived.Test.YtlemipnplgbckaaME
import Derived.Test.YtlemipnplgbckaaMC
import Derived.Laws.AppendOwn
import Derived.ChangeKeysEq
import Derived.Maps.RangeWalk
import Derived.Maps.OwnIn
import Derived.Maps.AppendAt
import Derived.RangeFuncNested
import Derived.RangeFuncBound
import Derived.RangeFuncCalls
import Derived.RangeFuncLeaves
import Derived.Shelf.Abstract
import Derived.Shelf.RegionOpen
import Derived.WalkKit
import Derived.WalkMore
import Derived.OwnWalkIn
import Derived.TacticsInMore
import Derived.LoopNIn
import Derived.LoopIn
import Derived.WalkSpells
import Derived.WalkLawsBesides
import Derived.BigQuiet
import Derived.Deep.QuietTactic
import Derived.Lib.Hide
import Derived.Deep.RegionHeld3
import Derived.StillTailTactics
import Derived.Deep.LoopGhost
import Derived.Maps.OwnSet
import Derived.Lib.IndexAny
import Derived.Sort.QuietThIn
import Derived.Sort.QuietTacIn
import Derived.Sort.BigQuietIn
import Derived.Laws.OwnMore
import Derived.DeepKeys4
import Derived.Maps.Views
import Derived.Maps.OwnOps
import Derived.Deep.DeepCutAuto
namespace Go.Proofs.Ytlemipnplgbckaa
open Go.RowKit Go.Shelf
attribute [local go_sem] Oper.semAt_some
set_option maxRecDepth 100000 in
set_option maxHeartbeats 2000000 in
theorem BerthChecks_any (zs : List Pt) (v : Value) (w : World) (hv : SlP w v zs) (hl : zs.length ≤ 9223372036854775807) (nn : ∀ a n c, v = .slice a n c → a = none → c = 0) :
    Calls Try.prog 3 #[v] w fun e w' => e = .returned (.bool true) ∧ Below w.heap.size w w' := by
  obtain ⟨a, c, rfl, hc, hp⟩ := hv
  have HOW := Lib.hid (own_any zs a c w ⟨a, c, rfl, hc, hp⟩ (nn a _ c rfl) (by unfold maxLen; omega))
  have hx13 : (zs.take 13).length ≤ 13 := by rw [List.length_take]; omega
  clear hc hp nn hl
  generalize zs.take 13 = X at *
  have HX := Lib.hid hx13
  go_enter Try.func3, Try.ntmps3
  go_wp2_with fail
  refine HOW.out.mono ?_
  rintro e w1 ⟨s, rfl, ho, h1⟩
  have B1 := Lib.hid h1
  have HSL := Lib.hid (slp_own ho)
  obtain ⟨a1, c1, rfl, _⟩ := OwnP.open ho
  have hl := HX.out
  have HPT := Lib.hid (Points_any X _ w1 HSL.out (by omega))
  have HCK := Lib.hid (fun W (hb : Below w1.heap.size w1 W) => Check_any X _ W (HSL.out.grow hb) (by omega))
  have HL := Lib.hid (show X.length ≤ 1000000 by omega)
  obtain ⟨n, hn⟩ : ∃ n, X.length = n := ⟨_, rfl⟩
  obtain ⟨ok, hok⟩ : ∃ ok, chkP X = ok := ⟨_, rfl⟩
  have HOK := Lib.hid hok
  rw [hok] at HPT
  have HE : ok = false → errP X = 40 := fun h => by unfold errP; rw [hok, h]; rfl
  have HE0 : ok = true → errP X = 0 := fun h => by unfold errP; rw [hok, h]; rfl
  have HEE := Lib.hid (And.intro HE HE0)
  rw [hn] at HSL HPT HCK ⊢
  clear ho h1 hl hx13 hok HE HE0 hn HOW
  go_wp2_with fail
  refine HPT.out.mono ?_
  rintro e w2 ⟨rfl, h2⟩
  have B2 := Lib.hid h2
  clear h2 HPT
  cases ok with
  | true =>
    have HC0 := Lib.hid (HEE.out.2 rfl ▸ HCK.out w2 B2.out)
    clear HCK
    go_wp2_with fail
    refine HC0.out.mono ?_
    rintro e w3 ⟨rfl, h3⟩
    have B3 := Lib.hid (Below.andThen B2.out h3 (Nat.le_refl _))
    clear h3 HC0
    go_wp2_with fail
    refine (awake_any _).mono ?_
    rintro e w4 ⟨rfl, h4⟩
    have B4 := Lib.hid (Below.andThen B1.out (Below.andThen B3.out h4 (Nat.le_refl _)) (Nat.le_refl _))
    clear h4
    go_wp2_with fail
    go_ret
    exact ⟨rfl, B4.out⟩
  | false =>
    have HE40 := Lib.hid (HEE.out.1 rfl)
    have HC0 := Lib.hid (fun W hb => HEE.out.1 rfl ▸ HCK.out W hb)
    clear HCK HEE
    go_wp2_with fail
    refine (HC0.out w2 B2.out).mono ?_
    rintro e w3 ⟨rfl, h3⟩
    obtain ⟨b3, r3⟩ := box_start w3 28 [.int .i64 99, .int .i64 0]
    have B3 := Lib.hid (Below.andThen (Below.andThen B2.out h3 (Nat.le_refl _)) b3 (Nat.le_refl _))
    have R6a := Lib.hid r3
    clear h3 b3 r3 B2
    go_wp2_with fail
    refine (Smallest_err X _ _ (HSL.out.grow B3.out) HL.out 40 HE40.out (by omega)).mono ?_
    rintro e w4 ⟨rfl, h4⟩
    obtain ⟨b4, r4⟩ := box_start w4 30 [.int .i64 0, .int .i64 0, .int .i64 0, .int .i64 0]
    have h4' := Below.andThen h4 b4 (Nat.le_refl _)
    have B4 := Lib.hid (Below.andThen B3.out h4' (Nat.le_refl _))
    have R6b := Lib.hid (R6a.out.below h4' R6a.out.lt)
    have R7b := Lib.hid r4
    clear h4 h4' b4 r4 R6a B3
    unfold cirV
    go_wp2_with fail
    refine (IsSmallest_err X _ 0 0 0 0 _ (HSL.out.grow B4.out) HL.out 40 HE40.out (by omega)).mono ?_
    rintro e w5 ⟨rfl, h5⟩
    have B5 := Lib.hid (Below.andThen B4.out h5 (Nat.le_refl _))
    have R6c := Lib.hid (R6b.out.below h5 R6b.out.lt)
    have R7c := Lib.hid (R7b.out.below h5 R7b.out.lt)
    clear h5 R6b R7b B4
    go_wp2_with fail
    refine (Force_err X _ _ (HSL.out.grow B5.out) HL.out 40 HE40.out (by omega)).mono ?_
    rintro e w6 ⟨rfl, h6⟩
    have B6 := Lib.hid (Below.andThen B5.out h6 (Nat.le_refl _))
    have R6d := Lib.hid (R6c.out.below h6 R6c.out.lt)
    have R7d := Lib.hid (R7c.out.below h6 R7c.out.lt)
    clear h6 R6c R7c B5
    go_wp2_with fail
    obtain ⟨b6, _⟩ := box_start w6 3 [.int .i64 0]
    have B6' := Lib.hid (Below.andThen B6.out b6 (Nat.le_refl _))
    have R6e := Lib.hid (R6d.out.below b6 R6d.out.lt)
    have R7e := Lib.hid (R7d.out.below b6 R7d.out.lt)
    refine (IsForce_err X _ (.slice (some ⟨w6.heap.size, 0, none⟩) 1 1) _ (HSL.out.grow B6'.out) HL.out 40 HE40.out (by omega) [0] (sli_new w6 [0])).mono ?_
    rintro e w7 ⟨rfl, h7⟩
    have B7 := Lib.hid (Below.andThen B6'.out h7 (Nat.le_refl _))
    have R6f := Lib.hid (R6e.out.below h7 R6e.out.lt)
    have R7f := Lib.hid (R7e.out.below h7 R7e.out.lt)
    clear h7 b6 R6d R7d R6e R7e B6 B6'
    go_wp2_with fail
    refine (Empty_err X _ _ (HSL.out.grow B7.out) HL.out 40 HE40.out (by omega)).mono ?_
    rintro e w8 ⟨rfl, h8⟩
    have B8 := Lib.hid (Below.andThen B7.out h8 (Nat.le_refl _))
    have R6g := Lib.hid (R6f.out.below h8 R6f.out.lt)
    have R7g := Lib.hid (R7f.out.below h8 R7f.out.lt)
    have rr := R6g.out
    have k0 := rr.cell 0
    have k1 := rr.cell 1
    simp only [List.getElem?_cons_zero, List.getElem?_cons_succ] at k0 k1
    clear rr h8 R6f R7f B7
    go_wp2_with fail
    refine (Nearest_err X _ 99 0 _ (HSL.out.grow B8.out) HL.out 40 HE40.out (by omega)).mono ?_
    rintro e w9 ⟨rfl, h9⟩
    have B9 := Lib.hid (Below.andThen B8.out h9 (Nat.le_refl _))
    have R6h := Lib.hid (R6g.out.below h9 R6g.out.lt)
    have R7h := Lib.hid (R7g.out.below h9 R7g.out.lt)
    clear k0 k1
    have rr := R6h.out
    have k0 := rr.cell 0
    have k1 := rr.cell 1
    simp only [List.getElem?_cons_zero, List.getElem?_cons_succ] at k0 k1
    clear rr h9 R6g R7g B8
    go_wp2_with fail
    refine (Farthest_err X _ 99 0 _ (HSL.out.grow B9.out) HL.out 40 HE40.out (by omega)).mono ?_
    rintro e w10 ⟨rfl, h10⟩
    have B10 := Lib.hid (Below.andThen B9.out h10 (Nat.le_refl _))
    have R7i := Lib.hid (R7h.out.below h10 R7h.out.lt)
    clear h10 k0 k1 R6h R7h B9
    go_wp2_with fail
    refine (Pairs_err X _ _ (HSL.out.grow B10.out) HL.out 40 HE40.out (by omega)).mono ?_
    rintro e w11 ⟨rfl, h11⟩
    have B11 := Lib.hid (Below.andThen B10.out h11 (Nat.le_refl _))
    have R7j := Lib.hid (R7i.out.below h11 R7i.out.lt)
    clear h11 R7i B10
    obtain ⟨V, hV, p1, p2, bV, hs⟩ := two_start w11 28 28 [.int .i64 0, .int .i64 0] [.int .i64 0, .int .i64 0]
    have P1 := Lib.hid p1
    have P2 := Lib.hid p2
    have B12 := Lib.hid (Below.andThen B11.out bV (Nat.le_refl _))
    have R7k := Lib.hid (R7j.out.below bV R7j.out.lt)
    have HV := Lib.hid hV
    clear p1 p2 bV hs hV R7j
    go_wp2_with fail
    rw [show (w11.alloc (.cells #[.int .i64 0, .int .i64 0] 28)).alloc (.cells #[.int .i64 0, .int .i64 0] 28) = V from HV.out.symm]
    refine (On_err X _ 0 0 0 0 _ (HSL.out.grow B12.out) HL.out 40 HE40.out (by omega)).mono ?_
    rintro e w12 ⟨rfl, h12⟩
    have B13 := Lib.hid (Below.andThen B12.out h12 (Nat.le_refl _))
    have R7l := Lib.hid (R7k.out.below h12 R7k.out.lt)
    have P1a := Lib.hid (P1.out.below h12 P1.out.lt)
    have P2a := Lib.hid (P2.out.below h12 P2.out.lt)
    clear h12 R7k P1 P2 B12 B11
    go_wp2_with fail
    refine (HC0.out w12 B13.out).mono ?_
    rintro e w13 ⟨rfl, h13⟩
    have B14 := Lib.hid (Below.andThen B13.out h13 (Nat.le_refl _))
    have r7 := R7l.out.below h13 R7l.out.lt
    have p1 := P1a.out.below h13 P1a.out.lt
    have p2 := P2a.out.below h13 P2a.out.lt
    have x0 := r7.cell 0
    have x1 := r7.cell 1
    have x2 := r7.cell 2
    have x3 := r7.cell 3
    have y0 := p1.cell 0
    have y1 := p1.cell 1
    have z0 := p2.cell 0
    have z1 := p2.cell 1
    simp only [List.getElem?_cons_zero, List.getElem?_cons_succ] at x0 x1 x2 x3 y0 y1 z0 z1
    have heq := eq28 0 0 0 0 w13
    rw [decide_eq_true rfl] at heq
    clear r7 p1 p2 h13 R7l P1a P2a B13 HC0
    go_wp2_with fail
    refine (awake_any _).mono ?_
    rintro e w14 ⟨rfl, h14⟩
    have B15 := Lib.hid (Below.andThen B1.out (Below.andThen B14.out h14 (Nat.le_refl _)) (Nat.le_refl _))
    clear h14
    go_wp2_with fail
    go_ret
    exact ⟨rfl, B15.out⟩
end Go.Proofs.Ytlemipnplgbckaa
