import Derived.Test.YtlehddifcjklgaaCr
import Derived.Maps.OwnIn
import Derived.Maps.OwnSet
import Derived.Maps.AppendAt
import Derived.RangeFuncNested
import Derived.RangeFuncBound
import Derived.RangeFuncCalls
import Derived.RangeFuncLeaves
import Derived.Shelf.Abstract
import Derived.Shelf.RegionOpen
import Derived.WalkKit
import Derived.OwnWalkIn
import Derived.TacticsInMore
import Derived.LoopNIn
import Derived.LoopIn
import Derived.WalkMore
import Derived.Sort.QuietThIn
import Derived.Sort.QuietTacIn
import Derived.Sort.BigQuietIn
import Derived.WalkSpells
import Derived.WalkLawsBesides
import Derived.BigQuiet
import Derived.Deep.QuietTactic
import Derived.Lib.Hide
import Derived.Deep.RegionHeld3
import Derived.StillTailTactics
import Derived.Deep.LoopGhost
import Derived.Lib.IndexAny
namespace Go.Proofs.Ytlehddifcjklgaa
open Go.RowKit Go.Shelf
attribute [local go_sem] Oper.semAt_some
set_option maxRecDepth 100000 in
set_option maxHeartbeats 2000000 in
theorem HullRests_any (ps : List Pt) (a : Option Addr) (c : Nat) (fr : Int) (w : World) (hp : PtsA w a ps c) (_hc : ps.length ≤ c) (_hn : a = none → c = 0) (hl : ps.length ≤ maxLen) (hz : ∀ q ∈ ps, InI q.1 ∧ InI q.2) (_hi : InI fr) :
    Calls Try.prog 5 #[.slice a ps.length c, .int .i64 fr] w fun e w' => e = .returned (.bool true) ∧ Below w.heap.size w w' := by
  have htm := tame_any ps a c fr w hp hl hz
  clear hp _hc _hn hl hz _hi
  go_enter Try.func5, Try.ntmps5
  go_wp2_with fail
  refine htm.mono ?_
  rintro e w1 ⟨v, hs, rfl, ho, hck, hb⟩
  have ha := chk_areP hck
  have hA := chk_area hck
  obtain ⟨h3, h12⟩ := areP_len ha
  obtain ⟨g, c2, rfl, hpt⟩ : ∃ g c2, v = .slice (some ⟨g, 0, none⟩) hs.length c2 ∧ PtsAt w1 g 0 hs := by
    obtain ⟨a2, c2, rfl, h⟩ := ho.open
    rcases h with ⟨_, _, rfl⟩ | ⟨g, hg, rfl, h, _⟩
    · simp at h3
    · exact ⟨g, c2, rfl, h⟩
  have l1 := Lib.hid (Nat.le_trans (sidesL_length (restB hs (mid hs)) hs.length) (show hs.length ≤ 1000 by omega))
  have l2 := Lib.hid (Nat.le_trans (sidesL_length (firmB hs (mid hs)) hs.length) (show hs.length ≤ 1000 by omega))
  have l3 := Lib.hid (Nat.le_trans (sidesL_length (tipB hs (mid hs)) hs.length) (show hs.length ≤ 1000 by omega))
  have HR := Lib.hid (fun W (h : PtsAt W g 0 hs) => Rests_any hs g c2 W h hck hA)
  have HF := Lib.hid (fun W (h : PtsAt W g 0 hs) => Firm_any hs g c2 W h hck hA)
  have HT := Lib.hid (fun W (h : PtsAt W g 0 hs) => Tips_any hs g c2 W h hck hA)
  have QR : Hid (∀ W, PtsAt W g 0 hs → Calls Try.prog 35 #[.slice (some ⟨g, 0, none⟩) hs.length c2, .bool false] W fun e w' => ∃ v, e = .returned v ∧ w'.ownsRow W.heap.size 3 1 v (sidesL (restB hs (mid hs)) hs.length).length ((sidesL (restB hs (mid hs)) hs.length).map encI) ∧ Below W.heap.size W w') := Lib.hid (fun W h => rRests_any hs g c2 false W h hck)
  have QF : Hid (∀ W, PtsAt W g 0 hs → Calls Try.prog 35 #[.slice (some ⟨g, 0, none⟩) hs.length c2, .bool true] W fun e w' => ∃ v, e = .returned v ∧ w'.ownsRow W.heap.size 3 1 v (sidesL (firmB hs (mid hs)) hs.length).length ((sidesL (firmB hs (mid hs)) hs.length).map encI) ∧ Below W.heap.size W w') := Lib.hid (fun W h => rRests_any hs g c2 true W h hck)
  have QT := Lib.hid (fun W (h : PtsAt W g 0 hs) => rTips_any hs g c2 W h hck)
  generalize sidesL (restB hs (mid hs)) hs.length = R at *
  generalize sidesL (firmB hs (mid hs)) hs.length = F at *
  generalize sidesL (tipB hs (mid hs)) hs.length = T at *
  have HP := Lib.hid hpt
  have T1 := Lib.hid hb
  clear htm ho hb hck hpt ha hA h3 h12
  go_wp2_with fail
  refine (HR.out w1 HP.out).mono ?_
  rintro e w2 ⟨v1, rfl, o1, hb⟩
  have HP2 := Lib.hid (HP.out.grow hb)
  have T2 := Lib.hid (Below.andThen T1.out hb (Nat.le_refl _))
  have R2 := Lib.hid o1
  clear hb T1 HP HR o1
  go_wp2_with fail
  refine (HF.out w2 HP2.out).mono ?_
  rintro e w3 ⟨v2, rfl, o2, hb⟩
  have HP3 := Lib.hid (HP2.out.grow hb)
  have T3 := Lib.hid (Below.andThen T2.out hb (Nat.le_refl _))
  have R3 := Lib.hid (own_grow R2.out hb)
  have F3 := Lib.hid o2
  clear hb T2 HP2 HF o2 R2
  go_wp2_with fail
  refine (HT.out w3 HP3.out).mono ?_
  rintro e w4 ⟨v3, rfl, o3, hb⟩
  have HP4 := Lib.hid (HP3.out.grow hb)
  have T4 := Lib.hid (Below.andThen T3.out hb (Nat.le_refl _))
  have R4 := Lib.hid (own_grow R3.out hb)
  have F4 := Lib.hid (own_grow F3.out hb)
  have P4 := Lib.hid o3
  clear hb T3 HP3 HT o3 R3 F3
  go_wp2_with fail
  refine (QR.out w4 HP4.out).mono ?_
  rintro e w5 ⟨v4, rfl, o4, hb⟩
  have HP5 := Lib.hid (HP4.out.grow hb)
  have T5 := Lib.hid (Below.andThen T4.out hb (Nat.le_refl _))
  have R5 := Lib.hid (own_grow R4.out hb)
  have F5 := Lib.hid (own_grow F4.out hb)
  have P5 := Lib.hid (own_grow P4.out hb)
  have I5 := ints_own R5.out o4 l1.out
  clear hb T4 HP4 QR o4 R4 F4 P4
  go_wp2_with fail
  refine I5.mono ?_
  rintro e w6 ⟨rfl, hb⟩
  have HP6 := Lib.hid (HP5.out.grow hb)
  have T6 := Lib.hid (Below.andThen T5.out hb (Nat.le_refl _))
  have F6 := Lib.hid (own_grow F5.out hb)
  have P6 := Lib.hid (own_grow P5.out hb)
  clear hb T5 HP5 R5 F5 P5 I5
  go_wp2_with fail
  refine (QF.out w6 HP6.out).mono ?_
  rintro e w7 ⟨v5, rfl, o5, hb⟩
  have HP7 := Lib.hid (HP6.out.grow hb)
  have T7 := Lib.hid (Below.andThen T6.out hb (Nat.le_refl _))
  have F7 := Lib.hid (own_grow F6.out hb)
  have P7 := Lib.hid (own_grow P6.out hb)
  have I7 := ints_own F7.out o5 l2.out
  clear hb T6 HP6 QF o5 F6 P6
  go_wp2_with fail
  refine I7.mono ?_
  rintro e w8 ⟨rfl, hb⟩
  have HP8 := Lib.hid (HP7.out.grow hb)
  have T8 := Lib.hid (Below.andThen T7.out hb (Nat.le_refl _))
  have P8 := Lib.hid (own_grow P7.out hb)
  clear hb T7 HP7 F7 P7 I7
  go_wp2_with fail
  refine (QT.out w8 HP8.out).mono ?_
  rintro e w9 ⟨v6, rfl, o6, hb⟩
  have T9 := Lib.hid (Below.andThen T8.out hb (Nat.le_refl _))
  have P9 := Lib.hid (own_grow P8.out hb)
  have I9 := ints_own P9.out o6 l3.out
  clear hb T8 HP8 QT o6 P8
  go_wp2_with fail
  refine I9.mono ?_
  rintro e w10 ⟨rfl, hb⟩
  have T10 := Lib.hid (Below.andThen T9.out hb (Nat.le_refl _))
  clear hb T9 P9 I9
  go_wp2_with fail
  refine (awake_any _).mono ?_
  rintro e w11 ⟨rfl, hb⟩
  have T11 := Lib.hid (Below.andThen T10.out hb (Nat.le_refl _))
  clear hb T10
  go_wp2_with fail
  go_ret
  exact ⟨rfl, T11.out⟩
end Go.Proofs.Ytlehddifcjklgaa
