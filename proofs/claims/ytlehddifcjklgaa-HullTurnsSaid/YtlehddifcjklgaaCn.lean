import Derived.Test.YtlehddifcjklgaaCl
import Derived.Maps.OwnIn
import Derived.Maps.OwnSet
import Derived.Maps.AppendAt
import Derived.RangeFuncNested
import Derived.RangeFuncBound
import Derived.RangeFuncCalls
import Derived.RangeFuncLeaves
import Derived.Shelf.Abstract
import Derived.Shelf.RegionOpen
import Derived.WalkKit
import Derived.OwnWalkIn
import Derived.TacticsInMore
import Derived.LoopNIn
import Derived.LoopIn
import Derived.WalkMore
import Derived.Sort.QuietThIn
import Derived.Sort.QuietTacIn
import Derived.Sort.BigQuietIn
import Derived.WalkSpells
import Derived.WalkLawsBesides
import Derived.BigQuiet
import Derived.Deep.QuietTactic
import Derived.Lib.Hide
import Derived.Deep.RegionHeld3
import Derived.StillTailTactics
import Derived.Deep.LoopGhost
import Derived.Lib.IndexAny
namespace Go.Proofs.Ytlehddifcjklgaa
open Go.RowKit Go.Shelf
attribute [local go_sem] Oper.semAt_some
set_option maxRecDepth 100000 in
set_option maxHeartbeats 2000000 in
theorem HullTurns_any (ps : List Pt) (a : Option Addr) (c : Nat) (fr : Int) (w : World) (hp : PtsA w a ps c) (_hc : ps.length ≤ c) (_hn : a = none → c = 0) (hl : ps.length ≤ maxLen) (hz : ∀ q ∈ ps, InI q.1 ∧ InI q.2) (_hi : InI fr) :
    Calls Try.prog 8 #[.slice a ps.length c, .int .i64 fr] w fun e w' => e = .returned (.bool true) ∧ Below w.heap.size w w' := by
  have htm := tame_any ps a c fr w hp hl hz
  clear hp _hc _hn hl hz _hi
  go_enter Try.func8, Try.ntmps8
  go_wp2_with fail
  refine htm.mono ?_
  rintro e w1 ⟨v, hs, rfl, ho, hck, hb⟩
  have ha := chk_areP hck
  obtain ⟨h3, h12⟩ := areP_len ha
  obtain ⟨g, c2, rfl, hpt, hcc⟩ : ∃ g c2, v = .slice (some ⟨g, 0, none⟩) hs.length c2 ∧ PtsAt w1 g 0 hs ∧ hs.length ≤ c2 := by
    obtain ⟨a2, c2, rfl, h⟩ := ho.open
    rcases h with ⟨_, _, rfl⟩ | ⟨g, hg, rfl, h, hc⟩
    · simp at h3
    · exact ⟨g, c2, rfl, h, hc⟩
  have HP := Lib.hid hpt
  have T1 := Lib.hid hb
  have CK := Lib.hid hck
  have HAA := Lib.hid ha
  have HL := Lib.hid (And.intro h3 h12)
  clear htm ho hb hck hpt ha h3 h12
  go_wp2_with fail
  refine (Turned_any hs g c2 w1 HP.out hcc CK.out).mono ?_
  rintro e w2 ⟨v, rfl, ho, hb⟩
  obtain ⟨a3, c3, rfl, _⟩ := ho.open
  have HP2 := Lib.hid (HP.out.grow hb)
  have HT2 := Lib.hid (OwnP.pts ho)
  have T2 := Lib.hid (Below.andThen T1.out hb (Nat.le_refl _))
  clear hb T1 HP ho
  go_wp2_with fail
  refine (rTurned_any hs g c2 w2 HP2.out HAA.out).mono ?_
  rintro e w3 ⟨v, rfl, ho, hb⟩
  obtain ⟨a4, c4, rfl, _⟩ := ho.open
  have HT3 := HT2.out.grow hb
  have HU3 := OwnP.pts ho
  have T3 := Lib.hid (Below.andThen T2.out hb (Nat.le_refl _))
  have hPR := pairs_any (hs.map turnP) (hs.map turnP) a3 a4 c3 c4 w3 HT3 HU3 rfl (by rw [List.length_map]; have := HL.out; omega)
  rw [List.length_map, decide_eq_true (show hs.map turnP = hs.map turnP from rfl)] at hPR
  clear hb T2 HP2 HT2 ho HT3 HU3
  go_wp2_with fail
  refine hPR.mono ?_
  rintro e w4 ⟨rfl, hb⟩
  have T4 := Lib.hid (Below.andThen T3.out hb (Nat.le_refl _))
  clear hb hPR T3
  go_wp2_with fail
  refine (awake_any _).mono ?_
  rintro e w5 ⟨rfl, hb⟩
  have T5 := Lib.hid (Below.andThen T4.out hb (Nat.le_refl _))
  clear hb T4
  go_wp2_with fail
  go_ret
  exact ⟨rfl, T5.out⟩
end Go.Proofs.Ytlehddifcjklgaa
