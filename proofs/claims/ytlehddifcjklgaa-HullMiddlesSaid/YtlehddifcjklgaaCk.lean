import Derived.Test.YtlehddifcjklgaaCi
import Derived.Test.YtlehddifcjklgaaBt
import Derived.Maps.OwnIn
import Derived.Maps.OwnSet
import Derived.Maps.AppendAt
import Derived.RangeFuncNested
import Derived.RangeFuncBound
import Derived.RangeFuncCalls
import Derived.RangeFuncLeaves
import Derived.Shelf.Abstract
import Derived.Shelf.RegionOpen
import Derived.WalkKit
import Derived.OwnWalkIn
import Derived.TacticsInMore
import Derived.LoopNIn
import Derived.LoopIn
import Derived.WalkMore
import Derived.Sort.QuietThIn
import Derived.Sort.QuietTacIn
import Derived.Sort.BigQuietIn
import Derived.WalkSpells
import Derived.WalkLawsBesides
import Derived.BigQuiet
import Derived.Deep.QuietTactic
import Derived.Lib.Hide
import Derived.Deep.RegionHeld3
import Derived.StillTailTactics
import Derived.Deep.LoopGhost
import Derived.Lib.IndexAny
namespace Go.Proofs.Ytlehddifcjklgaa
open Go.RowKit Go.Shelf
attribute [local go_sem] Oper.semAt_some
set_option maxRecDepth 100000 in
set_option maxHeartbeats 2000000 in
theorem HullMiddles_any (ps : List Pt) (a : Option Addr) (c : Nat) (fr : Int) (w : World) (hp : PtsA w a ps c) (_hc : ps.length ≤ c) (_hn : a = none → c = 0) (hl : ps.length ≤ maxLen) (hz : ∀ q ∈ ps, InI q.1 ∧ InI q.2) (_hi : InI fr) :
    Calls Try.prog 4 #[.slice a ps.length c, .int .i64 fr] w fun e w' => e = .returned (.bool true) ∧ Below w.heap.size w w' := by
  have htm := tame_any ps a c fr w hp hl hz
  clear hp _hc _hn hl hz _hi
  go_enter Try.func4, Try.ntmps4
  go_wp2_with fail
  refine htm.mono ?_
  rintro e w1 ⟨v, hs, rfl, ho, hck, hb⟩
  have ha := chk_areP hck
  have hA := chk_area hck
  obtain ⟨h3, h12⟩ := areP_len ha
  obtain ⟨g, c2, rfl, hpt⟩ : ∃ g c2, v = .slice (some ⟨g, 0, none⟩) hs.length c2 ∧ PtsAt w1 g 0 hs := by
    obtain ⟨a2, c2, rfl, h⟩ := ho.open
    rcases h with ⟨_, _, rfl⟩ | ⟨g, hg, rfl, h, _⟩
    · simp at h3
    · exact ⟨g, c2, rfl, h⟩
  have HP := Lib.hid hpt
  have T1 := Lib.hid hb
  have CK := Lib.hid hck
  have HAA := Lib.hid (And.intro ha hA)
  clear htm ho hb hck hpt ha hA h3 h12
  go_wp2_with fail
  refine (area_any hs g c2 w1 HP.out CK.out).mono ?_
  rintro e w2 ⟨rfl, hb⟩
  have HP2 := Lib.hid (HP.out.grow hb)
  have T2 := Lib.hid (Below.andThen T1.out hb (Nat.le_refl _))
  clear hb T1 HP
  go_wp2_with fail
  have HM1 := Middle_any hs g c2 w2 HP2.out CK.out HAA.out.2
  have HM2 := Lib.hid (fun W (h : PtsAt W g 0 hs) => rMiddle_any hs g c2 W h HAA.out.1 HAA.out.2)
  have HM3 := Lib.hid (fun W (h : PtsAt W g 0 hs) => rArea_any hs g c2 W h HAA.out.1)
  obtain ⟨X, Y, D, hm⟩ : ∃ X Y D, mid hs = (X, Y, D) := ⟨_, _, _, rfl⟩
  obtain ⟨A, hAe⟩ : ∃ A, area hs = A := ⟨_, rfl⟩
  rw [hm] at HM1 HM2
  rw [hAe] at HM3 ⊢
  dsimp only at HM1 HM2
  clear hm hAe
  refine HM1.mono ?_
  rintro e w3 ⟨rfl, hb⟩
  have HP3 := Lib.hid (HP2.out.grow hb)
  have T3 := Lib.hid (Below.andThen T2.out hb (Nat.le_refl _))
  clear hb T2 HP2 HM1
  go_wp2_with fail
  obtain ⟨V, hV⟩ : ∃ V, V = w3.alloc (.cells #[.int .i64 X, .int .i64 Y, .int .i64 D] 29) := ⟨_, rfl⟩
  have BV := Lib.hid (show Below w3.heap.size w3 V by rw [hV]; exact (Below.refl _ _).alloc (Nat.le_refl _) _)
  have rV : Row V w3.heap.size 29 [.int .i64 X, .int .i64 Y, .int .i64 D] := by rw [hV]; exact Row.new _ _ _
  have HPV := Lib.hid (HP3.out.grow BV.out)
  rw [← hV]
  clear hV
  have x0 := Kl.cell rV.lt (rV.cell 0)
  have x1 := Kl.cell rV.lt (rV.cell 1)
  have x2 := Kl.cell rV.lt (rV.cell 2)
  have E29 := eq29 X Y D
  have HC32 := Lib.hid (fun (x : Kl V) => HM3.out x.W (HPV.out.grow x.h))
  have HC33 := Lib.hid (fun (x : Kl V) => HM2.out x.W (HPV.out.grow x.h))
  have HC28 := Lib.hid (fun (x : Kl V) => awake_any x.W)
  clear rV
  refine wp_region_below (by kernel_rfl) (by kernel_rfl) ?_
  repeat (go_big_quiet_step (first | (go_at_call 32; exact Kl.call (HC32.out _)) | (go_at_call 33; exact Kl.call (HC33.out _)) | (go_at_call 28; exact Kl.call (HC28.out _))))
  refine wpQuiet_nil ?_
  rintro _ ⟨wq, rfl⟩
  go_wp2_with fail
  go_ret
  exact ⟨rfl, Below.andThen T3.out (Below.andThen BV.out wq.h (Nat.le_refl _)) (Nat.le_refl _)⟩
end Go.Proofs.Ytlehddifcjklgaa
