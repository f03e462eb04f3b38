import Derived.Test.YtlemipnplgbckaaBG
import Derived.Laws.AppendOwn
import Derived.ChangeKeysEq
import Derived.Maps.RangeWalk
import Derived.Maps.OwnIn
import Derived.Maps.AppendAt
import Derived.RangeFuncNested
import Derived.RangeFuncBound
import Derived.RangeFuncCalls
import Derived.RangeFuncLeaves
import Derived.Shelf.Abstract
import Derived.Shelf.RegionOpen
import Derived.WalkKit
import Derived.WalkMore
import Derived.OwnWalkIn
import Derived.TacticsInMore
import Derived.LoopNIn
import Derived.LoopIn
import Derived.WalkSpells
import Derived.WalkLawsBesides
import Derived.BigQuiet
import Derived.Deep.QuietTactic
import Derived.Lib.Hide
import Derived.Deep.RegionHeld3
import Derived.StillTailTactics
import Derived.Deep.LoopGhost
import Derived.Maps.OwnSet
import Derived.Lib.IndexAny
import Derived.Sort.QuietThIn
import Derived.Sort.QuietTacIn
import Derived.Sort.BigQuietIn
import Derived.Laws.OwnMore
import Derived.DeepKeys4
import Derived.Maps.Views
import Derived.Maps.OwnOps
import Derived.Laws.OwnMore
import Derived.Deep.DeepCutAuto
import Derived.ChangeKeysEq
namespace Go.Proofs.Ytlemipnplgbckaa
open Go.RowKit Go.Shelf
attribute [local go_sem] Oper.semAt_some
def okP (p : Pt) : Bool := !(decide (min p.1 p.2 < -20) || decide (20 < max p.1 p.2))
theorem okP_iff {p : Pt} : okP p = true ↔ Bd 20 p.1 ∧ Bd 20 p.2 := by
  unfold okP Bd
  simp only [Bool.not_eq_true', Bool.or_eq_false_iff, decide_eq_false_iff_not]
  omega
set_option maxRecDepth 100000 in
set_option maxHeartbeats 600000 in
theorem checkPairs_any (ps : List Pt) (v : Value) (w : World) (hv : SlP w v ps) (hl : ps.length ≤ 1000000) :
    Calls Try.prog 53 #[v] w fun e w' => e = .returned (.int .i64 (if ps.all okP = true then 0 else 1)) ∧ Below w.heap.size w w' := by
  obtain ⟨a, c, rfl, hc, hs⟩ := hv
  have HS := Lib.hid hs
  obtain ⟨E, hE⟩ : ∃ E : Int, (if ps.all okP = true then (0 : Int) else 1) = E := ⟨_, rfl⟩
  rw [hE]
  have HE := Lib.hid hE
  clear hs hE
  go_enter Try.func53, Try.ntmps53
  go_wp2_with fail
  go_loopw [7] (fun iv wr => ∃ k : Nat, k ≤ ps.length ∧ iv = .int .i64 (k : Int) ∧ Hid ((ps.take k).all okP = true ∧ Below w.heap.size w wr)) (fun iv _ => (ps.length - intOf iv).toNat)
  case atStart => exact ⟨0, by omega, rfl, Lib.hid ⟨rfl, Below.refl _ _⟩⟩
  case round =>
    obtain ⟨k, hk, rfl, HB⟩ := hrel
    have kw : IntKind.i64.wrap ((k : Int) + 1) = ((k + 1 : Nat) : Int) := by rw [i64_of _ (by omega) (by omega)]; omega
    by_cases hlt : k < ps.length
    · have hd : decide ((k : Int) < (ps.length : Int)) = true := decide_eq_true (by omega)
      have hdn : decide (k < ps.length) = true := decide_eq_true hlt
      obtain ⟨g, o, rfl, hps⟩ : ∃ g o, a = some ⟨g, o, none⟩ ∧ PtsAt w g o ps := HS.out.resolve_left (fun e => by rw [e] at hlt; simp at hlt)
      have hp2 := hps.below HB.out.2 hps.lt
      have k0 := hp2.x k hlt
      have k1 := hp2.y k hlt
      have HT := Lib.hid (show (ps.take (k + 1)).all okP = ((ps.take k).all okP && okP ps[k]) by rw [List.take_succ_eq_append_getElem hlt, List.all_append]; simp)
      have HM := Lib.hid (show okP ps[k] = false → ps.all okP = false from fun h => by
        rw [List.all_eq_false]; exact ⟨_, List.getElem_mem hlt, by rw [h]; simp⟩)
      have HO := Lib.hid (okP_iff (p := ps[k]))
      clear hps hp2
      generalize ps[k] = pk at *
      obtain ⟨x, y⟩ := pk
      dsimp only at k0 k1
      have HOE := Lib.hid (show okP (x, y) = !(decide (min x y < -20) || decide (20 < max x y)) from rfl)
      obtain ⟨bad, hbad⟩ : ∃ bad, (!okP (x, y)) = bad := ⟨_, rfl⟩
      have HBAD := Lib.hid hbad
      clear hbad
      go_upto_region 4 with fail
      go_cut [24] (fun t wx => t = .bool bad ∧ Hid (Below w.heap.size w wx))
      case first =>
        go_wp2_with fail
        all_goals go_meet
        all_goals
          refine ⟨congrArg _ ?_, Lib.hid (HB.out.2.alloc HB.out.2.size _)⟩
          rw [← HBAD.out, HOE.out, Bool.not_not, Bool.eq_iff_iff]
          simp only [Bool.or_eq_true, decide_eq_true_eq]
          first | omega | (simp; omega)
      case rest =>
        obtain ⟨rfl, HBC⟩ := hcut
        cases bad with
        | true =>
          have HF := Lib.hid (HM.out (by simpa using HBAD.out))
          go_wp2_with fail
          go_ret
          exact ⟨ret_int (by rw [← HE.out, HF.out]; rfl), HBC.out⟩
        | false =>
          have HN := Lib.hid (show (ps.take (k + 1)).all okP = true by rw [HT.out, HB.out.1]; simpa using HBAD.out)
          go_wp2_with fail
          exact ⟨⟨k + 1, by omega, by simp, Lib.hid ⟨HN.out, HBC.out⟩⟩, by simp [intOf]; omega⟩
    · have hd : decide ((k : Int) < (ps.length : Int)) = false := decide_eq_false (by omega)
      have hdn : decide (k < ps.length) = false := decide_eq_false hlt
      obtain rfl : k = ps.length := by omega
      have HA := Lib.hid (show ps.all okP = true by have := HB.out.1; rwa [List.take_length] at this)
      go_wp2_with fail
      go_ret
      exact ⟨ret_int (by rw [← HE.out, HA.out]; rfl), HB.out.2⟩
end Go.Proofs.Ytlemipnplgbckaa
