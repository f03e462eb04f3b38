import Derived.Test.YtlamppplnojpbaaLl
import Derived.Laws.AppendOwn
import Derived.ChangeKeysEq
import Derived.Maps.RangeWalk
import Derived.Maps.OwnIn
import Derived.Maps.AppendAt
import Derived.RangeFuncNested
import Derived.RangeFuncBound
import Derived.RangeFuncCalls
import Derived.RangeFuncLeaves
import Derived.Shelf.Abstract
import Derived.Shelf.RegionOpen
import Derived.WalkKit
import Derived.WalkMore
import Derived.OwnWalkIn
import Derived.TacticsInMore
import Derived.LoopNIn
import Derived.LoopIn
import Derived.WalkSpells
import Derived.WalkLawsBesides
import Derived.BigQuiet
import Derived.Deep.QuietTactic
import Derived.Lib.Hide
import Derived.Deep.RegionHeld3
import Derived.StillTailTactics
import Derived.Deep.LoopGhost
import Derived.Maps.OwnSet
import Derived.Lib.IndexAny
import Derived.Sort.QuietThIn
import Derived.Sort.QuietTacIn
import Derived.Sort.BigQuietIn
import Derived.Laws.OwnMore
namespace Go.Proofs.Ytlamppplnojpbaa
open Go.RowKit Go.Shelf
attribute [local go_sem] Oper.semAt_some
theorem takeW_take (q : Pt → Bool) (ps : List Pt) : ∀ p ∈ ps.takeWhile q, q p = true := fun p hp => by
  have := List.all_takeWhile (p := q) (l := ps)
  exact List.all_eq_true.1 this p hp
theorem all_snoc {q : Pt → Bool} {ps : List Pt} {k : Nat} (h : k < ps.length) (ha : ∀ p ∈ ps.take k, q p = true) (hq : q ps[k] = true) : ∀ p ∈ ps.take (k + 1), q p = true := fun p hp => by
  rw [List.take_succ_eq_append_getElem h, List.mem_append, List.mem_singleton] at hp
  rcases hp with hp | rfl
  · exact ha p hp
  · exact hq
set_option maxRecDepth 100000 in
set_option maxHeartbeats 2000000 in
theorem refPour_any (ss fs : List Int) (ps : List Pt) (v u x : Value) (w : World) (hv : SlI w v ss) (hu : SlI w u fs) (hx : SlP w x ps) (hj : jugsB ss = true) (hf : fitsB ss fs = true) (hl : ps.length ≤ 1000000) :
    Calls Try.prog 34 #[v, u, x] w fun e w' => ∃ s, e = .returned (.tuple #[s, .int .i64 ((ps.takeWhile (okP ss.length)).length : Int)]) ∧ SlI w' s (goF ss fs (ps.takeWhile (okP ss.length))) ∧ Below w.heap.size w w' := by
  obtain ⟨xa, xc, rfl, hxc, hxs⟩ := hx
  have HV := Lib.hid hv
  have HU := Lib.hid hu
  have HXS := Lib.hid hxs
  have HJ := Lib.hid hj
  have HF := Lib.hid hf
  have hn := jugsB_len hj
  clear hv hu hxs hj hf
  go_enter Try.func34, Try.ntmps34
  go_wp2_with fail
  go_loopw [1, 8] (fun fv iv wr => ∃ i : Nat, i ≤ ps.length ∧ iv = .int .i64 (i : Int) ∧ Hid (SlI wr fv (goF ss fs (ps.take i))) ∧ Hid (Below w.heap.size w wr) ∧ Hid (∀ p ∈ ps.take i, okP ss.length p = true)) (fun _ iv _ => (ps.length - intOf iv).toNat)
  case atStart => exact ⟨0, by omega, rfl, by rw [List.take_zero]; exact HU, Lib.hid (Below.refl _ _), Lib.hid (fun p hp => by simp at hp)⟩
  case round =>
    obtain ⟨k, hk, rfl, HS, HB, HA⟩ := hrel
    have kw : IntKind.i64.wrap ((k : Int) + 1) = ((k + 1 : Nat) : Int) := by rw [i64_of _ (by omega) (by omega)]; omega
    by_cases hlt : k < ps.length
    · have hd : decide ((k : Int) < (ps.length : Int)) = true := decide_eq_true (by omega)
      have hdn : decide (k < ps.length) = true := decide_eq_true hlt
      obtain ⟨g, o, rfl, hps⟩ : ∃ g o, xa = some ⟨g, o, none⟩ ∧ PtsAt w g o ps := HXS.out.resolve_left (fun e => by rw [e] at hlt; simp at hlt)
      have hps2 := hps.grow HB.out
      have c1 := hps2.x k hlt
      have c2 := hps2.y k hlt
      have HG := Lib.hid (goF_snoc ss fs (ps.take k) ps[k])
      have HTS := Lib.hid (show ps.take (k + 1) = ps.take k ++ [ps[k]] from List.take_succ_eq_append_getElem hlt)
      have HFIT := Lib.hid (fits_goF HJ.out (ps.take k) fs HF.out HA.out)
      have HASN := Lib.hid (fun h => all_snoc (q := okP ss.length) hlt HA.out h)
      have HTW := Lib.hid (fun h => takeW_at (q := okP ss.length) hlt HA.out h)
      clear hps hps2
      obtain ⟨E, hE⟩ : ∃ E, okP ss.length ps[k] = E := ⟨_, rfl⟩
      cases E with
      | false =>
        have HT := Lib.hid (HTW.out hE)
        have hbad : okP ss.length (ps[k].1, ps[k].2) = false := hE
        have HB2 := Lib.hid hbad
        clear hE hbad HTW HASN HG HTS
        generalize ps[k].1 = px at *
        generalize ps[k].2 = py at *
        obtain ⟨fa, fc, hfv, _⟩ := HS.out
        subst hfv
        go_wp2_with fail
        refine (rStep_bad ss _ _ px py v fa wr (HV.out.grow HB.out) (by omega) HB2.out).mono ?_
        rintro e w1 ⟨rfl, hb1⟩
        have HB1 := Lib.hid (Below.andThen HB.out hb1 (Nat.le_refl _))
        have HS1 := Lib.hid (HS.out.grow hb1)
        clear hb1
        go_wp2_with fail
        go_ret2
        refine ⟨.slice fa (goF ss fs (ps.take k)).length fc, ?_, ?_, HB1.out⟩
        · rw [HT.out, List.length_take, Nat.min_eq_left hk]; rfl
        · rw [HT.out]; exact HS1.out
      | true =>
        obtain ⟨o1, o2, o3⟩ := okP_iff.1 hE
        have HSNO := Lib.hid (HASN.out hE)
        have HST := Lib.hid (fun (W : World) (hb : Below wr.heap.size wr W) => rStep_any ss (goF ss fs (ps.take k)) v u1 ps[k].1 ps[k].2 W (HV.out.grow (Below.andThen HB.out hb (Nat.le_refl _))) (HS.out.grow hb) HJ.out HFIT.out o2 o3 o1)
        clear hE HTW HASN o1 o2 o3
        generalize ps[k].1 = px at *
        generalize ps[k].2 = py at *
        go_wp2_with fail
        refine (HST.out wr (Below.refl _ _)).mono ?_
        rintro e w1 ⟨s, rfl, hs, hb1⟩
        have HB1 := Lib.hid (Below.andThen HB.out hb1 (Nat.le_refl _))
        have HS1 := Lib.hid (sli_own hs)
        clear hs hb1 HST
        go_wp2_with fail
        go_roundw
        case rel => exact ⟨k + 1, by omega, by simp, by rw [HTS.out, HG.out]; exact HS1, HB1, HSNO⟩
        case measure => simp [intOf]; omega
    · have hd : decide ((k : Int) < (ps.length : Int)) = false := decide_eq_false (by omega)
      have hdn : decide (k < ps.length) = false := decide_eq_false hlt
      obtain rfl : k = ps.length := by omega
      have HT := Lib.hid (show ps.takeWhile (okP ss.length) = ps from takeW_all (by have := HA.out; rwa [List.take_length] at this))
      have HS2 := HS.out
      rw [List.take_length] at HS2
      have HS3 := Lib.hid HS2
      clear HS2 HS
      go_wp2_with fail
      go_ret2
      exact ⟨u1, by rw [HT.out]; rfl, by rw [HT.out]; exact HS3.out, HB.out⟩
end Go.Proofs.Ytlamppplnojpbaa
