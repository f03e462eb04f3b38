import Derived.Test.YtlemipnplgbckaaBW
import Derived.Test.YtlemipnplgbckaaBN
import Derived.Laws.AppendOwn
import Derived.ChangeKeysEq
import Derived.Maps.RangeWalk
import Derived.Maps.OwnIn
import Derived.Maps.AppendAt
import Derived.RangeFuncNested
import Derived.RangeFuncBound
import Derived.RangeFuncCalls
import Derived.RangeFuncLeaves
import Derived.Shelf.Abstract
import Derived.Shelf.RegionOpen
import Derived.WalkKit
import Derived.WalkMore
import Derived.OwnWalkIn
import Derived.TacticsInMore
import Derived.LoopNIn
import Derived.LoopIn
import Derived.WalkSpells
import Derived.WalkLawsBesides
import Derived.BigQuiet
import Derived.Deep.QuietTactic
import Derived.Lib.Hide
import Derived.Deep.RegionHeld3
import Derived.StillTailTactics
import Derived.Deep.LoopGhost
import Derived.Maps.OwnSet
import Derived.Lib.IndexAny
import Derived.Sort.QuietThIn
import Derived.Sort.QuietTacIn
import Derived.Sort.BigQuietIn
import Derived.Laws.OwnMore
import Derived.DeepKeys4
import Derived.Maps.Views
import Derived.Maps.OwnOps
import Derived.Laws.OwnMore
import Derived.Deep.DeepCutAuto
import Derived.ChangeKeysEq
namespace Go.Proofs.Ytlemipnplgbckaa
open Go.RowKit Go.Shelf
attribute [local go_sem] Oper.semAt_some
theorem small_start (w : World) (v : Value) : Below w.heap.size w ((w.alloc (.cells [v].toArray 22)).alloc (.cells [.int .i64 0, .int .i64 0, .int .i64 0, .int .i64 0].toArray 30)) ∧ Row ((w.alloc (.cells [v].toArray 22)).alloc (.cells [.int .i64 0, .int .i64 0, .int .i64 0, .int .i64 0].toArray 30)) w.heap.size 22 [v] ∧
    Row ((w.alloc (.cells [v].toArray 22)).alloc (.cells [.int .i64 0, .int .i64 0, .int .i64 0, .int .i64 0].toArray 30)) (w.heap.size + 1) 30 [.int .i64 0, .int .i64 0, .int .i64 0, .int .i64 0] := by
  obtain ⟨b1, r1⟩ := box_start w 22 [v]
  have s1 := size_al w (.cells [v].toArray 22)
  generalize w.alloc (.cells [v].toArray 22) = w1 at *
  obtain ⟨b2, r2⟩ := box_start w1 30 [.int .i64 0, .int .i64 0, .int .i64 0, .int .i64 0]
  exact ⟨Below.andThen b1 b2 (Nat.le_refl _), r1.below b2 r1.lt, by rw [← s1]; exact r2⟩
set_option maxRecDepth 100000 in
set_option maxHeartbeats 1000000 in
theorem smallest_any (ps : List Pt) (v : Value) (w : World) (hv : SlP w v ps) (hl : ps.length ≤ 12) (hps : ∀ p ∈ ps, Bd 20 p.1 ∧ Bd 20 p.2) (c0 : Cir) (cs : List Cir)
    (hf : (circL ps).filter (fun c => !(ps.any fun p => decide (0 < whF c p))) = c0 :: cs) :
    Calls Try.prog 55 #[v] w fun e w' => e = .returned (minL c0 cs).V ∧ Below w.heap.size w w' := by
  obtain ⟨ba, rb, rr⟩ := small_start w v
  have hv2 := hv.grow ba
  have hlen1 : (circL ps).length ≤ 1000000 := by
    have h1 := ovB_len ps ps.length 0
    have h2 := thT_len ps (trL ps.length)
    have h4 := trL_len ps.length hl
    have h5 : ps.length * ps.length ≤ 12 * 12 := Nat.mul_le_mul hl hl
    unfold circL
    rw [List.length_append]
    omega
  have hcb := circL_bd hps
  have hne : circL ps ≠ [] := fun h => by rw [h] at hf; cases hf
  have hfb : ∀ m ∈ c0 :: cs, CirB m := fun m hm => hcb m (List.mem_filter.1 (by rw [hf]; exact hm)).1
  have hfl : cs.length ≤ 1000000 := by
    have h := List.length_filter_le (fun c => !(ps.any fun p => decide (0 < whF c p))) (circL ps)
    rw [hf, List.length_cons] at h; omega
  have HCI := Lib.hid (circles_any ps v _ hv2 hl hps)
  have HTS := Lib.hid (fun (c : Cir) (hc : c ∈ circL ps) (W : World) (hb : Row W w.heap.size 22 [v]) (hv : SlP W v ps) => tooSmall_any c (hcb c hc) ps hps (by omega) v w.heap.size W hb hv)
  obtain ⟨a, c, rfl, hcap, hpt⟩ := hv
  have HFF := Lib.hid (And.intro hf (And.intro hlen1 (And.intro hne (And.intro hfb hfl))))
  clear hf hlen1 hne hfb hfl hcb hps hl
  generalize ps.length = n at *
  have k0 := rb.cell 0
  simp only [List.getElem?_cons_zero] at k0
  have F0 := Lib.hid (And.intro ba (And.intro rb (And.intro rr hv2)))
  clear ba rb rr hv2 hcap hpt
  go_enter Try.func55, Try.ntmps55
  go_wp2_with fail
  refine HCI.out.mono ?_
  rintro e w1 ⟨s, rfl, ho, hb⟩
  obtain ⟨g, cap, rfl⟩ : ∃ g cap, s = .slice (some ⟨g, 0, none⟩) (circL ps).length cap := by
    rcases ho.2 with ⟨_, h0⟩ | ⟨g, cap, cur, e, _⟩
    · exact absurd (List.length_eq_zero_iff.1 h0) HFF.out.2.2.1
    · exact ⟨g, cap, e⟩
  have r1 := F0.out.2.1.below hb F0.out.2.1.lt
  have r2 := F0.out.2.2.1.below hb F0.out.2.2.1.lt
  have v1 := F0.out.2.2.2.grow hb
  have hdf := deleteFunc_any (circL ps) g cap _ 83 #[.pointer (some ⟨w.heap.size, 0, none⟩)] (fun c => ps.any fun p => decide (0 < whF c p)) w1 ho hb.size HFF.out.2.1 (enters_of Try.func83 (by kernel_rfl) rfl)
    (fun W c hbb hm => HTS.out c hm W (F0.out.2.1.below (hb.trans hbb) F0.out.2.1.lt) (F0.out.2.2.2.grow (hb.trans hbb)))
  have HDF := Lib.hid hdf
  have hB1 := Below.andThen F0.out.1 hb (Nat.le_refl _)
  have F1 := Lib.hid (And.intro hb (And.intro hB1 r2))
  clear hdf hb hB1 r1 r2 v1 ho HCI k0
  generalize (circL ps).length = m at *
  go_wp2_with fail
  refine HDF.out.mono ?_
  rintro e w2 ⟨rfl, ho2, hb2⟩
  have hsl := ho2.slc
  rw [HFF.out.1] at hsl
  have hmn := minFunc_any c0 cs _ w2 hsl HFF.out.2.2.2.2 HFF.out.2.2.2.1
  rw [HFF.out.1]
  have HMN := Lib.hid hmn
  have rr2 := F1.out.2.2.below hb2 (by simp)
  have bb2 := Below.andThen F0.out.1 (F1.out.1.trans hb2) (Nat.le_refl _)
  have F2 := Lib.hid (And.intro rr2 bb2)
  clear hsl hmn ho2 hb2 HDF rr2 bb2
  generalize (c0 :: cs).length = k at *
  go_wp2_with fail
  refine HMN.out.mono ?_
  rintro e w3 ⟨rfl, hb3⟩
  have rr3 := F2.out.1.below hb3 F2.out.1.lt
  have bb3 := Below.andThen F2.out.2 hb3 (Nat.le_refl _)
  have RT := Lib.hid rr3
  have BW := Lib.hid bb3
  have t0 := rr3.cell 0
  have t1 := rr3.cell 1
  have t2 := rr3.cell 2
  have t3 := rr3.cell 3
  have g0 := frozen_of_row _ (w.heap.size + 1) 0 _ _ rr3
  have g1 := frozen_of_row _ (w.heap.size + 1) 1 _ _ rr3
  have g2 := frozen_of_row _ (w.heap.size + 1) 2 _ _ rr3
  have g3 := frozen_of_row _ (w.heap.size + 1) 3 _ _ rr3
  simp only [List.getElem?_cons_zero, List.getElem?_cons_succ] at t0 t1 t2 t3
  obtain ⟨⟨X, Y, D, R⟩, hM⟩ : ∃ M, minL c0 cs = M := ⟨_, rfl⟩
  rw [hM]
  have HMM := Lib.hid hM
  simp only [Cir.V, cirV]
  clear hM rr3 bb3 hb3 HMN F0 F1 F2 HFF HTS
  go_wp2_with fail
  have hr := (((RT.out.set 0 (.int .i64 X)).set 1 (.int .i64 Y)).set 2 (.int .i64 D)).set 3 (.int .i64 R)
  have v0 := hr.cell 0
  have v1 := hr.cell 1
  have v2 := hr.cell 2
  have v3 := hr.cell 3
  simp only [List.set_cons_zero, List.set_cons_succ, List.getElem?_cons_zero, List.getElem?_cons_succ] at v0 v1 v2 v3
  refine bodyPost_ret (v := cirV X Y D R) (by simp [results, Try.results55, go_sem, v0, v1, v2, v3, cirV]) rfl ⟨by rw [HMM.out]; rfl, ?_⟩
  exact (((BW.out.setCell (p := ⟨w.heap.size + 1, 0, none⟩) (by dsimp only; omega) _).setCell (p := ⟨w.heap.size + 1, 1, none⟩) (by dsimp only; omega) _).setCell (p := ⟨w.heap.size + 1, 2, none⟩) (by dsimp only; omega) _).setCell (p := ⟨w.heap.size + 1, 3, none⟩) (by dsimp only; omega) _
end Go.Proofs.Ytlemipnplgbckaa
