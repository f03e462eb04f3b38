import Derived.Test.YtlemipnplgbckaaPL
import Derived.Laws.AppendOwn
import Derived.ChangeKeysEq
import Derived.Maps.RangeWalk
import Derived.Maps.OwnIn
import Derived.Maps.AppendAt
import Derived.RangeFuncNested
import Derived.RangeFuncBound
import Derived.RangeFuncCalls
import Derived.RangeFuncLeaves
import Derived.Shelf.Abstract
import Derived.Shelf.RegionOpen
import Derived.WalkKit
import Derived.WalkMore
import Derived.OwnWalkIn
import Derived.TacticsInMore
import Derived.LoopNIn
import Derived.LoopIn
import Derived.WalkSpells
import Derived.WalkLawsBesides
import Derived.BigQuiet
import Derived.Deep.QuietTactic
import Derived.Lib.Hide
import Derived.Deep.RegionHeld3
import Derived.StillTailTactics
import Derived.Deep.LoopGhost
import Derived.Maps.OwnSet
import Derived.Lib.IndexAny
import Derived.Sort.QuietThIn
import Derived.Sort.QuietTacIn
import Derived.Sort.BigQuietIn
import Derived.Laws.OwnMore
import Derived.DeepKeys4
import Derived.Maps.Views
import Derived.Maps.OwnOps
import Derived.Laws.OwnMore
import Derived.Deep.DeepCutAuto
import Derived.ChangeKeysEq
namespace Go.Proofs.Ytlemipnplgbckaa
open Go.RowKit Go.Shelf
attribute [local go_sem] Oper.semAt_some
/-- the numbers of the points for which something holds -/
def whK (ps : List Pt) (h : Pt → Bool) (k : Nat) : List Nat := (List.range k).filter (fun i => h (ptAt ps i))
def whL (ps : List Pt) (h : Pt → Bool) : List Nat := whK ps h ps.length
theorem whK_step (ps : List Pt) (h : Pt → Bool) (k : Nat) : whK ps h (k + 1) = whK ps h k ++ if h (ptAt ps k) = true then [k] else [] := by
  unfold whK
  rw [List.range_succ, List.filter_append, List.filter_cons, List.filter_nil]
theorem whK_len (ps : List Pt) (h : Pt → Bool) (k : Nat) : (whK ps h k).length ≤ k := Nat.le_trans (List.length_filter_le _ _) (by rw [List.length_range]; exact Nat.le_refl _)
theorem info3c : (Try.prog.info? 3).map (fun i => (i.zero, i.size, i.bytes)) = some (some (.int .i64 0), 1, 8) := info3
set_option maxRecDepth 100000 in
set_option maxHeartbeats 1000000 in
theorem which_any (ps : List Pt) (v : Value) (G : FuncId) (caps : Array Value) (gl : Pt → Bool) (w : World) (hv : SlP w v ps) (hl : ps.length ≤ 12)
    (hen : ∀ args W, (callFunc G args).run Try.prog W = .ok (.enter G args) W)
    (hg : ∀ W x y, Below w.heap.size w W → (x, y) ∈ ps → Calls Try.prog G (#[.agg #[.int .i64 x, .int .i64 y]] ++ caps) W fun e w' => e = .returned (.bool (gl (x, y))) ∧ Below W.heap.size W w') :
    Calls Try.prog 70 #[v, .func (.func G) #[] caps] w fun e w' => ∃ s, e = .returned s ∧ w'.ownsRow w.heap.size 3 1 s (whL ps gl).length ((whL ps gl).map (fun n : Nat => encI (n : Int))) ∧ Below w.heap.size w w' := by
  obtain ⟨i0, hi, hz0, hz1, hz2⟩ := info_parts info3
  obtain ⟨a, c, rfl, hc, hs⟩ := hv
  have HS := Lib.hid hs
  have HG := Lib.hid hg
  have HL := Lib.hid (show whL ps gl = whK ps gl ps.length from rfl)
  rw [HL.out]
  obtain ⟨n, hn⟩ : ∃ n, ps.length = n := ⟨_, rfl⟩
  have HN := Lib.hid hn
  rw [hn] at hl hc ⊢
  clear hs hg HL hn
  go_enter Try.func70, Try.ntmps70
  go_wp2_with fail
  go_loopw [10, 5] (fun iv lv wr => ∃ k : Nat, k ≤ n ∧ iv = .int .i64 (k : Int) ∧ Hid (wr.ownsRow w.heap.size 3 1 lv (whK ps gl k).length ((whK ps gl k).map (fun n : Nat => encI (n : Int))) ∧ Below w.heap.size w wr)) (fun iv _ _ => (n - intOf iv).toNat)
  case atStart => exact ⟨0, by omega, rfl, Lib.hid ⟨World.ownsRow_nil _ _ _ _, Below.refl _ _⟩⟩
  case round =>
    obtain ⟨k, hk, rfl, HB⟩ := hrel
    have kw : IntKind.i64.wrap ((k : Int) + 1) = ((k + 1 : Nat) : Int) := by rw [i64_of _ (by omega) (by omega)]; omega
    by_cases hlt : k < n
    · have hd : decide ((k : Int) < (n : Int)) = true := decide_eq_true (by omega)
      have hdn : decide (k < n) = true := decide_eq_true hlt
      have hlk : k < ps.length := by rw [HN.out]; exact hlt
      obtain ⟨g, o, rfl, hps⟩ : ∃ g o, a = some ⟨g, o, none⟩ ∧ PtsAt w g o ps := HS.out.resolve_left (fun e => by rw [e] at hlk; simp at hlk)
      have hp2 : PtsAt wr g o ps := hps.below HB.out.2 hps.lt
      have k0 := hp2.x k hlk
      have k1 := hp2.y k hlk
      have HST := Lib.hid (whK_step ps gl k)
      have HLN := Lib.hid (whK_len ps gl k)
      have hpt := ptAt_lt hlk
      have HGK := Lib.hid (fun W hb => HG.out W ps[k].1 ps[k].2 hb (List.getElem_mem hlk))
      rw [hpt] at HST
      clear hps hp2 hpt
      generalize ps[k] = pk at *
      clear hlk
      obtain ⟨x, y⟩ := pk
      dsimp only at k0 k1 HGK
      have ba := Below.al (Below.refl wr.heap.size wr) (Nat.le_refl _) (.cells #[.int .i64 x, .int .i64 y] 28)
      have HGC := Lib.hid (HGK.out _ (Below.andThen HB.out.2 ba (Nat.le_refl _)))
      have BA := Lib.hid ba
      obtain ⟨E, hE⟩ : ∃ E, gl (x, y) = E := ⟨_, rfl⟩
      rw [hE] at HGC HST
      clear hE ba HGK
      generalize whK ps gl k = LL at *
      go_wp2_with fail
      refine HGC.out.mono ?_
      rintro e w1 ⟨rfl, hb1⟩
      have HO1 := Lib.hid (own_grow (own_grow HB.out.1 BA.out) hb1)
      have HB1 := Lib.hid (Below.andThen (Below.andThen HB.out.2 BA.out (Nat.le_refl _)) hb1 (Nat.le_refl _))
      clear hb1 HGC k0 k1
      cases E with
      | true =>
        go_wp2_with (at_builtin; refine wpList_append_own_at _ rfl _ _ 35 rfl w.heap.size 3 i0 (.int .i64 0) 1 8 Try.underlying35 hi hz0 hz1 hz2 rfl (by decide) _ _ _ rfl (HO1.out.alloc _) _ 1 1 [encI (k : Int)] rfl rfl (cell_one_at _ _ _ _ (by simp)) (by simp [Value.oneCell', encI]) (by have := HLN.out; unfold maxLen; omega) (by have := HLN.out; omega) (Nat.le_trans HB1.out.size (by simp)) ?_; intro v' w2' hown' hgrow hnil hat; have HR2 := Lib.hid hown'; have HB2 := Lib.hid (own_below HO1.out HB1.out hgrow); clear hown' hgrow hnil hat)
        exact ⟨⟨k + 1, by omega, by simp, by rw [HST.out, if_pos (by trivial)]; exact Lib.hid ⟨by simpa using HR2.out, HB2.out⟩⟩, by simp [intOf]; omega⟩
      | false =>
        go_wp2_with fail
        exact ⟨⟨k + 1, by omega, by simp, by rw [HST.out, if_neg (by simp), List.append_nil]; exact Lib.hid ⟨HO1.out, HB1.out⟩⟩, by simp [intOf]; omega⟩
    · have hd : decide ((k : Int) < (n : Int)) = false := decide_eq_false (by omega)
      have hdn : decide (k < n) = false := decide_eq_false hlt
      obtain rfl : k = n := by omega
      go_wp2_with fail
      refine bodyPost_ret (v := u5) (by simp [results, Try.results70, go_sem]) rfl ⟨u5, rfl, HB.out.1, HB.out.2⟩
set_option maxRecDepth 100000 in
set_option maxHeartbeats 400000 in
/-- On's closure: a point is on a circle that is captured -/
theorem on_any (c : Cir) (hc : CirB c) (x y : Int) (hx : Bd 20 x) (hy : Bd 20 y) (b : Nat) (w : World) (hb : Row w b 30 [.int .i64 c.X, .int .i64 c.Y, .int .i64 c.D, .int .i64 c.R]) :
    Calls Try.prog 71 #[.agg #[.int .i64 x, .int .i64 y], .pointer (some ⟨b, 0, none⟩)] w fun e w' => e = .returned (.bool (decide (whF c (x, y) = 0))) ∧ Below w.heap.size w w' := by
  have ba := Below.al (Below.refl w.heap.size w) (Nat.le_refl _) (.cells #[.int .i64 x, .int .i64 y] 28)
  have rr := hb.below ba hb.lt
  have k0 := rr.cell 0
  have k1 := rr.cell 1
  have k2 := rr.cell 2
  have k3 := rr.cell 3
  simp only [List.getElem?_cons_zero, List.getElem?_cons_succ] at k0 k1 k2 k3
  have HW := Lib.hid (fun (W : World) => where_any c.X c.Y c.D c.R x y W hc.1 hc.2.1 hc.d hx hy)
  have HWF := Lib.hid (show cmpI (apF c.X c.Y c.D (x, y)) c.R = whF c (x, y) from rfl)
  rw [HWF.out] at HW
  have BA := Lib.hid ba
  generalize whF c (x, y) = q at *
  have HR := Lib.hid (show (q == 0) = decide (q = 0) by rw [Bool.eq_iff_iff]; simp)
  clear hb rr ba hc hx hy
  go_enter Try.func71, Try.ntmps71
  go_wp2_with fail
  refine (HW.out _).mono ?_
  rintro e w1 ⟨rfl, hb1⟩
  have HB := Lib.hid (Below.andThen BA.out hb1 (Nat.le_refl _))
  clear hb1 k0 k1 k2 k3
  go_wp2_with fail
  go_ret
  exact ⟨ret_bool HR.out, HB.out⟩
end Go.Proofs.Ytlemipnplgbckaa
