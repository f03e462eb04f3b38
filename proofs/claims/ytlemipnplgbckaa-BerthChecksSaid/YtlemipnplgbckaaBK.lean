import Derived.Test.YtlemipnplgbckaaBJ
import Derived.Laws.AppendOwn
import Derived.ChangeKeysEq
import Derived.Maps.RangeWalk
import Derived.Maps.OwnIn
import Derived.Maps.AppendAt
import Derived.RangeFuncNested
import Derived.RangeFuncBound
import Derived.RangeFuncCalls
import Derived.RangeFuncLeaves
import Derived.Shelf.Abstract
import Derived.Shelf.RegionOpen
import Derived.WalkKit
import Derived.WalkMore
import Derived.OwnWalkIn
import Derived.TacticsInMore
import Derived.LoopNIn
import Derived.LoopIn
import Derived.WalkSpells
import Derived.WalkLawsBesides
import Derived.BigQuiet
import Derived.Deep.QuietTactic
import Derived.Lib.Hide
import Derived.Deep.RegionHeld3
import Derived.StillTailTactics
import Derived.Deep.LoopGhost
import Derived.Maps.OwnSet
import Derived.Lib.IndexAny
import Derived.Sort.QuietThIn
import Derived.Sort.QuietTacIn
import Derived.Sort.BigQuietIn
import Derived.Laws.OwnMore
import Derived.DeepKeys4
import Derived.Maps.Views
import Derived.Maps.OwnOps
import Derived.Laws.OwnMore
import Derived.Deep.DeepCutAuto
import Derived.ChangeKeysEq
namespace Go.Proofs.Ytlemipnplgbckaa
open Go.RowKit Go.Shelf
attribute [local go_sem] Oper.semAt_some
set_option maxRecDepth 100000 in
set_option maxHeartbeats 600000 in
theorem indexFunc_any (ps : List Pt) (v : Value) (G : FuncId) (caps : Array Value) (gl : Pt → Bool) (w : World) (hv : SlP w v ps) (hl : ps.length ≤ 1000000)
    (hen : ∀ args W, (callFunc G args).run Try.prog W = .ok (.enter G args) W)
    (hg : ∀ W x y, Below w.heap.size w W → (x, y) ∈ ps → Calls Try.prog G (#[.agg #[.int .i64 x, .int .i64 y]] ++ caps) W fun e w' => e = .returned (.bool (gl (x, y))) ∧ Below W.heap.size W w') :
    Calls Try.prog 96 #[v, .func (.func G) #[] caps] w fun e w' => ∃ r : Int, e = .returned (.int .i64 r) ∧ (0 ≤ r ↔ ps.any gl = true) ∧ Below w.heap.size w w' := by
  obtain ⟨a, c, rfl, hc, hs⟩ := hv
  have HS := Lib.hid hs
  have HG := Lib.hid hg
  clear hs hg
  go_enter Try.func96, Try.ntmps96
  go_wp2_with fail
  go_loopw [8] (fun iv wr => ∃ k : Nat, k ≤ ps.length ∧ iv = .int .i64 (k : Int) ∧ Hid ((ps.take k).any gl = false ∧ Below w.heap.size w wr)) (fun iv _ => (ps.length - intOf iv).toNat)
  case atStart => exact ⟨0, by omega, rfl, Lib.hid ⟨by simp, Below.refl _ _⟩⟩
  case round =>
    obtain ⟨k, hk, rfl, HB⟩ := hrel
    have kw : IntKind.i64.wrap ((k : Int) + 1) = ((k + 1 : Nat) : Int) := by rw [i64_of _ (by omega) (by omega)]; omega
    by_cases hlt : k < ps.length
    · have hd : decide ((k : Int) < (ps.length : Int)) = true := decide_eq_true (by omega)
      have hdn : decide (k < ps.length) = true := decide_eq_true hlt
      obtain ⟨g, o, rfl, hps⟩ : ∃ g o, a = some ⟨g, o, none⟩ ∧ PtsAt w g o ps := HS.out.resolve_left (fun e => by rw [e] at hlt; simp at hlt)
      have hp2 : PtsAt wr g o ps := hps.below HB.out.2 hps.lt
      have k0 := hp2.x k hlt
      have k1 := hp2.y k hlt
      have HT := Lib.hid (show ps.take (k + 1) = ps.take k ++ [ps[k]] from List.take_succ_eq_append_getElem hlt)
      have HM := Lib.hid (show gl ps[k] = true → ps.any gl = true from fun h => List.any_eq_true.2 ⟨_, List.getElem_mem hlt, h⟩)
      have HGK := Lib.hid (HG.out wr ps[k].1 ps[k].2 HB.out.2 (List.getElem_mem hlt))
      clear hps hp2
      generalize ps[k] = pk at *
      obtain ⟨x, y⟩ := pk
      dsimp only at k0 k1 HGK
      obtain ⟨E, hE⟩ : ∃ E, gl (x, y) = E := ⟨_, rfl⟩
      rw [hE] at HGK HM
      have HE := Lib.hid hE
      clear hE
      go_wp2_with fail
      refine HGK.out.mono ?_
      rintro e w1 ⟨rfl, hb1⟩
      have HB1 := Lib.hid (Below.andThen HB.out.2 hb1 (Nat.le_refl _))
      clear hb1 HGK k0 k1
      cases E with
      | true =>
        have HM2 := Lib.hid (HM.out rfl)
        go_wp2_with fail
        go_ret
        exact ⟨(k : Int), rfl, ⟨fun _ => HM2.out, fun _ => by omega⟩, HB1.out⟩
      | false =>
        have HN := Lib.hid (show (ps.take (k + 1)).any gl = false by rw [HT.out, List.any_append, HB.out.1]; simp [HE.out])
        go_wp2_with fail
        exact ⟨⟨k + 1, by omega, by simp, Lib.hid ⟨HN.out, HB1.out⟩⟩, by simp [intOf]; omega⟩
    · have hd : decide ((k : Int) < (ps.length : Int)) = false := decide_eq_false (by omega)
      have hdn : decide (k < ps.length) = false := decide_eq_false hlt
      obtain rfl : k = ps.length := by omega
      have HN := Lib.hid (show ps.any gl = false by have := HB.out.1; rwa [List.take_length] at this)
      go_wp2_with fail
      go_ret
      exact ⟨-1, rfl, by rw [HN.out]; simp, HB.out.2⟩
set_option maxRecDepth 100000 in
set_option maxHeartbeats 400000 in
theorem containsFunc_any (ps : List Pt) (v : Value) (G : FuncId) (caps : Array Value) (gl : Pt → Bool) (w : World) (hv : SlP w v ps) (hl : ps.length ≤ 1000000)
    (hen : ∀ args W, (callFunc G args).run Try.prog W = .ok (.enter G args) W)
    (hg : ∀ W x y, Below w.heap.size w W → (x, y) ∈ ps → Calls Try.prog G (#[.agg #[.int .i64 x, .int .i64 y]] ++ caps) W fun e w' => e = .returned (.bool (gl (x, y))) ∧ Below W.heap.size W w') :
    Calls Try.prog 64 #[v, .func (.func G) #[] caps] w fun e w' => e = .returned (.bool (ps.any gl)) ∧ Below w.heap.size w w' := by
  have HI := Lib.hid (indexFunc_any ps v G caps gl w hv hl hen hg)
  obtain ⟨a, c, rfl, _⟩ := hv
  clear hg
  go_enter Try.func64, Try.ntmps64
  go_wp2_with fail
  refine HI.out.mono ?_
  rintro e w1 ⟨r, rfl, hr, hb⟩
  have HB := Lib.hid hb
  have HR := Lib.hid (show decide (0 ≤ r) = ps.any gl by rw [Bool.eq_iff_iff]; simpa using hr)
  clear hr hb HI
  go_wp2_with fail
  go_ret
  exact ⟨ret_bool HR.out, HB.out⟩
/-- a circle of the program's -/
structure Cir where
  X : Int
  Y : Int
  D : Int
  R : Int
deriving DecidableEq
def Cir.V (c : Cir) : Value := cirV c.X c.Y c.D c.R
def CirB (c : Cir) : Prop := Bd 1000000 c.X ∧ Bd 1000000 c.Y ∧ (1 ≤ c.D ∧ c.D ≤ 1000000) ∧ 0 ≤ c.R ∧ c.R ≤ 1000000000000
/-- where a point is by a circle -/
def whF (c : Cir) (p : Pt) : Int := cmpI (apF c.X c.Y c.D p) c.R
theorem CirB.d {c : Cir} (h : CirB c) : Bd 1000000 c.D := by have := h.2.2.1; unfold Bd; omega
set_option maxRecDepth 100000 in
set_option maxHeartbeats 400000 in
/-- a point is outside a circle that is captured -/
theorem outside_any (c : Cir) (hc : CirB c) (x y : Int) (hx : Bd 20 x) (hy : Bd 20 y) (b : Nat) (w : World) (hb : Row w b 30 [.int .i64 c.X, .int .i64 c.Y, .int .i64 c.D, .int .i64 c.R]) :
    Calls Try.prog 84 #[.agg #[.int .i64 x, .int .i64 y], .pointer (some ⟨b, 0, none⟩)] w fun e w' => e = .returned (.bool (decide (0 < whF c (x, y)))) ∧ Below w.heap.size w w' := by
  have ba := Below.al (Below.refl w.heap.size w) (Nat.le_refl _) (.cells #[.int .i64 x, .int .i64 y] 28)
  have rr := hb.below ba hb.lt
  have k0 := rr.cell 0
  have k1 := rr.cell 1
  have k2 := rr.cell 2
  have k3 := rr.cell 3
  simp only [List.getElem?_cons_zero, List.getElem?_cons_succ] at k0 k1 k2 k3
  have HW := Lib.hid (fun (W : World) => where_any c.X c.Y c.D c.R x y W hc.1 hc.2.1 hc.d hx hy)
  have HWF := Lib.hid (show cmpI (apF c.X c.Y c.D (x, y)) c.R = whF c (x, y) from rfl)
  rw [HWF.out] at HW
  have BA := Lib.hid ba
  generalize whF c (x, y) = q at *
  clear hb rr ba hc hx hy
  go_enter Try.func84, Try.ntmps84
  go_wp2_with fail
  refine (HW.out _).mono ?_
  rintro e w1 ⟨rfl, hb1⟩
  have HB := Lib.hid (Below.andThen BA.out hb1 (Nat.le_refl _))
  clear hb1 k0 k1 k2 k3
  go_wp2_with fail
  go_ret
  exact ⟨rfl, HB.out⟩
set_option maxRecDepth 100000 in
set_option maxHeartbeats 400000 in
/-- a point is inside a circle that is captured -/
theorem inside_any (c : Cir) (hc : CirB c) (x y : Int) (hx : Bd 20 x) (hy : Bd 20 y) (b : Nat) (w : World) (hb : Row w b 30 [.int .i64 c.X, .int .i64 c.Y, .int .i64 c.D, .int .i64 c.R]) :
    Calls Try.prog 62 #[.agg #[.int .i64 x, .int .i64 y], .pointer (some ⟨b, 0, none⟩)] w fun e w' => e = .returned (.bool (decide (whF c (x, y) < 0))) ∧ Below w.heap.size w w' := by
  have ba := Below.al (Below.refl w.heap.size w) (Nat.le_refl _) (.cells #[.int .i64 x, .int .i64 y] 28)
  have rr := hb.below ba hb.lt
  have k0 := rr.cell 0
  have k1 := rr.cell 1
  have k2 := rr.cell 2
  have k3 := rr.cell 3
  simp only [List.getElem?_cons_zero, List.getElem?_cons_succ] at k0 k1 k2 k3
  have HW := Lib.hid (fun (W : World) => where_any c.X c.Y c.D c.R x y W hc.1 hc.2.1 hc.d hx hy)
  have HWF := Lib.hid (show cmpI (apF c.X c.Y c.D (x, y)) c.R = whF c (x, y) from rfl)
  rw [HWF.out] at HW
  have BA := Lib.hid ba
  generalize whF c (x, y) = q at *
  clear hb rr ba hc hx hy
  go_enter Try.func62, Try.ntmps62
  go_wp2_with fail
  refine (HW.out _).mono ?_
  rintro e w1 ⟨rfl, hb1⟩
  have HB := Lib.hid (Below.andThen BA.out hb1 (Nat.le_refl _))
  clear hb1 k0 k1 k2 k3
  go_wp2_with fail
  go_ret
  exact ⟨rfl, HB.out⟩
set_option maxRecDepth 100000 in
set_option maxHeartbeats 600000 in
/-- a circle leaves one of the points outside -/
theorem tooSmall_any (c : Cir) (hc : CirB c) (ps : List Pt) (hps : ∀ p ∈ ps, Bd 20 p.1 ∧ Bd 20 p.2) (hl : ps.length ≤ 1000000) (v : Value) (b : Nat) (w : World) (hb : Row w b 22 [v]) (hv : SlP w v ps) :
    Calls Try.prog 83 #[.agg #[.int .i64 c.X, .int .i64 c.Y, .int .i64 c.D, .int .i64 c.R], .pointer (some ⟨b, 0, none⟩)] w fun e w' => e = .returned (.bool (ps.any fun p => decide (0 < whF c p))) ∧ Below w.heap.size w w' := by
  have ba := Below.al (Below.refl w.heap.size w) (Nat.le_refl _) (.cells #[.int .i64 c.X, .int .i64 c.Y, .int .i64 c.D, .int .i64 c.R] 30)
  have rc := Row.new w 30 [.int .i64 c.X, .int .i64 c.Y, .int .i64 c.D, .int .i64 c.R]
  have rr := hb.below ba hb.lt
  have k0 := rr.cell 0
  simp only [List.getElem?_cons_zero] at k0
  have hcf := containsFunc_any ps v 84 #[.pointer (some ⟨w.heap.size, 0, none⟩)] (fun p => decide (0 < whF c p)) _ (hv.grow ba) hl (enters_of Try.func84 (by kernel_rfl) rfl) (fun W x y hbb hm => outside_any c hc x y (hps _ hm).1 (hps _ hm).2 w.heap.size W (rc.below hbb rc.lt))
  have HCF := Lib.hid hcf
  have BA := Lib.hid ba
  generalize ps.any (fun p => decide (0 < whF c p)) = q at *
  obtain ⟨a, cc, rfl, _⟩ := hv
  clear hb rr rc ba hc hps hcf
  go_enter Try.func83, Try.ntmps83
  go_wp2_with fail
  refine HCF.out.mono ?_
  rintro e w1 ⟨rfl, hb1⟩
  have HB := Lib.hid (Below.andThen BA.out hb1 (Nat.le_refl _))
  clear hb1 k0
  go_wp2_with fail
  go_ret
  exact ⟨rfl, HB.out⟩
end Go.Proofs.Ytlemipnplgbckaa
