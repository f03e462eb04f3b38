import Derived.Test.YtlemipnplgbckaaMD
import Derived.Test.YtlemipnplgbckaaMA
import Derived.Laws.AppendOwn
import Derived.ChangeKeysEq
import Derived.Maps.RangeWalk
import Derived.Maps.OwnIn
import Derived.Maps.AppendAt
import Derived.RangeFuncNested
import Derived.RangeFuncBound
import Derived.RangeFuncCalls
import Derived.RangeFuncLeaves
import Derived.Shelf.Abstract
import Derived.Shelf.RegionOpen
import Derived.WalkKit
import Derived.WalkMore
import Derived.OwnWalkIn
import Derived.TacticsInMore
import Derived.LoopNIn
import Derived.LoopIn
import Derived.WalkSpells
import Derived.WalkLawsBesides
import Derived.BigQuiet
import Derived.Deep.QuietTactic
import Derived.Lib.Hide
import Derived.Deep.RegionHeld3
import Derived.StillTailTactics
import Derived.Deep.LoopGhost
import Derived.Maps.OwnSet
import Derived.Lib.IndexAny
import Derived.Sort.QuietThIn
import Derived.Sort.QuietTacIn
import Derived.Sort.BigQuietIn
import Derived.Laws.OwnMore
import Derived.DeepKeys4
import Derived.Maps.Views
import Derived.Maps.OwnOps
import Derived.Deep.DeepCutAuto
import Derived.Lib.OwnBridge
import Derived.Shelf.SlicesG.CompactI
import Derived.Test.YtlemipnplgbckaaMC
namespace Go.Proofs.Ytlemipnplgbckaa
open Go.RowKit Go.Shelf
attribute [local go_sem] Oper.semAt_some
theorem cell_start (w : World) : Below w.heap.size w (w.alloc (.cells #[.int .i64 0, .int .i64 0, .int .i64 0, .int .i64 0] 30)) ∧ Row (w.alloc (.cells #[.int .i64 0, .int .i64 0, .int .i64 0, .int .i64 0] 30)) w.heap.size 30 [.int .i64 0, .int .i64 0, .int .i64 0, .int .i64 0] := box_start w 30 [.int .i64 0, .int .i64 0, .int .i64 0, .int .i64 0]
theorem errP_ok {ps : List Pt} (h : chkP ps = true) : errP ps = 0 := by unfold errP; rw [if_pos h]
set_option maxRecDepth 100000 in
set_option maxHeartbeats 600000 in
theorem Smallest_err (ps : List Pt) (v : Value) (w : World) (hv : SlP w v ps) (hl : ps.length ≤ 1000000) (k : Int) (he : errP ps = k) (hk : k ≠ 0) :
    Calls Try.prog 19 #[v] w fun e w' => e = .returned (.tuple #[cirV 0 0 0 0, .int .i64 k]) ∧ Below w.heap.size w w' := by
  obtain ⟨ba, rb⟩ := cell_start w
  have HC := Lib.hid (Check_any ps v _ (hv.grow ba) hl)
  rw [he] at HC
  have hd : (k != 0) = true := by simp; exact hk
  obtain ⟨a, c, rfl, _⟩ := hv
  generalize ps.length = n at *
  have BA := Lib.hid ba
  have RB := Lib.hid rb
  clear ba rb he hl hk
  go_enter Try.func19, Try.ntmps19
  go_wp2_with fail
  refine HC.out.mono ?_
  rintro e w1 ⟨rfl, hb⟩
  have BW := Lib.hid (Below.andThen BA.out hb (Nat.le_refl _))
  have rT := RB.out.below hb RB.out.lt
  have RT := Lib.hid rT
  have t0 := rT.cell 0
  have t1 := rT.cell 1
  have t2 := rT.cell 2
  have t3 := rT.cell 3
  have g0 := frozen_of_row _ w.heap.size 0 _ _ rT
  have g1 := frozen_of_row _ w.heap.size 1 _ _ rT
  have g2 := frozen_of_row _ w.heap.size 2 _ _ rT
  have g3 := frozen_of_row _ w.heap.size 3 _ _ rT
  simp only [List.getElem?_cons_zero, List.getElem?_cons_succ] at t0 t1 t2 t3
  clear hb rT HC
  go_wp2_with fail
  have hr := (((RT.out.set 0 (.int .i64 0)).set 1 (.int .i64 0)).set 2 (.int .i64 0)).set 3 (.int .i64 0)
  have v0 := hr.cell 0
  have v1 := hr.cell 1
  have v2 := hr.cell 2
  have v3 := hr.cell 3
  simp only [List.set_cons_zero, List.set_cons_succ, List.getElem?_cons_zero, List.getElem?_cons_succ] at v0 v1 v2 v3
  refine bodyPost_ret (v := .tuple #[cirV 0 0 0 0, .int .i64 k]) (by simp [results, Try.results19, go_sem, v0, v1, v2, v3, cirV]) rfl ⟨rfl, ?_⟩
  exact (((BW.out.setCell (p := ⟨w.heap.size, 0, none⟩) (by dsimp only; omega) _).setCell (p := ⟨w.heap.size, 1, none⟩) (by dsimp only; omega) _).setCell (p := ⟨w.heap.size, 2, none⟩) (by dsimp only; omega) _).setCell (p := ⟨w.heap.size, 3, none⟩) (by dsimp only; omega) _
set_option maxRecDepth 100000 in
set_option maxHeartbeats 600000 in
theorem Smallest_ok (ps : List Pt) (v : Value) (w : World) (hv : SlP w v ps) (he : chkP ps = true) :
    Calls Try.prog 19 #[v] w fun e w' => e = .returned (.tuple #[(smC ps).V, .int .i64 0]) ∧ Below w.heap.size w w' := by
  obtain ⟨⟨hl1, hl⟩, hps, _⟩ := chkP_iff.1 he
  obtain ⟨ba, rb⟩ := cell_start w
  have HC := Lib.hid (Check_any ps v _ (hv.grow ba) (by omega))
  rw [errP_ok he] at HC
  obtain ⟨c0, cs, hf⟩ := sm_filter (ps := ps) (by intro h; rw [h] at hl1; simp at hl1)
  have hsm : smC ps = minL c0 cs := by unfold smC; rw [hf]
  have HSM := Lib.hid (fun W (hb : Below w.heap.size w W) => smallest_any ps v W (hv.grow hb) hl hps c0 cs hf)
  rw [← hsm] at HSM
  obtain ⟨a, c, rfl, _⟩ := hv
  generalize smC ps = M at *
  obtain ⟨X, Y, D, R⟩ := M
  unfold Cir.V cirV at HSM ⊢
  dsimp only at HSM ⊢
  generalize ps.length = n at *
  have BA := Lib.hid ba
  have RB := Lib.hid rb
  clear ba rb he hl hl1 hps hf hsm
  go_enter Try.func19, Try.ntmps19
  go_wp2_with fail
  refine HC.out.mono ?_
  rintro e w1 ⟨rfl, hb⟩
  have BW := Lib.hid (Below.andThen BA.out hb (Nat.le_refl _))
  have RT := Lib.hid (RB.out.below hb RB.out.lt)
  clear hb HC
  go_wp2_with fail
  refine (HSM.out _ BW.out).mono ?_
  rintro e w2 ⟨rfl, hb2⟩
  have BX := Lib.hid (Below.andThen BW.out hb2 (Nat.le_refl _))
  have rT := RT.out.below hb2 RT.out.lt
  have RU := Lib.hid rT
  have t0 := rT.cell 0
  have t1 := rT.cell 1
  have t2 := rT.cell 2
  have t3 := rT.cell 3
  have g0 := frozen_of_row _ w.heap.size 0 _ _ rT
  have g1 := frozen_of_row _ w.heap.size 1 _ _ rT
  have g2 := frozen_of_row _ w.heap.size 2 _ _ rT
  have g3 := frozen_of_row _ w.heap.size 3 _ _ rT
  simp only [List.getElem?_cons_zero, List.getElem?_cons_succ] at t0 t1 t2 t3
  clear hb2 rT HSM RT
  go_wp2_with fail
  have hr := (((RU.out.set 0 (.int .i64 X)).set 1 (.int .i64 Y)).set 2 (.int .i64 D)).set 3 (.int .i64 R)
  have v0 := hr.cell 0
  have v1 := hr.cell 1
  have v2 := hr.cell 2
  have v3 := hr.cell 3
  simp only [List.set_cons_zero, List.set_cons_succ, List.getElem?_cons_zero, List.getElem?_cons_succ] at v0 v1 v2 v3
  refine bodyPost_ret (v := .tuple #[.agg #[.int .i64 X, .int .i64 Y, .int .i64 D, .int .i64 R], .int .i64 0]) (by simp [results, Try.results19, go_sem, v0, v1, v2, v3]) rfl ⟨rfl, ?_⟩
  exact (((BX.out.setCell (p := ⟨w.heap.size, 0, none⟩) (by dsimp only; omega) _).setCell (p := ⟨w.heap.size, 1, none⟩) (by dsimp only; omega) _).setCell (p := ⟨w.heap.size, 2, none⟩) (by dsimp only; omega) _).setCell (p := ⟨w.heap.size, 3, none⟩) (by dsimp only; omega) _
end Go.Proofs.Ytlemipnplgbckaa
namespace Go.Proofs.Ytlemipnplgbckaa
open Go.RowKit Go.Shelf
attribute [local go_sem] Oper.semAt_some
end Go.Proofs.Ytlemipnplgbckaa
namespace Go.Proofs
open Go.Shelf
def Try.lays43c_ren : Go.Shelf.Ren := ⟨fun | 43 => 57 | n => n, fun | 22 => 35 | 23 => 3 | n => n, fun | n => n⟩
theorem Try.lays43c : SlLaysN.n43 Try.prog Try.lays43c_ren := {
  mixed := by kernel_rfl
  f43 := ⟨"slices.Compact[[]int,int]", by decide, Try.func57.trans (congrArg some (by kernel_rfl))⟩
  t0 := Try.underlying0
  a0 := Try.isAgg0
  z0 := Try.sizeOf0
  v0 := Try.zeroValue0
  t3 := Try.underlying3
  a3 := Try.isAgg3
  z3 := Try.sizeOf3
  v3 := Try.zeroValue3
  t4 := Try.underlying4
  a4 := Try.isAgg4
  z4 := Try.sizeOf4
  v4 := Try.zeroValue4
  t22 := Try.underlying35
  a22 := Try.isAgg35
  z22 := Try.sizeOf35
  v22 := Try.zeroValue35
  t23 := Try.underlying3
  a23 := Try.isAgg3
  z23 := Try.sizeOf3
  v23 := Try.zeroValue3
  i23 := by kernel_rfl }
end Go.Proofs
namespace Go.Proofs.Ytlemipnplgbckaa
open Go.RowKit Go.Shelf Go.Lib
attribute [local go_sem] Oper.semAt_some
/-- three rising numbers, each once -/
def cmp3 (i j k : Nat) : List Nat := if i = j then (if j = k then [i] else [i, k]) else if j = k then [i, j] else [i, j, k]
def encN (n : Nat) : Int := (n : Int)
theorem cmp3_compact (i j k : Nat) : Lib.compact [(i : Int), j, k] = (cmp3 i j k).map encN := by
  unfold Lib.compact Lib.compactUpTo Lib.keeps cmp3
  by_cases h1 : i = j <;> by_cases h2 : j = k
  · subst h1; subst h2; simp [List.range, List.range.loop, List.filter, encN]
  · subst h1
    have h3 : ¬ (k : Int) = i := by omega
    simp [List.range, List.range.loop, List.filter, encN, h2, h3]
  · subst h2
    have h3 : ¬ (j : Int) = i := by omega
    simp [List.range, List.range.loop, List.filter, encN, h1, h3]
  · have h3 : ¬ (j : Int) = i := by omega
    have h4 : ¬ (k : Int) = j := by omega
    simp [List.range, List.range.loop, List.filter, encN, h1, h2, h3, h4]
theorem cmp3_len (i j k : Nat) : (cmp3 i j k).length ≤ 3 := by
  unfold cmp3; split <;> split <;> simp
set_option maxHeartbeats 400000 in
theorem compact3_any (i j k g n₀ : Nat) (w : World) (h : w.ownsRow n₀ 3 1 (.slice (some ⟨g, 0, none⟩) 3 3) 3 ([(i : Int), j, k].map encI)) (hg : n₀ ≤ g) :
    Calls Try.prog 57 #[.slice (some ⟨g, 0, none⟩) 3 3] w fun e w' => e = .returned (.slice (some ⟨g, 0, none⟩) (cmp3 i j k).length 3) ∧ w'.ownsRow n₀ 3 1 (.slice (some ⟨g, 0, none⟩) (cmp3 i j k).length 3) (cmp3 i j k).length ((cmp3 i j k).map (fun n : Nat => encI (n : Int))) ∧ (∀ w0, Below n₀ w0 w → Below n₀ w0 w') := by
  have hH : Sort.Holds (Value.int .i64) w g 0 [(i : Int), j, k].toArray := by
    obtain ⟨g', cap, e, _, _, _, _, _, hH⟩ := holds_of_ownsRow (enc := Value.int .i64) (zs := [(i : Int), j, k]) h (by simp)
    injection e with e1 _ _
    injection e1 with e1
    injection e1 with e1
    subst e1
    exact hH
  refine (AnyG.slices_Compact_int Try.lays43c g 0 3 [(i : Int), j, k] w hH (by simp) (by simp)).mono ?_
  rintro e w' ⟨rfl, q, rfl⟩
  have hl : (Lib.compact [(i : Int), j, k]).length = (cmp3 i j k).length := by rw [cmp3_compact]; simp
  refine ⟨by rw [hl], ?_, fun w0 hb => below_putRow hb hg⟩
  have h3 := cmp3_len i j k
  have := ownsRow_putRow (enc := Value.int .i64) (q := q) (k := (cmp3 i j k).length) (ys := Lib.compact [(i : Int), j, k] ++ List.replicate (3 - (Lib.compact [(i : Int), j, k]).length) 0) h (by rw [List.length_append, List.length_replicate, hl]; omega) h3
  have ht : (Lib.compact [(i : Int), j, k] ++ List.replicate (3 - (Lib.compact [(i : Int), j, k]).length) 0).take (cmp3 i j k).length = (cmp3 i j k).map encN := by rw [← hl, List.take_left, cmp3_compact]
  rw [ht] at this
  simpa [List.map_map, Function.comp_def, encN, encI] using this
end Go.Proofs.Ytlemipnplgbckaa
namespace Go.Proofs.Ytlemipnplgbckaa
open Go.RowKit Go.Shelf
attribute [local go_sem] Oper.semAt_some
theorem part4_0 (a b c d : Int) (W : World) : (part 3 #[.int .i64 a, .int .i64 b, .int .i64 c, .int .i64 d] 0).run Try.prog W = .ok (.int .i64 a) W := by kernel_rfl
theorem part4_1 (a b c d : Int) (W : World) : (part 3 #[.int .i64 a, .int .i64 b, .int .i64 c, .int .i64 d] 1).run Try.prog W = .ok (.int .i64 b) W := by kernel_rfl
theorem part4_2 (a b c d : Int) (W : World) : (part 3 #[.int .i64 a, .int .i64 b, .int .i64 c, .int .i64 d] 2).run Try.prog W = .ok (.int .i64 c) W := by kernel_rfl
theorem part4_3 (a b c d : Int) (W : World) : (part 3 #[.int .i64 a, .int .i64 b, .int .i64 c, .int .i64 d] 3).run Try.prog W = .ok (.int .i64 d) W := by kernel_rfl
theorem stood30 : Try.prog.stoodInHeld 30 = false := by kernel_rfl
theorem eq30 (a b c d a' b' c' d' : Int) (W : World) : (Op.equalIn 10000 30 (.agg #[.int .i64 a, .int .i64 b, .int .i64 c, .int .i64 d]) (.agg #[.int .i64 a', .int .i64 b', .int .i64 c', .int .i64 d'])).run Try.prog W = .ok (decide ((⟨a, b, c, d⟩ : Cir) = ⟨a', b', c', d'⟩)) W := by
  have hp : (program : Sem Program).run Try.prog W = .ok Try.prog W := rfl
  rw [show (10000 : Nat) = 9999 + 1 from rfl]
  rw [Op.equalIn.eq_2]
  simp only [Sem.run_bind, run_underlying Try.underlying30, Result.andThen_ok, hp, stood30]
  by_cases h0 : a = a'
  · by_cases h1 : b = b'
    · by_cases h2 : c = c'
      · by_cases h3 : d = d'
        · simp [part4_0, part4_1, part4_2, part4_3, eqI3, h0, h1, h2, h3]
        · simp [part4_0, part4_1, part4_2, part4_3, eqI3, h0, h1, h2, h3]
      · simp [part4_0, part4_1, part4_2, part4_3, eqI3, h0, h1, h2]
    · simp [part4_0, part4_1, part4_2, part4_3, eqI3, h0, h1]
  · simp [part4_0, part4_1, part4_2, part4_3, eqI3, h0]
/-- are the points with these numbers a force, the smallest circle being c? -/
def fB (ps : List Pt) (c : Cir) : List Nat → Bool
  | [_] => decide (ps.length = 1)
  | [i, j] => decide (ovC (ptAt ps i) (ptAt ps j) = c)
  | [i, j, k] => shB c (ptAt ps i) (ptAt ps j) (ptAt ps k)
  | _ => false
def natI (n : Nat) : Int := (n : Int)
theorem six_row (W : World) (a b c d e f : Int) : Row (W.alloc (.cells #[.int .i64 a, .int .i64 b, .int .i64 c, .int .i64 d, .int .i64 e, .int .i64 f] 28)) W.heap.size 28 [.int .i64 a, .int .i64 b, .int .i64 c, .int .i64 d, .int .i64 e, .int .i64 f] := Row.new W 28 _
def SharpV (a0 b0 a1 b1 a2 b2 : Int) : Value → World → Prop := fun v W => ∃ g, v = .slice (some ⟨g, 0, none⟩) 3 3 ∧ Row W g 28 [.int .i64 a0, .int .i64 b0, .int .i64 a1, .int .i64 b1, .int .i64 a2, .int .i64 b2]
theorem SharpV.stab (a0 b0 a1 b1 a2 b2 : Int) : ∀ (v : Value) (W W' : World), SharpV a0 b0 a1 b1 a2 b2 v W → Below W.heap.size W W' → SharpV a0 b0 a1 b1 a2 b2 v W' := fun _ _ _ ⟨g, h1, h2⟩ hb => ⟨g, h1, h2.below hb h2.lt⟩
set_option maxRecDepth 100000 in
set_option maxHeartbeats 1000000 in
theorem isForce_any (ps : List Pt) (v vf : Value) (c : Cir) (f : List Nat) (w : World) (hv : SlP w v ps) (hf : SlI w vf (f.map natI)) (hc : CirB c) (hin : ∀ i ∈ f, i < ps.length) (hps : ∀ p ∈ ps, Bd 20 p.1 ∧ Bd 20 p.2) (hl : ps.length ≤ 12) (hfl : f.length ≤ 1000000) :
    Calls Try.prog 58 #[v, .agg #[.int .i64 c.X, .int .i64 c.Y, .int .i64 c.D, .int .i64 c.R], vf] w fun e w' => e = .returned (.bool (fB ps c f)) ∧ Below w.heap.size w w' := by
  obtain ⟨a, cap, rfl, hcap, hpt⟩ := hv
  obtain ⟨af, cf, rfl, hcf, hft⟩ := hf
  rw [List.length_map] at hcf ⊢
  have ba := Below.al (Below.refl w.heap.size w) (Nat.le_refl _) (.cells #[.int .i64 c.X, .int .i64 c.Y, .int .i64 c.D, .int .i64 c.R] 30)
  have rC := Row.new w 30 [.int .i64 c.X, .int .i64 c.Y, .int .i64 c.D, .int .i64 c.R]
  have BA := Lib.hid ba
  have RC := Lib.hid rC
  have HC := Lib.hid hc
  have HPS := Lib.hid hps
  have HPT := Lib.hid hpt
  have HFT := Lib.hid hft
  have HIN := Lib.hid hin
  obtain ⟨n, hn⟩ : ∃ n, ps.length = n := ⟨_, rfl⟩
  have HN := Lib.hid hn
  rw [HN.out] at hl hcap ⊢
  have HL := Lib.hid hl
  clear ba rC hc hps hpt hft hin hn hl
  obtain ⟨c1, c2, c3, c4⟩ := c
  dsimp only at *
  match f with
  | [] =>
    go_enter Try.func58, Try.ntmps58
    go_wp2_with fail
    go_ret
    exact ⟨rfl, BA.out⟩
  | [i] =>
    obtain ⟨E, hE⟩ : ∃ E, decide (n = 1) = E := ⟨_, rfl⟩
    have HZ := Lib.hid (show fB ps ⟨c1, c2, c3, c4⟩ [i] = E by rw [← hE, ← HN.out]; rfl)
    have hE2 : ((n : Int) == 1) = E := by rw [← hE]; rw [Bool.eq_iff_iff]; simp; omega
    clear hE
    rw [HZ.out]
    go_enter Try.func58, Try.ntmps58
    go_wp2_with fail
    go_ret
    exact ⟨rfl, BA.out⟩
  | i :: j :: k :: l :: f =>
    have HZ := Lib.hid (show fB ps ⟨c1, c2, c3, c4⟩ (i :: j :: k :: l :: f) = false from rfl)
    rw [HZ.out]
    obtain ⟨m, hm⟩ : ∃ m, (i :: j :: k :: l :: f).length = m := ⟨_, rfl⟩
    have h4 : 4 ≤ m := by rw [← hm]; simp
    rw [hm] at hcf hfl ⊢
    clear hm
    have d1 : ((m : Int) == 1) = false := by simp; omega
    have d2 : ((m : Int) == 2) = false := by simp; omega
    have d3 : ((m : Int) == 3) = false := by simp; omega
    go_enter Try.func58, Try.ntmps58
    go_wp2_with fail
    go_ret
    exact ⟨rfl, BA.out⟩
  | [i, j] =>
    obtain ⟨g, o, rfl, hpa⟩ : ∃ g o, a = some ⟨g, o, none⟩ ∧ PtsAt w g o ps := by
      rcases HPT.out with h | h
      · have h1 := HIN.out i (by simp); rw [h] at h1; simp at h1
      · exact h
    obtain ⟨h, oh, rfl, hhl, hfa⟩ : ∃ g o, af = some ⟨g, o, none⟩ ∧ g < w.heap.size ∧ IntsAt w g o ([(i : Int), j]) := by
      rcases HFT.out with h | h
      · simp at h
      · exact h
    have i0 : i < ps.length := HIN.out i (by simp)
    have n0 : (i : Int) < (n : Int) := by rw [← HN.out]; omega
    have q0 := HPS.out _ (List.getElem_mem i0)
    have HX0 := Lib.hid (And.intro (fun W (hb : Below w.heap.size w W) => (hpa.grow hb).x i i0) (fun W (hb : Below w.heap.size w W) => (hpa.grow hb).y i i0))
    have HF0 := Lib.hid (fun W (hb : Below w.heap.size w W) => show W.cell? ⟨h, oh, none⟩ = some (.int .i64 (i : Int)) from below_at hb hhl (hfa.at_ 0 (by simp)))
    have e0 := ptAt_lt i0
    have HNI0 := Lib.hid n0
    have i1 : j < ps.length := HIN.out j (by simp)
    have n1 : (j : Int) < (n : Int) := by rw [← HN.out]; omega
    have q1 := HPS.out _ (List.getElem_mem i1)
    have HX1 := Lib.hid (And.intro (fun W (hb : Below w.heap.size w W) => (hpa.grow hb).x j i1) (fun W (hb : Below w.heap.size w W) => (hpa.grow hb).y j i1))
    have HF1 := Lib.hid (fun W (hb : Below w.heap.size w W) => show W.cell? ⟨h, oh + 1, none⟩ = some (.int .i64 (j : Int)) from below_at hb hhl (hfa.at_ 1 (by simp)))
    have e1 := ptAt_lt i1
    have HNI1 := Lib.hid n1
    generalize ps[i] = p0 at *
    obtain ⟨a0, b0⟩ := p0
    generalize ps[j] = p1 at *
    obtain ⟨a1, b1⟩ := p1
    dsimp only [List.map_cons, List.map_nil, List.getElem_cons_zero, List.getElem_cons_succ, natI] at *
    have HOV := Lib.hid (fun (W : World) => over_any a0 b0 a1 b1 W q0.1 q0.2 q1.1 q1.2)
    obtain ⟨X, Y, D, R, hV, hV2⟩ : ∃ X Y D R, rndV (a0 + a1) (b0 + b1) 2 (a0, b0) = .agg #[.int .i64 X, .int .i64 Y, .int .i64 D, .int .i64 R] ∧ ovC (a0, b0) (a1, b1) = ⟨X, Y, D, R⟩ := ⟨_, _, _, _, rfl, rfl⟩
    rw [hV] at HOV
    obtain ⟨E, hE⟩ : ∃ E, decide ((⟨X, Y, D, R⟩ : Cir) = ⟨c1, c2, c3, c4⟩) = E := ⟨_, rfl⟩
    have HE := Lib.hid hE
    have HZ := Lib.hid (show fB ps ⟨c1, c2, c3, c4⟩ [i, j] = E by
      show decide (ovC (ptAt ps i) (ptAt ps j) = _) = E
      rw [e0, e1, hV2, hE])
    rw [HZ.out]
    have HPA := Lib.hid hpa
    clear hV hV2 hE e0 e1 q0 q1 i0 i1 n0 n1 hpa hfa hhl
    go_enter Try.func58, Try.ntmps58
    go_wp2_with fail
    generalize w.alloc (.cells #[.int .i64 c1, .int .i64 c2, .int .i64 c3, .int .i64 c4] 30) = V at *
    refine wp_region_box (by kernel_rfl) (by kernel_rfl) [16, 17, 18, 19, 20, 21, 22, 23, 24, 25, 26, 27, 28, 29, 30, 6] [(fun v => v = .slice (some ⟨g, o, none⟩) n cap), (fun v => v = .slice (some ⟨h, oh, none⟩) 2 cf), (fun v => v = .pointer (some ⟨h, oh, none⟩)), (fun v => v = .int .i64 (i : Int)), (fun v => v = .pointer (some ⟨g, o + i * 2, none⟩)), (fun v => v = .agg #[.int .i64 a0, .int .i64 b0]), (fun v => v = .slice (some ⟨g, o, none⟩) n cap), (fun v => v = .slice (some ⟨h, oh, none⟩) 2 cf), (fun v => v = .pointer (some ⟨h, oh + 1, none⟩)), (fun v => v = .int .i64 (j : Int)), (fun v => v = .pointer (some ⟨g, o + j * 2, none⟩)), (fun v => v = .agg #[.int .i64 a1, .int .i64 b1]), (fun v => v = .agg #[.int .i64 X, .int .i64 Y, .int .i64 D, .int .i64 R]), (fun v => v = .agg #[.int .i64 c1, .int .i64 c2, .int .i64 c3, .int .i64 c4]), (fun v => v = .bool E), (fun v => v = .bool E)] [none, none, none, none, none, none, none, none, none, none, none, none, none, none, none, none] [none, none, none, none, none, none, none, none, none, none, none, none, none, none, none, none] 16 rfl (by kernel_rfl) ?tr ⟨[undef, undef, undef, undef, undef, undef, undef, undef, undef, undef, undef, undef, undef, undef, undef, .bool false], by simp only [putAll, Act.put, List.setIfInBounds_toArray, List.set_cons_succ, List.set_cons_zero], rfl⟩ ?steps ?fin
    case tr =>
      rintro i v h
      rcases i with _ | _ | _ | _ | _ | _ | _ | _ | _ | _ | _ | _ | _ | _ | _ | _ | i
      all_goals first | trivial | (exfalso; rcases h with h | h <;> simp at h)
    case steps =>
      simp only [boxSteps, Nat.reduceAdd, Nat.zero_add, List.getD_cons_succ, List.getD_cons_zero]
      refine ⟨?_, ?_, ?_, ?_, ?_, ?_, ?_, ?_, ?_, ?_, ?_, ?_, ?_, ?_, ?_, ?_, trivial⟩
      · rintro vs W K hc hvl hw hK
        obtain ⟨x0, x1, x2, x3, x4, x5, x6, x7, x8, x9, x10, x11, x12, x13, x14, x15, rfl⟩ := len16 hvl
        have HK := Lib.hid hK
        have HC := Lib.hid hc
        have HW := Lib.hid hw
        clear hK hc hw hvl
        simp only [putAll, Act.put, List.setIfInBounds_toArray, List.set_cons_succ, List.set_cons_zero]
        clear HW
        go_wp2_with fail
        have fin := HK.out (.slice (some ⟨g, o, none⟩) n cap) W (Below.refl _ _) rfl
        simp only [putAll, Act.put, List.setIfInBounds_toArray, List.set_cons_succ, List.set_cons_zero] at fin
        exact fin
      · rintro vs W K hc hvl hw hK
        obtain ⟨x0, x1, x2, x3, x4, x5, x6, x7, x8, x9, x10, x11, x12, x13, x14, x15, rfl⟩ := len16 hvl
        have HK := Lib.hid hK
        have HC := Lib.hid hc
        have HW := Lib.hid hw
        clear hK hc hw hvl
        simp only [putAll, Act.put, List.setIfInBounds_toArray, List.set_cons_succ, List.set_cons_zero]
        clear HW
        go_wp2_with fail
        have fin := HK.out (.slice (some ⟨h, oh, none⟩) 2 cf) W (Below.refl _ _) rfl
        simp only [putAll, Act.put, List.setIfInBounds_toArray, List.set_cons_succ, List.set_cons_zero] at fin
        exact fin
      · rintro vs W K hc hvl hw hK
        obtain ⟨x0, x1, x2, x3, x4, x5, x6, x7, x8, x9, x10, x11, x12, x13, x14, x15, rfl⟩ := len16 hvl
        have HK := Lib.hid hK
        have HC := Lib.hid hc
        have HW := Lib.hid hw
        clear hK hc hw hvl
        obtain rfl : x1 = .slice (some ⟨h, oh, none⟩) 2 cf := box_get (HW.out ⟨1, .data⟩ (by simp) rfl) rfl
        simp only [putAll, Act.put, List.setIfInBounds_toArray, List.set_cons_succ, List.set_cons_zero]
        clear HW
        go_wp2_with fail
        have fin := HK.out (.pointer (some ⟨h, oh, none⟩)) W (Below.refl _ _) rfl
        simp only [putAll, Act.put, List.setIfInBounds_toArray, List.set_cons_succ, List.set_cons_zero] at fin
        exact fin
      · rintro vs W K hc hvl hw hK
        obtain ⟨x0, x1, x2, x3, x4, x5, x6, x7, x8, x9, x10, x11, x12, x13, x14, x15, rfl⟩ := len16 hvl
        have HK := Lib.hid hK
        have HC := Lib.hid hc
        have HW := Lib.hid hw
        clear hK hc hw hvl
        obtain rfl : x2 = .pointer (some ⟨h, oh, none⟩) := box_get (HW.out ⟨2, .data⟩ (by simp) rfl) rfl
        simp only [putAll, Act.put, List.setIfInBounds_toArray, List.set_cons_succ, List.set_cons_zero]
        have d0 := HF0.out W (Below.andThen BA.out HC.out (Nat.le_refl _))
        clear HW
        go_wp2_with fail
        have fin := HK.out (.int .i64 (i : Int)) W (Below.refl _ _) rfl
        simp only [putAll, Act.put, List.setIfInBounds_toArray, List.set_cons_succ, List.set_cons_zero] at fin
        exact fin
      · rintro vs W K hc hvl hw hK
        obtain ⟨x0, x1, x2, x3, x4, x5, x6, x7, x8, x9, x10, x11, x12, x13, x14, x15, rfl⟩ := len16 hvl
        have HK := Lib.hid hK
        have HC := Lib.hid hc
        have HW := Lib.hid hw
        clear hK hc hw hvl
        obtain rfl : x0 = .slice (some ⟨g, o, none⟩) n cap := box_get (HW.out ⟨0, .data⟩ (by simp) rfl) rfl
        obtain rfl : x3 = .int .i64 (i : Int) := box_get (HW.out ⟨3, .data⟩ (by simp) rfl) rfl
        simp only [putAll, Act.put, List.setIfInBounds_toArray, List.set_cons_succ, List.set_cons_zero]
        have hi1 := HNI0.out
        clear HW
        go_wp2_with fail
        have fin := HK.out (.pointer (some ⟨g, o + i * 2, none⟩)) W (Below.refl _ _) rfl
        simp only [putAll, Act.put, List.setIfInBounds_toArray, List.set_cons_succ, List.set_cons_zero] at fin
        exact fin
      · rintro vs W K hc hvl hw hK
        obtain ⟨x0, x1, x2, x3, x4, x5, x6, x7, x8, x9, x10, x11, x12, x13, x14, x15, rfl⟩ := len16 hvl
        have HK := Lib.hid hK
        have HC := Lib.hid hc
        have HW := Lib.hid hw
        clear hK hc hw hvl
        obtain rfl : x4 = .pointer (some ⟨g, o + i * 2, none⟩) := box_get (HW.out ⟨4, .data⟩ (by simp) rfl) rfl
        simp only [putAll, Act.put, List.setIfInBounds_toArray, List.set_cons_succ, List.set_cons_zero]
        have d0 := HX0.out.1 W (Below.andThen BA.out HC.out (Nat.le_refl _))
        have d1 := HX0.out.2 W (Below.andThen BA.out HC.out (Nat.le_refl _))
        clear HW
        go_wp2_with fail
        have fin := HK.out (.agg #[.int .i64 a0, .int .i64 b0]) W (Below.refl _ _) rfl
        simp only [putAll, Act.put, List.setIfInBounds_toArray, List.set_cons_succ, List.set_cons_zero] at fin
        exact fin
      · rintro vs W K hc hvl hw hK
        obtain ⟨x0, x1, x2, x3, x4, x5, x6, x7, x8, x9, x10, x11, x12, x13, x14, x15, rfl⟩ := len16 hvl
        have HK := Lib.hid hK
        have HC := Lib.hid hc
        have HW := Lib.hid hw
        clear hK hc hw hvl
        simp only [putAll, Act.put, List.setIfInBounds_toArray, List.set_cons_succ, List.set_cons_zero]
        clear HW
        go_wp2_with fail
        have fin := HK.out (.slice (some ⟨g, o, none⟩) n cap) W (Below.refl _ _) rfl
        simp only [putAll, Act.put, List.setIfInBounds_toArray, List.set_cons_succ, List.set_cons_zero] at fin
        exact fin
      · rintro vs W K hc hvl hw hK
        obtain ⟨x0, x1, x2, x3, x4, x5, x6, x7, x8, x9, x10, x11, x12, x13, x14, x15, rfl⟩ := len16 hvl
        have HK := Lib.hid hK
        have HC := Lib.hid hc
        have HW := Lib.hid hw
        clear hK hc hw hvl
        simp only [putAll, Act.put, List.setIfInBounds_toArray, List.set_cons_succ, List.set_cons_zero]
        clear HW
        go_wp2_with fail
        have fin := HK.out (.slice (some ⟨h, oh, none⟩) 2 cf) W (Below.refl _ _) rfl
        simp only [putAll, Act.put, List.setIfInBounds_toArray, List.set_cons_succ, List.set_cons_zero] at fin
        exact fin
      · rintro vs W K hc hvl hw hK
        obtain ⟨x0, x1, x2, x3, x4, x5, x6, x7, x8, x9, x10, x11, x12, x13, x14, x15, rfl⟩ := len16 hvl
        have HK := Lib.hid hK
        have HC := Lib.hid hc
        have HW := Lib.hid hw
        clear hK hc hw hvl
        obtain rfl : x7 = .slice (some ⟨h, oh, none⟩) 2 cf := box_get (HW.out ⟨7, .data⟩ (by simp) rfl) rfl
        simp only [putAll, Act.put, List.setIfInBounds_toArray, List.set_cons_succ, List.set_cons_zero]
        clear HW
        go_wp2_with fail
        have fin := HK.out (.pointer (some ⟨h, oh + 1, none⟩)) W (Below.refl _ _) rfl
        simp only [putAll, Act.put, List.setIfInBounds_toArray, List.set_cons_succ, List.set_cons_zero] at fin
        exact fin
      · rintro vs W K hc hvl hw hK
        obtain ⟨x0, x1, x2, x3, x4, x5, x6, x7, x8, x9, x10, x11, x12, x13, x14, x15, rfl⟩ := len16 hvl
        have HK := Lib.hid hK
        have HC := Lib.hid hc
        have HW := Lib.hid hw
        clear hK hc hw hvl
        obtain rfl : x8 = .pointer (some ⟨h, oh + 1, none⟩) := box_get (HW.out ⟨8, .data⟩ (by simp) rfl) rfl
        simp only [putAll, Act.put, List.setIfInBounds_toArray, List.set_cons_succ, List.set_cons_zero]
        have d0 := HF1.out W (Below.andThen BA.out HC.out (Nat.le_refl _))
        clear HW
        go_wp2_with fail
        have fin := HK.out (.int .i64 (j : Int)) W (Below.refl _ _) rfl
        simp only [putAll, Act.put, List.setIfInBounds_toArray, List.set_cons_succ, List.set_cons_zero] at fin
        exact fin
      · rintro vs W K hc hvl hw hK
        obtain ⟨x0, x1, x2, x3, x4, x5, x6, x7, x8, x9, x10, x11, x12, x13, x14, x15, rfl⟩ := len16 hvl
        have HK := Lib.hid hK
        have HC := Lib.hid hc
        have HW := Lib.hid hw
        clear hK hc hw hvl
        obtain rfl : x6 = .slice (some ⟨g, o, none⟩) n cap := box_get (HW.out ⟨6, .data⟩ (by simp) rfl) rfl
        obtain rfl : x9 = .int .i64 (j : Int) := box_get (HW.out ⟨9, .data⟩ (by simp) rfl) rfl
        simp only [putAll, Act.put, List.setIfInBounds_toArray, List.set_cons_succ, List.set_cons_zero]
        have hi1 := HNI1.out
        clear HW
        go_wp2_with fail
        have fin := HK.out (.pointer (some ⟨g, o + j * 2, none⟩)) W (Below.refl _ _) rfl
        simp only [putAll, Act.put, List.setIfInBounds_toArray, List.set_cons_succ, List.set_cons_zero] at fin
        exact fin
      · rintro vs W K hc hvl hw hK
        obtain ⟨x0, x1, x2, x3, x4, x5, x6, x7, x8, x9, x10, x11, x12, x13, x14, x15, rfl⟩ := len16 hvl
        have HK := Lib.hid hK
        have HC := Lib.hid hc
        have HW := Lib.hid hw
        clear hK hc hw hvl
        obtain rfl : x10 = .pointer (some ⟨g, o + j * 2, none⟩) := box_get (HW.out ⟨10, .data⟩ (by simp) rfl) rfl
        simp only [putAll, Act.put, List.setIfInBounds_toArray, List.set_cons_succ, List.set_cons_zero]
        have d0 := HX1.out.1 W (Below.andThen BA.out HC.out (Nat.le_refl _))
        have d1 := HX1.out.2 W (Below.andThen BA.out HC.out (Nat.le_refl _))
        clear HW
        go_wp2_with fail
        have fin := HK.out (.agg #[.int .i64 a1, .int .i64 b1]) W (Below.refl _ _) rfl
        simp only [putAll, Act.put, List.setIfInBounds_toArray, List.set_cons_succ, List.set_cons_zero] at fin
        exact fin
      · rintro vs W K hc hvl hw hK
        obtain ⟨x0, x1, x2, x3, x4, x5, x6, x7, x8, x9, x10, x11, x12, x13, x14, x15, rfl⟩ := len16 hvl
        have HK := Lib.hid hK
        have HC := Lib.hid hc
        have HW := Lib.hid hw
        clear hK hc hw hvl
        obtain rfl : x5 = .agg #[.int .i64 a0, .int .i64 b0] := box_get (HW.out ⟨5, .data⟩ (by simp) rfl) rfl
        obtain rfl : x11 = .agg #[.int .i64 a1, .int .i64 b1] := box_get (HW.out ⟨11, .data⟩ (by simp) rfl) rfl
        simp only [putAll, Act.put, List.setIfInBounds_toArray, List.set_cons_succ, List.set_cons_zero]
        clear HW
        go_wp2_with fail
        refine (HOV.out W).mono ?_
        rintro e W' ⟨rfl, hb'⟩
        have HB' := Lib.hid hb'
        clear hb'
        go_wp2_with fail
        have fin := HK.out (.agg #[.int .i64 X, .int .i64 Y, .int .i64 D, .int .i64 R]) W' HB'.out rfl
        simp only [putAll, Act.put, List.setIfInBounds_toArray, List.set_cons_succ, List.set_cons_zero] at fin
        exact fin
      · rintro vs W K hc hvl hw hK
        obtain ⟨x0, x1, x2, x3, x4, x5, x6, x7, x8, x9, x10, x11, x12, x13, x14, x15, rfl⟩ := len16 hvl
        have HK := Lib.hid hK
        have HC := Lib.hid hc
        have HW := Lib.hid hw
        clear hK hc hw hvl
        simp only [putAll, Act.put, List.setIfInBounds_toArray, List.set_cons_succ, List.set_cons_zero]
        have rr := RC.out.below HC.out RC.out.lt
        have d0 := rr.cell 0
        have d1 := rr.cell 1
        have d2 := rr.cell 2
        have d3 := rr.cell 3
        simp only [List.getElem?_cons_zero, List.getElem?_cons_succ] at d0 d1 d2 d3
        clear rr
        clear HW
        go_wp2_with fail
        have fin := HK.out (.agg #[.int .i64 c1, .int .i64 c2, .int .i64 c3, .int .i64 c4]) W (Below.refl _ _) rfl
        simp only [putAll, Act.put, List.setIfInBounds_toArray, List.set_cons_succ, List.set_cons_zero] at fin
        exact fin
      · rintro vs W K hc hvl hw hK
        obtain ⟨x0, x1, x2, x3, x4, x5, x6, x7, x8, x9, x10, x11, x12, x13, x14, x15, rfl⟩ := len16 hvl
        have HK := Lib.hid hK
        have HC := Lib.hid hc
        have HW := Lib.hid hw
        clear hK hc hw hvl
        obtain rfl : x12 = .agg #[.int .i64 X, .int .i64 Y, .int .i64 D, .int .i64 R] := box_get (HW.out ⟨12, .data⟩ (by simp) rfl) rfl
        obtain rfl : x13 = .agg #[.int .i64 c1, .int .i64 c2, .int .i64 c3, .int .i64 c4] := box_get (HW.out ⟨13, .data⟩ (by simp) rfl) rfl
        simp only [putAll, Act.put, List.setIfInBounds_toArray, List.set_cons_succ, List.set_cons_zero]
        have hE := HE.out
        clear HW
        by_cases hx0 : X = c1
        · subst hx0
          by_cases hx1 : Y = c2
          · subst hx1
            by_cases hx2 : D = c3
            · subst hx2
              by_cases hx3 : R = c4
              · subst hx3
                obtain rfl : E = true := by rw [← hE]; simp
                clear hE
                go_wp2_with fail
                have fin := HK.out (.bool true) W (Below.refl _ _) rfl
                simp only [putAll, Act.put, List.setIfInBounds_toArray, List.set_cons_succ, List.set_cons_zero] at fin
                exact fin
              · obtain rfl : E = false := by rw [← hE]; simp [hx3]
                clear hE
                go_wp2_with fail
                have fin := HK.out (.bool false) W (Below.refl _ _) rfl
                simp only [putAll, Act.put, List.setIfInBounds_toArray, List.set_cons_succ, List.set_cons_zero] at fin
                exact fin
            · obtain rfl : E = false := by rw [← hE]; simp [hx2]
              clear hE
              go_wp2_with fail
              have fin := HK.out (.bool false) W (Below.refl _ _) rfl
              simp only [putAll, Act.put, List.setIfInBounds_toArray, List.set_cons_succ, List.set_cons_zero] at fin
              exact fin
          · obtain rfl : E = false := by rw [← hE]; simp [hx1]
            clear hE
            go_wp2_with fail
            have fin := HK.out (.bool false) W (Below.refl _ _) rfl
            simp only [putAll, Act.put, List.setIfInBounds_toArray, List.set_cons_succ, List.set_cons_zero] at fin
            exact fin
        · obtain rfl : E = false := by rw [← hE]; simp [hx0]
          clear hE
          go_wp2_with fail
          have fin := HK.out (.bool false) W (Below.refl _ _) rfl
          simp only [putAll, Act.put, List.setIfInBounds_toArray, List.set_cons_succ, List.set_cons_zero] at fin
          exact fin
      · rintro vs W K hc hvl hw hK
        obtain ⟨x0, x1, x2, x3, x4, x5, x6, x7, x8, x9, x10, x11, x12, x13, x14, x15, rfl⟩ := len16 hvl
        have HK := Lib.hid hK
        have HC := Lib.hid hc
        have HW := Lib.hid hw
        clear hK hc hw hvl
        obtain rfl : x14 = .bool E := box_get (HW.out ⟨14, .data⟩ (by simp) rfl) rfl
        simp only [putAll, Act.put, List.setIfInBounds_toArray, List.set_cons_succ, List.set_cons_zero]
        clear HW
        go_wp2_with fail
        have fin := HK.out (.bool E) W (Below.refl _ _) rfl
        simp only [putAll, Act.put, List.setIfInBounds_toArray, List.set_cons_succ, List.set_cons_zero] at fin
        exact fin
    case fin =>
      rintro vs W hJ
      obtain ⟨x0, x1, x2, x3, x4, x5, x6, x7, x8, x9, x10, x11, x12, x13, x14, x15, rfl⟩ := len16 hJ.ln
      obtain rfl : x15 = .bool E := box_get (hJ.val 15 rfl) rfl
      have HC := Lib.hid hJ.bl
      clear hJ
      simp only [putAll, Act.put, List.setIfInBounds_toArray, List.set_cons_succ, List.set_cons_zero]
      go_wp2_with fail
      go_ret
      exact ⟨rfl, Below.andThen BA.out HC.out (Nat.le_refl _)⟩
  | [i, j, k] =>
    obtain ⟨g, o, rfl, hpa⟩ : ∃ g o, a = some ⟨g, o, none⟩ ∧ PtsAt w g o ps := by
      rcases HPT.out with h | h
      · have h1 := HIN.out i (by simp); rw [h] at h1; simp at h1
      · exact h
    obtain ⟨h, oh, rfl, hhl, hfa⟩ : ∃ g o, af = some ⟨g, o, none⟩ ∧ g < w.heap.size ∧ IntsAt w g o ([(i : Int), j, k]) := by
      rcases HFT.out with h | h
      · simp at h
      · exact h
    have i0 : i < ps.length := HIN.out i (by simp)
    have n0 : (i : Int) < (n : Int) := by rw [← HN.out]; omega
    have q0 := HPS.out _ (List.getElem_mem i0)
    have HX0 := Lib.hid (And.intro (fun W (hb : Below w.heap.size w W) => (hpa.grow hb).x i i0) (fun W (hb : Below w.heap.size w W) => (hpa.grow hb).y i i0))
    have HF0 := Lib.hid (fun W (hb : Below w.heap.size w W) => show W.cell? ⟨h, oh, none⟩ = some (.int .i64 (i : Int)) from below_at hb hhl (hfa.at_ 0 (by simp)))
    have e0 := ptAt_lt i0
    have HNI0 := Lib.hid n0
    have i1 : j < ps.length := HIN.out j (by simp)
    have n1 : (j : Int) < (n : Int) := by rw [← HN.out]; omega
    have q1 := HPS.out _ (List.getElem_mem i1)
    have HX1 := Lib.hid (And.intro (fun W (hb : Below w.heap.size w W) => (hpa.grow hb).x j i1) (fun W (hb : Below w.heap.size w W) => (hpa.grow hb).y j i1))
    have HF1 := Lib.hid (fun W (hb : Below w.heap.size w W) => show W.cell? ⟨h, oh + 1, none⟩ = some (.int .i64 (j : Int)) from below_at hb hhl (hfa.at_ 1 (by simp)))
    have e1 := ptAt_lt i1
    have HNI1 := Lib.hid n1
    have i2 : k < ps.length := HIN.out k (by simp)
    have n2 : (k : Int) < (n : Int) := by rw [← HN.out]; omega
    have q2 := HPS.out _ (List.getElem_mem i2)
    have HX2 := Lib.hid (And.intro (fun W (hb : Below w.heap.size w W) => (hpa.grow hb).x k i2) (fun W (hb : Below w.heap.size w W) => (hpa.grow hb).y k i2))
    have HF2 := Lib.hid (fun W (hb : Below w.heap.size w W) => show W.cell? ⟨h, oh + 2, none⟩ = some (.int .i64 (k : Int)) from below_at hb hhl (hfa.at_ 2 (by simp)))
    have e2 := ptAt_lt i2
    have HNI2 := Lib.hid n2
    generalize ps[i] = p0 at *
    obtain ⟨a0, b0⟩ := p0
    generalize ps[j] = p1 at *
    obtain ⟨a1, b1⟩ := p1
    generalize ps[k] = p2 at *
    obtain ⟨a2, b2⟩ := p2
    dsimp only [List.map_cons, List.map_nil, List.getElem_cons_zero, List.getElem_cons_succ, natI] at *
    have HSH := Lib.hid (fun (g : Nat) (W : World) (hr : Row W g 28 [.int .i64 a0, .int .i64 b0, .int .i64 a1, .int .i64 b1, .int .i64 a2, .int .i64 b2]) => isSharp_any ⟨c1, c2, c3, c4⟩ HC.out a0 b0 a1 b1 a2 b2 g W q0 q1 q2 hr)
    obtain ⟨E, hE⟩ : ∃ E, shB ⟨c1, c2, c3, c4⟩ (a0, b0) (a1, b1) (a2, b2) = E := ⟨_, rfl⟩
    rw [hE] at HSH
    have HZ := Lib.hid (show fB ps ⟨c1, c2, c3, c4⟩ [i, j, k] = E by
      show shB _ (ptAt ps i) (ptAt ps j) (ptAt ps k) = E
      rw [e0, e1, e2, hE])
    rw [HZ.out]
    have HPA := Lib.hid hpa
    clear hE e0 e1 e2 q0 q1 q2 i0 i1 i2 n0 n1 n2 hpa hfa hhl
    go_enter Try.func58, Try.ntmps58
    go_wp2_with fail
    generalize w.alloc (.cells #[.int .i64 c1, .int .i64 c2, .int .i64 c3, .int .i64 c4] 30) = V at *
    refine wp_region_rel (by kernel_rfl) (by kernel_rfl) [33, 34, 35, 36, 37, 38, 39, 40, 41, 42, 43, 44, 45, 46, 47, 48, 49, 50, 51, 52, 53, 6] [LitR (.agg #[.int .i64 c1, .int .i64 c2, .int .i64 c3, .int .i64 c4]), LitR (.slice (some ⟨g, o, none⟩) n cap), LitR (.slice (some ⟨h, oh, none⟩) 3 cf), LitR (.pointer (some ⟨h, oh, none⟩)), LitR (.int .i64 (i : Int)), LitR (.pointer (some ⟨g, o + i * 2, none⟩)), LitR (.agg #[.int .i64 a0, .int .i64 b0]), LitR (.slice (some ⟨g, o, none⟩) n cap), LitR (.slice (some ⟨h, oh, none⟩) 3 cf), LitR (.pointer (some ⟨h, oh + 1, none⟩)), LitR (.int .i64 (j : Int)), LitR (.pointer (some ⟨g, o + j * 2, none⟩)), LitR (.agg #[.int .i64 a1, .int .i64 b1]), LitR (.slice (some ⟨g, o, none⟩) n cap), LitR (.slice (some ⟨h, oh, none⟩) 3 cf), LitR (.pointer (some ⟨h, oh + 2, none⟩)), LitR (.int .i64 (k : Int)), LitR (.pointer (some ⟨g, o + k * 2, none⟩)), LitR (.agg #[.int .i64 a2, .int .i64 b2]), (SharpV a0 b0 a1 b1 a2 b2), LitR (.bool E), LitR (.bool E)] 22 rfl (List.forall_mem_cons.2 ⟨LitR.stab _, (List.forall_mem_cons.2 ⟨LitR.stab _, (List.forall_mem_cons.2 ⟨LitR.stab _, (List.forall_mem_cons.2 ⟨LitR.stab _, (List.forall_mem_cons.2 ⟨LitR.stab _, (List.forall_mem_cons.2 ⟨LitR.stab _, (List.forall_mem_cons.2 ⟨LitR.stab _, (List.forall_mem_cons.2 ⟨LitR.stab _, (List.forall_mem_cons.2 ⟨LitR.stab _, (List.forall_mem_cons.2 ⟨LitR.stab _, (List.forall_mem_cons.2 ⟨LitR.stab _, (List.forall_mem_cons.2 ⟨LitR.stab _, (List.forall_mem_cons.2 ⟨LitR.stab _, (List.forall_mem_cons.2 ⟨LitR.stab _, (List.forall_mem_cons.2 ⟨LitR.stab _, (List.forall_mem_cons.2 ⟨LitR.stab _, (List.forall_mem_cons.2 ⟨LitR.stab _, (List.forall_mem_cons.2 ⟨LitR.stab _, (List.forall_mem_cons.2 ⟨LitR.stab _, (List.forall_mem_cons.2 ⟨SharpV.stab _ _ _ _ _ _, (List.forall_mem_cons.2 ⟨LitR.stab _, (List.forall_mem_cons.2 ⟨LitR.stab _, (fun _ h => nomatch h)⟩)⟩)⟩)⟩)⟩)⟩)⟩)⟩)⟩)⟩)⟩)⟩)⟩)⟩)⟩)⟩)⟩)⟩)⟩)⟩)⟩)⟩) ⟨[undef, undef, undef, undef, undef, undef, undef, undef, undef, undef, undef, undef, undef, undef, undef, undef, undef, undef, undef, undef, undef, .bool false], by simp only [putAll, Act.put, List.setIfInBounds_toArray, List.set_cons_succ, List.set_cons_zero], rfl⟩ ?steps ?fin
    case steps =>
      simp only [relSteps]
      refine ⟨?_, ?_, ?_, ?_, ?_, ?_, ?_, ?_, ?_, ?_, ?_, ?_, ?_, ?_, ?_, ?_, ?_, ?_, ?_, ?_, ?_, ?_, trivial⟩
      · rintro vs W K hc hvl hw hK
        obtain ⟨x0, x1, x2, x3, x4, x5, x6, x7, x8, x9, x10, x11, x12, x13, x14, x15, x16, x17, x18, x19, x20, x21, rfl⟩ := len22 hvl
        have HK := Lib.hid hK
        have HC := Lib.hid hc
        have HW := Lib.hid hw
        clear hK hc hw hvl
        simp only [putAll, Act.put, List.setIfInBounds_toArray, List.set_cons_succ, List.set_cons_zero]
        have rr := RC.out.below HC.out RC.out.lt
        have d0 := rr.cell 0
        have d1 := rr.cell 1
        have d2 := rr.cell 2
        have d3 := rr.cell 3
        simp only [List.getElem?_cons_zero, List.getElem?_cons_succ] at d0 d1 d2 d3
        clear rr
        clear HW
        go_wp2_with fail
        have fin := HK.out (.agg #[.int .i64 c1, .int .i64 c2, .int .i64 c3, .int .i64 c4]) W (Below.refl _ _) rfl
        simp only [putAll, Act.put, List.setIfInBounds_toArray, List.set_cons_succ, List.set_cons_zero] at fin
        exact fin
      · rintro vs W K hc hvl hw hK
        obtain ⟨x0, x1, x2, x3, x4, x5, x6, x7, x8, x9, x10, x11, x12, x13, x14, x15, x16, x17, x18, x19, x20, x21, rfl⟩ := len22 hvl
        have HK := Lib.hid hK
        have HC := Lib.hid hc
        have HW := Lib.hid hw
        clear hK hc hw hvl
        simp only [putAll, Act.put, List.setIfInBounds_toArray, List.set_cons_succ, List.set_cons_zero]
        clear HW
        go_wp2_with fail
        have fin := HK.out (.slice (some ⟨g, o, none⟩) n cap) W (Below.refl _ _) rfl
        simp only [putAll, Act.put, List.setIfInBounds_toArray, List.set_cons_succ, List.set_cons_zero] at fin
        exact fin
      · rintro vs W K hc hvl hw hK
        obtain ⟨x0, x1, x2, x3, x4, x5, x6, x7, x8, x9, x10, x11, x12, x13, x14, x15, x16, x17, x18, x19, x20, x21, rfl⟩ := len22 hvl
        have HK := Lib.hid hK
        have HC := Lib.hid hc
        have HW := Lib.hid hw
        clear hK hc hw hvl
        simp only [putAll, Act.put, List.setIfInBounds_toArray, List.set_cons_succ, List.set_cons_zero]
        clear HW
        go_wp2_with fail
        have fin := HK.out (.slice (some ⟨h, oh, none⟩) 3 cf) W (Below.refl _ _) rfl
        simp only [putAll, Act.put, List.setIfInBounds_toArray, List.set_cons_succ, List.set_cons_zero] at fin
        exact fin
      · rintro vs W K hc hvl hw hK
        obtain ⟨x0, x1, x2, x3, x4, x5, x6, x7, x8, x9, x10, x11, x12, x13, x14, x15, x16, x17, x18, x19, x20, x21, rfl⟩ := len22 hvl
        have HK := Lib.hid hK
        have HC := Lib.hid hc
        have HW := Lib.hid hw
        clear hK hc hw hvl
        have hd2 := HW.out ⟨2, .data⟩ (by simp) rfl
        obtain rfl : x2 = .slice (some ⟨h, oh, none⟩) 3 cf := rel_get hd2 rfl
        simp only [putAll, Act.put, List.setIfInBounds_toArray, List.set_cons_succ, List.set_cons_zero]
        clear HW hd2
        go_wp2_with fail
        have fin := HK.out (.pointer (some ⟨h, oh, none⟩)) W (Below.refl _ _) rfl
        simp only [putAll, Act.put, List.setIfInBounds_toArray, List.set_cons_succ, List.set_cons_zero] at fin
        exact fin
      · rintro vs W K hc hvl hw hK
        obtain ⟨x0, x1, x2, x3, x4, x5, x6, x7, x8, x9, x10, x11, x12, x13, x14, x15, x16, x17, x18, x19, x20, x21, rfl⟩ := len22 hvl
        have HK := Lib.hid hK
        have HC := Lib.hid hc
        have HW := Lib.hid hw
        clear hK hc hw hvl
        have hd3 := HW.out ⟨3, .data⟩ (by simp) rfl
        obtain rfl : x3 = .pointer (some ⟨h, oh, none⟩) := rel_get hd3 rfl
        simp only [putAll, Act.put, List.setIfInBounds_toArray, List.set_cons_succ, List.set_cons_zero]
        have d0 := HF0.out W (Below.andThen BA.out HC.out (Nat.le_refl _))
        clear HW hd3
        go_wp2_with fail
        have fin := HK.out (.int .i64 (i : Int)) W (Below.refl _ _) rfl
        simp only [putAll, Act.put, List.setIfInBounds_toArray, List.set_cons_succ, List.set_cons_zero] at fin
        exact fin
      · rintro vs W K hc hvl hw hK
        obtain ⟨x0, x1, x2, x3, x4, x5, x6, x7, x8, x9, x10, x11, x12, x13, x14, x15, x16, x17, x18, x19, x20, x21, rfl⟩ := len22 hvl
        have HK := Lib.hid hK
        have HC := Lib.hid hc
        have HW := Lib.hid hw
        clear hK hc hw hvl
        have hd1 := HW.out ⟨1, .data⟩ (by simp) rfl
        obtain rfl : x1 = .slice (some ⟨g, o, none⟩) n cap := rel_get hd1 rfl
        have hd4 := HW.out ⟨4, .data⟩ (by simp) rfl
        obtain rfl : x4 = .int .i64 (i : Int) := rel_get hd4 rfl
        simp only [putAll, Act.put, List.setIfInBounds_toArray, List.set_cons_succ, List.set_cons_zero]
        have hi1 := HNI0.out
        clear HW hd1 hd4
        go_wp2_with fail
        have fin := HK.out (.pointer (some ⟨g, o + i * 2, none⟩)) W (Below.refl _ _) rfl
        simp only [putAll, Act.put, List.setIfInBounds_toArray, List.set_cons_succ, List.set_cons_zero] at fin
        exact fin
      · rintro vs W K hc hvl hw hK
        obtain ⟨x0, x1, x2, x3, x4, x5, x6, x7, x8, x9, x10, x11, x12, x13, x14, x15, x16, x17, x18, x19, x20, x21, rfl⟩ := len22 hvl
        have HK := Lib.hid hK
        have HC := Lib.hid hc
        have HW := Lib.hid hw
        clear hK hc hw hvl
        have hd5 := HW.out ⟨5, .data⟩ (by simp) rfl
        obtain rfl : x5 = .pointer (some ⟨g, o + i * 2, none⟩) := rel_get hd5 rfl
        simp only [putAll, Act.put, List.setIfInBounds_toArray, List.set_cons_succ, List.set_cons_zero]
        have d0 := HX0.out.1 W (Below.andThen BA.out HC.out (Nat.le_refl _))
        have d1 := HX0.out.2 W (Below.andThen BA.out HC.out (Nat.le_refl _))
        clear HW hd5
        go_wp2_with fail
        have fin := HK.out (.agg #[.int .i64 a0, .int .i64 b0]) W (Below.refl _ _) rfl
        simp only [putAll, Act.put, List.setIfInBounds_toArray, List.set_cons_succ, List.set_cons_zero] at fin
        exact fin
      · rintro vs W K hc hvl hw hK
        obtain ⟨x0, x1, x2, x3, x4, x5, x6, x7, x8, x9, x10, x11, x12, x13, x14, x15, x16, x17, x18, x19, x20, x21, rfl⟩ := len22 hvl
        have HK := Lib.hid hK
        have HC := Lib.hid hc
        have HW := Lib.hid hw
        clear hK hc hw hvl
        simp only [putAll, Act.put, List.setIfInBounds_toArray, List.set_cons_succ, List.set_cons_zero]
        clear HW
        go_wp2_with fail
        have fin := HK.out (.slice (some ⟨g, o, none⟩) n cap) W (Below.refl _ _) rfl
        simp only [putAll, Act.put, List.setIfInBounds_toArray, List.set_cons_succ, List.set_cons_zero] at fin
        exact fin
      · rintro vs W K hc hvl hw hK
        obtain ⟨x0, x1, x2, x3, x4, x5, x6, x7, x8, x9, x10, x11, x12, x13, x14, x15, x16, x17, x18, x19, x20, x21, rfl⟩ := len22 hvl
        have HK := Lib.hid hK
        have HC := Lib.hid hc
        have HW := Lib.hid hw
        clear hK hc hw hvl
        simp only [putAll, Act.put, List.setIfInBounds_toArray, List.set_cons_succ, List.set_cons_zero]
        clear HW
        go_wp2_with fail
        have fin := HK.out (.slice (some ⟨h, oh, none⟩) 3 cf) W (Below.refl _ _) rfl
        simp only [putAll, Act.put, List.setIfInBounds_toArray, List.set_cons_succ, List.set_cons_zero] at fin
        exact fin
      · rintro vs W K hc hvl hw hK
        obtain ⟨x0, x1, x2, x3, x4, x5, x6, x7, x8, x9, x10, x11, x12, x13, x14, x15, x16, x17, x18, x19, x20, x21, rfl⟩ := len22 hvl
        have HK := Lib.hid hK
        have HC := Lib.hid hc
        have HW := Lib.hid hw
        clear hK hc hw hvl
        have hd8 := HW.out ⟨8, .data⟩ (by simp) rfl
        obtain rfl : x8 = .slice (some ⟨h, oh, none⟩) 3 cf := rel_get hd8 rfl
        simp only [putAll, Act.put, List.setIfInBounds_toArray, List.set_cons_succ, List.set_cons_zero]
        clear HW hd8
        go_wp2_with fail
        have fin := HK.out (.pointer (some ⟨h, oh + 1, none⟩)) W (Below.refl _ _) rfl
        simp only [putAll, Act.put, List.setIfInBounds_toArray, List.set_cons_succ, List.set_cons_zero] at fin
        exact fin
      · rintro vs W K hc hvl hw hK
        obtain ⟨x0, x1, x2, x3, x4, x5, x6, x7, x8, x9, x10, x11, x12, x13, x14, x15, x16, x17, x18, x19, x20, x21, rfl⟩ := len22 hvl
        have HK := Lib.hid hK
        have HC := Lib.hid hc
        have HW := Lib.hid hw
        clear hK hc hw hvl
        have hd9 := HW.out ⟨9, .data⟩ (by simp) rfl
        obtain rfl : x9 = .pointer (some ⟨h, oh + 1, none⟩) := rel_get hd9 rfl
        simp only [putAll, Act.put, List.setIfInBounds_toArray, List.set_cons_succ, List.set_cons_zero]
        have d0 := HF1.out W (Below.andThen BA.out HC.out (Nat.le_refl _))
        clear HW hd9
        go_wp2_with fail
        have fin := HK.out (.int .i64 (j : Int)) W (Below.refl _ _) rfl
        simp only [putAll, Act.put, List.setIfInBounds_toArray, List.set_cons_succ, List.set_cons_zero] at fin
        exact fin
      · rintro vs W K hc hvl hw hK
        obtain ⟨x0, x1, x2, x3, x4, x5, x6, x7, x8, x9, x10, x11, x12, x13, x14, x15, x16, x17, x18, x19, x20, x21, rfl⟩ := len22 hvl
        have HK := Lib.hid hK
        have HC := Lib.hid hc
        have HW := Lib.hid hw
        clear hK hc hw hvl
        have hd7 := HW.out ⟨7, .data⟩ (by simp) rfl
        obtain rfl : x7 = .slice (some ⟨g, o, none⟩) n cap := rel_get hd7 rfl
        have hd10 := HW.out ⟨10, .data⟩ (by simp) rfl
        obtain rfl : x10 = .int .i64 (j : Int) := rel_get hd10 rfl
        simp only [putAll, Act.put, List.setIfInBounds_toArray, List.set_cons_succ, List.set_cons_zero]
        have hi1 := HNI1.out
        clear HW hd7 hd10
        go_wp2_with fail
        have fin := HK.out (.pointer (some ⟨g, o + j * 2, none⟩)) W (Below.refl _ _) rfl
        simp only [putAll, Act.put, List.setIfInBounds_toArray, List.set_cons_succ, List.set_cons_zero] at fin
        exact fin
      · rintro vs W K hc hvl hw hK
        obtain ⟨x0, x1, x2, x3, x4, x5, x6, x7, x8, x9, x10, x11, x12, x13, x14, x15, x16, x17, x18, x19, x20, x21, rfl⟩ := len22 hvl
        have HK := Lib.hid hK
        have HC := Lib.hid hc
        have HW := Lib.hid hw
        clear hK hc hw hvl
        have hd11 := HW.out ⟨11, .data⟩ (by simp) rfl
        obtain rfl : x11 = .pointer (some ⟨g, o + j * 2, none⟩) := rel_get hd11 rfl
        simp only [putAll, Act.put, List.setIfInBounds_toArray, List.set_cons_succ, List.set_cons_zero]
        have d0 := HX1.out.1 W (Below.andThen BA.out HC.out (Nat.le_refl _))
        have d1 := HX1.out.2 W (Below.andThen BA.out HC.out (Nat.le_refl _))
        clear HW hd11
        go_wp2_with fail
        have fin := HK.out (.agg #[.int .i64 a1, .int .i64 b1]) W (Below.refl _ _) rfl
        simp only [putAll, Act.put, List.setIfInBounds_toArray, List.set_cons_succ, List.set_cons_zero] at fin
        exact fin
      · rintro vs W K hc hvl hw hK
        obtain ⟨x0, x1, x2, x3, x4, x5, x6, x7, x8, x9, x10, x11, x12, x13, x14, x15, x16, x17, x18, x19, x20, x21, rfl⟩ := len22 hvl
        have HK := Lib.hid hK
        have HC := Lib.hid hc
        have HW := Lib.hid hw
        clear hK hc hw hvl
        simp only [putAll, Act.put, List.setIfInBounds_toArray, List.set_cons_succ, List.set_cons_zero]
        clear HW
        go_wp2_with fail
        have fin := HK.out (.slice (some ⟨g, o, none⟩) n cap) W (Below.refl _ _) rfl
        simp only [putAll, Act.put, List.setIfInBounds_toArray, List.set_cons_succ, List.set_cons_zero] at fin
        exact fin
      · rintro vs W K hc hvl hw hK
        obtain ⟨x0, x1, x2, x3, x4, x5, x6, x7, x8, x9, x10, x11, x12, x13, x14, x15, x16, x17, x18, x19, x20, x21, rfl⟩ := len22 hvl
        have HK := Lib.hid hK
        have HC := Lib.hid hc
        have HW := Lib.hid hw
        clear hK hc hw hvl
        simp only [putAll, Act.put, List.setIfInBounds_toArray, List.set_cons_succ, List.set_cons_zero]
        clear HW
        go_wp2_with fail
        have fin := HK.out (.slice (some ⟨h, oh, none⟩) 3 cf) W (Below.refl _ _) rfl
        simp only [putAll, Act.put, List.setIfInBounds_toArray, List.set_cons_succ, List.set_cons_zero] at fin
        exact fin
      · rintro vs W K hc hvl hw hK
        obtain ⟨x0, x1, x2, x3, x4, x5, x6, x7, x8, x9, x10, x11, x12, x13, x14, x15, x16, x17, x18, x19, x20, x21, rfl⟩ := len22 hvl
        have HK := Lib.hid hK
        have HC := Lib.hid hc
        have HW := Lib.hid hw
        clear hK hc hw hvl
        have hd14 := HW.out ⟨14, .data⟩ (by simp) rfl
        obtain rfl : x14 = .slice (some ⟨h, oh, none⟩) 3 cf := rel_get hd14 rfl
        simp only [putAll, Act.put, List.setIfInBounds_toArray, List.set_cons_succ, List.set_cons_zero]
        clear HW hd14
        go_wp2_with fail
        have fin := HK.out (.pointer (some ⟨h, oh + 2, none⟩)) W (Below.refl _ _) rfl
        simp only [putAll, Act.put, List.setIfInBounds_toArray, List.set_cons_succ, List.set_cons_zero] at fin
        exact fin
      · rintro vs W K hc hvl hw hK
        obtain ⟨x0, x1, x2, x3, x4, x5, x6, x7, x8, x9, x10, x11, x12, x13, x14, x15, x16, x17, x18, x19, x20, x21, rfl⟩ := len22 hvl
        have HK := Lib.hid hK
        have HC := Lib.hid hc
        have HW := Lib.hid hw
        clear hK hc hw hvl
        have hd15 := HW.out ⟨15, .data⟩ (by simp) rfl
        obtain rfl : x15 = .pointer (some ⟨h, oh + 2, none⟩) := rel_get hd15 rfl
        simp only [putAll, Act.put, List.setIfInBounds_toArray, List.set_cons_succ, List.set_cons_zero]
        have d0 := HF2.out W (Below.andThen BA.out HC.out (Nat.le_refl _))
        clear HW hd15
        go_wp2_with fail
        have fin := HK.out (.int .i64 (k : Int)) W (Below.refl _ _) rfl
        simp only [putAll, Act.put, List.setIfInBounds_toArray, List.set_cons_succ, List.set_cons_zero] at fin
        exact fin
      · rintro vs W K hc hvl hw hK
        obtain ⟨x0, x1, x2, x3, x4, x5, x6, x7, x8, x9, x10, x11, x12, x13, x14, x15, x16, x17, x18, x19, x20, x21, rfl⟩ := len22 hvl
        have HK := Lib.hid hK
        have HC := Lib.hid hc
        have HW := Lib.hid hw
        clear hK hc hw hvl
        have hd13 := HW.out ⟨13, .data⟩ (by simp) rfl
        obtain rfl : x13 = .slice (some ⟨g, o, none⟩) n cap := rel_get hd13 rfl
        have hd16 := HW.out ⟨16, .data⟩ (by simp) rfl
        obtain rfl : x16 = .int .i64 (k : Int) := rel_get hd16 rfl
        simp only [putAll, Act.put, List.setIfInBounds_toArray, List.set_cons_succ, List.set_cons_zero]
        have hi1 := HNI2.out
        clear HW hd13 hd16
        go_wp2_with fail
        have fin := HK.out (.pointer (some ⟨g, o + k * 2, none⟩)) W (Below.refl _ _) rfl
        simp only [putAll, Act.put, List.setIfInBounds_toArray, List.set_cons_succ, List.set_cons_zero] at fin
        exact fin
      · rintro vs W K hc hvl hw hK
        obtain ⟨x0, x1, x2, x3, x4, x5, x6, x7, x8, x9, x10, x11, x12, x13, x14, x15, x16, x17, x18, x19, x20, x21, rfl⟩ := len22 hvl
        have HK := Lib.hid hK
        have HC := Lib.hid hc
        have HW := Lib.hid hw
        clear hK hc hw hvl
        have hd17 := HW.out ⟨17, .data⟩ (by simp) rfl
        obtain rfl : x17 = .pointer (some ⟨g, o + k * 2, none⟩) := rel_get hd17 rfl
        simp only [putAll, Act.put, List.setIfInBounds_toArray, List.set_cons_succ, List.set_cons_zero]
        have d0 := HX2.out.1 W (Below.andThen BA.out HC.out (Nat.le_refl _))
        have d1 := HX2.out.2 W (Below.andThen BA.out HC.out (Nat.le_refl _))
        clear HW hd17
        go_wp2_with fail
        have fin := HK.out (.agg #[.int .i64 a2, .int .i64 b2]) W (Below.refl _ _) rfl
        simp only [putAll, Act.put, List.setIfInBounds_toArray, List.set_cons_succ, List.set_cons_zero] at fin
        exact fin
      · rintro vs W K hc hvl hw hK
        obtain ⟨x0, x1, x2, x3, x4, x5, x6, x7, x8, x9, x10, x11, x12, x13, x14, x15, x16, x17, x18, x19, x20, x21, rfl⟩ := len22 hvl
        have HK := Lib.hid hK
        have HC := Lib.hid hc
        have HW := Lib.hid hw
        clear hK hc hw hvl
        have hd6 := HW.out ⟨6, .data⟩ (by simp) rfl
        obtain rfl : x6 = .agg #[.int .i64 a0, .int .i64 b0] := rel_get hd6 rfl
        have hd12 := HW.out ⟨12, .data⟩ (by simp) rfl
        obtain rfl : x12 = .agg #[.int .i64 a1, .int .i64 b1] := rel_get hd12 rfl
        have hd18 := HW.out ⟨18, .data⟩ (by simp) rfl
        obtain rfl : x18 = .agg #[.int .i64 a2, .int .i64 b2] := rel_get hd18 rfl
        simp only [putAll, Act.put, List.setIfInBounds_toArray, List.set_cons_succ, List.set_cons_zero]
        clear HW hd6 hd12 hd18
        go_wp2_with fail
        have fin := HK.out (.slice (some ⟨W.heap.size, 0, none⟩) 3 3) (W.alloc (.cells #[.int .i64 a0, .int .i64 b0, .int .i64 a1, .int .i64 b1, .int .i64 a2, .int .i64 b2] 28)) (Below.al (Below.refl _ _) (Nat.le_refl _) _) ⟨_, rfl, six_row W a0 b0 a1 b1 a2 b2⟩
        simp only [putAll, Act.put, List.setIfInBounds_toArray, List.set_cons_succ, List.set_cons_zero] at fin
        exact fin
      · rintro vs W K hc hvl hw hK
        obtain ⟨x0, x1, x2, x3, x4, x5, x6, x7, x8, x9, x10, x11, x12, x13, x14, x15, x16, x17, x18, x19, x20, x21, rfl⟩ := len22 hvl
        have HK := Lib.hid hK
        have HC := Lib.hid hc
        have HW := Lib.hid hw
        clear hK hc hw hvl
        have hd0 := HW.out ⟨0, .data⟩ (by simp) rfl
        obtain rfl : x0 = .agg #[.int .i64 c1, .int .i64 c2, .int .i64 c3, .int .i64 c4] := rel_get hd0 rfl
        have hd19 := HW.out ⟨19, .data⟩ (by simp) rfl
        have hr := rel_get (x := x19) hd19 rfl
        obtain ⟨gs, rfl, hgs⟩ := hr
        have HGS := Lib.hid hgs
        clear hgs
        simp only [putAll, Act.put, List.setIfInBounds_toArray, List.set_cons_succ, List.set_cons_zero]
        clear HW hd0 hd19
        go_wp2_with fail
        refine (HSH.out gs W HGS.out).mono ?_
        rintro e W' ⟨rfl, hb'⟩
        have HB' := Lib.hid hb'
        clear hb'
        go_wp2_with fail
        have fin := HK.out (.bool E) W' HB'.out rfl
        simp only [putAll, Act.put, List.setIfInBounds_toArray, List.set_cons_succ, List.set_cons_zero] at fin
        exact fin
      · rintro vs W K hc hvl hw hK
        obtain ⟨x0, x1, x2, x3, x4, x5, x6, x7, x8, x9, x10, x11, x12, x13, x14, x15, x16, x17, x18, x19, x20, x21, rfl⟩ := len22 hvl
        have HK := Lib.hid hK
        have HC := Lib.hid hc
        have HW := Lib.hid hw
        clear hK hc hw hvl
        have hd20 := HW.out ⟨20, .data⟩ (by simp) rfl
        obtain rfl : x20 = .bool E := rel_get hd20 rfl
        simp only [putAll, Act.put, List.setIfInBounds_toArray, List.set_cons_succ, List.set_cons_zero]
        clear HW hd20
        go_wp2_with fail
        have fin := HK.out (.bool E) W (Below.refl _ _) rfl
        simp only [putAll, Act.put, List.setIfInBounds_toArray, List.set_cons_succ, List.set_cons_zero] at fin
        exact fin
    case fin =>
      intro vs W hc hvl hv
      obtain ⟨x0, x1, x2, x3, x4, x5, x6, x7, x8, x9, x10, x11, x12, x13, x14, x15, x16, x17, x18, x19, x20, x21, rfl⟩ := len22 hvl
      have hd21 := hv 21 (by omega)
      obtain rfl : x21 = .bool E := rel_get hd21 rfl
      clear hd21
      simp only [putAll, Act.put, List.setIfInBounds_toArray, List.set_cons_succ, List.set_cons_zero]
      have HC := Lib.hid hc
      clear hc hv hvl
      go_wp2_with fail
      go_ret
      exact ⟨rfl, Below.andThen BA.out HC.out (Nat.le_refl _)⟩
end Go.Proofs.Ytlemipnplgbckaa
namespace Go.Proofs.Ytlemipnplgbckaa
open Go.RowKit Go.Shelf
attribute [local go_sem] Oper.semAt_some
theorem dt_dp (a b d : Pt) : ((dt (b.1 - a.1, b.2 - a.2) (d.1 - a.1, d.2 - a.2) : Int) : Rat) = dp a b d := by
  unfold dt dp
  simp only [Rat.intCast_add, Rat.intCast_mul, Rat.intCast_sub]
theorem shO_iff {c : Cir} (hd : 1 ≤ c.D) {a b d : Pt} : shO c a b d = true ↔ d2 c.Z a = c.ρ ∧ 0 < dp a b d := by
  unfold shO
  rw [Bool.and_eq_true, decide_eq_true_eq, decide_eq_true_eq, wh_eq c hd, ← dt_dp, ← Rat.intCast_lt_intCast]
  simp
theorem shB_iff {c : Cir} (hd : 1 ≤ c.D) {p q r : Pt} : shB c p q r = true ↔ (d2 c.Z p = c.ρ ∧ d2 c.Z q = c.ρ ∧ d2 c.Z r = c.ρ) ∧ 0 < dp p q r ∧ 0 < dp q r p ∧ 0 < dp r p q := by
  unfold shB
  rw [Bool.and_eq_true, Bool.and_eq_true, shO_iff hd, shO_iff hd, shO_iff hd]
  constructor
  · rintro ⟨⟨⟨a, b⟩, c, d⟩, e, f⟩; exact ⟨⟨a, c, e⟩, b, d, f⟩
  · rintro ⟨⟨a, c, e⟩, b, d, f⟩; exact ⟨⟨⟨a, b⟩, c, d⟩, e, f⟩
theorem fB_exists {ps : List Pt} (hne : ps ≠ []) (hnd : ps.Nodup) : ∃ i j k, i ≤ j ∧ j ≤ k ∧ k < ps.length ∧ fB ps (smC ps) (cmp3 i j k) = true := by
  obtain ⟨_, hlow, hb⟩ := sm_spec hne
  rcases force_ex hne hb with ⟨p, hp, h⟩ | ⟨p, hp, q, hq, hpq, hz, hr⟩ | ⟨p, hp, q, hq, r, hr, h1, h2, h3, a1, a2, a3, _⟩
  · have hl : ps.length = 1 := by
      match ps, hne with
      | [x], _ => rfl
      | x :: y :: l, _ =>
        have e1 := h x (by simp)
        have e2 := h y (by simp)
        subst e1
        rw [e2] at hnd
        simp at hnd
    exact ⟨0, 0, 0, Nat.le_refl _, Nat.le_refl _, by omega, by simp [cmp3, fB, hl]⟩
  · obtain ⟨i, hi, rfl⟩ := at_of_mem hp
    obtain ⟨j, hj, rfl⟩ := at_of_mem hq
    have nij : i ≠ j := by rintro rfl; exact hpq rfl
    have em : midZ (ptAt ps j) (ptAt ps i) = midZ (ptAt ps i) (ptAt ps j) := by unfold midZ; ext <;> (dsimp only; grind)
    have ed : d2 (midZ (ptAt ps i) (ptAt ps j)) (ptAt ps j) = d2 (midZ (ptAt ps i) (ptAt ps j)) (ptAt ps i) := by unfold d2 midZ; grind
    have key : ∀ a b, a < b → b < ps.length → midZ (ptAt ps a) (ptAt ps b) = (smC ps).Z → d2 (midZ (ptAt ps a) (ptAt ps b)) (ptAt ps a) = (smC ps).ρ → fB ps (smC ps) (cmp3 a b b) = true := by
      intro a b hab hbl e1 e2
      unfold cmp3
      rw [if_neg (by omega), if_pos rfl]
      show decide (ovC (ptAt ps a) (ptAt ps b) = smC ps) = true
      exact decide_eq_true (low_eq (low_rnd (by omega)) hlow (by rw [ovC_Z, e1]) (by rw [ovC_ρ, e2]))
    rw [hz] at hr
    rcases Nat.lt_or_gt_of_ne nij with h | h
    · exact ⟨i, j, j, by omega, Nat.le_refl _, hj, key i j h hj hz.symm hr⟩
    · exact ⟨j, i, i, by omega, Nat.le_refl _, hi, key j i h hi (by rw [em, hz]) (by rw [em, ed, hr])⟩
  · obtain ⟨i, hi, rfl⟩ := at_of_mem hp
    obtain ⟨j, hj, rfl⟩ := at_of_mem hq
    obtain ⟨k, hk, rfl⟩ := at_of_mem hr
    have nij : i ≠ j := by rintro rfl; unfold dp at a1; grind
    have nik : i ≠ k := by rintro rfl; unfold dp at a1; grind
    have njk : j ≠ k := by rintro rfl; unfold dp at a2; grind
    have c1 := dp_comm (ptAt ps i) (ptAt ps j) (ptAt ps k)
    have c2 := dp_comm (ptAt ps j) (ptAt ps i) (ptAt ps k)
    have c3 := dp_comm (ptAt ps k) (ptAt ps i) (ptAt ps j)
    have go : ∀ a b c, a < b → b < c → c < ps.length → d2 (smC ps).Z (ptAt ps a) = (smC ps).ρ → d2 (smC ps).Z (ptAt ps b) = (smC ps).ρ → d2 (smC ps).Z (ptAt ps c) = (smC ps).ρ → 0 < dp (ptAt ps a) (ptAt ps b) (ptAt ps c) → 0 < dp (ptAt ps b) (ptAt ps c) (ptAt ps a) → 0 < dp (ptAt ps c) (ptAt ps a) (ptAt ps b) →
        ∃ i j k, i ≤ j ∧ j ≤ k ∧ k < ps.length ∧ fB ps (smC ps) (cmp3 i j k) = true := by
      intro a b c hab hbc hcl e1 e2 e3 f1 f2 f3
      refine ⟨a, b, c, by omega, by omega, hcl, ?_⟩
      unfold cmp3
      rw [if_neg (by omega), if_neg (by omega)]
      exact (shB_iff hlow.1).2 ⟨⟨e1, e2, e3⟩, f1, f2, f3⟩
    rcases Nat.lt_or_gt_of_ne nij with a | a
    · rcases Nat.lt_or_gt_of_ne njk with b | b
      · exact go i j k a b hk h1 h2 h3 a1 (by grind) a3
      · rcases Nat.lt_or_gt_of_ne nik with c | c
        · exact go i k j c b hj h1 h3 h2 (by grind) (by grind) (by grind)
        · exact go k i j c a hj h3 h1 h2 (by grind) (by grind) (by grind)
    · rcases Nat.lt_or_gt_of_ne njk with b | b
      · rcases Nat.lt_or_gt_of_ne nik with c | c
        · exact go j i k a c hk h2 h1 h3 (by grind) (by grind) (by grind)
        · exact go j k i b c hi h2 h3 h1 (by grind) (by grind) (by grind)
      · exact go k j i b a hi h3 h2 h1 (by grind) (by grind) (by grind)
theorem own3 (W : World) (a b c : Int) : (W.alloc (.cells #[.int .i64 a, .int .i64 b, .int .i64 c] 3)).ownsRow W.heap.size 3 1 (.slice (some ⟨W.heap.size, 0, none⟩) 3 3) 3 ([a, b, c].map encI) := by
  refine ⟨rfl, .inr ⟨W.heap.size, 3, #[.int .i64 a, .int .i64 b, .int .i64 c], rfl, Nat.le_refl _, heap_alloc_new W _, by omega, by decide, rfl, rfl⟩⟩
theorem cmp3_mem {i j k n : Nat} (h1 : i ≤ j) (h2 : j ≤ k) (h3 : k < n) : ∀ x ∈ cmp3 i j k, x < n := by
  unfold cmp3
  intro x hx
  split at hx <;> split at hx <;> simp at hx <;> omega
set_option maxRecDepth 100000 in
set_option maxHeartbeats 1000000 in
theorem Force_ok (ps : List Pt) (v : Value) (w : World) (hv : SlP w v ps) (he : chkP ps = true) :
    Calls Try.prog 21 #[v] w fun e w' => ∃ i j k s, e = .returned (.tuple #[s, .int .i64 0]) ∧ (i ≤ j ∧ j ≤ k ∧ k < ps.length) ∧ fB ps (smC ps) (cmp3 i j k) = true ∧
      w'.ownsRow w.heap.size 3 1 s (cmp3 i j k).length ((cmp3 i j k).map (fun n : Nat => encI (n : Int))) ∧ Below w.heap.size w w' := by
  obtain ⟨⟨hl1, hl⟩, hps, hnd⟩ := chkP_iff.1 he
  have hne : ps ≠ [] := by intro h; rw [h] at hl1; simp at hl1
  have HC := Lib.hid (Check_any ps v w hv (by omega))
  rw [errP_ok he] at HC
  obtain ⟨c0, cs, hf⟩ := sm_filter hne
  have hsm : smC ps = minL c0 cs := by unfold smC; rw [hf]
  have HSM := Lib.hid (fun W (hb : Below w.heap.size w W) => smallest_any ps v W (hv.grow hb) hl hps c0 cs hf)
  rw [← hsm] at HSM
  have HEX := Lib.hid (fB_exists hne hnd)
  have hcb : CirB (smC ps) := circL_bd hps _ (sm_spec hne).1
  have HIF := Lib.hid (fun (W : World) (hb : Below w.heap.size w W) (vf : Value) (f : List Nat) (hf : SlI W vf (f.map natI)) (hin : ∀ i ∈ f, i < ps.length) (hfl : f.length ≤ 1000000) => isForce_any ps v vf (smC ps) f W (hv.grow hb) hf hcb hin hps hl hfl)
  have HN := Lib.hid (rfl : ps.length = ps.length)
  obtain ⟨n, hn⟩ : ∃ n, ps.length = n := ⟨_, rfl⟩
  obtain ⟨a, c, rfl, _⟩ := hv
  rw [hn] at hl HC HEX HIF HSM ⊢
  obtain ⟨F, hF⟩ : ∃ F, F = fB ps (smC ps) := ⟨_, rfl⟩
  rw [← hF] at HEX HIF ⊢
  generalize smC ps = M at *
  obtain ⟨X, Y, D, R⟩ := M
  unfold Cir.V cirV at HSM
  dsimp only at HSM HIF
  clear HN hF hn hcb hf hsm hps hnd hne he hl1
  go_enter Try.func21, Try.ntmps21
  go_wp2_with fail
  go_step3
  go_wp2_with fail
  refine HC.out.mono ?_
  rintro e w1 ⟨rfl, hb1⟩
  have B1 := Lib.hid hb1
  clear hb1 HC
  go_wp2_with fail
  refine (HSM.out _ B1.out).mono ?_
  rintro e w2 ⟨rfl, hb2⟩
  obtain ⟨b3, r3⟩ := box_start w2 30 [.int .i64 X, .int .i64 Y, .int .i64 D, .int .i64 R]
  have B2 := Lib.hid (Below.andThen (Below.andThen B1.out hb2 (Nat.le_refl _)) b3 (Nat.le_refl _))
  have R2 := Lib.hid r3
  clear hb2 HSM b3 r3 B1
  go_wp2_with fail
  go_step3
  go_wp2_with fail
  generalize w2.alloc (.cells [.int .i64 X, .int .i64 Y, .int .i64 D, .int .i64 R].toArray 30) = V at *
  go_loopw [19] (fun iv wr => ∃ i : Nat, i ≤ n ∧ iv = .int .i64 (i : Int) ∧ Hid ((∀ i' j' k', i' < i → i' ≤ j' → j' ≤ k' → k' < n → F (cmp3 i' j' k') = false) ∧ Below V.heap.size V wr)) (fun iv _ => (n - intOf iv).toNat)
  case atStart => exact ⟨0, by omega, rfl, Lib.hid ⟨fun _ _ _ h => absurd h (by omega), Below.refl _ _⟩⟩
  case round =>
    obtain ⟨i, hi, rfl, HI⟩ := hrel
    have iw : IntKind.i64.wrap ((i : Int) + 1) = ((i + 1 : Nat) : Int) := by rw [i64_of _ (by omega) (by omega)]; omega
    by_cases hlt : i < n
    · have hd : decide ((i : Int) < (n : Int)) = true := decide_eq_true (by omega)
      have hdn : decide (i < n) = true := decide_eq_true hlt
      go_wp2_with fail
      generalize hwr : wr = wi at *
      have HWR := Lib.hid hwr
      clear hwr
      go_loopw [8] (fun jv wr => ∃ j : Nat, i ≤ j ∧ j ≤ n ∧ jv = .int .i64 (j : Int) ∧ Hid ((∀ j' k', j' < j → i ≤ j' → j' ≤ k' → k' < n → F (cmp3 i j' k') = false) ∧ Below V.heap.size V wr)) (fun jv _ => (n - intOf jv).toNat)
      case atStart => exact ⟨i, Nat.le_refl _, by omega, rfl, Lib.hid ⟨fun _ _ h h' => absurd h (by omega), HI.out.2⟩⟩
      case round =>
        obtain ⟨j, hij, hj, rfl, HJ⟩ := hrel
        have jw : IntKind.i64.wrap ((j : Int) + 1) = ((j + 1 : Nat) : Int) := by rw [i64_of _ (by omega) (by omega)]; omega
        by_cases hlj : j < n
        · have hdj : decide ((j : Int) < (n : Int)) = true := decide_eq_true (by omega)
          have hdjn : decide (j < n) = true := decide_eq_true hlj
          go_wp2_with fail
          generalize hwr2 : wr = wj at *
          have HWR2 := Lib.hid hwr2
          clear hwr2
          go_loopw [9] (fun kv wr => ∃ k : Nat, j ≤ k ∧ k ≤ n ∧ kv = .int .i64 (k : Int) ∧ Hid ((∀ k', k' < k → j ≤ k' → k' < n → F (cmp3 i j k') = false) ∧ Below V.heap.size V wr)) (fun kv _ => (n - intOf kv).toNat)
          case atStart => exact ⟨j, Nat.le_refl _, by omega, rfl, Lib.hid ⟨fun _ h h' => absurd h (by omega), HJ.out.2⟩⟩
          case round =>
            obtain ⟨k, hjk, hk, rfl, HK⟩ := hrel
            have kw : IntKind.i64.wrap ((k : Int) + 1) = ((k + 1 : Nat) : Int) := by rw [i64_of _ (by omega) (by omega)]; omega
            by_cases hlk : k < n
            · have hdk : decide ((k : Int) < (n : Int)) = true := decide_eq_true (by omega)
              have hdkn : decide (k < n) = true := decide_eq_true hlk
              go_wp2_with fail
              refine (compact3_any i j k wr.heap.size wr.heap.size _ (own3 wr (i : Int) (j : Int) (k : Int)) (Nat.le_refl _)).mono ?_
              rintro e w3 ⟨rfl, ho, hb⟩
              have hb3 := hb wr (Below.al (Below.refl _ _) (Nat.le_refl _) _)
              have B3 := Lib.hid (Below.andThen HK.out.2 hb3 (Nat.le_refl _))
              have HO := Lib.hid ho
              have hsl : SlI w3 (.slice (some ⟨wr.heap.size, 0, none⟩) (cmp3 i j k).length 3) ((cmp3 i j k).map natI) := by
                have := sli_own (zs := (cmp3 i j k).map natI) (by simpa [List.map_map, Function.comp_def, natI] using ho)
                simpa using this
              have HIC := Lib.hid (HIF.out w3 (Below.andThen B2.out B3.out (Nat.le_refl _)) _ (cmp3 i j k) hsl (cmp3_mem hij hjk hlk) (by have := cmp3_len i j k; omega))
              have rc := R2.out.below B3.out R2.out.lt
              have c0 := rc.cell 0
              have c1 := rc.cell 1
              have c2 := rc.cell 2
              have c3 := rc.cell 3
              simp only [List.getElem?_cons_zero, List.getElem?_cons_succ] at c0 c1 c2 c3
              have HSZ := Lib.hid (show w.heap.size ≤ wr.heap.size from Nat.le_trans B2.out.size HK.out.2.size)
              clear ho hb hb3 hsl rc
              obtain ⟨E, hE⟩ : ∃ E, F (cmp3 i j k) = E := ⟨_, rfl⟩
              rw [hE] at HIC
              have HE := Lib.hid hE
              obtain ⟨L, hL⟩ : ∃ L, (cmp3 i j k).length = L := ⟨_, rfl⟩
              rw [hL] at HIC HO
              have HL := Lib.hid hL
              rw [hL]
              clear hE hL
              go_wp2_with fail
              refine HIC.out.mono ?_
              rintro e w4 ⟨rfl, hb4⟩
              have B4 := Lib.hid (Below.andThen B3.out hb4 (Nat.le_refl _))
              have HO4 := Lib.hid (own_grow HO.out hb4)
              clear hb4 HIC c0 c1 c2 c3
              cases E with
              | true =>
                go_wp2_with fail
                rw [Exit.noGoto_ret]
                refine bodyPost_ret (v := .tuple #[.slice (some ⟨wr.heap.size, 0, none⟩) L 3, .int .i64 0]) (by simp [results, Try.results21, go_sem]) rfl ⟨i, j, k, _, rfl, ⟨hij, hjk, hlk⟩, HE.out, ?_, Below.andThen B2.out B4.out (Nat.le_refl _)⟩
                rw [HL.out]
                exact owns_mono HO4.out HSZ.out
              | false =>
                go_wp2_with fail
                exact ⟨⟨k + 1, by omega, by omega, rfl, Lib.hid ⟨fun k' h1 h2 h3 => by
                  rcases Nat.lt_or_ge k' k with h | h
                  · exact HK.out.1 k' h h2 h3
                  · obtain rfl : k' = k := by omega
                    exact HE.out, B4.out⟩⟩, by simp [intOf]; omega⟩
            · have hdk : decide ((k : Int) < (n : Int)) = false := decide_eq_false (by omega)
              have hdkn : decide (k < n) = false := decide_eq_false hlk
              obtain rfl : k = n := by omega
              go_wp2_with fail
              exact ⟨⟨j + 1, by omega, by omega, rfl, Lib.hid ⟨fun j' k' h1 h2 h3 h4 => by
                rcases Nat.lt_or_ge j' j with h | h
                · exact HJ.out.1 j' k' h h2 h3 h4
                · obtain rfl : j' = j := by omega
                  exact HK.out.1 k' h4 h3 h4, HK.out.2⟩⟩, by simp [intOf]; omega⟩
        · have hdj : decide ((j : Int) < (n : Int)) = false := decide_eq_false (by omega)
          have hdjn : decide (j < n) = false := decide_eq_false hlj
          obtain rfl : j = n := by omega
          go_wp2_with fail
          exact ⟨⟨i + 1, by omega, rfl, Lib.hid ⟨fun i' j' k' h1 h2 h3 h4 => by
            rcases Nat.lt_or_ge i' i with h | h
            · exact HI.out.1 i' j' k' h h2 h3 h4
            · obtain rfl : i' = i := by omega
              exact HJ.out.1 j' k' (by omega) h2 h3 h4, HJ.out.2⟩⟩, by simp [intOf]; omega⟩
    · exfalso
      obtain rfl : i = n := by omega
      obtain ⟨i', j', k', h1, h2, h3, h4⟩ := HEX.out
      rw [HI.out.1 i' j' k' (by omega) h1 h2 h3] at h4
      cases h4
end Go.Proofs.Ytlemipnplgbckaa
namespace Go.Proofs.Ytlemipnplgbckaa
open Go.RowKit Go.Shelf
attribute [local go_sem] Oper.semAt_some
set_option maxRecDepth 100000 in
set_option maxHeartbeats 1000000 in
theorem ints_sli (xs ys : List Int) (v u : Value) (w : World) (hv : SlI w v xs) (hu : SlI w u ys) (h1 : xs.length ≤ 1000) (h2 : ys.length ≤ 1000) :
    Calls Try.prog 44 #[v, u] w fun e w' => e = .returned (.bool (decide (xs = ys))) ∧ Below w.heap.size w w' := by
  obtain ⟨a, c, rfl, hc, hs⟩ := hv
  obtain ⟨a', c', rfl, hc', hs'⟩ := hu
  by_cases hl : xs.length = ys.length
  case neg =>
    have d1 : ((xs.length : Int) != (ys.length : Int)) = true := by simp; omega
    have HF := Lib.hid (show decide (xs = ys) = false from decide_eq_false fun e => hl (by rw [e]))
    clear hs hs' hl
    go_enter Try.func44, Try.ntmps44
    go_wp2_with fail
    go_ret
    exact ⟨ret_bool HF.out.symm, Below.refl _ _⟩
  case pos =>
    have d1 : ((xs.length : Int) != (ys.length : Int)) = false := by simp; omega
    have HX := Lib.hid hs
    have HY := Lib.hid hs'
    have HL := Lib.hid hl
    obtain ⟨E, hE⟩ : ∃ E, decide (xs = ys) = E := ⟨_, rfl⟩
    rw [hE]
    have HE := Lib.hid hE
    clear hs hs' hl hE
    go_enter Try.func44, Try.ntmps44
    go_wp2_with fail
    go_loopw [5] (fun i wr => ∃ k : Nat, k ≤ xs.length ∧ i = .int .i64 (k : Int) ∧ Hid (Below w.heap.size w wr) ∧ Hid (xs.take k = ys.take k)) (fun i _ => xs.length - (intOf i).toNat)
    case atStart => exact ⟨0, by omega, rfl, Lib.hid (Below.refl _ _), Lib.hid rfl⟩
    case round =>
      obtain ⟨k, hk, rfl, HW, HK⟩ := hrel
      have kw : IntKind.i64.wrap ((k : Int) + 1) = ((k + 1 : Nat) : Int) := by rw [i64_of _ (by omega) (by omega)]; omega
      by_cases hlt : k < xs.length
      · have hlt2 : k < ys.length := by have := HL.out; omega
        have hd : decide ((k : Int) < (xs.length : Int)) = true := decide_eq_true (by omega)
        have hdn : decide (k < xs.length) = true := decide_eq_true hlt
        obtain ⟨b, o, rfl, hbl, hi⟩ : ∃ b o, a = some ⟨b, o, none⟩ ∧ b < w.heap.size ∧ IntsAt w b o xs := HX.out.resolve_left (fun e => by rw [e] at hlt; simp at hlt)
        obtain ⟨b', o', rfl, hbl', hi'⟩ : ∃ b o, a' = some ⟨b, o, none⟩ ∧ b < w.heap.size ∧ IntsAt w b o ys := HY.out.resolve_left (fun e => by rw [e] at hlt2; simp at hlt2)
        have c1 := below_at HW.out hbl (hi.at_ k hlt)
        have c2 := below_at HW.out hbl' (hi'.at_ k hlt2)
        have hs1 : xs.take (k + 1) = xs.take k ++ [xs[k]] := List.take_succ_eq_append_getElem hlt
        have hs2 : ys.take (k + 1) = ys.take k ++ [ys[k]] := List.take_succ_eq_append_getElem hlt2
        have hne : xs[k] ≠ ys[k] → E = false := fun hne => by
          rw [← HE.out]; refine decide_eq_false fun e => hne ?_
          subst e; rfl
        have hlen2 : k < ys.length := hlt2
        have S1 := Lib.hid hs1
        have S2 := Lib.hid hs2
        have HNE := Lib.hid hne
        clear hs1 hs2 hne hi hi'
        generalize xs[k] = p at *
        generalize ys[k] = q at *
        go_wp2_with fail
        go_quiet (fail)
        by_cases hab : p = q
        · have dd : (p != q) = false := by simp [hab]
          subst hab
          clear HNE
          go_wp2_with fail
          go_roundw
          case rel => exact ⟨k + 1, by omega, rfl, Lib.hid (below_drewN HW.out _), Lib.hid (by rw [S1.out, S2.out, HK.out])⟩
          case measure => simp [intOf]; omega
        · have dd : (p != q) = true := by simp [hab]
          have HF := Lib.hid (HNE.out hab)
          clear hab HNE
          go_wp2_with fail
          go_ret
          exact ⟨ret_bool HF.out.symm, below_drewN HW.out _⟩
      · have hd : decide ((k : Int) < (xs.length : Int)) = false := decide_eq_false (by omega)
        have hdn : decide (k < xs.length) = false := decide_eq_false hlt
        have hfin : E = true := by
          rw [← HE.out]; refine decide_eq_true ?_
          have := HK.out
          rw [List.take_of_length_le (by omega), List.take_of_length_le (by have := HL.out; omega)] at this
          exact this
        have HF := Lib.hid hfin
        clear hfin
        go_wp2_with fail
        go_ret
        exact ⟨ret_bool HF.out.symm, HW.out⟩
end Go.Proofs.Ytlemipnplgbckaa
namespace Go.Proofs.Ytlemipnplgbckaa
open Go.RowKit Go.Shelf
attribute [local go_sem] Oper.semAt_some
theorem slp_two (w : World) (a b c d : Int) : SlP (w.alloc (.cells #[.int .i64 a, .int .i64 b, .int .i64 c, .int .i64 d] 28)) (.slice (some ⟨w.heap.size, 0, none⟩) 2 2) [(a, b), (c, d)] := by
  have r := Row.new w 28 [.int .i64 a, .int .i64 b, .int .i64 c, .int .i64 d]
  refine ⟨_, 2, rfl, Nat.le_refl _, .inr ⟨_, 0, rfl, r.lt, fun i hi => ?_, fun i hi => ?_⟩⟩
  · have : i = 0 ∨ i = 1 := by simp at hi; omega
    rcases this with rfl | rfl <;> exact r.cell _
  · have : i = 0 ∨ i = 1 := by simp at hi; omega
    rcases this with rfl | rfl <;> exact r.cell _
theorem slp_three (w : World) (a b c d e f : Int) : SlP (w.alloc (.cells #[.int .i64 a, .int .i64 b, .int .i64 c, .int .i64 d, .int .i64 e, .int .i64 f] 28)) (.slice (some ⟨w.heap.size, 0, none⟩) 3 3) [(a, b), (c, d), (e, f)] := by
  have r := Row.new w 28 [.int .i64 a, .int .i64 b, .int .i64 c, .int .i64 d, .int .i64 e, .int .i64 f]
  refine ⟨_, 3, rfl, Nat.le_refl _, .inr ⟨_, 0, rfl, r.lt, fun i hi => ?_, fun i hi => ?_⟩⟩
  · have : i = 0 ∨ i = 1 ∨ i = 2 := by simp at hi; omega
    rcases this with rfl | rfl | rfl <;> exact r.cell _
  · have : i = 0 ∨ i = 1 ∨ i = 2 := by simp at hi; omega
    rcases this with rfl | rfl | rfl <;> exact r.cell _
theorem slp_four (w : World) (a b c d e f g h : Int) : SlP (w.alloc (.cells #[.int .i64 a, .int .i64 b, .int .i64 c, .int .i64 d, .int .i64 e, .int .i64 f, .int .i64 g, .int .i64 h] 28)) (.slice (some ⟨w.heap.size, 0, none⟩) 4 4) [(a, b), (c, d), (e, f), (g, h)] := by
  have r := Row.new w 28 [.int .i64 a, .int .i64 b, .int .i64 c, .int .i64 d, .int .i64 e, .int .i64 f, .int .i64 g, .int .i64 h]
  refine ⟨_, 4, rfl, Nat.le_refl _, .inr ⟨_, 0, rfl, r.lt, fun i hi => ?_, fun i hi => ?_⟩⟩
  · have : i = 0 ∨ i = 1 ∨ i = 2 ∨ i = 3 := by simp at hi; omega
    rcases this with rfl | rfl | rfl | rfl <;> exact r.cell _
  · have : i = 0 ∨ i = 1 ∨ i = 2 ∨ i = 3 := by simp at hi; omega
    rcases this with rfl | rfl | rfl | rfl <;> exact r.cell _
/-- boxes for three pairs and a circle that is returned -/
theorem thr_start (w : World) (a1 a2 b1 b2 c1 c2 : Int) : ∃ V, V = (((w.alloc (.cells #[.int .i64 a1, .int .i64 a2] 28)).alloc (.cells #[.int .i64 b1, .int .i64 b2] 28)).alloc (.cells #[.int .i64 c1, .int .i64 c2] 28)).alloc (.cells #[.int .i64 0, .int .i64 0, .int .i64 0, .int .i64 0] 30) ∧
    Row V w.heap.size 28 [.int .i64 a1, .int .i64 a2] ∧ Row V (w.heap.size + 1) 28 [.int .i64 b1, .int .i64 b2] ∧ Row V (w.heap.size + 1 + 1) 28 [.int .i64 c1, .int .i64 c2] ∧ Row V (w.heap.size + 1 + 1 + 1) 30 [.int .i64 0, .int .i64 0, .int .i64 0, .int .i64 0] ∧ Below w.heap.size w V := by
  refine ⟨_, rfl, ?_⟩
  obtain ⟨l1, r1⟩ := box_start w 28 [.int .i64 a1, .int .i64 a2]
  have s1 := size_al w (.cells #[.int .i64 a1, .int .i64 a2] 28)
  have e1 : w.alloc (.cells [.int .i64 a1, .int .i64 a2].toArray 28) = w.alloc (.cells #[.int .i64 a1, .int .i64 a2] 28) := rfl
  rw [e1] at l1 r1
  generalize w.alloc (.cells #[.int .i64 a1, .int .i64 a2] 28) = w1 at *
  obtain ⟨l2, r2⟩ := box_start w1 28 [.int .i64 b1, .int .i64 b2]
  have s2 := size_al w1 (.cells #[.int .i64 b1, .int .i64 b2] 28)
  have e2 : w1.alloc (.cells [.int .i64 b1, .int .i64 b2].toArray 28) = w1.alloc (.cells #[.int .i64 b1, .int .i64 b2] 28) := rfl
  rw [e2] at l2 r2
  generalize w1.alloc (.cells #[.int .i64 b1, .int .i64 b2] 28) = w2 at *
  obtain ⟨l3, r3⟩ := box_start w2 28 [.int .i64 c1, .int .i64 c2]
  have s3 := size_al w2 (.cells #[.int .i64 c1, .int .i64 c2] 28)
  have e3 : w2.alloc (.cells [.int .i64 c1, .int .i64 c2].toArray 28) = w2.alloc (.cells #[.int .i64 c1, .int .i64 c2] 28) := rfl
  rw [e3] at l3 r3
  generalize w2.alloc (.cells #[.int .i64 c1, .int .i64 c2] 28) = w3 at *
  obtain ⟨l4, r4⟩ := box_start w3 30 [.int .i64 0, .int .i64 0, .int .i64 0, .int .i64 0]
  rw [← s1, ← s2, ← s3]
  exact ⟨((r1.below l2 r1.lt).below l3 (by omega)).below l4 (by omega), (r2.below l3 r2.lt).below l4 (by omega), r3.below l4 r3.lt, r4, Below.andThen (Below.andThen (Below.andThen l1 l2 (Nat.le_refl _)) l3 (Nat.le_refl _)) l4 (Nat.le_refl _)⟩
theorem thrV_eq (a b c : Pt) : thrV a b c = if thD a b c = 0 then cirV 0 0 0 0 else (thC a b c).V := by
  by_cases h : thD a b c = 0
  · rw [if_pos h]; unfold thrV; rw [if_pos h]
  · rw [if_neg h]; unfold thrV; rw [if_neg h]; rfl
/-- what Through answers -/
def trE (a b c : Pt) : Int := if [a, b, c].all okP = true then (if thD a b c = 0 then 4 else 0) else 1
def trC (a b c : Pt) : Cir := if [a, b, c].all okP = true ∧ thD a b c ≠ 0 then thC a b c else ⟨0, 0, 0, 0⟩
set_option maxRecDepth 100000 in
set_option maxHeartbeats 1000000 in
theorem Through_any (a1 a2 b1 b2 c1 c2 : Int) (w : World) :
    Calls Try.prog 38 #[.agg #[.int .i64 a1, .int .i64 a2], .agg #[.int .i64 b1, .int .i64 b2], .agg #[.int .i64 c1, .int .i64 c2]] w fun e w' => e = .returned (.tuple #[(trC (a1, a2) (b1, b2) (c1, c2)).V, .int .i64 (trE (a1, a2) (b1, b2) (c1, c2))]) ∧ Below w.heap.size w w' := by
  obtain ⟨V, hV, ra, rb, rc, rR, bV⟩ := thr_start w a1 a2 b1 b2 c1 c2
  have HCK := Lib.hid (fun (W : World) => checkPairs_any [(a1, a2), (b1, b2), (c1, c2)] _ _ (slp_three W a1 a2 b1 b2 c1 c2) (by simp))
  have RA := Lib.hid ra
  have RB := Lib.hid rb
  have RC := Lib.hid rc
  have RR := Lib.hid rR
  have BV := Lib.hid bV
  have HTH := Lib.hid (fun (h : [(a1, a2), (b1, b2), (c1, c2)].all okP = true) (W : World) => by
    simp only [List.all_cons, List.all_nil, Bool.and_true, Bool.and_eq_true, okP_iff] at h
    exact through_any a1 a2 b1 b2 c1 c2 W h.1.1 h.1.2 h.2.1.1 h.2.1.2 h.2.2.1 h.2.2.2)
  have HE := Lib.hid (show trE (a1, a2) (b1, b2) (c1, c2) = if [(a1, a2), (b1, b2), (c1, c2)].all okP = true then (if thD (a1, a2) (b1, b2) (c1, c2) = 0 then 4 else 0) else 1 by unfold trE; rfl)
  have HT := Lib.hid (show trC (a1, a2) (b1, b2) (c1, c2) = if [(a1, a2), (b1, b2), (c1, c2)].all okP = true ∧ thD (a1, a2) (b1, b2) (c1, c2) ≠ 0 then thC (a1, a2) (b1, b2) (c1, c2) else ⟨0, 0, 0, 0⟩ by unfold trC; rfl)
  have HV := Lib.hid (thrV_eq (a1, a2) (b1, b2) (c1, c2))
  clear rR bV
  have ka0 := ra.cell 0
  have ka1 := ra.cell 1
  have kb0 := rb.cell 0
  have kb1 := rb.cell 1
  have kc0 := rc.cell 0
  have kc1 := rc.cell 1
  simp only [List.getElem?_cons_zero, List.getElem?_cons_succ] at ka0 ka1 kb0 kb1 kc0 kc1
  clear ra rb rc
  generalize [(a1, a2), (b1, b2), (c1, c2)].all okP = ok at *
  generalize trE (a1, a2) (b1, b2) (c1, c2) = E at *
  generalize trC (a1, a2) (b1, b2) (c1, c2) = T at *
  generalize thD (a1, a2) (b1, b2) (c1, c2) = D at *
  generalize thrV (a1, a2) (b1, b2) (c1, c2) = TV at *
  generalize thC (a1, a2) (b1, b2) (c1, c2) = M at *
  obtain ⟨T1, T2, T3, T4⟩ := T
  obtain ⟨M1, M2, M3, M4⟩ := M
  unfold Cir.V cirV at HV ⊢
  dsimp only at HV ⊢
  go_enter Try.func38, Try.ntmps38
  go_wp2_with fail
  rw [← hV]
  have hsz : V.heap.size = w.heap.size + 1 + 1 + 1 + 1 := by rw [hV]; simp
  have hck := HCK.out V
  rw [hsz] at hck
  refine hck.mono ?_
  rintro e w1 ⟨rfl, hb⟩
  have b1' := Below.andThen (Below.al (Below.refl V.heap.size V) (Nat.le_refl _) (.cells #[.int .i64 a1, .int .i64 a2, .int .i64 b1, .int .i64 b2, .int .i64 c1, .int .i64 c2] 28)) hb (Nat.le_refl _)
  have BW := Lib.hid (Below.andThen BV.out b1' (Nat.le_refl _))
  have RT := Lib.hid (RR.out.below b1' RR.out.lt)
  have RA2 := Lib.hid (RA.out.below b1' RA.out.lt)
  have RB2 := Lib.hid (RB.out.below b1' RB.out.lt)
  have RC2 := Lib.hid (RC.out.below b1' RC.out.lt)
  clear hck hsz
  clear hb b1' ka0 ka1 kb0 kb1 kc0 kc1 HCK RA RB RC RR BV hV
  cases ok with
  | false =>
    have rT := RT.out
    have t0 := rT.cell 0
    have t1 := rT.cell 1
    have t2 := rT.cell 2
    have t3 := rT.cell 3
    have g0 := frozen_of_row _ (w.heap.size + 1 + 1 + 1) 0 _ _ rT
    have g1 := frozen_of_row _ (w.heap.size + 1 + 1 + 1) 1 _ _ rT
    have g2 := frozen_of_row _ (w.heap.size + 1 + 1 + 1) 2 _ _ rT
    have g3 := frozen_of_row _ (w.heap.size + 1 + 1 + 1) 3 _ _ rT
    simp only [List.getElem?_cons_zero, List.getElem?_cons_succ] at t0 t1 t2 t3
    clear rT
    have e0 : E = 1 := HE.out
    have e1 : (⟨T1, T2, T3, T4⟩ : Cir) = ⟨0, 0, 0, 0⟩ := HT.out
    injection e1 with f1 f2 f3 f4
    subst e0 f1 f2 f3 f4
    go_wp2_with fail
    have hr := ((((RT.out.set 0 (.int .i64 0)).set 1 (.int .i64 0)).set 2 (.int .i64 0)).set 3 (.int .i64 0))
    have v0 := hr.cell 0
    have v1 := hr.cell 1
    have v2 := hr.cell 2
    have v3 := hr.cell 3
    simp only [List.set_cons_zero, List.set_cons_succ, List.getElem?_cons_zero, List.getElem?_cons_succ] at v0 v1 v2 v3
    refine bodyPost_ret (v := .tuple #[.agg #[.int .i64 0, .int .i64 0, .int .i64 0, .int .i64 0], .int .i64 1]) (by simp [results, Try.results38, go_sem, v0, v1, v2, v3]) rfl ⟨rfl, ?_⟩
    exact ((((BW.out.setCell (p := ⟨w.heap.size + 1 + 1 + 1, 0, none⟩) (by dsimp only; omega) _).setCell (p := ⟨w.heap.size + 1 + 1 + 1, 1, none⟩) (by dsimp only; omega) _).setCell (p := ⟨w.heap.size + 1 + 1 + 1, 2, none⟩) (by dsimp only; omega) _).setCell (p := ⟨w.heap.size + 1 + 1 + 1, 3, none⟩) (by dsimp only; omega) _)
  | true =>
    have a2' := RA2.out
    have b2' := RB2.out
    have c2' := RC2.out
    have ka0 := a2'.cell 0
    have ka1 := a2'.cell 1
    have kb0 := b2'.cell 0
    have kb1 := b2'.cell 1
    have kc0 := c2'.cell 0
    have kc1 := c2'.cell 1
    simp only [List.getElem?_cons_zero, List.getElem?_cons_succ] at ka0 ka1 kb0 kb1 kc0 kc1
    clear a2' b2' c2'
    have e0 : E = (if D = 0 then 4 else 0) := HE.out
    have e1 : (⟨T1, T2, T3, T4⟩ : Cir) = (if D ≠ 0 then ⟨M1, M2, M3, M4⟩ else ⟨0, 0, 0, 0⟩) := by simpa using HT.out
    have HE0 := Lib.hid e0
    have HE1 := Lib.hid e1
    clear e0 e1 HE HT
    have hth := HTH.out (by trivial)
    obtain ⟨X, Y, DD, R, hTV⟩ : ∃ X Y DD R, TV = .agg #[.int .i64 X, .int .i64 Y, .int .i64 DD, .int .i64 R] := by
      rw [HV.out]; split
      · exact ⟨_, _, _, _, rfl⟩
      · exact ⟨_, _, _, _, rfl⟩
    have HV2 := Lib.hid (hTV ▸ HV.out)
    subst hTV
    have HTX := Lib.hid hth
    clear HTH hth HV
    go_wp2_with fail
    refine (HTX.out _).mono ?_
    rintro e w2 ⟨rfl, hb⟩
    have BX := Lib.hid (Below.andThen BW.out hb (Nat.le_refl _))
    have RU := Lib.hid (RT.out.below hb RT.out.lt)
    clear hb HTX ka0 ka1 kb0 kb1 kc0 kc1 RA2 RB2 RC2
    by_cases hD : D = 0
    · have d1 : decide (D = 0) = true := decide_eq_true hD
      have e0 := HE0.out
      have e1 := HE1.out
      rw [if_pos hD] at e0
      rw [if_neg (by simpa using hD)] at e1
      injection e1 with f1 f2 f3 f4
      subst e0 f1 f2 f3 f4
      have RU2 := Lib.hid (RU.out.below (Below.al (Below.refl w2.heap.size w2) (Nat.le_refl _) (.cells #[.int .i64 X, .int .i64 Y, .int .i64 DD, .int .i64 R] 30)) RU.out.lt)
      have BX2 := Lib.hid (Below.andThen BX.out (Below.al (Below.refl w2.heap.size w2) (Nat.le_refl _) (.cells #[.int .i64 X, .int .i64 Y, .int .i64 DD, .int .i64 R] 30)) (Nat.le_refl _))
      clear hD
      have rT := RU2.out
      have t0 := rT.cell 0
      have t1 := rT.cell 1
      have t2 := rT.cell 2
      have t3 := rT.cell 3
      have g0 := frozen_of_row _ (w.heap.size + 1 + 1 + 1) 0 _ _ rT
      have g1 := frozen_of_row _ (w.heap.size + 1 + 1 + 1) 1 _ _ rT
      have g2 := frozen_of_row _ (w.heap.size + 1 + 1 + 1) 2 _ _ rT
      have g3 := frozen_of_row _ (w.heap.size + 1 + 1 + 1) 3 _ _ rT
      simp only [List.getElem?_cons_zero, List.getElem?_cons_succ] at t0 t1 t2 t3
      clear rT
      go_wp2_with fail
      have hr := ((((RU2.out.set 0 (.int .i64 0)).set 1 (.int .i64 0)).set 2 (.int .i64 0)).set 3 (.int .i64 0))
      have v0 := hr.cell 0
      have v1 := hr.cell 1
      have v2 := hr.cell 2
      have v3 := hr.cell 3
      simp only [List.set_cons_zero, List.set_cons_succ, List.getElem?_cons_zero, List.getElem?_cons_succ] at v0 v1 v2 v3
      refine bodyPost_ret (v := .tuple #[.agg #[.int .i64 0, .int .i64 0, .int .i64 0, .int .i64 0], .int .i64 4]) (by simp [results, Try.results38, go_sem, v0, v1, v2, v3]) rfl ⟨rfl, ?_⟩
      exact ((((BX2.out.setCell (p := ⟨w.heap.size + 1 + 1 + 1, 0, none⟩) (by dsimp only; omega) _).setCell (p := ⟨w.heap.size + 1 + 1 + 1, 1, none⟩) (by dsimp only; omega) _).setCell (p := ⟨w.heap.size + 1 + 1 + 1, 2, none⟩) (by dsimp only; omega) _).setCell (p := ⟨w.heap.size + 1 + 1 + 1, 3, none⟩) (by dsimp only; omega) _)
    · have d1 : decide (D = 0) = false := decide_eq_false hD
      have e0 := HE0.out
      have e1 := HE1.out
      rw [if_neg hD] at e0
      rw [if_pos hD] at e1
      have h2 := HV2.out
      rw [if_neg hD] at h2
      injection e1 with f1 f2 f3 f4
      injection h2 with h2
      injection h2 with h2
      simp only [List.cons.injEq, Value.int.injEq, true_and, and_true] at h2
      obtain ⟨h3, h4, h5, h6⟩ := h2
      subst e0 f1 f2 f3 f4 h3 h4 h5 h6
      have RU2 := Lib.hid (RU.out.below (Below.al (Below.refl w2.heap.size w2) (Nat.le_refl _) (.cells #[.int .i64 X, .int .i64 Y, .int .i64 DD, .int .i64 R] 30)) RU.out.lt)
      have RM := Lib.hid (Row.new w2 30 [.int .i64 X, .int .i64 Y, .int .i64 DD, .int .i64 R])
      have BX2 := Lib.hid (Below.andThen BX.out (Below.al (Below.refl w2.heap.size w2) (Nat.le_refl _) (.cells #[.int .i64 X, .int .i64 Y, .int .i64 DD, .int .i64 R] 30)) (Nat.le_refl _))
      clear hD
      have rM := RM.out
      have m0 := rM.cell 0
      have m1 := rM.cell 1
      have m2 := rM.cell 2
      have m3 := rM.cell 3
      simp only [List.getElem?_cons_zero, List.getElem?_cons_succ] at m0 m1 m2 m3
      clear rM
      have rT := RU2.out
      have t0 := rT.cell 0
      have t1 := rT.cell 1
      have t2 := rT.cell 2
      have t3 := rT.cell 3
      have g0 := frozen_of_row _ (w.heap.size + 1 + 1 + 1) 0 _ _ rT
      have g1 := frozen_of_row _ (w.heap.size + 1 + 1 + 1) 1 _ _ rT
      have g2 := frozen_of_row _ (w.heap.size + 1 + 1 + 1) 2 _ _ rT
      have g3 := frozen_of_row _ (w.heap.size + 1 + 1 + 1) 3 _ _ rT
      simp only [List.getElem?_cons_zero, List.getElem?_cons_succ] at t0 t1 t2 t3
      clear rT
      go_wp2_with fail
      have hr := ((((RU2.out.set 0 (.int .i64 X)).set 1 (.int .i64 Y)).set 2 (.int .i64 DD)).set 3 (.int .i64 R))
      have v0 := hr.cell 0
      have v1 := hr.cell 1
      have v2 := hr.cell 2
      have v3 := hr.cell 3
      simp only [List.set_cons_zero, List.set_cons_succ, List.getElem?_cons_zero, List.getElem?_cons_succ] at v0 v1 v2 v3
      refine bodyPost_ret (v := .tuple #[.agg #[.int .i64 X, .int .i64 Y, .int .i64 DD, .int .i64 R], .int .i64 0]) (by simp [results, Try.results38, go_sem, v0, v1, v2, v3]) rfl ⟨rfl, ?_⟩
      exact ((((BX2.out.setCell (p := ⟨w.heap.size + 1 + 1 + 1, 0, none⟩) (by dsimp only; omega) _).setCell (p := ⟨w.heap.size + 1 + 1 + 1, 1, none⟩) (by dsimp only; omega) _).setCell (p := ⟨w.heap.size + 1 + 1 + 1, 2, none⟩) (by dsimp only; omega) _).setCell (p := ⟨w.heap.size + 1 + 1 + 1, 3, none⟩) (by dsimp only; omega) _)
end Go.Proofs.Ytlemipnplgbckaa
namespace Go.Proofs.Ytlemipnplgbckaa
open Go.RowKit Go.Shelf
attribute [local go_sem] Oper.semAt_some
theorem sm1 : smC [(0, 0), (4, 0)] = ⟨2, 0, 1, 4⟩ := by decide +kernel
theorem sm2 : smC [(0, 0), (4, 0), (2, 3)] = ⟨12, 5, 6, 169⟩ := by decide +kernel
theorem tr1 : trC (0, 0) (2, 0) (0, 2) = ⟨1, 1, 1, 2⟩ ∧ trE (0, 0) (2, 0) (0, 2) = 0 := by decide +kernel
theorem em1 : (emptyL [(0, 0), (2, 0), (0, 2), (2, 2)]).length = 4 := by decide +kernel
theorem fo0 : ((List.range 3).all fun i => (List.range 3).all fun j => (List.range 3).all fun k => !(decide (i ≤ j) && (decide (j ≤ k) && fB [(0, 0), (4, 0), (1, 1)] (smC [(0, 0), (4, 0), (1, 1)]) (cmp3 i j k))) || decide (cmp3 i j k = [0, 1])) = true := by decide +kernel
theorem fo1 {i j k : Nat} (h1 : i ≤ j) (h2 : j ≤ k) (h3 : k < 3) (h : fB [(0, 0), (4, 0), (1, 1)] (smC [(0, 0), (4, 0), (1, 1)]) (cmp3 i j k) = true) : cmp3 i j k = [0, 1] := by
  have h0 := fo0
  rw [List.all_eq_true] at h0
  have h0 := h0 i (List.mem_range.2 (by omega))
  rw [List.all_eq_true] at h0
  have h0 := h0 j (List.mem_range.2 (by omega))
  rw [List.all_eq_true] at h0
  have h0 := h0 k (List.mem_range.2 (by omega))
  rw [h, decide_eq_true h1, decide_eq_true h2] at h0
  simpa using h0
theorem ck1 : chkP [(0, 0), (4, 0)] = true ∧ chkP [(0, 0), (4, 0), (2, 3)] = true ∧ chkP [(0, 0), (2, 0), (0, 2), (2, 2)] = true ∧ chkP [(0, 0), (4, 0), (1, 1)] = true ∧ errP [] = 40 := by decide +kernel
theorem slp_nil (w : World) : SlP w (.slice none 0 0) [] := ⟨none, 0, rfl, Nat.le_refl _, .inl rfl⟩
set_option maxRecDepth 100000 in
set_option maxHeartbeats 2000000 in
theorem awake_any (w : World) : Calls Try.prog 18 #[] w fun e w' => e = .returned (.bool true) ∧ Below w.heap.size w w' := by
  have S1 := Lib.hid (fun (W : World) => Smallest_ok [(0, 0), (4, 0)] _ _ (slp_two W 0 0 4 0) ck1.1)
  rw [sm1] at S1
  have S2 := Lib.hid (fun (W : World) (N : Nat) (hN : W.heap.size = N) => (hN ▸ Smallest_ok [(0, 0), (4, 0), (2, 3)] _ _ (slp_three W 0 0 4 0 2 3) ck1.2.1 : Calls Try.prog 19 #[.slice (some ⟨N, 0, none⟩) 3 3] (W.alloc (.cells #[.int .i64 0, .int .i64 0, .int .i64 4, .int .i64 0, .int .i64 2, .int .i64 3] 28)) fun e w' => e = .returned (.tuple #[(smC [(0, 0), (4, 0), (2, 3)]).V, .int .i64 0]) ∧ Below (W.alloc (.cells #[.int .i64 0, .int .i64 0, .int .i64 4, .int .i64 0, .int .i64 2, .int .i64 3] 28)).heap.size (W.alloc (.cells #[.int .i64 0, .int .i64 0, .int .i64 4, .int .i64 0, .int .i64 2, .int .i64 3] 28)) w'))
  rw [sm2] at S2
  have S3 := Lib.hid (fun (W : World) => Through_any 0 0 2 0 0 2 W)
  rw [tr1.1, tr1.2] at S3
  have S4 := Lib.hid (fun (W : World) (N : Nat) (hN : W.heap.size = N) => (hN ▸ Empty_ok [(0, 0), (2, 0), (0, 2), (2, 2)] _ _ (slp_four W 0 0 2 0 0 2 2 2) ck1.2.2.1 : Calls Try.prog 23 #[.slice (some ⟨N, 0, none⟩) 4 4] (W.alloc (.cells #[.int .i64 0, .int .i64 0, .int .i64 2, .int .i64 0, .int .i64 0, .int .i64 2, .int .i64 2, .int .i64 2] 28)) fun e w' => ∃ s, e = .returned (.tuple #[s, .int .i64 0]) ∧ w'.ownsRow (W.alloc (.cells #[.int .i64 0, .int .i64 0, .int .i64 2, .int .i64 0, .int .i64 0, .int .i64 2, .int .i64 2, .int .i64 2] 28)).heap.size 71 3 s (emptyL [(0, 0), (2, 0), (0, 2), (2, 2)]).length (flatT (emptyL [(0, 0), (2, 0), (0, 2), (2, 2)])) ∧ Below (W.alloc (.cells #[.int .i64 0, .int .i64 0, .int .i64 2, .int .i64 0, .int .i64 0, .int .i64 2, .int .i64 2, .int .i64 2] 28)).heap.size (W.alloc (.cells #[.int .i64 0, .int .i64 0, .int .i64 2, .int .i64 0, .int .i64 0, .int .i64 2, .int .i64 2, .int .i64 2] 28)) w'))
  rw [em1] at S4
  have S5 := Lib.hid (fun (W : World) => Force_ok [(0, 0), (4, 0), (1, 1)] _ _ (slp_three W 0 0 4 0 1 1) ck1.2.2.2.1)
  have S6 := Lib.hid (fun (W : World) => Check_any [] _ W (slp_nil W) (by simp))
  rw [ck1.2.2.2.2] at S6
  unfold Cir.V cirV at S1 S2 S3
  dsimp only at S1 S2 S3
  go_enter Try.func18, Try.ntmps18
  go_wp2_with fail
  refine (S1.out _).mono ?_
  rintro e w1 ⟨rfl, h1⟩
  have C1 := Lib.hid (Below.andThen (Below.al (Below.refl w.heap.size w) (Nat.le_refl _) (.cells #[.int .i64 0, .int .i64 0, .int .i64 4, .int .i64 0] 28)) h1 (Nat.le_refl _))
  clear h1 S1
  obtain ⟨b1, r1⟩ := box_start w1 30 [.int .i64 2, .int .i64 0, .int .i64 1, .int .i64 4]
  have B1 := Lib.hid (Below.andThen C1.out b1 (Nat.le_refl _))
  have R1 := Lib.hid r1
  clear b1 r1 C1
  go_wp2_with fail
  refine (S2.out _ _ (by simp)).mono ?_
  rintro e w2 ⟨rfl, h2⟩
  have h2' := Below.andThen (Below.al (Below.refl _ _) (Nat.le_refl _) _) h2 (Nat.le_refl _)
  obtain ⟨b2, r2⟩ := box_start w2 30 [.int .i64 12, .int .i64 5, .int .i64 6, .int .i64 169]
  have h2'' := Below.andThen h2' b2 (Nat.le_refl _)
  have B2 := Lib.hid (Below.andThen B1.out h2'' (Nat.le_refl _))
  have R12 := Lib.hid (R1.out.below h2'' R1.out.lt)
  have R2 := Lib.hid r2
  clear h2 h2' h2'' b2 r2 S2 B1 R1
  go_wp2_with fail
  refine (S3.out _).mono ?_
  rintro e w3 ⟨rfl, h3⟩
  obtain ⟨b3, r3⟩ := box_start w3 30 [.int .i64 1, .int .i64 1, .int .i64 1, .int .i64 2]
  have h3' := Below.andThen h3 b3 (Nat.le_refl _)
  have B3 := Lib.hid (Below.andThen B2.out h3' (Nat.le_refl _))
  have R13 := Lib.hid (R12.out.below h3' R12.out.lt)
  have R23 := Lib.hid (R2.out.below h3' R2.out.lt)
  have R3 := Lib.hid r3
  clear h3 h3' b3 r3 S3 B2 R12 R2
  go_wp2_with fail
  refine (S4.out _ _ (by simp)).mono ?_
  rintro e w4 ⟨s, rfl, ho, h4⟩
  have h4' := Below.andThen (Below.al (Below.refl _ _) (Nat.le_refl _) _) h4 (Nat.le_refl _)
  have B4 := Lib.hid (Below.andThen B3.out h4' (Nat.le_refl _))
  have R14 := Lib.hid (R13.out.below h4' R13.out.lt)
  have R24 := Lib.hid (R23.out.below h4' R23.out.lt)
  have R34 := Lib.hid (R3.out.below h4' R3.out.lt)
  obtain ⟨a4, c4, rfl⟩ : ∃ a c, s = .slice a 4 c := by
    rcases ho.2 with ⟨_, h⟩ | ⟨g, cap, cur, h, _⟩
    · cases h
    · exact ⟨_, _, h⟩
  clear h4 h4' ho S4 B3 R13 R23 R3
  go_wp2_with fail
  refine (S5.out _).mono ?_
  rintro e w5 ⟨i, j, k, s, rfl, ⟨hij, hjk, hk⟩, hfb, ho, h5⟩
  have hc := fo1 hij hjk hk hfb
  rw [hc] at ho
  have h5' := Below.andThen (Below.al (Below.refl _ _) (Nat.le_refl _) _) h5 (Nat.le_refl _)
  have B5 := Lib.hid (Below.andThen B4.out h5' (Nat.le_refl _))
  have r1 := R14.out.below h5' R14.out.lt
  have r2 := R24.out.below h5' R24.out.lt
  have r3 := R34.out.below h5' R34.out.lt
  have HS := Lib.hid (show SlI w5 s [0, 1] from sli_own (zs := [0, 1]) ho)
  clear hc ho h5 h5' hij hjk hk hfb S5 B4 R14 R24 R34
  have x0 := r1.cell 0
  have x1 := r1.cell 1
  have x2 := r1.cell 2
  have x3 := r1.cell 3
  have y0 := r2.cell 0
  have y1 := r2.cell 1
  have y2 := r2.cell 2
  have y3 := r2.cell 3
  have z0 := r3.cell 0
  have z1 := r3.cell 1
  have z2 := r3.cell 2
  have z3 := r3.cell 3
  simp only [List.getElem?_cons_zero, List.getElem?_cons_succ] at x0 x1 x2 x3 y0 y1 y2 y3 z0 z1 z2 z3
  clear r1 r2 r3
  go_wp2_with fail
  have hi := ints_sli [0, 1] [0, 1] s (.slice (some ⟨w5.heap.size, 0, none⟩) 2 2) (w5.alloc (.cells #[.int .i64 0, .int .i64 1] 3)) (HS.out.grow (Below.al (Below.refl _ _) (Nat.le_refl _) _)) (sli_new w5 [0, 1]) (by simp) (by simp)
  rw [decide_eq_true rfl] at hi
  refine hi.mono ?_
  rintro e w6 ⟨rfl, h6⟩
  have B6 := Lib.hid (Below.andThen B5.out (Below.andThen (Below.al (Below.refl _ _) (Nat.le_refl _) _) h6 (Nat.le_refl _)) (Nat.le_refl _))
  clear hi h6 B5 HS x0 x1 x2 x3 y0 y1 y2 y3 z0 z1 z2 z3
  go_wp2_with fail
  refine (S6.out _).mono ?_
  rintro e w7 ⟨rfl, h7⟩
  have B7 := Lib.hid (Below.andThen B6.out h7 (Nat.le_refl _))
  clear h7 S6 B6
  go_wp2_with fail
  go_ret
  exact ⟨rfl, B7.out⟩
end Go.Proofs.Ytlemipnplgbckaa
namespace Go.Proofs.Ytlemipnplgbckaa
open Go.RowKit Go.Shelf
attribute [local go_sem] Oper.semAt_some
theorem two_start (w : World) (E1 E2 : TypeId) (L1 L2 : List Value) : ∃ V, V = (w.alloc (.cells L1.toArray E1)).alloc (.cells L2.toArray E2) ∧ Row V w.heap.size E1 L1 ∧ Row V (w.heap.size + 1) E2 L2 ∧ Below w.heap.size w V ∧ V.heap.size = w.heap.size + 1 + 1 := by
  refine ⟨_, rfl, ?_⟩
  obtain ⟨l1, r1⟩ := box_start w E1 L1
  have s1 := size_al w (.cells L1.toArray E1)
  generalize w.alloc (.cells L1.toArray E1) = w1 at *
  obtain ⟨l2, r2⟩ := box_start w1 E2 L2
  have s2 := size_al w1 (.cells L2.toArray E2)
  exact ⟨r1.below l2 r1.lt, by rw [← s1]; exact r2, Below.andThen l1 l2 (Nat.le_refl _), by rw [s2, s1]⟩
def plN (x : Int) : Int := x % 18446744073709551616 % 41 - 20
def placeF (p : Pt) : Pt := (plN p.1, plN p.2)
theorem plN_bd (x : Int) : Bd 20 (plN x) := by unfold Bd plN; omega
theorem placeF_bd (p : Pt) : Bd 20 (placeF p).1 ∧ Bd 20 (placeF p).2 := ⟨plN_bd _, plN_bd _⟩
theorem plN_raw (x : Int) : wrap64 (wrap64 ((IntKind.u64.wrap x).tmod 41) - 20) = plN x := by
  have t1 : (IntKind.u64.wrap x).tmod 41 = x % 18446744073709551616 % 41 := by rw [u64_wrap]; exact Int.tmod_eq_emod_of_nonneg (by omega)
  rw [t1]
  unfold wrap64 plN
  omega
set_option maxRecDepth 100000 in
set_option maxHeartbeats 400000 in
theorem place_any (a b : Int) (w : World) : Calls Try.prog 36 #[.agg #[.int .i64 a, .int .i64 b]] w fun e w' => e = .returned (.agg #[.int .i64 (plN a), .int .i64 (plN b)]) ∧ Below w.heap.size w w' := by
  have HP := Lib.hid (And.intro (plN_raw a) (plN_raw b))
  go_enter Try.func36, Try.ntmps36
  go_wp2_with fail
  rw [HP.out.1, HP.out.2]
  obtain ⟨V, hV, ra, rr, bV, hs⟩ := two_start w 28 28 [.int .i64 a, .int .i64 b] [.int .i64 (plN a), .int .i64 (plN b)]
  rw [show (w.alloc (.cells #[.int .i64 a, .int .i64 b] 28)).alloc (.cells #[.int .i64 (plN a), .int .i64 (plN b)] 28) = V from hV.symm]
  have v0 := rr.cell 0
  have v1 := rr.cell 1
  simp only [List.getElem?_cons_zero, List.getElem?_cons_succ] at v0 v1
  exact bodyPost_ret (v := .agg #[.int .i64 (plN a), .int .i64 (plN b)]) (by simp [results, Try.results36, go_sem, v0, v1]) rfl ⟨rfl, bV⟩
set_option maxRecDepth 100000 in
set_option maxHeartbeats 400000 in
theorem In_any (a b : Int) (w : World) : Calls Try.prog 34 #[.agg #[.int .i64 a, .int .i64 b]] w fun e w' => e = .returned (.bool (okP (a, b))) ∧ Below w.heap.size w w' := by
  have ba := Below.al (Below.refl w.heap.size w) (Nat.le_refl _) (.cells #[.int .i64 a, .int .i64 b] 28)
  have BA := Lib.hid ba
  have H : okP (a, b) = (decide (-20 ≤ a) && (decide (a ≤ 20) && (decide (-20 ≤ b) && decide (b ≤ 20)))) := by
    rw [Bool.eq_iff_iff, okP_iff]
    simp [Bd, and_assoc]
  have HO := Lib.hid H
  clear H ba
  by_cases h1 : -20 ≤ a
  · have d1 : decide (-20 ≤ a) = true := decide_eq_true h1
    by_cases h2 : a ≤ 20
    · have d2 : decide (a ≤ 20) = true := decide_eq_true h2
      by_cases h3 : -20 ≤ b
      · have d3 : decide (-20 ≤ b) = true := decide_eq_true h3
        by_cases h4 : b ≤ 20
        · have d4 : decide (b ≤ 20) = true := decide_eq_true h4
          have HZ := Lib.hid (show okP (a, b) = true by rw [HO.out, d1, d2, d3, d4]; rfl)
          rw [HZ.out]
          clear h1 h2 h3 h4
          go_enter Try.func34, Try.ntmps34
          go_wp2_with fail
          go_ret
          exact ⟨rfl, BA.out⟩
        · have d4 : decide (b ≤ 20) = false := decide_eq_false h4
          have HZ := Lib.hid (show okP (a, b) = false by rw [HO.out, d1, d2, d3, d4]; rfl)
          rw [HZ.out]
          clear h1 h2 h3 h4
          go_enter Try.func34, Try.ntmps34
          go_wp2_with fail
          go_ret
          exact ⟨rfl, BA.out⟩
      · have d3 : decide (-20 ≤ b) = false := decide_eq_false h3
        have HZ := Lib.hid (show okP (a, b) = false by rw [HO.out, d1, d2, d3]; rfl)
        rw [HZ.out]
        clear h1 h2 h3
        go_enter Try.func34, Try.ntmps34
        go_wp2_with fail
        go_ret
        exact ⟨rfl, BA.out⟩
    · have d2 : decide (a ≤ 20) = false := decide_eq_false h2
      have HZ := Lib.hid (show okP (a, b) = false by rw [HO.out, d1, d2]; rfl)
      rw [HZ.out]
      clear h1 h2
      go_enter Try.func34, Try.ntmps34
      go_wp2_with fail
      go_ret
      exact ⟨rfl, BA.out⟩
  · have d1 : decide (-20 ≤ a) = false := decide_eq_false h1
    have HZ := Lib.hid (show okP (a, b) = false by rw [HO.out, d1]; rfl)
    rw [HZ.out]
    clear h1
    go_enter Try.func34, Try.ntmps34
    go_wp2_with fail
    go_ret
    exact ⟨rfl, BA.out⟩
def fd (a b : Pt) : Int := (a.1 - b.1) * (a.1 - b.1) + (a.2 - b.2) * (a.2 - b.2)
set_option maxRecDepth 100000 in
set_option maxHeartbeats 400000 in
theorem Far_any (a1 a2 b1 b2 : Int) (w : World) (h1 : Bd 20 a1) (h2 : Bd 20 a2) (h3 : Bd 20 b1) (h4 : Bd 20 b2) :
    Calls Try.prog 51 #[.agg #[.int .i64 a1, .int .i64 a2], .agg #[.int .i64 b1, .int .i64 b2]] w fun e w' => e = .returned (.int .i64 (fd (a1, a2) (b1, b2))) ∧ Below w.heap.size w w' := by
  have e1 := i64_bd (h1.sub h3) (by omega)
  have e2 := i64_bd (h2.sub h4) (by omega)
  have m1 := (h1.sub h3).mul (h1.sub h3)
  have m2 := (h2.sub h4).mul (h2.sub h4)
  have e3 := i64_bd m1 (by omega)
  have e4 := i64_bd m2 (by omega)
  have e5 := i64_bd (m1.add m2) (by omega)
  have HZ := Lib.hid (show fd (a1, a2) (b1, b2) = (a1 - b1) * (a1 - b1) + (a2 - b2) * (a2 - b2) from rfl)
  rw [HZ.out]
  have BA := Lib.hid (((Below.refl w.heap.size w).alloc (Nat.le_refl _) (.cells #[.int .i64 a1, .int .i64 a2] 28)).alloc (by simp) (.cells #[.int .i64 b1, .int .i64 b2] 28))
  clear m1 m2 h1 h2 h3 h4
  go_enter Try.func51, Try.ntmps51
  go_wp2_with fail
  go_ret
  exact ⟨rfl, BA.out⟩
set_option maxRecDepth 100000 in
set_option maxHeartbeats 400000 in
theorem dist_any (s1 s2 p1 p2 : Int) (w : World) (h1 : Bd 20 s1) (h2 : Bd 20 s2) (h3 : Bd 20 p1) (h4 : Bd 20 p2) :
    Calls Try.prog 66 #[.agg #[.int .i64 s1, .int .i64 s2], .agg #[.int .i64 p1, .int .i64 p2]] w fun e w' => e = .returned (.int .i64 (fd (p1, p2) (s1, s2))) ∧ Below w.heap.size w w' := by
  have e1 := i64_bd (h3.sub h1) (by omega)
  have e2 := i64_bd (h4.sub h2) (by omega)
  have HZ := Lib.hid (show fd (p1, p2) (s1, s2) = (p1 - s1) * (p1 - s1) + (p2 - s2) * (p2 - s2) from rfl)
  have B1 := Lib.hid (((Below.refl w.heap.size w).alloc (Nat.le_refl _) (.cells #[.int .i64 s1, .int .i64 s2] 94)).alloc (by simp) (.cells #[.int .i64 p1, .int .i64 p2] 28))
  have HD := Lib.hid (And.intro ((h3.sub h1).mono (C := 1000000000) (by omega)) ((h4.sub h2).mono (C := 1000000000) (by omega)))
  clear h1 h2 h3 h4
  go_enter Try.func66, Try.ntmps66
  go_wp2_with fail
  obtain ⟨V, hV, _, _, bV, hs⟩ := two_start w 94 28 [.int .i64 s1, .int .i64 s2] [.int .i64 p1, .int .i64 p2]
  rw [show (w.alloc (.cells #[.int .i64 s1, .int .i64 s2] 94)).alloc (.cells #[.int .i64 p1, .int .i64 p2] 28) = V from hV.symm]
  have r := Row.new V 3 [.int .i64 (p1 - s1), .int .i64 (p2 - s2)]
  rw [hs] at r
  refine (sq_any (p1 - s1) (p2 - s2) (w.heap.size + 1 + 1) 0 2 _ (r.cell 0) (r.cell 1) (Nat.le_refl _) HD.out.1 HD.out.2).mono ?_
  rintro e W ⟨rfl, rfl⟩
  have BB := Lib.hid (Below.andThen bV (Below.al (Below.refl V.heap.size V) (Nat.le_refl _) (.cells #[.int .i64 (p1 - s1), .int .i64 (p2 - s2)] 3)) (Nat.le_refl _))
  clear r hV bV hs HD B1
  go_wp2_with fail
  go_ret
  exact ⟨ret_int HZ.out.symm, BB.out⟩
set_option maxRecDepth 100000 in
set_option maxHeartbeats 400000 in
theorem near_any (s1 s2 p1 p2 : Int) (w : World) (h1 : Bd 20 s1) (h2 : Bd 20 s2) (h3 : Bd 20 p1) (h4 : Bd 20 p2) :
    Calls Try.prog 67 #[.agg #[.int .i64 s1, .int .i64 s2], .agg #[.int .i64 p1, .int .i64 p2]] w fun e w' => e = .returned (.int .i64 (-(fd (p1, p2) (s1, s2)))) ∧ Below w.heap.size w w' := by
  have m1 := (h3.sub h1).mul (h3.sub h1)
  have m2 := (h4.sub h2).mul (h4.sub h2)
  have e5 := i64_bd (m1.add m2).neg (by omega)
  have HD := Lib.hid (fun W => dist_any s1 s2 p1 p2 W h1 h2 h3 h4)
  have HZ : (p1 - s1) * (p1 - s1) + (p2 - s2) * (p2 - s2) = fd (p1, p2) (s1, s2) := rfl
  rw [HZ] at e5
  generalize fd (p1, p2) (s1, s2) = F at *
  clear HZ m1 m2 h1 h2 h3 h4
  go_enter Try.func67, Try.ntmps67
  go_wp2_with fail
  obtain ⟨V, hV, _, _, bV, hs⟩ := two_start w 94 28 [.int .i64 s1, .int .i64 s2] [.int .i64 p1, .int .i64 p2]
  rw [show (w.alloc (.cells #[.int .i64 s1, .int .i64 s2] 94)).alloc (.cells #[.int .i64 p1, .int .i64 p2] 28) = V from hV.symm]
  refine (HD.out V).mono ?_
  rintro e W ⟨rfl, hb⟩
  have BB := Lib.hid (Below.andThen bV hb (Nat.le_refl _))
  clear hV bV hs HD hb
  go_wp2_with fail
  go_ret
  exact ⟨rfl, BB.out⟩
end Go.Proofs.Ytlemipnplgbckaa
namespace Go.Proofs.Ytlemipnplgbckaa
open Go.RowKit Go.Shelf
attribute [local go_sem] Oper.semAt_some
/-- the numbers of the points for which something holds -/
def whK (ps : List Pt) (h : Pt → Bool) (k : Nat) : List Nat := (List.range k).filter (fun i => h (ptAt ps i))
def whL (ps : List Pt) (h : Pt → Bool) : List Nat := whK ps h ps.length
theorem whK_step (ps : List Pt) (h : Pt → Bool) (k : Nat) : whK ps h (k + 1) = whK ps h k ++ if h (ptAt ps k) = true then [k] else [] := by
  unfold whK
  rw [List.range_succ, List.filter_append, List.filter_cons, List.filter_nil]
theorem whK_len (ps : List Pt) (h : Pt → Bool) (k : Nat) : (whK ps h k).length ≤ k := Nat.le_trans (List.length_filter_le _ _) (by rw [List.length_range]; exact Nat.le_refl _)
theorem info3c : (Try.prog.info? 3).map (fun i => (i.zero, i.size, i.bytes)) = some (some (.int .i64 0), 1, 8) := info3
set_option maxRecDepth 100000 in
set_option maxHeartbeats 1000000 in
theorem which_any (ps : List Pt) (v : Value) (G : FuncId) (caps : Array Value) (gl : Pt → Bool) (w : World) (hv : SlP w v ps) (hl : ps.length ≤ 12)
    (hen : ∀ args W, (callFunc G args).run Try.prog W = .ok (.enter G args) W)
    (hg : ∀ W x y, Below w.heap.size w W → (x, y) ∈ ps → Calls Try.prog G (#[.agg #[.int .i64 x, .int .i64 y]] ++ caps) W fun e w' => e = .returned (.bool (gl (x, y))) ∧ Below W.heap.size W w') :
    Calls Try.prog 70 #[v, .func (.func G) #[] caps] w fun e w' => ∃ s, e = .returned s ∧ w'.ownsRow w.heap.size 3 1 s (whL ps gl).length ((whL ps gl).map (fun n : Nat => encI (n : Int))) ∧ Below w.heap.size w w' := by
  obtain ⟨i0, hi, hz0, hz1, hz2⟩ := info_parts info3
  obtain ⟨a, c, rfl, hc, hs⟩ := hv
  have HS := Lib.hid hs
  have HG := Lib.hid hg
  have HL := Lib.hid (show whL ps gl = whK ps gl ps.length from rfl)
  rw [HL.out]
  obtain ⟨n, hn⟩ : ∃ n, ps.length = n := ⟨_, rfl⟩
  have HN := Lib.hid hn
  rw [hn] at hl hc ⊢
  clear hs hg HL hn
  go_enter Try.func70, Try.ntmps70
  go_wp2_with fail
  go_loopw [10, 5] (fun iv lv wr => ∃ k : Nat, k ≤ n ∧ iv = .int .i64 (k : Int) ∧ Hid (wr.ownsRow w.heap.size 3 1 lv (whK ps gl k).length ((whK ps gl k).map (fun n : Nat => encI (n : Int))) ∧ Below w.heap.size w wr)) (fun iv _ _ => (n - intOf iv).toNat)
  case atStart => exact ⟨0, by omega, rfl, Lib.hid ⟨World.ownsRow_nil _ _ _ _, Below.refl _ _⟩⟩
  case round =>
    obtain ⟨k, hk, rfl, HB⟩ := hrel
    have kw : IntKind.i64.wrap ((k : Int) + 1) = ((k + 1 : Nat) : Int) := by rw [i64_of _ (by omega) (by omega)]; omega
    by_cases hlt : k < n
    · have hd : decide ((k : Int) < (n : Int)) = true := decide_eq_true (by omega)
      have hdn : decide (k < n) = true := decide_eq_true hlt
      have hlk : k < ps.length := by rw [HN.out]; exact hlt
      obtain ⟨g, o, rfl, hps⟩ : ∃ g o, a = some ⟨g, o, none⟩ ∧ PtsAt w g o ps := HS.out.resolve_left (fun e => by rw [e] at hlk; simp at hlk)
      have hp2 : PtsAt wr g o ps := hps.below HB.out.2 hps.lt
      have k0 := hp2.x k hlk
      have k1 := hp2.y k hlk
      have HST := Lib.hid (whK_step ps gl k)
      have HLN := Lib.hid (whK_len ps gl k)
      have hpt := ptAt_lt hlk
      have HGK := Lib.hid (fun W hb => HG.out W ps[k].1 ps[k].2 hb (List.getElem_mem hlk))
      rw [hpt] at HST
      clear hps hp2 hpt
      generalize ps[k] = pk at *
      clear hlk
      obtain ⟨x, y⟩ := pk
      dsimp only at k0 k1 HGK
      have ba := Below.al (Below.refl wr.heap.size wr) (Nat.le_refl _) (.cells #[.int .i64 x, .int .i64 y] 28)
      have HGC := Lib.hid (HGK.out _ (Below.andThen HB.out.2 ba (Nat.le_refl _)))
      have BA := Lib.hid ba
      obtain ⟨E, hE⟩ : ∃ E, gl (x, y) = E := ⟨_, rfl⟩
      rw [hE] at HGC HST
      clear hE ba HGK
      generalize whK ps gl k = LL at *
      go_wp2_with fail
      refine HGC.out.mono ?_
      rintro e w1 ⟨rfl, hb1⟩
      have HO1 := Lib.hid (own_grow (own_grow HB.out.1 BA.out) hb1)
      have HB1 := Lib.hid (Below.andThen (Below.andThen HB.out.2 BA.out (Nat.le_refl _)) hb1 (Nat.le_refl _))
      clear hb1 HGC k0 k1
      cases E with
      | true =>
        go_wp2_with (at_builtin; refine wpList_append_own_at _ rfl _ _ 35 rfl w.heap.size 3 i0 (.int .i64 0) 1 8 Try.underlying35 hi hz0 hz1 hz2 rfl (by decide) _ _ _ rfl (HO1.out.alloc _) _ 1 1 [encI (k : Int)] rfl rfl (cell_one_at _ _ _ _ (by simp)) (by simp [Value.oneCell', encI]) (by have := HLN.out; unfold maxLen; omega) (by have := HLN.out; omega) (Nat.le_trans HB1.out.size (by simp)) ?_; intro v' w2' hown' hgrow hnil hat; have HR2 := Lib.hid hown'; have HB2 := Lib.hid (own_below HO1.out HB1.out hgrow); clear hown' hgrow hnil hat)
        exact ⟨⟨k + 1, by omega, by simp, by rw [HST.out, if_pos (by trivial)]; exact Lib.hid ⟨by simpa using HR2.out, HB2.out⟩⟩, by simp [intOf]; omega⟩
      | false =>
        go_wp2_with fail
        exact ⟨⟨k + 1, by omega, by simp, by rw [HST.out, if_neg (by simp), List.append_nil]; exact Lib.hid ⟨HO1.out, HB1.out⟩⟩, by simp [intOf]; omega⟩
    · have hd : decide ((k : Int) < (n : Int)) = false := decide_eq_false (by omega)
      have hdn : decide (k < n) = false := decide_eq_false hlt
      obtain rfl : k = n := by omega
      go_wp2_with fail
      refine bodyPost_ret (v := u5) (by simp [results, Try.results70, go_sem]) rfl ⟨u5, rfl, HB.out.1, HB.out.2⟩
set_option maxRecDepth 100000 in
set_option maxHeartbeats 400000 in
/-- On's closure: a point is on a circle that is captured -/
theorem on_any (c : Cir) (hc : CirB c) (x y : Int) (hx : Bd 20 x) (hy : Bd 20 y) (b : Nat) (w : World) (hb : Row w b 30 [.int .i64 c.X, .int .i64 c.Y, .int .i64 c.D, .int .i64 c.R]) :
    Calls Try.prog 71 #[.agg #[.int .i64 x, .int .i64 y], .pointer (some ⟨b, 0, none⟩)] w fun e w' => e = .returned (.bool (decide (whF c (x, y) = 0))) ∧ Below w.heap.size w w' := by
  have ba := Below.al (Below.refl w.heap.size w) (Nat.le_refl _) (.cells #[.int .i64 x, .int .i64 y] 28)
  have rr := hb.below ba hb.lt
  have k0 := rr.cell 0
  have k1 := rr.cell 1
  have k2 := rr.cell 2
  have k3 := rr.cell 3
  simp only [List.getElem?_cons_zero, List.getElem?_cons_succ] at k0 k1 k2 k3
  have HW := Lib.hid (fun (W : World) => where_any c.X c.Y c.D c.R x y W hc.1 hc.2.1 hc.d hx hy)
  have HWF := Lib.hid (show cmpI (apF c.X c.Y c.D (x, y)) c.R = whF c (x, y) from rfl)
  rw [HWF.out] at HW
  have BA := Lib.hid ba
  generalize whF c (x, y) = q at *
  have HR := Lib.hid (show (q == 0) = decide (q = 0) by rw [Bool.eq_iff_iff]; simp)
  clear hb rr ba hc hx hy
  go_enter Try.func71, Try.ntmps71
  go_wp2_with fail
  refine (HW.out _).mono ?_
  rintro e w1 ⟨rfl, hb1⟩
  have HB := Lib.hid (Below.andThen BA.out hb1 (Nat.le_refl _))
  clear hb1 k0 k1 k2 k3
  go_wp2_with fail
  go_ret
  exact ⟨ret_bool HR.out, HB.out⟩
end Go.Proofs.Ytlemipnplgbckaa
