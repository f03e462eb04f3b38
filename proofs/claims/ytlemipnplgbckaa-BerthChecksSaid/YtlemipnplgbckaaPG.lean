import Derived.Test.YtlemipnplgbckaaPE
import Derived.Test.YtlemipnplgbckaaPD
import Derived.Test.YtlemipnplgbckaaPF
import Derived.Laws.AppendOwn
import Derived.ChangeKeysEq
import Derived.Maps.RangeWalk
import Derived.Maps.OwnIn
import Derived.Maps.AppendAt
import Derived.RangeFuncNested
import Derived.RangeFuncBound
import Derived.RangeFuncCalls
import Derived.RangeFuncLeaves
import Derived.Shelf.Abstract
import Derived.Shelf.RegionOpen
import Derived.WalkKit
import Derived.WalkMore
import Derived.OwnWalkIn
import Derived.TacticsInMore
import Derived.LoopNIn
import Derived.LoopIn
import Derived.WalkSpells
import Derived.WalkLawsBesides
import Derived.BigQuiet
import Derived.Deep.QuietTactic
import Derived.Lib.Hide
import Derived.Deep.RegionHeld3
import Derived.StillTailTactics
import Derived.Deep.LoopGhost
import Derived.Maps.OwnSet
import Derived.Lib.IndexAny
import Derived.Sort.QuietThIn
import Derived.Sort.QuietTacIn
import Derived.Sort.BigQuietIn
import Derived.Laws.OwnMore
import Derived.DeepKeys4
import Derived.Maps.Views
import Derived.Maps.OwnOps
import Derived.Laws.OwnMore
import Derived.Deep.DeepCutAuto
import Derived.ChangeKeysEq
namespace Go.Proofs.Ytlemipnplgbckaa
open Go.RowKit Go.Shelf
attribute [local go_sem] Oper.semAt_some
theorem part4_0 (a b c d : Int) (W : World) : (part 3 #[.int .i64 a, .int .i64 b, .int .i64 c, .int .i64 d] 0).run Try.prog W = .ok (.int .i64 a) W := by kernel_rfl
theorem part4_1 (a b c d : Int) (W : World) : (part 3 #[.int .i64 a, .int .i64 b, .int .i64 c, .int .i64 d] 1).run Try.prog W = .ok (.int .i64 b) W := by kernel_rfl
theorem part4_2 (a b c d : Int) (W : World) : (part 3 #[.int .i64 a, .int .i64 b, .int .i64 c, .int .i64 d] 2).run Try.prog W = .ok (.int .i64 c) W := by kernel_rfl
theorem part4_3 (a b c d : Int) (W : World) : (part 3 #[.int .i64 a, .int .i64 b, .int .i64 c, .int .i64 d] 3).run Try.prog W = .ok (.int .i64 d) W := by kernel_rfl
theorem stood30 : Try.prog.stoodInHeld 30 = false := by kernel_rfl
theorem eq30 (a b c d a' b' c' d' : Int) (W : World) : (Op.equalIn 10000 30 (.agg #[.int .i64 a, .int .i64 b, .int .i64 c, .int .i64 d]) (.agg #[.int .i64 a', .int .i64 b', .int .i64 c', .int .i64 d'])).run Try.prog W = .ok (decide ((⟨a, b, c, d⟩ : Cir) = ⟨a', b', c', d'⟩)) W := by
  have hp : (program : Sem Program).run Try.prog W = .ok Try.prog W := rfl
  rw [show (10000 : Nat) = 9999 + 1 from rfl]
  rw [Op.equalIn.eq_2]
  simp only [Sem.run_bind, run_underlying Try.underlying30, Result.andThen_ok, hp, stood30]
  by_cases h0 : a = a'
  · by_cases h1 : b = b'
    · by_cases h2 : c = c'
      · by_cases h3 : d = d'
        · simp [part4_0, part4_1, part4_2, part4_3, eqI3, h0, h1, h2, h3]
        · simp [part4_0, part4_1, part4_2, part4_3, eqI3, h0, h1, h2, h3]
      · simp [part4_0, part4_1, part4_2, part4_3, eqI3, h0, h1, h2]
    · simp [part4_0, part4_1, part4_2, part4_3, eqI3, h0, h1]
  · simp [part4_0, part4_1, part4_2, part4_3, eqI3, h0]
/-- are the points with these numbers a force, the smallest circle being c? -/
def fB (ps : List Pt) (c : Cir) : List Nat → Bool
  | [_] => decide (ps.length = 1)
  | [i, j] => decide (ovC (ptAt ps i) (ptAt ps j) = c)
  | [i, j, k] => shB c (ptAt ps i) (ptAt ps j) (ptAt ps k)
  | _ => false
def natI (n : Nat) : Int := (n : Int)
theorem six_row (W : World) (a b c d e f : Int) : Row (W.alloc (.cells #[.int .i64 a, .int .i64 b, .int .i64 c, .int .i64 d, .int .i64 e, .int .i64 f] 28)) W.heap.size 28 [.int .i64 a, .int .i64 b, .int .i64 c, .int .i64 d, .int .i64 e, .int .i64 f] := Row.new W 28 _
def SharpV (a0 b0 a1 b1 a2 b2 : Int) : Value → World → Prop := fun v W => ∃ g, v = .slice (some ⟨g, 0, none⟩) 3 3 ∧ Row W g 28 [.int .i64 a0, .int .i64 b0, .int .i64 a1, .int .i64 b1, .int .i64 a2, .int .i64 b2]
theorem SharpV.stab (a0 b0 a1 b1 a2 b2 : Int) : ∀ (v : Value) (W W' : World), SharpV a0 b0 a1 b1 a2 b2 v W → Below W.heap.size W W' → SharpV a0 b0 a1 b1 a2 b2 v W' := fun _ _ _ ⟨g, h1, h2⟩ hb => ⟨g, h1, h2.below hb h2.lt⟩
set_option maxRecDepth 100000 in
set_option maxHeartbeats 1000000 in
theorem isForce_any (ps : List Pt) (v vf : Value) (c : Cir) (f : List Nat) (w : World) (hv : SlP w v ps) (hf : SlI w vf (f.map natI)) (hc : CirB c) (hin : ∀ i ∈ f, i < ps.length) (hps : ∀ p ∈ ps, Bd 20 p.1 ∧ Bd 20 p.2) (hl : ps.length ≤ 12) (hfl : f.length ≤ 1000000) :
    Calls Try.prog 58 #[v, .agg #[.int .i64 c.X, .int .i64 c.Y, .int .i64 c.D, .int .i64 c.R], vf] w fun e w' => e = .returned (.bool (fB ps c f)) ∧ Below w.heap.size w w' := by
  obtain ⟨a, cap, rfl, hcap, hpt⟩ := hv
  obtain ⟨af, cf, rfl, hcf, hft⟩ := hf
  rw [List.length_map] at hcf ⊢
  have ba := Below.al (Below.refl w.heap.size w) (Nat.le_refl _) (.cells #[.int .i64 c.X, .int .i64 c.Y, .int .i64 c.D, .int .i64 c.R] 30)
  have rC := Row.new w 30 [.int .i64 c.X, .int .i64 c.Y, .int .i64 c.D, .int .i64 c.R]
  have BA := Lib.hid ba
  have RC := Lib.hid rC
  have HC := Lib.hid hc
  have HPS := Lib.hid hps
  have HPT := Lib.hid hpt
  have HFT := Lib.hid hft
  have HIN := Lib.hid hin
  obtain ⟨n, hn⟩ : ∃ n, ps.length = n := ⟨_, rfl⟩
  have HN := Lib.hid hn
  rw [HN.out] at hl hcap ⊢
  have HL := Lib.hid hl
  clear ba rC hc hps hpt hft hin hn hl
  obtain ⟨c1, c2, c3, c4⟩ := c
  dsimp only at *
  match f with
  | [] =>
    go_enter Try.func58, Try.ntmps58
    go_wp2_with fail
    go_ret
    exact ⟨rfl, BA.out⟩
  | [i] =>
    obtain ⟨E, hE⟩ : ∃ E, decide (n = 1) = E := ⟨_, rfl⟩
    have HZ := Lib.hid (show fB ps ⟨c1, c2, c3, c4⟩ [i] = E by rw [← hE, ← HN.out]; rfl)
    have hE2 : ((n : Int) == 1) = E := by rw [← hE]; rw [Bool.eq_iff_iff]; simp; omega
    clear hE
    rw [HZ.out]
    go_enter Try.func58, Try.ntmps58
    go_wp2_with fail
    go_ret
    exact ⟨rfl, BA.out⟩
  | i :: j :: k :: l :: f =>
    have HZ := Lib.hid (show fB ps ⟨c1, c2, c3, c4⟩ (i :: j :: k :: l :: f) = false from rfl)
    rw [HZ.out]
    obtain ⟨m, hm⟩ : ∃ m, (i :: j :: k :: l :: f).length = m := ⟨_, rfl⟩
    have h4 : 4 ≤ m := by rw [← hm]; simp
    rw [hm] at hcf hfl ⊢
    clear hm
    have d1 : ((m : Int) == 1) = false := by simp; omega
    have d2 : ((m : Int) == 2) = false := by simp; omega
    have d3 : ((m : Int) == 3) = false := by simp; omega
    go_enter Try.func58, Try.ntmps58
    go_wp2_with fail
    go_ret
    exact ⟨rfl, BA.out⟩
  | [i, j] =>
    obtain ⟨g, o, rfl, hpa⟩ : ∃ g o, a = some ⟨g, o, none⟩ ∧ PtsAt w g o ps := by
      rcases HPT.out with h | h
      · have h1 := HIN.out i (by simp); rw [h] at h1; simp at h1
      · exact h
    obtain ⟨h, oh, rfl, hhl, hfa⟩ : ∃ g o, af = some ⟨g, o, none⟩ ∧ g < w.heap.size ∧ IntsAt w g o ([(i : Int), j]) := by
      rcases HFT.out with h | h
      · simp at h
      · exact h
    have i0 : i < ps.length := HIN.out i (by simp)
    have n0 : (i : Int) < (n : Int) := by rw [← HN.out]; omega
    have q0 := HPS.out _ (List.getElem_mem i0)
    have HX0 := Lib.hid (And.intro (fun W (hb : Below w.heap.size w W) => (hpa.grow hb).x i i0) (fun W (hb : Below w.heap.size w W) => (hpa.grow hb).y i i0))
    have HF0 := Lib.hid (fun W (hb : Below w.heap.size w W) => show W.cell? ⟨h, oh, none⟩ = some (.int .i64 (i : Int)) from below_at hb hhl (hfa.at_ 0 (by simp)))
    have e0 := ptAt_lt i0
    have HNI0 := Lib.hid n0
    have i1 : j < ps.length := HIN.out j (by simp)
    have n1 : (j : Int) < (n : Int) := by rw [← HN.out]; omega
    have q1 := HPS.out _ (List.getElem_mem i1)
    have HX1 := Lib.hid (And.intro (fun W (hb : Below w.heap.size w W) => (hpa.grow hb).x j i1) (fun W (hb : Below w.heap.size w W) => (hpa.grow hb).y j i1))
    have HF1 := Lib.hid (fun W (hb : Below w.heap.size w W) => show W.cell? ⟨h, oh + 1, none⟩ = some (.int .i64 (j : Int)) from below_at hb hhl (hfa.at_ 1 (by simp)))
    have e1 := ptAt_lt i1
    have HNI1 := Lib.hid n1
    generalize ps[i] = p0 at *
    obtain ⟨a0, b0⟩ := p0
    generalize ps[j] = p1 at *
    obtain ⟨a1, b1⟩ := p1
    dsimp only [List.map_cons, List.map_nil, List.getElem_cons_zero, List.getElem_cons_succ, natI] at *
    have HOV := Lib.hid (fun (W : World) => over_any a0 b0 a1 b1 W q0.1 q0.2 q1.1 q1.2)
    obtain ⟨X, Y, D, R, hV, hV2⟩ : ∃ X Y D R, rndV (a0 + a1) (b0 + b1) 2 (a0, b0) = .agg #[.int .i64 X, .int .i64 Y, .int .i64 D, .int .i64 R] ∧ ovC (a0, b0) (a1, b1) = ⟨X, Y, D, R⟩ := ⟨_, _, _, _, rfl, rfl⟩
    rw [hV] at HOV
    obtain ⟨E, hE⟩ : ∃ E, decide ((⟨X, Y, D, R⟩ : Cir) = ⟨c1, c2, c3, c4⟩) = E := ⟨_, rfl⟩
    have HE := Lib.hid hE
    have HZ := Lib.hid (show fB ps ⟨c1, c2, c3, c4⟩ [i, j] = E by
      show decide (ovC (ptAt ps i) (ptAt ps j) = _) = E
      rw [e0, e1, hV2, hE])
    rw [HZ.out]
    have HPA := Lib.hid hpa
    clear hV hV2 hE e0 e1 q0 q1 i0 i1 n0 n1 hpa hfa hhl
    go_enter Try.func58, Try.ntmps58
    go_wp2_with fail
    generalize w.alloc (.cells #[.int .i64 c1, .int .i64 c2, .int .i64 c3, .int .i64 c4] 30) = V at *
    refine wp_region_box (by kernel_rfl) (by kernel_rfl) [16, 17, 18, 19, 20, 21, 22, 23, 24, 25, 26, 27, 28, 29, 30, 6] [(fun v => v = .slice (some ⟨g, o, none⟩) n cap), (fun v => v = .slice (some ⟨h, oh, none⟩) 2 cf), (fun v => v = .pointer (some ⟨h, oh, none⟩)), (fun v => v = .int .i64 (i : Int)), (fun v => v = .pointer (some ⟨g, o + i * 2, none⟩)), (fun v => v = .agg #[.int .i64 a0, .int .i64 b0]), (fun v => v = .slice (some ⟨g, o, none⟩) n cap), (fun v => v = .slice (some ⟨h, oh, none⟩) 2 cf), (fun v => v = .pointer (some ⟨h, oh + 1, none⟩)), (fun v => v = .int .i64 (j : Int)), (fun v => v = .pointer (some ⟨g, o + j * 2, none⟩)), (fun v => v = .agg #[.int .i64 a1, .int .i64 b1]), (fun v => v = .agg #[.int .i64 X, .int .i64 Y, .int .i64 D, .int .i64 R]), (fun v => v = .agg #[.int .i64 c1, .int .i64 c2, .int .i64 c3, .int .i64 c4]), (fun v => v = .bool E), (fun v => v = .bool E)] [none, none, none, none, none, none, none, none, none, none, none, none, none, none, none, none] [none, none, none, none, none, none, none, none, none, none, none, none, none, none, none, none] 16 rfl (by kernel_rfl) ?tr ⟨[undef, undef, undef, undef, undef, undef, undef, undef, undef, undef, undef, undef, undef, undef, undef, .bool false], by simp only [putAll, Act.put, List.setIfInBounds_toArray, List.set_cons_succ, List.set_cons_zero], rfl⟩ ?steps ?fin
    case tr =>
      rintro i v h
      rcases i with _ | _ | _ | _ | _ | _ | _ | _ | _ | _ | _ | _ | _ | _ | _ | _ | i
      all_goals first | trivial | (exfalso; rcases h with h | h <;> simp at h)
    case steps =>
      simp only [boxSteps, Nat.reduceAdd, Nat.zero_add, List.getD_cons_succ, List.getD_cons_zero]
      refine ⟨?_, ?_, ?_, ?_, ?_, ?_, ?_, ?_, ?_, ?_, ?_, ?_, ?_, ?_, ?_, ?_, trivial⟩
      · rintro vs W K hc hvl hw hK
        obtain ⟨x0, x1, x2, x3, x4, x5, x6, x7, x8, x9, x10, x11, x12, x13, x14, x15, rfl⟩ := len16 hvl
        have HK := Lib.hid hK
        have HC := Lib.hid hc
        have HW := Lib.hid hw
        clear hK hc hw hvl
        simp only [putAll, Act.put, List.setIfInBounds_toArray, List.set_cons_succ, List.set_cons_zero]
        clear HW
        go_wp2_with fail
        have fin := HK.out (.slice (some ⟨g, o, none⟩) n cap) W (Below.refl _ _) rfl
        simp only [putAll, Act.put, List.setIfInBounds_toArray, List.set_cons_succ, List.set_cons_zero] at fin
        exact fin
      · rintro vs W K hc hvl hw hK
        obtain ⟨x0, x1, x2, x3, x4, x5, x6, x7, x8, x9, x10, x11, x12, x13, x14, x15, rfl⟩ := len16 hvl
        have HK := Lib.hid hK
        have HC := Lib.hid hc
        have HW := Lib.hid hw
        clear hK hc hw hvl
        simp only [putAll, Act.put, List.setIfInBounds_toArray, List.set_cons_succ, List.set_cons_zero]
        clear HW
        go_wp2_with fail
        have fin := HK.out (.slice (some ⟨h, oh, none⟩) 2 cf) W (Below.refl _ _) rfl
        simp only [putAll, Act.put, List.setIfInBounds_toArray, List.set_cons_succ, List.set_cons_zero] at fin
        exact fin
      · rintro vs W K hc hvl hw hK
        obtain ⟨x0, x1, x2, x3, x4, x5, x6, x7, x8, x9, x10, x11, x12, x13, x14, x15, rfl⟩ := len16 hvl
        have HK := Lib.hid hK
        have HC := Lib.hid hc
        have HW := Lib.hid hw
        clear hK hc hw hvl
        obtain rfl : x1 = .slice (some ⟨h, oh, none⟩) 2 cf := box_get (HW.out ⟨1, .data⟩ (by simp) rfl) rfl
        simp only [putAll, Act.put, List.setIfInBounds_toArray, List.set_cons_succ, List.set_cons_zero]
        clear HW
        go_wp2_with fail
        have fin := HK.out (.pointer (some ⟨h, oh, none⟩)) W (Below.refl _ _) rfl
        simp only [putAll, Act.put, List.setIfInBounds_toArray, List.set_cons_succ, List.set_cons_zero] at fin
        exact fin
      · rintro vs W K hc hvl hw hK
        obtain ⟨x0, x1, x2, x3, x4, x5, x6, x7, x8, x9, x10, x11, x12, x13, x14, x15, rfl⟩ := len16 hvl
        have HK := Lib.hid hK
        have HC := Lib.hid hc
        have HW := Lib.hid hw
        clear hK hc hw hvl
        obtain rfl : x2 = .pointer (some ⟨h, oh, none⟩) := box_get (HW.out ⟨2, .data⟩ (by simp) rfl) rfl
        simp only [putAll, Act.put, List.setIfInBounds_toArray, List.set_cons_succ, List.set_cons_zero]
        have d0 := HF0.out W (Below.andThen BA.out HC.out (Nat.le_refl _))
        clear HW
        go_wp2_with fail
        have fin := HK.out (.int .i64 (i : Int)) W (Below.refl _ _) rfl
        simp only [putAll, Act.put, List.setIfInBounds_toArray, List.set_cons_succ, List.set_cons_zero] at fin
        exact fin
      · rintro vs W K hc hvl hw hK
        obtain ⟨x0, x1, x2, x3, x4, x5, x6, x7, x8, x9, x10, x11, x12, x13, x14, x15, rfl⟩ := len16 hvl
        have HK := Lib.hid hK
        have HC := Lib.hid hc
        have HW := Lib.hid hw
        clear hK hc hw hvl
        obtain rfl : x0 = .slice (some ⟨g, o, none⟩) n cap := box_get (HW.out ⟨0, .data⟩ (by simp) rfl) rfl
        obtain rfl : x3 = .int .i64 (i : Int) := box_get (HW.out ⟨3, .data⟩ (by simp) rfl) rfl
        simp only [putAll, Act.put, List.setIfInBounds_toArray, List.set_cons_succ, List.set_cons_zero]
        have hi1 := HNI0.out
        clear HW
        go_wp2_with fail
        have fin := HK.out (.pointer (some ⟨g, o + i * 2, none⟩)) W (Below.refl _ _) rfl
        simp only [putAll, Act.put, List.setIfInBounds_toArray, List.set_cons_succ, List.set_cons_zero] at fin
        exact fin
      · rintro vs W K hc hvl hw hK
        obtain ⟨x0, x1, x2, x3, x4, x5, x6, x7, x8, x9, x10, x11, x12, x13, x14, x15, rfl⟩ := len16 hvl
        have HK := Lib.hid hK
        have HC := Lib.hid hc
        have HW := Lib.hid hw
        clear hK hc hw hvl
        obtain rfl : x4 = .pointer (some ⟨g, o + i * 2, none⟩) := box_get (HW.out ⟨4, .data⟩ (by simp) rfl) rfl
        simp only [putAll, Act.put, List.setIfInBounds_toArray, List.set_cons_succ, List.set_cons_zero]
        have d0 := HX0.out.1 W (Below.andThen BA.out HC.out (Nat.le_refl _))
        have d1 := HX0.out.2 W (Below.andThen BA.out HC.out (Nat.le_refl _))
        clear HW
        go_wp2_with fail
        have fin := HK.out (.agg #[.int .i64 a0, .int .i64 b0]) W (Below.refl _ _) rfl
        simp only [putAll, Act.put, List.setIfInBounds_toArray, List.set_cons_succ, List.set_cons_zero] at fin
        exact fin
      · rintro vs W K hc hvl hw hK
        obtain ⟨x0, x1, x2, x3, x4, x5, x6, x7, x8, x9, x10, x11, x12, x13, x14, x15, rfl⟩ := len16 hvl
        have HK := Lib.hid hK
        have HC := Lib.hid hc
        have HW := Lib.hid hw
        clear hK hc hw hvl
        simp only [putAll, Act.put, List.setIfInBounds_toArray, List.set_cons_succ, List.set_cons_zero]
        clear HW
        go_wp2_with fail
        have fin := HK.out (.slice (some ⟨g, o, none⟩) n cap) W (Below.refl _ _) rfl
        simp only [putAll, Act.put, List.setIfInBounds_toArray, List.set_cons_succ, List.set_cons_zero] at fin
        exact fin
      · rintro vs W K hc hvl hw hK
        obtain ⟨x0, x1, x2, x3, x4, x5, x6, x7, x8, x9, x10, x11, x12, x13, x14, x15, rfl⟩ := len16 hvl
        have HK := Lib.hid hK
        have HC := Lib.hid hc
        have HW := Lib.hid hw
        clear hK hc hw hvl
        simp only [putAll, Act.put, List.setIfInBounds_toArray, List.set_cons_succ, List.set_cons_zero]
        clear HW
        go_wp2_with fail
        have fin := HK.out (.slice (some ⟨h, oh, none⟩) 2 cf) W (Below.refl _ _) rfl
        simp only [putAll, Act.put, List.setIfInBounds_toArray, List.set_cons_succ, List.set_cons_zero] at fin
        exact fin
      · rintro vs W K hc hvl hw hK
        obtain ⟨x0, x1, x2, x3, x4, x5, x6, x7, x8, x9, x10, x11, x12, x13, x14, x15, rfl⟩ := len16 hvl
        have HK := Lib.hid hK
        have HC := Lib.hid hc
        have HW := Lib.hid hw
        clear hK hc hw hvl
        obtain rfl : x7 = .slice (some ⟨h, oh, none⟩) 2 cf := box_get (HW.out ⟨7, .data⟩ (by simp) rfl) rfl
        simp only [putAll, Act.put, List.setIfInBounds_toArray, List.set_cons_succ, List.set_cons_zero]
        clear HW
        go_wp2_with fail
        have fin := HK.out (.pointer (some ⟨h, oh + 1, none⟩)) W (Below.refl _ _) rfl
        simp only [putAll, Act.put, List.setIfInBounds_toArray, List.set_cons_succ, List.set_cons_zero] at fin
        exact fin
      · rintro vs W K hc hvl hw hK
        obtain ⟨x0, x1, x2, x3, x4, x5, x6, x7, x8, x9, x10, x11, x12, x13, x14, x15, rfl⟩ := len16 hvl
        have HK := Lib.hid hK
        have HC := Lib.hid hc
        have HW := Lib.hid hw
        clear hK hc hw hvl
        obtain rfl : x8 = .pointer (some ⟨h, oh + 1, none⟩) := box_get (HW.out ⟨8, .data⟩ (by simp) rfl) rfl
        simp only [putAll, Act.put, List.setIfInBounds_toArray, List.set_cons_succ, List.set_cons_zero]
        have d0 := HF1.out W (Below.andThen BA.out HC.out (Nat.le_refl _))
        clear HW
        go_wp2_with fail
        have fin := HK.out (.int .i64 (j : Int)) W (Below.refl _ _) rfl
        simp only [putAll, Act.put, List.setIfInBounds_toArray, List.set_cons_succ, List.set_cons_zero] at fin
        exact fin
      · rintro vs W K hc hvl hw hK
        obtain ⟨x0, x1, x2, x3, x4, x5, x6, x7, x8, x9, x10, x11, x12, x13, x14, x15, rfl⟩ := len16 hvl
        have HK := Lib.hid hK
        have HC := Lib.hid hc
        have HW := Lib.hid hw
        clear hK hc hw hvl
        obtain rfl : x6 = .slice (some ⟨g, o, none⟩) n cap := box_get (HW.out ⟨6, .data⟩ (by simp) rfl) rfl
        obtain rfl : x9 = .int .i64 (j : Int) := box_get (HW.out ⟨9, .data⟩ (by simp) rfl) rfl
        simp only [putAll, Act.put, List.setIfInBounds_toArray, List.set_cons_succ, List.set_cons_zero]
        have hi1 := HNI1.out
        clear HW
        go_wp2_with fail
        have fin := HK.out (.pointer (some ⟨g, o + j * 2, none⟩)) W (Below.refl _ _) rfl
        simp only [putAll, Act.put, List.setIfInBounds_toArray, List.set_cons_succ, List.set_cons_zero] at fin
        exact fin
      · rintro vs W K hc hvl hw hK
        obtain ⟨x0, x1, x2, x3, x4, x5, x6, x7, x8, x9, x10, x11, x12, x13, x14, x15, rfl⟩ := len16 hvl
        have HK := Lib.hid hK
        have HC := Lib.hid hc
        have HW := Lib.hid hw
        clear hK hc hw hvl
        obtain rfl : x10 = .pointer (some ⟨g, o + j * 2, none⟩) := box_get (HW.out ⟨10, .data⟩ (by simp) rfl) rfl
        simp only [putAll, Act.put, List.setIfInBounds_toArray, List.set_cons_succ, List.set_cons_zero]
        have d0 := HX1.out.1 W (Below.andThen BA.out HC.out (Nat.le_refl _))
        have d1 := HX1.out.2 W (Below.andThen BA.out HC.out (Nat.le_refl _))
        clear HW
        go_wp2_with fail
        have fin := HK.out (.agg #[.int .i64 a1, .int .i64 b1]) W (Below.refl _ _) rfl
        simp only [putAll, Act.put, List.setIfInBounds_toArray, List.set_cons_succ, List.set_cons_zero] at fin
        exact fin
      · rintro vs W K hc hvl hw hK
        obtain ⟨x0, x1, x2, x3, x4, x5, x6, x7, x8, x9, x10, x11, x12, x13, x14, x15, rfl⟩ := len16 hvl
        have HK := Lib.hid hK
        have HC := Lib.hid hc
        have HW := Lib.hid hw
        clear hK hc hw hvl
        obtain rfl : x5 = .agg #[.int .i64 a0, .int .i64 b0] := box_get (HW.out ⟨5, .data⟩ (by simp) rfl) rfl
        obtain rfl : x11 = .agg #[.int .i64 a1, .int .i64 b1] := box_get (HW.out ⟨11, .data⟩ (by simp) rfl) rfl
        simp only [putAll, Act.put, List.setIfInBounds_toArray, List.set_cons_succ, List.set_cons_zero]
        clear HW
        go_wp2_with fail
        refine (HOV.out W).mono ?_
        rintro e W' ⟨rfl, hb'⟩
        have HB' := Lib.hid hb'
        clear hb'
        go_wp2_with fail
        have fin := HK.out (.agg #[.int .i64 X, .int .i64 Y, .int .i64 D, .int .i64 R]) W' HB'.out rfl
        simp only [putAll, Act.put, List.setIfInBounds_toArray, List.set_cons_succ, List.set_cons_zero] at fin
        exact fin
      · rintro vs W K hc hvl hw hK
        obtain ⟨x0, x1, x2, x3, x4, x5, x6, x7, x8, x9, x10, x11, x12, x13, x14, x15, rfl⟩ := len16 hvl
        have HK := Lib.hid hK
        have HC := Lib.hid hc
        have HW := Lib.hid hw
        clear hK hc hw hvl
        simp only [putAll, Act.put, List.setIfInBounds_toArray, List.set_cons_succ, List.set_cons_zero]
        have rr := RC.out.below HC.out RC.out.lt
        have d0 := rr.cell 0
        have d1 := rr.cell 1
        have d2 := rr.cell 2
        have d3 := rr.cell 3
        simp only [List.getElem?_cons_zero, List.getElem?_cons_succ] at d0 d1 d2 d3
        clear rr
        clear HW
        go_wp2_with fail
        have fin := HK.out (.agg #[.int .i64 c1, .int .i64 c2, .int .i64 c3, .int .i64 c4]) W (Below.refl _ _) rfl
        simp only [putAll, Act.put, List.setIfInBounds_toArray, List.set_cons_succ, List.set_cons_zero] at fin
        exact fin
      · rintro vs W K hc hvl hw hK
        obtain ⟨x0, x1, x2, x3, x4, x5, x6, x7, x8, x9, x10, x11, x12, x13, x14, x15, rfl⟩ := len16 hvl
        have HK := Lib.hid hK
        have HC := Lib.hid hc
        have HW := Lib.hid hw
        clear hK hc hw hvl
        obtain rfl : x12 = .agg #[.int .i64 X, .int .i64 Y, .int .i64 D, .int .i64 R] := box_get (HW.out ⟨12, .data⟩ (by simp) rfl) rfl
        obtain rfl : x13 = .agg #[.int .i64 c1, .int .i64 c2, .int .i64 c3, .int .i64 c4] := box_get (HW.out ⟨13, .data⟩ (by simp) rfl) rfl
        simp only [putAll, Act.put, List.setIfInBounds_toArray, List.set_cons_succ, List.set_cons_zero]
        have hE := HE.out
        clear HW
        by_cases hx0 : X = c1
        · subst hx0
          by_cases hx1 : Y = c2
          · subst hx1
            by_cases hx2 : D = c3
            · subst hx2
              by_cases hx3 : R = c4
              · subst hx3
                obtain rfl : E = true := by rw [← hE]; simp
                clear hE
                go_wp2_with fail
                have fin := HK.out (.bool true) W (Below.refl _ _) rfl
                simp only [putAll, Act.put, List.setIfInBounds_toArray, List.set_cons_succ, List.set_cons_zero] at fin
                exact fin
              · obtain rfl : E = false := by rw [← hE]; simp [hx3]
                clear hE
                go_wp2_with fail
                have fin := HK.out (.bool false) W (Below.refl _ _) rfl
                simp only [putAll, Act.put, List.setIfInBounds_toArray, List.set_cons_succ, List.set_cons_zero] at fin
                exact fin
            · obtain rfl : E = false := by rw [← hE]; simp [hx2]
              clear hE
              go_wp2_with fail
              have fin := HK.out (.bool false) W (Below.refl _ _) rfl
              simp only [putAll, Act.put, List.setIfInBounds_toArray, List.set_cons_succ, List.set_cons_zero] at fin
              exact fin
          · obtain rfl : E = false := by rw [← hE]; simp [hx1]
            clear hE
            go_wp2_with fail
            have fin := HK.out (.bool false) W (Below.refl _ _) rfl
            simp only [putAll, Act.put, List.setIfInBounds_toArray, List.set_cons_succ, List.set_cons_zero] at fin
            exact fin
        · obtain rfl : E = false := by rw [← hE]; simp [hx0]
          clear hE
          go_wp2_with fail
          have fin := HK.out (.bool false) W (Below.refl _ _) rfl
          simp only [putAll, Act.put, List.setIfInBounds_toArray, List.set_cons_succ, List.set_cons_zero] at fin
          exact fin
      · rintro vs W K hc hvl hw hK
        obtain ⟨x0, x1, x2, x3, x4, x5, x6, x7, x8, x9, x10, x11, x12, x13, x14, x15, rfl⟩ := len16 hvl
        have HK := Lib.hid hK
        have HC := Lib.hid hc
        have HW := Lib.hid hw
        clear hK hc hw hvl
        obtain rfl : x14 = .bool E := box_get (HW.out ⟨14, .data⟩ (by simp) rfl) rfl
        simp only [putAll, Act.put, List.setIfInBounds_toArray, List.set_cons_succ, List.set_cons_zero]
        clear HW
        go_wp2_with fail
        have fin := HK.out (.bool E) W (Below.refl _ _) rfl
        simp only [putAll, Act.put, List.setIfInBounds_toArray, List.set_cons_succ, List.set_cons_zero] at fin
        exact fin
    case fin =>
      rintro vs W hJ
      obtain ⟨x0, x1, x2, x3, x4, x5, x6, x7, x8, x9, x10, x11, x12, x13, x14, x15, rfl⟩ := len16 hJ.ln
      obtain rfl : x15 = .bool E := box_get (hJ.val 15 rfl) rfl
      have HC := Lib.hid hJ.bl
      clear hJ
      simp only [putAll, Act.put, List.setIfInBounds_toArray, List.set_cons_succ, List.set_cons_zero]
      go_wp2_with fail
      go_ret
      exact ⟨rfl, Below.andThen BA.out HC.out (Nat.le_refl _)⟩
  | [i, j, k] =>
    obtain ⟨g, o, rfl, hpa⟩ : ∃ g o, a = some ⟨g, o, none⟩ ∧ PtsAt w g o ps := by
      rcases HPT.out with h | h
      · have h1 := HIN.out i (by simp); rw [h] at h1; simp at h1
      · exact h
    obtain ⟨h, oh, rfl, hhl, hfa⟩ : ∃ g o, af = some ⟨g, o, none⟩ ∧ g < w.heap.size ∧ IntsAt w g o ([(i : Int), j, k]) := by
      rcases HFT.out with h | h
      · simp at h
      · exact h
    have i0 : i < ps.length := HIN.out i (by simp)
    have n0 : (i : Int) < (n : Int) := by rw [← HN.out]; omega
    have q0 := HPS.out _ (List.getElem_mem i0)
    have HX0 := Lib.hid (And.intro (fun W (hb : Below w.heap.size w W) => (hpa.grow hb).x i i0) (fun W (hb : Below w.heap.size w W) => (hpa.grow hb).y i i0))
    have HF0 := Lib.hid (fun W (hb : Below w.heap.size w W) => show W.cell? ⟨h, oh, none⟩ = some (.int .i64 (i : Int)) from below_at hb hhl (hfa.at_ 0 (by simp)))
    have e0 := ptAt_lt i0
    have HNI0 := Lib.hid n0
    have i1 : j < ps.length := HIN.out j (by simp)
    have n1 : (j : Int) < (n : Int) := by rw [← HN.out]; omega
    have q1 := HPS.out _ (List.getElem_mem i1)
    have HX1 := Lib.hid (And.intro (fun W (hb : Below w.heap.size w W) => (hpa.grow hb).x j i1) (fun W (hb : Below w.heap.size w W) => (hpa.grow hb).y j i1))
    have HF1 := Lib.hid (fun W (hb : Below w.heap.size w W) => show W.cell? ⟨h, oh + 1, none⟩ = some (.int .i64 (j : Int)) from below_at hb hhl (hfa.at_ 1 (by simp)))
    have e1 := ptAt_lt i1
    have HNI1 := Lib.hid n1
    have i2 : k < ps.length := HIN.out k (by simp)
    have n2 : (k : Int) < (n : Int) := by rw [← HN.out]; omega
    have q2 := HPS.out _ (List.getElem_mem i2)
    have HX2 := Lib.hid (And.intro (fun W (hb : Below w.heap.size w W) => (hpa.grow hb).x k i2) (fun W (hb : Below w.heap.size w W) => (hpa.grow hb).y k i2))
    have HF2 := Lib.hid (fun W (hb : Below w.heap.size w W) => show W.cell? ⟨h, oh + 2, none⟩ = some (.int .i64 (k : Int)) from below_at hb hhl (hfa.at_ 2 (by simp)))
    have e2 := ptAt_lt i2
    have HNI2 := Lib.hid n2
    generalize ps[i] = p0 at *
    obtain ⟨a0, b0⟩ := p0
    generalize ps[j] = p1 at *
    obtain ⟨a1, b1⟩ := p1
    generalize ps[k] = p2 at *
    obtain ⟨a2, b2⟩ := p2
    dsimp only [List.map_cons, List.map_nil, List.getElem_cons_zero, List.getElem_cons_succ, natI] at *
    have HSH := Lib.hid (fun (g : Nat) (W : World) (hr : Row W g 28 [.int .i64 a0, .int .i64 b0, .int .i64 a1, .int .i64 b1, .int .i64 a2, .int .i64 b2]) => isSharp_any ⟨c1, c2, c3, c4⟩ HC.out a0 b0 a1 b1 a2 b2 g W q0 q1 q2 hr)
    obtain ⟨E, hE⟩ : ∃ E, shB ⟨c1, c2, c3, c4⟩ (a0, b0) (a1, b1) (a2, b2) = E := ⟨_, rfl⟩
    rw [hE] at HSH
    have HZ := Lib.hid (show fB ps ⟨c1, c2, c3, c4⟩ [i, j, k] = E by
      show shB _ (ptAt ps i) (ptAt ps j) (ptAt ps k) = E
      rw [e0, e1, e2, hE])
    rw [HZ.out]
    have HPA := Lib.hid hpa
    clear hE e0 e1 e2 q0 q1 q2 i0 i1 i2 n0 n1 n2 hpa hfa hhl
    go_enter Try.func58, Try.ntmps58
    go_wp2_with fail
    generalize w.alloc (.cells #[.int .i64 c1, .int .i64 c2, .int .i64 c3, .int .i64 c4] 30) = V at *
    refine wp_region_rel (by kernel_rfl) (by kernel_rfl) [33, 34, 35, 36, 37, 38, 39, 40, 41, 42, 43, 44, 45, 46, 47, 48, 49, 50, 51, 52, 53, 6] [LitR (.agg #[.int .i64 c1, .int .i64 c2, .int .i64 c3, .int .i64 c4]), LitR (.slice (some ⟨g, o, none⟩) n cap), LitR (.slice (some ⟨h, oh, none⟩) 3 cf), LitR (.pointer (some ⟨h, oh, none⟩)), LitR (.int .i64 (i : Int)), LitR (.pointer (some ⟨g, o + i * 2, none⟩)), LitR (.agg #[.int .i64 a0, .int .i64 b0]), LitR (.slice (some ⟨g, o, none⟩) n cap), LitR (.slice (some ⟨h, oh, none⟩) 3 cf), LitR (.pointer (some ⟨h, oh + 1, none⟩)), LitR (.int .i64 (j : Int)), LitR (.pointer (some ⟨g, o + j * 2, none⟩)), LitR (.agg #[.int .i64 a1, .int .i64 b1]), LitR (.slice (some ⟨g, o, none⟩) n cap), LitR (.slice (some ⟨h, oh, none⟩) 3 cf), LitR (.pointer (some ⟨h, oh + 2, none⟩)), LitR (.int .i64 (k : Int)), LitR (.pointer (some ⟨g, o + k * 2, none⟩)), LitR (.agg #[.int .i64 a2, .int .i64 b2]), (SharpV a0 b0 a1 b1 a2 b2), LitR (.bool E), LitR (.bool E)] 22 rfl (List.forall_mem_cons.2 ⟨LitR.stab _, (List.forall_mem_cons.2 ⟨LitR.stab _, (List.forall_mem_cons.2 ⟨LitR.stab _, (List.forall_mem_cons.2 ⟨LitR.stab _, (List.forall_mem_cons.2 ⟨LitR.stab _, (List.forall_mem_cons.2 ⟨LitR.stab _, (List.forall_mem_cons.2 ⟨LitR.stab _, (List.forall_mem_cons.2 ⟨LitR.stab _, (List.forall_mem_cons.2 ⟨LitR.stab _, (List.forall_mem_cons.2 ⟨LitR.stab _, (List.forall_mem_cons.2 ⟨LitR.stab _, (List.forall_mem_cons.2 ⟨LitR.stab _, (List.forall_mem_cons.2 ⟨LitR.stab _, (List.forall_mem_cons.2 ⟨LitR.stab _, (List.forall_mem_cons.2 ⟨LitR.stab _, (List.forall_mem_cons.2 ⟨LitR.stab _, (List.forall_mem_cons.2 ⟨LitR.stab _, (List.forall_mem_cons.2 ⟨LitR.stab _, (List.forall_mem_cons.2 ⟨LitR.stab _, (List.forall_mem_cons.2 ⟨SharpV.stab _ _ _ _ _ _, (List.forall_mem_cons.2 ⟨LitR.stab _, (List.forall_mem_cons.2 ⟨LitR.stab _, (fun _ h => nomatch h)⟩)⟩)⟩)⟩)⟩)⟩)⟩)⟩)⟩)⟩)⟩)⟩)⟩)⟩)⟩)⟩)⟩)⟩)⟩)⟩)⟩)⟩) ⟨[undef, undef, undef, undef, undef, undef, undef, undef, undef, undef, undef, undef, undef, undef, undef, undef, undef, undef, undef, undef, undef, .bool false], by simp only [putAll, Act.put, List.setIfInBounds_toArray, List.set_cons_succ, List.set_cons_zero], rfl⟩ ?steps ?fin
    case steps =>
      simp only [relSteps]
      refine ⟨?_, ?_, ?_, ?_, ?_, ?_, ?_, ?_, ?_, ?_, ?_, ?_, ?_, ?_, ?_, ?_, ?_, ?_, ?_, ?_, ?_, ?_, trivial⟩
      · rintro vs W K hc hvl hw hK
        obtain ⟨x0, x1, x2, x3, x4, x5, x6, x7, x8, x9, x10, x11, x12, x13, x14, x15, x16, x17, x18, x19, x20, x21, rfl⟩ := len22 hvl
        have HK := Lib.hid hK
        have HC := Lib.hid hc
        have HW := Lib.hid hw
        clear hK hc hw hvl
        simp only [putAll, Act.put, List.setIfInBounds_toArray, List.set_cons_succ, List.set_cons_zero]
        have rr := RC.out.below HC.out RC.out.lt
        have d0 := rr.cell 0
        have d1 := rr.cell 1
        have d2 := rr.cell 2
        have d3 := rr.cell 3
        simp only [List.getElem?_cons_zero, List.getElem?_cons_succ] at d0 d1 d2 d3
        clear rr
        clear HW
        go_wp2_with fail
        have fin := HK.out (.agg #[.int .i64 c1, .int .i64 c2, .int .i64 c3, .int .i64 c4]) W (Below.refl _ _) rfl
        simp only [putAll, Act.put, List.setIfInBounds_toArray, List.set_cons_succ, List.set_cons_zero] at fin
        exact fin
      · rintro vs W K hc hvl hw hK
        obtain ⟨x0, x1, x2, x3, x4, x5, x6, x7, x8, x9, x10, x11, x12, x13, x14, x15, x16, x17, x18, x19, x20, x21, rfl⟩ := len22 hvl
        have HK := Lib.hid hK
        have HC := Lib.hid hc
        have HW := Lib.hid hw
        clear hK hc hw hvl
        simp only [putAll, Act.put, List.setIfInBounds_toArray, List.set_cons_succ, List.set_cons_zero]
        clear HW
        go_wp2_with fail
        have fin := HK.out (.slice (some ⟨g, o, none⟩) n cap) W (Below.refl _ _) rfl
        simp only [putAll, Act.put, List.setIfInBounds_toArray, List.set_cons_succ, List.set_cons_zero] at fin
        exact fin
      · rintro vs W K hc hvl hw hK
        obtain ⟨x0, x1, x2, x3, x4, x5, x6, x7, x8, x9, x10, x11, x12, x13, x14, x15, x16, x17, x18, x19, x20, x21, rfl⟩ := len22 hvl
        have HK := Lib.hid hK
        have HC := Lib.hid hc
        have HW := Lib.hid hw
        clear hK hc hw hvl
        simp only [putAll, Act.put, List.setIfInBounds_toArray, List.set_cons_succ, List.set_cons_zero]
        clear HW
        go_wp2_with fail
        have fin := HK.out (.slice (some ⟨h, oh, none⟩) 3 cf) W (Below.refl _ _) rfl
        simp only [putAll, Act.put, List.setIfInBounds_toArray, List.set_cons_succ, List.set_cons_zero] at fin
        exact fin
      · rintro vs W K hc hvl hw hK
        obtain ⟨x0, x1, x2, x3, x4, x5, x6, x7, x8, x9, x10, x11, x12, x13, x14, x15, x16, x17, x18, x19, x20, x21, rfl⟩ := len22 hvl
        have HK := Lib.hid hK
        have HC := Lib.hid hc
        have HW := Lib.hid hw
        clear hK hc hw hvl
        have hd2 := HW.out ⟨2, .data⟩ (by simp) rfl
        obtain rfl : x2 = .slice (some ⟨h, oh, none⟩) 3 cf := rel_get hd2 rfl
        simp only [putAll, Act.put, List.setIfInBounds_toArray, List.set_cons_succ, List.set_cons_zero]
        clear HW hd2
        go_wp2_with fail
        have fin := HK.out (.pointer (some ⟨h, oh, none⟩)) W (Below.refl _ _) rfl
        simp only [putAll, Act.put, List.setIfInBounds_toArray, List.set_cons_succ, List.set_cons_zero] at fin
        exact fin
      · rintro vs W K hc hvl hw hK
        obtain ⟨x0, x1, x2, x3, x4, x5, x6, x7, x8, x9, x10, x11, x12, x13, x14, x15, x16, x17, x18, x19, x20, x21, rfl⟩ := len22 hvl
        have HK := Lib.hid hK
        have HC := Lib.hid hc
        have HW := Lib.hid hw
        clear hK hc hw hvl
        have hd3 := HW.out ⟨3, .data⟩ (by simp) rfl
        obtain rfl : x3 = .pointer (some ⟨h, oh, none⟩) := rel_get hd3 rfl
        simp only [putAll, Act.put, List.setIfInBounds_toArray, List.set_cons_succ, List.set_cons_zero]
        have d0 := HF0.out W (Below.andThen BA.out HC.out (Nat.le_refl _))
        clear HW hd3
        go_wp2_with fail
        have fin := HK.out (.int .i64 (i : Int)) W (Below.refl _ _) rfl
        simp only [putAll, Act.put, List.setIfInBounds_toArray, List.set_cons_succ, List.set_cons_zero] at fin
        exact fin
      · rintro vs W K hc hvl hw hK
        obtain ⟨x0, x1, x2, x3, x4, x5, x6, x7, x8, x9, x10, x11, x12, x13, x14, x15, x16, x17, x18, x19, x20, x21, rfl⟩ := len22 hvl
        have HK := Lib.hid hK
        have HC := Lib.hid hc
        have HW := Lib.hid hw
        clear hK hc hw hvl
        have hd1 := HW.out ⟨1, .data⟩ (by simp) rfl
        obtain rfl : x1 = .slice (some ⟨g, o, none⟩) n cap := rel_get hd1 rfl
        have hd4 := HW.out ⟨4, .data⟩ (by simp) rfl
        obtain rfl : x4 = .int .i64 (i : Int) := rel_get hd4 rfl
        simp only [putAll, Act.put, List.setIfInBounds_toArray, List.set_cons_succ, List.set_cons_zero]
        have hi1 := HNI0.out
        clear HW hd1 hd4
        go_wp2_with fail
        have fin := HK.out (.pointer (some ⟨g, o + i * 2, none⟩)) W (Below.refl _ _) rfl
        simp only [putAll, Act.put, List.setIfInBounds_toArray, List.set_cons_succ, List.set_cons_zero] at fin
        exact fin
      · rintro vs W K hc hvl hw hK
        obtain ⟨x0, x1, x2, x3, x4, x5, x6, x7, x8, x9, x10, x11, x12, x13, x14, x15, x16, x17, x18, x19, x20, x21, rfl⟩ := len22 hvl
        have HK := Lib.hid hK
        have HC := Lib.hid hc
        have HW := Lib.hid hw
        clear hK hc hw hvl
        have hd5 := HW.out ⟨5, .data⟩ (by simp) rfl
        obtain rfl : x5 = .pointer (some ⟨g, o + i * 2, none⟩) := rel_get hd5 rfl
        simp only [putAll, Act.put, List.setIfInBounds_toArray, List.set_cons_succ, List.set_cons_zero]
        have d0 := HX0.out.1 W (Below.andThen BA.out HC.out (Nat.le_refl _))
        have d1 := HX0.out.2 W (Below.andThen BA.out HC.out (Nat.le_refl _))
        clear HW hd5
        go_wp2_with fail
        have fin := HK.out (.agg #[.int .i64 a0, .int .i64 b0]) W (Below.refl _ _) rfl
        simp only [putAll, Act.put, List.setIfInBounds_toArray, List.set_cons_succ, List.set_cons_zero] at fin
        exact fin
      · rintro vs W K hc hvl hw hK
        obtain ⟨x0, x1, x2, x3, x4, x5, x6, x7, x8, x9, x10, x11, x12, x13, x14, x15, x16, x17, x18, x19, x20, x21, rfl⟩ := len22 hvl
        have HK := Lib.hid hK
        have HC := Lib.hid hc
        have HW := Lib.hid hw
        clear hK hc hw hvl
        simp only [putAll, Act.put, List.setIfInBounds_toArray, List.set_cons_succ, List.set_cons_zero]
        clear HW
        go_wp2_with fail
        have fin := HK.out (.slice (some ⟨g, o, none⟩) n cap) W (Below.refl _ _) rfl
        simp only [putAll, Act.put, List.setIfInBounds_toArray, List.set_cons_succ, List.set_cons_zero] at fin
        exact fin
      · rintro vs W K hc hvl hw hK
        obtain ⟨x0, x1, x2, x3, x4, x5, x6, x7, x8, x9, x10, x11, x12, x13, x14, x15, x16, x17, x18, x19, x20, x21, rfl⟩ := len22 hvl
        have HK := Lib.hid hK
        have HC := Lib.hid hc
        have HW := Lib.hid hw
        clear hK hc hw hvl
        simp only [putAll, Act.put, List.setIfInBounds_toArray, List.set_cons_succ, List.set_cons_zero]
        clear HW
        go_wp2_with fail
        have fin := HK.out (.slice (some ⟨h, oh, none⟩) 3 cf) W (Below.refl _ _) rfl
        simp only [putAll, Act.put, List.setIfInBounds_toArray, List.set_cons_succ, List.set_cons_zero] at fin
        exact fin
      · rintro vs W K hc hvl hw hK
        obtain ⟨x0, x1, x2, x3, x4, x5, x6, x7, x8, x9, x10, x11, x12, x13, x14, x15, x16, x17, x18, x19, x20, x21, rfl⟩ := len22 hvl
        have HK := Lib.hid hK
        have HC := Lib.hid hc
        have HW := Lib.hid hw
        clear hK hc hw hvl
        have hd8 := HW.out ⟨8, .data⟩ (by simp) rfl
        obtain rfl : x8 = .slice (some ⟨h, oh, none⟩) 3 cf := rel_get hd8 rfl
        simp only [putAll, Act.put, List.setIfInBounds_toArray, List.set_cons_succ, List.set_cons_zero]
        clear HW hd8
        go_wp2_with fail
        have fin := HK.out (.pointer (some ⟨h, oh + 1, none⟩)) W (Below.refl _ _) rfl
        simp only [putAll, Act.put, List.setIfInBounds_toArray, List.set_cons_succ, List.set_cons_zero] at fin
        exact fin
      · rintro vs W K hc hvl hw hK
        obtain ⟨x0, x1, x2, x3, x4, x5, x6, x7, x8, x9, x10, x11, x12, x13, x14, x15, x16, x17, x18, x19, x20, x21, rfl⟩ := len22 hvl
        have HK := Lib.hid hK
        have HC := Lib.hid hc
        have HW := Lib.hid hw
        clear hK hc hw hvl
        have hd9 := HW.out ⟨9, .data⟩ (by simp) rfl
        obtain rfl : x9 = .pointer (some ⟨h, oh + 1, none⟩) := rel_get hd9 rfl
        simp only [putAll, Act.put, List.setIfInBounds_toArray, List.set_cons_succ, List.set_cons_zero]
        have d0 := HF1.out W (Below.andThen BA.out HC.out (Nat.le_refl _))
        clear HW hd9
        go_wp2_with fail
        have fin := HK.out (.int .i64 (j : Int)) W (Below.refl _ _) rfl
        simp only [putAll, Act.put, List.setIfInBounds_toArray, List.set_cons_succ, List.set_cons_zero] at fin
        exact fin
      · rintro vs W K hc hvl hw hK
        obtain ⟨x0, x1, x2, x3, x4, x5, x6, x7, x8, x9, x10, x11, x12, x13, x14, x15, x16, x17, x18, x19, x20, x21, rfl⟩ := len22 hvl
        have HK := Lib.hid hK
        have HC := Lib.hid hc
        have HW := Lib.hid hw
        clear hK hc hw hvl
        have hd7 := HW.out ⟨7, .data⟩ (by simp) rfl
        obtain rfl : x7 = .slice (some ⟨g, o, none⟩) n cap := rel_get hd7 rfl
        have hd10 := HW.out ⟨10, .data⟩ (by simp) rfl
        obtain rfl : x10 = .int .i64 (j : Int) := rel_get hd10 rfl
        simp only [putAll, Act.put, List.setIfInBounds_toArray, List.set_cons_succ, List.set_cons_zero]
        have hi1 := HNI1.out
        clear HW hd7 hd10
        go_wp2_with fail
        have fin := HK.out (.pointer (some ⟨g, o + j * 2, none⟩)) W (Below.refl _ _) rfl
        simp only [putAll, Act.put, List.setIfInBounds_toArray, List.set_cons_succ, List.set_cons_zero] at fin
        exact fin
      · rintro vs W K hc hvl hw hK
        obtain ⟨x0, x1, x2, x3, x4, x5, x6, x7, x8, x9, x10, x11, x12, x13, x14, x15, x16, x17, x18, x19, x20, x21, rfl⟩ := len22 hvl
        have HK := Lib.hid hK
        have HC := Lib.hid hc
        have HW := Lib.hid hw
        clear hK hc hw hvl
        have hd11 := HW.out ⟨11, .data⟩ (by simp) rfl
        obtain rfl : x11 = .pointer (some ⟨g, o + j * 2, none⟩) := rel_get hd11 rfl
        simp only [putAll, Act.put, List.setIfInBounds_toArray, List.set_cons_succ, List.set_cons_zero]
        have d0 := HX1.out.1 W (Below.andThen BA.out HC.out (Nat.le_refl _))
        have d1 := HX1.out.2 W (Below.andThen BA.out HC.out (Nat.le_refl _))
        clear HW hd11
        go_wp2_with fail
        have fin := HK.out (.agg #[.int .i64 a1, .int .i64 b1]) W (Below.refl _ _) rfl
        simp only [putAll, Act.put, List.setIfInBounds_toArray, List.set_cons_succ, List.set_cons_zero] at fin
        exact fin
      · rintro vs W K hc hvl hw hK
        obtain ⟨x0, x1, x2, x3, x4, x5, x6, x7, x8, x9, x10, x11, x12, x13, x14, x15, x16, x17, x18, x19, x20, x21, rfl⟩ := len22 hvl
        have HK := Lib.hid hK
        have HC := Lib.hid hc
        have HW := Lib.hid hw
        clear hK hc hw hvl
        simp only [putAll, Act.put, List.setIfInBounds_toArray, List.set_cons_succ, List.set_cons_zero]
        clear HW
        go_wp2_with fail
        have fin := HK.out (.slice (some ⟨g, o, none⟩) n cap) W (Below.refl _ _) rfl
        simp only [putAll, Act.put, List.setIfInBounds_toArray, List.set_cons_succ, List.set_cons_zero] at fin
        exact fin
      · rintro vs W K hc hvl hw hK
        obtain ⟨x0, x1, x2, x3, x4, x5, x6, x7, x8, x9, x10, x11, x12, x13, x14, x15, x16, x17, x18, x19, x20, x21, rfl⟩ := len22 hvl
        have HK := Lib.hid hK
        have HC := Lib.hid hc
        have HW := Lib.hid hw
        clear hK hc hw hvl
        simp only [putAll, Act.put, List.setIfInBounds_toArray, List.set_cons_succ, List.set_cons_zero]
        clear HW
        go_wp2_with fail
        have fin := HK.out (.slice (some ⟨h, oh, none⟩) 3 cf) W (Below.refl _ _) rfl
        simp only [putAll, Act.put, List.setIfInBounds_toArray, List.set_cons_succ, List.set_cons_zero] at fin
        exact fin
      · rintro vs W K hc hvl hw hK
        obtain ⟨x0, x1, x2, x3, x4, x5, x6, x7, x8, x9, x10, x11, x12, x13, x14, x15, x16, x17, x18, x19, x20, x21, rfl⟩ := len22 hvl
        have HK := Lib.hid hK
        have HC := Lib.hid hc
        have HW := Lib.hid hw
        clear hK hc hw hvl
        have hd14 := HW.out ⟨14, .data⟩ (by simp) rfl
        obtain rfl : x14 = .slice (some ⟨h, oh, none⟩) 3 cf := rel_get hd14 rfl
        simp only [putAll, Act.put, List.setIfInBounds_toArray, List.set_cons_succ, List.set_cons_zero]
        clear HW hd14
        go_wp2_with fail
        have fin := HK.out (.pointer (some ⟨h, oh + 2, none⟩)) W (Below.refl _ _) rfl
        simp only [putAll, Act.put, List.setIfInBounds_toArray, List.set_cons_succ, List.set_cons_zero] at fin
        exact fin
      · rintro vs W K hc hvl hw hK
        obtain ⟨x0, x1, x2, x3, x4, x5, x6, x7, x8, x9, x10, x11, x12, x13, x14, x15, x16, x17, x18, x19, x20, x21, rfl⟩ := len22 hvl
        have HK := Lib.hid hK
        have HC := Lib.hid hc
        have HW := Lib.hid hw
        clear hK hc hw hvl
        have hd15 := HW.out ⟨15, .data⟩ (by simp) rfl
        obtain rfl : x15 = .pointer (some ⟨h, oh + 2, none⟩) := rel_get hd15 rfl
        simp only [putAll, Act.put, List.setIfInBounds_toArray, List.set_cons_succ, List.set_cons_zero]
        have d0 := HF2.out W (Below.andThen BA.out HC.out (Nat.le_refl _))
        clear HW hd15
        go_wp2_with fail
        have fin := HK.out (.int .i64 (k : Int)) W (Below.refl _ _) rfl
        simp only [putAll, Act.put, List.setIfInBounds_toArray, List.set_cons_succ, List.set_cons_zero] at fin
        exact fin
      · rintro vs W K hc hvl hw hK
        obtain ⟨x0, x1, x2, x3, x4, x5, x6, x7, x8, x9, x10, x11, x12, x13, x14, x15, x16, x17, x18, x19, x20, x21, rfl⟩ := len22 hvl
        have HK := Lib.hid hK
        have HC := Lib.hid hc
        have HW := Lib.hid hw
        clear hK hc hw hvl
        have hd13 := HW.out ⟨13, .data⟩ (by simp) rfl
        obtain rfl : x13 = .slice (some ⟨g, o, none⟩) n cap := rel_get hd13 rfl
        have hd16 := HW.out ⟨16, .data⟩ (by simp) rfl
        obtain rfl : x16 = .int .i64 (k : Int) := rel_get hd16 rfl
        simp only [putAll, Act.put, List.setIfInBounds_toArray, List.set_cons_succ, List.set_cons_zero]
        have hi1 := HNI2.out
        clear HW hd13 hd16
        go_wp2_with fail
        have fin := HK.out (.pointer (some ⟨g, o + k * 2, none⟩)) W (Below.refl _ _) rfl
        simp only [putAll, Act.put, List.setIfInBounds_toArray, List.set_cons_succ, List.set_cons_zero] at fin
        exact fin
      · rintro vs W K hc hvl hw hK
        obtain ⟨x0, x1, x2, x3, x4, x5, x6, x7, x8, x9, x10, x11, x12, x13, x14, x15, x16, x17, x18, x19, x20, x21, rfl⟩ := len22 hvl
        have HK := Lib.hid hK
        have HC := Lib.hid hc
        have HW := Lib.hid hw
        clear hK hc hw hvl
        have hd17 := HW.out ⟨17, .data⟩ (by simp) rfl
        obtain rfl : x17 = .pointer (some ⟨g, o + k * 2, none⟩) := rel_get hd17 rfl
        simp only [putAll, Act.put, List.setIfInBounds_toArray, List.set_cons_succ, List.set_cons_zero]
        have d0 := HX2.out.1 W (Below.andThen BA.out HC.out (Nat.le_refl _))
        have d1 := HX2.out.2 W (Below.andThen BA.out HC.out (Nat.le_refl _))
        clear HW hd17
        go_wp2_with fail
        have fin := HK.out (.agg #[.int .i64 a2, .int .i64 b2]) W (Below.refl _ _) rfl
        simp only [putAll, Act.put, List.setIfInBounds_toArray, List.set_cons_succ, List.set_cons_zero] at fin
        exact fin
      · rintro vs W K hc hvl hw hK
        obtain ⟨x0, x1, x2, x3, x4, x5, x6, x7, x8, x9, x10, x11, x12, x13, x14, x15, x16, x17, x18, x19, x20, x21, rfl⟩ := len22 hvl
        have HK := Lib.hid hK
        have HC := Lib.hid hc
        have HW := Lib.hid hw
        clear hK hc hw hvl
        have hd6 := HW.out ⟨6, .data⟩ (by simp) rfl
        obtain rfl : x6 = .agg #[.int .i64 a0, .int .i64 b0] := rel_get hd6 rfl
        have hd12 := HW.out ⟨12, .data⟩ (by simp) rfl
        obtain rfl : x12 = .agg #[.int .i64 a1, .int .i64 b1] := rel_get hd12 rfl
        have hd18 := HW.out ⟨18, .data⟩ (by simp) rfl
        obtain rfl : x18 = .agg #[.int .i64 a2, .int .i64 b2] := rel_get hd18 rfl
        simp only [putAll, Act.put, List.setIfInBounds_toArray, List.set_cons_succ, List.set_cons_zero]
        clear HW hd6 hd12 hd18
        go_wp2_with fail
        have fin := HK.out (.slice (some ⟨W.heap.size, 0, none⟩) 3 3) (W.alloc (.cells #[.int .i64 a0, .int .i64 b0, .int .i64 a1, .int .i64 b1, .int .i64 a2, .int .i64 b2] 28)) (Below.al (Below.refl _ _) (Nat.le_refl _) _) ⟨_, rfl, six_row W a0 b0 a1 b1 a2 b2⟩
        simp only [putAll, Act.put, List.setIfInBounds_toArray, List.set_cons_succ, List.set_cons_zero] at fin
        exact fin
      · rintro vs W K hc hvl hw hK
        obtain ⟨x0, x1, x2, x3, x4, x5, x6, x7, x8, x9, x10, x11, x12, x13, x14, x15, x16, x17, x18, x19, x20, x21, rfl⟩ := len22 hvl
        have HK := Lib.hid hK
        have HC := Lib.hid hc
        have HW := Lib.hid hw
        clear hK hc hw hvl
        have hd0 := HW.out ⟨0, .data⟩ (by simp) rfl
        obtain rfl : x0 = .agg #[.int .i64 c1, .int .i64 c2, .int .i64 c3, .int .i64 c4] := rel_get hd0 rfl
        have hd19 := HW.out ⟨19, .data⟩ (by simp) rfl
        have hr := rel_get (x := x19) hd19 rfl
        obtain ⟨gs, rfl, hgs⟩ := hr
        have HGS := Lib.hid hgs
        clear hgs
        simp only [putAll, Act.put, List.setIfInBounds_toArray, List.set_cons_succ, List.set_cons_zero]
        clear HW hd0 hd19
        go_wp2_with fail
        refine (HSH.out gs W HGS.out).mono ?_
        rintro e W' ⟨rfl, hb'⟩
        have HB' := Lib.hid hb'
        clear hb'
        go_wp2_with fail
        have fin := HK.out (.bool E) W' HB'.out rfl
        simp only [putAll, Act.put, List.setIfInBounds_toArray, List.set_cons_succ, List.set_cons_zero] at fin
        exact fin
      · rintro vs W K hc hvl hw hK
        obtain ⟨x0, x1, x2, x3, x4, x5, x6, x7, x8, x9, x10, x11, x12, x13, x14, x15, x16, x17, x18, x19, x20, x21, rfl⟩ := len22 hvl
        have HK := Lib.hid hK
        have HC := Lib.hid hc
        have HW := Lib.hid hw
        clear hK hc hw hvl
        have hd20 := HW.out ⟨20, .data⟩ (by simp) rfl
        obtain rfl : x20 = .bool E := rel_get hd20 rfl
        simp only [putAll, Act.put, List.setIfInBounds_toArray, List.set_cons_succ, List.set_cons_zero]
        clear HW hd20
        go_wp2_with fail
        have fin := HK.out (.bool E) W (Below.refl _ _) rfl
        simp only [putAll, Act.put, List.setIfInBounds_toArray, List.set_cons_succ, List.set_cons_zero] at fin
        exact fin
    case fin =>
      intro vs W hc hvl hv
      obtain ⟨x0, x1, x2, x3, x4, x5, x6, x7, x8, x9, x10, x11, x12, x13, x14, x15, x16, x17, x18, x19, x20, x21, rfl⟩ := len22 hvl
      have hd21 := hv 21 (by omega)
      obtain rfl : x21 = .bool E := rel_get hd21 rfl
      clear hd21
      simp only [putAll, Act.put, List.setIfInBounds_toArray, List.set_cons_succ, List.set_cons_zero]
      have HC := Lib.hid hc
      clear hc hv hvl
      go_wp2_with fail
      go_ret
      exact ⟨rfl, Below.andThen BA.out HC.out (Nat.le_refl _)⟩
end Go.Proofs.Ytlemipnplgbckaa
