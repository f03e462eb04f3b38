import Derived.Test.YtlemipnplgbckaaBK
import Derived.Laws.AppendOwn
import Derived.ChangeKeysEq
import Derived.Maps.RangeWalk
import Derived.Maps.OwnIn
import Derived.Maps.AppendAt
import Derived.RangeFuncNested
import Derived.RangeFuncBound
import Derived.RangeFuncCalls
import Derived.RangeFuncLeaves
import Derived.Shelf.Abstract
import Derived.Shelf.RegionOpen
import Derived.WalkKit
import Derived.WalkMore
import Derived.OwnWalkIn
import Derived.TacticsInMore
import Derived.LoopNIn
import Derived.LoopIn
import Derived.WalkSpells
import Derived.WalkLawsBesides
import Derived.BigQuiet
import Derived.Deep.QuietTactic
import Derived.Lib.Hide
import Derived.Deep.RegionHeld3
import Derived.StillTailTactics
import Derived.Deep.LoopGhost
import Derived.Maps.OwnSet
import Derived.Lib.IndexAny
import Derived.Sort.QuietThIn
import Derived.Sort.QuietTacIn
import Derived.Sort.BigQuietIn
import Derived.Laws.OwnMore
import Derived.DeepKeys4
import Derived.Maps.Views
import Derived.Maps.OwnOps
import Derived.Laws.OwnMore
import Derived.Deep.DeepCutAuto
import Derived.ChangeKeysEq
namespace Go.Proofs.Ytlemipnplgbckaa
open Go.RowKit Go.Shelf
attribute [local go_sem] Oper.semAt_some
/-- circles at a block -/
structure CirsAt (w : World) (b o : Nat) (cs : List Cir) : Prop where
  lt : b < w.heap.size
  x : ∀ i (h : i < cs.length), w.cell? ⟨b, o + i * 4, none⟩ = some (.int .i64 cs[i].X)
  y : ∀ i (h : i < cs.length), w.cell? ⟨b, o + i * 4 + 1, none⟩ = some (.int .i64 cs[i].Y)
  d : ∀ i (h : i < cs.length), w.cell? ⟨b, o + i * 4 + 2, none⟩ = some (.int .i64 cs[i].D)
  r : ∀ i (h : i < cs.length), w.cell? ⟨b, o + i * 4 + 3, none⟩ = some (.int .i64 cs[i].R)
theorem CirsAt.below {B : Nat} {w w' : World} {b o : Nat} {cs : List Cir} (h : CirsAt w b o cs) (hb : Below B w w') (hB : b < B) : CirsAt w' b o cs :=
  ⟨Nat.lt_of_lt_of_le h.lt hb.size, fun i hi => below_at hb hB (h.x i hi), fun i hi => below_at hb hB (h.y i hi), fun i hi => below_at hb hB (h.d i hi), fun i hi => below_at hb hB (h.r i hi)⟩
theorem CirsAt.grow {w w' : World} {b o : Nat} {cs : List Cir} (h : CirsAt w b o cs) (hb : Below w.heap.size w w') : CirsAt w' b o cs := h.below hb h.lt
def SlC (w : World) (v : Value) (cs : List Cir) : Prop := ∃ a c, v = .slice a cs.length c ∧ cs.length ≤ c ∧ (cs = [] ∨ ∃ g o, a = some ⟨g, o, none⟩ ∧ CirsAt w g o cs)
theorem SlC.grow {w w' : World} {v : Value} {cs : List Cir} (h : SlC w v cs) (hb : Below w.heap.size w w') : SlC w' v cs := by
  obtain ⟨a, c, rfl, hc, h⟩ := h
  exact ⟨a, c, rfl, hc, h.imp id (fun ⟨g, o, h1, h2⟩ => ⟨g, o, h1, h2.grow hb⟩)⟩
set_option maxRecDepth 100000 in
set_option maxHeartbeats 600000 in
/-- the first circle for which something holds -/
theorem indexCir_any (cs : List Cir) (v : Value) (G : FuncId) (caps : Array Value) (gl : Cir → Bool) (w : World) (hv : SlC w v cs) (hl : cs.length ≤ 1000000)
    (hen : ∀ args W, (callFunc G args).run Try.prog W = .ok (.enter G args) W)
    (hg : ∀ W c, Below w.heap.size w W → c ∈ cs → Calls Try.prog G (#[.agg #[.int .i64 c.X, .int .i64 c.Y, .int .i64 c.D, .int .i64 c.R]] ++ caps) W fun e w' => e = .returned (.bool (gl c)) ∧ Below W.heap.size W w') :
    Calls Try.prog 102 #[v, .func (.func G) #[] caps] w fun e w' => e = .returned (.int .i64 (match cs.findIdx? gl with | some k => (k : Int) | none => -1)) ∧ Below w.heap.size w w' := by
  obtain ⟨a, c, rfl, hc, hs⟩ := hv
  have HS := Lib.hid hs
  have HG := Lib.hid hg
  obtain ⟨E0, hE0⟩ : ∃ E0 : Int, (match cs.findIdx? gl with | some k => (k : Int) | none => -1) = E0 := ⟨_, rfl⟩
  rw [hE0]
  have HE0 := Lib.hid hE0
  clear hs hg hE0
  go_enter Try.func102, Try.ntmps102
  go_wp2_with fail
  go_loopw [8] (fun iv wr => ∃ k : Nat, k ≤ cs.length ∧ iv = .int .i64 (k : Int) ∧ Hid ((∀ j (h : j < cs.length), j < k → gl cs[j] = false) ∧ Below w.heap.size w wr)) (fun iv _ => (cs.length - intOf iv).toNat)
  case atStart => exact ⟨0, by omega, rfl, Lib.hid ⟨fun j _ h => by omega, Below.refl _ _⟩⟩
  case round =>
    obtain ⟨k, hk, rfl, HB⟩ := hrel
    have kw : IntKind.i64.wrap ((k : Int) + 1) = ((k + 1 : Nat) : Int) := by rw [i64_of _ (by omega) (by omega)]; omega
    by_cases hlt : k < cs.length
    · have hd : decide ((k : Int) < (cs.length : Int)) = true := decide_eq_true (by omega)
      have hdn : decide (k < cs.length) = true := decide_eq_true hlt
      obtain ⟨g, o, rfl, hps⟩ : ∃ g o, a = some ⟨g, o, none⟩ ∧ CirsAt w g o cs := HS.out.resolve_left (fun e => by rw [e] at hlt; simp at hlt)
      have hp2 : CirsAt wr g o cs := hps.below HB.out.2 hps.lt
      have k0 := hp2.x k hlt
      have k1 := hp2.y k hlt
      have k2 := hp2.d k hlt
      have k3 := hp2.r k hlt
      have HM := Lib.hid (show gl cs[k] = true → E0 = (k : Int) from fun h => by
        rw [← HE0.out]
        have : cs.findIdx? gl = some k := by
          rw [List.findIdx?_eq_some_iff_getElem]
          exact ⟨hlt, h, fun j hj => by simpa using HB.out.1 j (by omega) hj⟩
        rw [this])
      have HGK := Lib.hid (HG.out wr cs[k] HB.out.2 (List.getElem_mem hlt))
      have HNX := Lib.hid (show gl cs[k] = false → ∀ j (h : j < cs.length), j < k + 1 → gl cs[j] = false from fun h0 j h1 h2 => by
        rcases Nat.lt_or_ge j k with h | h
        · exact HB.out.1 j h1 h
        · have : j = k := by omega
          subst this; exact h0)
      clear hps hp2
      generalize cs[k] = ck at *
      obtain ⟨E, hE⟩ : ∃ E, gl ck = E := ⟨_, rfl⟩
      rw [hE] at HGK HM HNX
      clear hE
      go_wp2_with fail
      refine HGK.out.mono ?_
      rintro e w1 ⟨rfl, hb1⟩
      have HB1 := Lib.hid (Below.andThen HB.out.2 hb1 (Nat.le_refl _))
      clear hb1 HGK k0 k1 k2 k3
      cases E with
      | true =>
        have HM2 := Lib.hid (HM.out rfl)
        go_wp2_with fail
        go_ret
        exact ⟨ret_int HM2.out.symm, HB1.out⟩
      | false =>
        have HN := Lib.hid (HNX.out rfl)
        go_wp2_with fail
        exact ⟨⟨k + 1, by omega, by simp, Lib.hid ⟨HN.out, HB1.out⟩⟩, by simp [intOf]; omega⟩
    · have hd : decide ((k : Int) < (cs.length : Int)) = false := decide_eq_false (by omega)
      have hdn : decide (k < cs.length) = false := decide_eq_false hlt
      obtain rfl : k = cs.length := by omega
      have HN := Lib.hid (show E0 = -1 by
        rw [← HE0.out]
        have : cs.findIdx? gl = none := by
          rw [List.findIdx?_eq_none_iff]
          intro x hx
          obtain ⟨j, hj, rfl⟩ := List.getElem_of_mem hx
          exact HB.out.1 j hj hj
        rw [this])
      go_wp2_with fail
      go_ret
      exact ⟨ret_int HN.out.symm, HB.out.2⟩
/-- the first one of the least radius -/
def cmpV (a b : Cir) : Int := cmpC a.D a.R b.D b.R
def minL (m : Cir) (cs : List Cir) : Cir := cs.foldl (fun m x => if cmpV x m < 0 then x else m) m
theorem minL_snoc (m : Cir) (cs : List Cir) (x : Cir) : minL m (cs ++ [x]) = if cmpV x (minL m cs) < 0 then x else minL m cs := by unfold minL; rw [List.foldl_append]; rfl
theorem minL_mem : ∀ (cs : List Cir) (m : Cir), minL m cs = m ∨ minL m cs ∈ cs
  | [], m => .inl rfl
  | x :: xs, m => by
    have h : minL m (x :: xs) = minL (if cmpV x m < 0 then x else m) xs := rfl
    rw [h]
    rcases minL_mem xs (if cmpV x m < 0 then x else m) with h2 | h2
    · rw [h2]
      split
      · right; simp
      · exact .inl rfl
    · exact .inr (List.mem_cons_of_mem _ h2)
theorem cmpV_any (a b : Cir) (ha : CirB a) (hb : CirB b) (w : World) :
    Calls Try.prog 75 #[.agg #[.int .i64 a.X, .int .i64 a.Y, .int .i64 a.D, .int .i64 a.R], .agg #[.int .i64 b.X, .int .i64 b.Y, .int .i64 b.D, .int .i64 b.R]] w fun e w' => e = .returned (.int .i64 (cmpV a b)) ∧ Below w.heap.size w w' := by
  obtain ⟨X, Y, D, R⟩ := a
  obtain ⟨X', Y', D', R'⟩ := b
  obtain ⟨_, _, h1, h2⟩ := ha
  obtain ⟨_, _, h3, h4⟩ := hb
  dsimp only at h1 h2 h3 h4
  obtain ⟨d, rfl⟩ : ∃ d : Nat, D = (d : Int) := ⟨D.toNat, by omega⟩
  obtain ⟨r, rfl⟩ : ∃ d : Nat, R = (d : Int) := ⟨R.toNat, by omega⟩
  obtain ⟨d', rfl⟩ : ∃ d : Nat, D' = (d : Int) := ⟨D'.toNat, by omega⟩
  obtain ⟨r', rfl⟩ : ∃ d : Nat, R' = (d : Int) := ⟨R'.toNat, by omega⟩
  exact compare_any X Y X' Y' d r d' r' w (by omega) (by omega) (by omega) (by omega)
theorem cmp_enters : ∀ (args : Array Value) (W : World), (callFunc 75 args).run Try.prog W = .ok (.enter 75 args) W := enters_of Try.func75 (by kernel_rfl) rfl
set_option maxRecDepth 100000 in
set_option maxHeartbeats 1000000 in
theorem minFunc_any (c0 : Cir) (cs : List Cir) (v : Value) (w : World) (hv : SlC w v (c0 :: cs)) (hl : cs.length ≤ 1000000) (hB : ∀ c ∈ c0 :: cs, CirB c) :
    Calls Try.prog 85 #[v, .func (.func 75) #[] #[]] w fun e w' => e = .returned (minL c0 cs).V ∧ Below w.heap.size w w' := by
  obtain ⟨a, c, rfl, hc, hs⟩ := hv
  obtain ⟨g, o, rfl, hps⟩ : ∃ g o, a = some ⟨g, o, none⟩ ∧ CirsAt w g o (c0 :: cs) := hs.resolve_left (fun e => by cases e)
  have hcb : ∀ m ∈ c0 :: cs, Bd 1000000 m.X := fun m hm => (hB m hm).1
  have HPS := Lib.hid hps
  have HB := Lib.hid hB
  have HEN := cmp_enters
  have hlen : (c0 :: cs).length = cs.length + 1 := rfl
  rw [hlen] at hc ⊢
  have d0 : decide (((cs.length + 1 : Nat) : Int) < 1) = false := decide_eq_false (by omega)
  have k0 := hps.x 0 (by simp)
  have k1 := hps.y 0 (by simp)
  have k2 := hps.d 0 (by simp)
  have k3 := hps.r 0 (by simp)
  simp only [List.getElem_cons_zero, Nat.zero_mul, Nat.add_zero] at k0 k1 k2 k3
  have ba := Below.al (Below.refl w.heap.size w) (Nat.le_refl _) (.cells #[.int .i64 0, .int .i64 0, .int .i64 0, .int .i64 0] 30)
  have j0 := below_at ba hps.lt k0
  have j1 := below_at ba hps.lt k1
  have j2 := below_at ba hps.lt k2
  have j3 := below_at ba hps.lt k3
  clear hps hs hcb hB hlen k0 k1 k2 k3 ba
  go_enter Try.func85, Try.ntmps85
  go_wp2_with fail
  have r0 : Row ((w.alloc (.cells #[.int .i64 0, .int .i64 0, .int .i64 0, .int .i64 0] 30)).alloc (.cells #[.int .i64 c0.X, .int .i64 c0.Y, .int .i64 c0.D, .int .i64 c0.R] 30)) w.heap.size 30 [.int .i64 0, .int .i64 0, .int .i64 0, .int .i64 0] := (Row.new w 30 [.int .i64 0, .int .i64 0, .int .i64 0, .int .i64 0]).below (Below.al (Below.refl _ _) (Nat.le_refl _) _) (by simp)
  have r1 : Row ((w.alloc (.cells #[.int .i64 0, .int .i64 0, .int .i64 0, .int .i64 0] 30)).alloc (.cells #[.int .i64 c0.X, .int .i64 c0.Y, .int .i64 c0.D, .int .i64 c0.R] 30)) (w.heap.size + 1) 30 [.int .i64 c0.X, .int .i64 c0.Y, .int .i64 c0.D, .int .i64 c0.R] := by
    have := Row.new (w.alloc (.cells #[.int .i64 0, .int .i64 0, .int .i64 0, .int .i64 0] 30)) 30 [.int .i64 c0.X, .int .i64 c0.Y, .int .i64 c0.D, .int .i64 c0.R]
    simpa using this
  have HS0 := Lib.hid (show c0 = minL c0 (cs.take 0) ∧ Row ((w.alloc (.cells #[.int .i64 0, .int .i64 0, .int .i64 0, .int .i64 0] 30)).alloc (.cells #[.int .i64 c0.X, .int .i64 c0.Y, .int .i64 c0.D, .int .i64 c0.R] 30)) (w.heap.size + 1) 30 [.int .i64 c0.X, .int .i64 c0.Y, .int .i64 c0.D, .int .i64 c0.R] ∧ Row ((w.alloc (.cells #[.int .i64 0, .int .i64 0, .int .i64 0, .int .i64 0] 30)).alloc (.cells #[.int .i64 c0.X, .int .i64 c0.Y, .int .i64 c0.D, .int .i64 c0.R] 30)) w.heap.size 30 [.int .i64 0, .int .i64 0, .int .i64 0, .int .i64 0] ∧ Below w.heap.size w ((w.alloc (.cells #[.int .i64 0, .int .i64 0, .int .i64 0, .int .i64 0] 30)).alloc (.cells #[.int .i64 c0.X, .int .i64 c0.Y, .int .i64 c0.D, .int .i64 c0.R] 30)) from ⟨rfl, r1, r0, ((Below.refl w.heap.size w).alloc (Nat.le_refl _) _).alloc (by simp) _⟩)
  clear r0 r1 j0 j1 j2 j3
  go_loopw [6] (fun iv wr => ∃ (k : Nat) (m : Cir), k ≤ cs.length ∧ iv = .int .i64 ((k + 1 : Nat) : Int) ∧ Hid (m = minL c0 (cs.take k) ∧ Row wr (w.heap.size + 1) 30 [.int .i64 m.X, .int .i64 m.Y, .int .i64 m.D, .int .i64 m.R] ∧ Row wr w.heap.size 30 [.int .i64 0, .int .i64 0, .int .i64 0, .int .i64 0] ∧ Below w.heap.size w wr)) (fun iv _ => (cs.length + 1 - intOf iv).toNat)
  case atStart => exact ⟨0, c0, by omega, rfl, HS0⟩
  case round =>
    clear HS0
    obtain ⟨k, m, hk, rfl, HR⟩ := hrel
    have kw : IntKind.i64.wrap (((k + 1 : Nat) : Int) + 1) = ((k + 1 + 1 : Nat) : Int) := by rw [i64_of _ (by omega) (by omega)]; omega
    by_cases hlt : k < cs.length
    · have hd : decide (((k + 1 : Nat) : Int) < ((cs.length + 1 : Nat) : Int)) = true := decide_eq_true (by omega)
      have hdn : decide (k + 1 < cs.length + 1) = true := decide_eq_true (by omega)
      have hdn2 : decide (k < cs.length) = true := decide_eq_true (by omega)
      have hp2 := HPS.out.below HR.out.2.2.2 HPS.out.lt
      have HCP := Lib.hid (fun (W : World) (hb : Below wr.heap.size wr W) => And.intro ((hp2.grow hb).x (k + 1) (by simp; omega)) (And.intro ((hp2.grow hb).y (k + 1) (by simp; omega)) (And.intro ((hp2.grow hb).d (k + 1) (by simp; omega)) ((hp2.grow hb).r (k + 1) (by simp; omega)))))
      simp only [List.getElem_cons_succ] at HCP
      have hmb : CirB m := by
        rw [HR.out.1]
        rcases minL_mem (cs.take k) c0 with h | h
        · rw [h]; exact HB.out c0 (by simp)
        · exact HB.out _ (List.mem_cons_of_mem _ (List.mem_of_mem_take h))
      have hcb : CirB cs[k] := HB.out _ (List.mem_cons_of_mem _ (List.getElem_mem hlt))
      have HCV := Lib.hid (fun (W : World) => cmpV_any cs[k] m hcb hmb W)
      have HSN := Lib.hid (show minL c0 (cs.take (k + 1)) = if cmpV cs[k] (minL c0 (cs.take k)) < 0 then cs[k] else minL c0 (cs.take k) by rw [List.take_succ_eq_append_getElem hlt, minL_snoc])
      rw [← HR.out.1] at HSN
      clear hp2 hmb hcb
      generalize cs[k] = ck at *
      obtain ⟨q, hq⟩ : ∃ q, cmpV ck m = q := ⟨_, rfl⟩
      rw [hq] at HCV HSN
      obtain ⟨E, hE⟩ : ∃ E, decide (q < 0) = E := ⟨_, rfl⟩
      have HE := Lib.hid hE
      clear hq hE
      go_wp2_with fail
      refine wp_region_box (by kernel_rfl) (by kernel_rfl) [20, 21, 22, 23, 24, 25, 26, 27] [(fun v => v = .func (.func 75) #[] #[]), (fun v => v = .slice (some ⟨g, o, none⟩) (cs.length + 1) c), (fun v => v = .int .i64 ((k + 1 : Nat) : Int)), (fun v => v = .pointer (some ⟨g, o + (k + 1) * 4, none⟩)), (fun v => v = .agg #[.int .i64 ck.X, .int .i64 ck.Y, .int .i64 ck.D, .int .i64 ck.R]), (fun v => v = .agg #[.int .i64 m.X, .int .i64 m.Y, .int .i64 m.D, .int .i64 m.R]), (fun v => v = .int .i64 q), (fun v => v = .bool E)] [none, none, none, none, none, none, none, none] [none, none, none, none, none, none, none, none] 8 rfl (by kernel_rfl) ?tr ⟨[u20, u21, u22, u23, u24, u25, u26, u27], by simp only [putAll, Act.put, List.setIfInBounds_toArray, List.set_cons_succ, List.set_cons_zero], rfl⟩ ?steps ?fin
      case tr =>
        rintro i v h
        rcases i with _ | _ | _ | _ | _ | _ | _ | _ | i
        all_goals first | trivial | (exfalso; rcases h with h | h <;> simp at h)
      case steps =>
        simp only [boxSteps, Nat.reduceAdd, Nat.zero_add, List.getD_cons_succ, List.getD_cons_zero]
        refine ⟨?_, ?_, ?_, ?_, ?_, ?_, ?_, ?_, trivial⟩
        · rintro vs W K hc hvl hw hK
          obtain ⟨x0, x1, x2, x3, x4, x5, x6, x7, rfl⟩ := len8 hvl
          have HK := Lib.hid hK
          have HC := Lib.hid hc
          have HW := Lib.hid hw
          clear hK hc hw hvl
          simp only [putAll, Act.put, List.setIfInBounds_toArray, List.set_cons_succ, List.set_cons_zero]
          clear HW
          go_wp2_with fail
          have fin := HK.out (.func (.func 75) #[] #[]) W (Below.refl _ _) rfl
          simp only [putAll, Act.put, List.setIfInBounds_toArray, List.set_cons_succ, List.set_cons_zero] at fin
          exact fin
        · rintro vs W K hc hvl hw hK
          obtain ⟨x0, x1, x2, x3, x4, x5, x6, x7, rfl⟩ := len8 hvl
          have HK := Lib.hid hK
          have HC := Lib.hid hc
          have HW := Lib.hid hw
          clear hK hc hw hvl
          simp only [putAll, Act.put, List.setIfInBounds_toArray, List.set_cons_succ, List.set_cons_zero]
          clear HW
          go_wp2_with fail
          have fin := HK.out (.slice (some ⟨g, o, none⟩) (cs.length + 1) c) W (Below.refl _ _) rfl
          simp only [putAll, Act.put, List.setIfInBounds_toArray, List.set_cons_succ, List.set_cons_zero] at fin
          exact fin
        · rintro vs W K hc hvl hw hK
          obtain ⟨x0, x1, x2, x3, x4, x5, x6, x7, rfl⟩ := len8 hvl
          have HK := Lib.hid hK
          have HC := Lib.hid hc
          have HW := Lib.hid hw
          clear hK hc hw hvl
          simp only [putAll, Act.put, List.setIfInBounds_toArray, List.set_cons_succ, List.set_cons_zero]
          clear HW
          go_wp2_with fail
          have fin := HK.out (.int .i64 ((k + 1 : Nat) : Int)) W (Below.refl _ _) rfl
          simp only [putAll, Act.put, List.setIfInBounds_toArray, List.set_cons_succ, List.set_cons_zero] at fin
          exact fin
        · rintro vs W K hc hvl hw hK
          obtain ⟨x0, x1, x2, x3, x4, x5, x6, x7, rfl⟩ := len8 hvl
          have HK := Lib.hid hK
          have HC := Lib.hid hc
          have HW := Lib.hid hw
          clear hK hc hw hvl
          obtain rfl : x1 = .slice (some ⟨g, o, none⟩) (cs.length + 1) c := box_get (HW.out ⟨1, .data⟩ (by simp) rfl) rfl
          obtain rfl : x2 = .int .i64 ((k + 1 : Nat) : Int) := box_get (HW.out ⟨2, .data⟩ (by simp) rfl) rfl
          simp only [putAll, Act.put, List.setIfInBounds_toArray, List.set_cons_succ, List.set_cons_zero]
          clear HW
          go_wp2_with fail
          have fin := HK.out (.pointer (some ⟨g, o + (k + 1) * 4, none⟩)) W (Below.refl _ _) rfl
          simp only [putAll, Act.put, List.setIfInBounds_toArray, List.set_cons_succ, List.set_cons_zero] at fin
          exact fin
        · rintro vs W K hc hvl hw hK
          obtain ⟨x0, x1, x2, x3, x4, x5, x6, x7, rfl⟩ := len8 hvl
          have HK := Lib.hid hK
          have HC := Lib.hid hc
          have HW := Lib.hid hw
          clear hK hc hw hvl
          obtain rfl : x3 = .pointer (some ⟨g, o + (k + 1) * 4, none⟩) := box_get (HW.out ⟨3, .data⟩ (by simp) rfl) rfl
          simp only [putAll, Act.put, List.setIfInBounds_toArray, List.set_cons_succ, List.set_cons_zero]
          obtain ⟨k0, k1, k2, k3⟩ := HCP.out W HC.out
          clear HW
          go_wp2_with fail
          have fin := HK.out (.agg #[.int .i64 ck.X, .int .i64 ck.Y, .int .i64 ck.D, .int .i64 ck.R]) W (Below.refl _ _) rfl
          simp only [putAll, Act.put, List.setIfInBounds_toArray, List.set_cons_succ, List.set_cons_zero] at fin
          exact fin
        · rintro vs W K hc hvl hw hK
          obtain ⟨x0, x1, x2, x3, x4, x5, x6, x7, rfl⟩ := len8 hvl
          have HK := Lib.hid hK
          have HC := Lib.hid hc
          have HW := Lib.hid hw
          clear hK hc hw hvl
          simp only [putAll, Act.put, List.setIfInBounds_toArray, List.set_cons_succ, List.set_cons_zero]
          have rr := HR.out.2.1.below HC.out HR.out.2.1.lt
          have k0 := rr.cell 0
          have k1 := rr.cell 1
          have k2 := rr.cell 2
          have k3 := rr.cell 3
          simp only [List.getElem?_cons_zero, List.getElem?_cons_succ] at k0 k1 k2 k3
          clear rr
          clear HW
          go_wp2_with fail
          have fin := HK.out (.agg #[.int .i64 m.X, .int .i64 m.Y, .int .i64 m.D, .int .i64 m.R]) W (Below.refl _ _) rfl
          simp only [putAll, Act.put, List.setIfInBounds_toArray, List.set_cons_succ, List.set_cons_zero] at fin
          exact fin
        · rintro vs W K hc hvl hw hK
          obtain ⟨x0, x1, x2, x3, x4, x5, x6, x7, rfl⟩ := len8 hvl
          have HK := Lib.hid hK
          have HC := Lib.hid hc
          have HW := Lib.hid hw
          clear hK hc hw hvl
          obtain rfl : x0 = .func (.func 75) #[] #[] := box_get (HW.out ⟨0, .data⟩ (by simp) rfl) rfl
          obtain rfl : x4 = .agg #[.int .i64 ck.X, .int .i64 ck.Y, .int .i64 ck.D, .int .i64 ck.R] := box_get (HW.out ⟨4, .data⟩ (by simp) rfl) rfl
          obtain rfl : x5 = .agg #[.int .i64 m.X, .int .i64 m.Y, .int .i64 m.D, .int .i64 m.R] := box_get (HW.out ⟨5, .data⟩ (by simp) rfl) rfl
          simp only [putAll, Act.put, List.setIfInBounds_toArray, List.set_cons_succ, List.set_cons_zero]
          clear HW
          go_wp2_with fail
          refine (HCV.out W).mono ?_
          rintro e W' ⟨rfl, hb'⟩
          have HB' := Lib.hid hb'
          clear hb'
          go_wp2_with fail
          have fin := HK.out (.int .i64 q) W' HB'.out rfl
          simp only [putAll, Act.put, List.setIfInBounds_toArray, List.set_cons_succ, List.set_cons_zero] at fin
          exact fin
        · rintro vs W K hc hvl hw hK
          obtain ⟨x0, x1, x2, x3, x4, x5, x6, x7, rfl⟩ := len8 hvl
          have HK := Lib.hid hK
          have HC := Lib.hid hc
          have HW := Lib.hid hw
          clear hK hc hw hvl
          obtain rfl : x6 = .int .i64 q := box_get (HW.out ⟨6, .data⟩ (by simp) rfl) rfl
          simp only [putAll, Act.put, List.setIfInBounds_toArray, List.set_cons_succ, List.set_cons_zero]
          have hE2 : decide (q < 0) = E := HE.out
          clear HW
          go_wp2_with fail
          have fin := HK.out (.bool E) W (Below.refl _ _) rfl
          simp only [putAll, Act.put, List.setIfInBounds_toArray, List.set_cons_succ, List.set_cons_zero] at fin
          exact fin
      case fin =>
        rintro vs W hJ
        obtain ⟨x0, x1, x2, x3, x4, x5, x6, x7, rfl⟩ := len8 hJ.ln
        obtain rfl : x7 = .bool E := box_get (hJ.val 7 rfl) rfl
        have HC := Lib.hid hJ.bl
        clear hJ
        simp only [putAll, Act.put, List.setIfInBounds_toArray, List.set_cons_succ, List.set_cons_zero]
        have HR1 := Lib.hid (And.intro (HR.out.2.1.below HC.out HR.out.2.1.lt) (And.intro (HR.out.2.2.1.below HC.out HR.out.2.2.1.lt) (Below.andThen HR.out.2.2.2 HC.out (Nat.le_refl _))))
        cases E with
        | true =>
          have hq := of_decide_eq_true HE.out
          have HSM := Lib.hid (show ck = minL c0 (cs.take (k + 1)) by rw [HSN.out, if_pos hq])
          obtain ⟨k0, k1, k2, k3⟩ := HCP.out W HC.out
          have rT := HR1.out.1
          have t0 := rT.cell 0
          have t1 := rT.cell 1
          have t2 := rT.cell 2
          have t3 := rT.cell 3
          have g0 := frozen_of_row _ (w.heap.size + 1) 0 _ _ rT
          have g1 := frozen_of_row _ (w.heap.size + 1) 1 _ _ rT
          have g2 := frozen_of_row _ (w.heap.size + 1) 2 _ _ rT
          have g3 := frozen_of_row _ (w.heap.size + 1) 3 _ _ rT
          simp only [List.getElem?_cons_zero, List.getElem?_cons_succ] at t0 t1 t2 t3
          clear rT hq
          go_wp2_with fail
          refine ⟨⟨k + 1, ck, by omega, by simp, Lib.hid ⟨HSM.out, by simpa using (((HR1.out.1.set 0 (.int .i64 ck.X)).set 1 (.int .i64 ck.Y)).set 2 (.int .i64 ck.D)).set 3 (.int .i64 ck.R), ?_, ?_⟩⟩, by simp [intOf]; omega⟩
          · exact (((HR1.out.2.1.other 0 _ (by omega)).other 1 _ (by omega)).other 2 _ (by omega)).other 3 _ (by omega)
          · exact (((HR1.out.2.2.setCell (p := ⟨w.heap.size + 1, 0, none⟩) (by dsimp only; omega) _).setCell (p := ⟨w.heap.size + 1, 1, none⟩) (by dsimp only; omega) _).setCell (p := ⟨w.heap.size + 1, 2, none⟩) (by dsimp only; omega) _).setCell (p := ⟨w.heap.size + 1, 3, none⟩) (by dsimp only; omega) _
        | false =>
          have hq := of_decide_eq_false HE.out
          have HSM := Lib.hid (show m = minL c0 (cs.take (k + 1)) by rw [HSN.out, if_neg hq])
          clear hq
          go_wp2_with fail
          exact ⟨⟨k + 1, m, by omega, by simp, Lib.hid ⟨HSM.out, HR1.out⟩⟩, by simp [intOf]; omega⟩
    · have hd : decide (((k + 1 : Nat) : Int) < ((cs.length + 1 : Nat) : Int)) = false := decide_eq_false (by omega)
      have hdn : decide (k + 1 < cs.length + 1) = false := decide_eq_false (by omega)
      have hdn2 : decide (k < cs.length) = false := decide_eq_false (by omega)
      obtain rfl : k = cs.length := by omega
      have HM := Lib.hid (show m = minL c0 cs by have := HR.out.1; rwa [List.take_length] at this)
      have x0 := HR.out.2.1.cell 0
      have x1 := HR.out.2.1.cell 1
      have x2 := HR.out.2.1.cell 2
      have x3 := HR.out.2.1.cell 3
      have rT := HR.out.2.2.1
      have t0 := rT.cell 0
      have t1 := rT.cell 1
      have t2 := rT.cell 2
      have t3 := rT.cell 3
      have g0 := frozen_of_row _ w.heap.size 0 _ _ rT
      have g1 := frozen_of_row _ w.heap.size 1 _ _ rT
      have g2 := frozen_of_row _ w.heap.size 2 _ _ rT
      have g3 := frozen_of_row _ w.heap.size 3 _ _ rT
      simp only [List.getElem?_cons_zero, List.getElem?_cons_succ] at x0 x1 x2 x3 t0 t1 t2 t3
      clear rT
      go_wp2_with fail
      have hr := (((HR.out.2.2.1.set 0 (.int .i64 m.X)).set 1 (.int .i64 m.Y)).set 2 (.int .i64 m.D)).set 3 (.int .i64 m.R)
      have v0 := hr.cell 0
      have v1 := hr.cell 1
      have v2 := hr.cell 2
      have v3 := hr.cell 3
      simp only [List.set_cons_zero, List.set_cons_succ, List.getElem?_cons_zero, List.getElem?_cons_succ] at v0 v1 v2 v3
      refine bodyPost_ret (v := cirV m.X m.Y m.D m.R) (by simp [results, Try.results85, go_sem, v0, v1, v2, v3, cirV]) rfl ⟨by rw [HM.out]; rfl, ?_⟩
      exact (((HR.out.2.2.2.setCell (p := ⟨w.heap.size, 0, none⟩) (by dsimp only; omega) _).setCell (p := ⟨w.heap.size, 1, none⟩) (by dsimp only; omega) _).setCell (p := ⟨w.heap.size, 2, none⟩) (by dsimp only; omega) _).setCell (p := ⟨w.heap.size, 3, none⟩) (by dsimp only; omega) _
end Go.Proofs.Ytlemipnplgbckaa
