import Derived.Test.YtlamppplnojpbaaLo
import Derived.Test.YtlamppplnojpbaaLc
import Derived.Laws.AppendOwn
import Derived.ChangeKeysEq
import Derived.Maps.RangeWalk
import Derived.Maps.OwnIn
import Derived.Maps.AppendAt
import Derived.RangeFuncNested
import Derived.RangeFuncBound
import Derived.RangeFuncCalls
import Derived.RangeFuncLeaves
import Derived.Shelf.Abstract
import Derived.Shelf.RegionOpen
import Derived.WalkKit
import Derived.WalkMore
import Derived.OwnWalkIn
import Derived.TacticsInMore
import Derived.LoopNIn
import Derived.LoopIn
import Derived.WalkSpells
import Derived.WalkLawsBesides
import Derived.BigQuiet
import Derived.Deep.QuietTactic
import Derived.Lib.Hide
import Derived.Deep.RegionHeld3
import Derived.StillTailTactics
import Derived.Deep.LoopGhost
import Derived.Maps.OwnSet
import Derived.Lib.IndexAny
import Derived.Sort.QuietThIn
import Derived.Sort.QuietTacIn
import Derived.Sort.BigQuietIn
import Derived.Laws.OwnMore
namespace Go.Proofs.Ytlamppplnojpbaa
open Go.RowKit Go.Shelf
attribute [local go_sem] Oper.semAt_some
/-- what stands while JugOwn writes over its results -/
structure PO (w4 wr : World) (B : Nat) (sp : Option Addr) (m sc gg n cg gp k cp : Nat) : Prop where
  bl : Below w4.heap.size w4 wr
  s : ∃ qs : List Pt, qs.length = m ∧ OwnP wr w4.heap.size (.slice sp m sc) qs
  g : ∃ xs : List Int, xs.length = n ∧ wr.ownsRow w4.heap.size 3 1 (.slice (some ⟨gg, 0, none⟩) n cg) n (xs.map encI)
  p : ∃ ys : List Int, ys.length = k ∧ wr.ownsRow w4.heap.size 3 1 (.slice (some ⟨gp, 0, none⟩) k cp) k (ys.map encI)
  ne : gg ≠ gp
theorem PO.putS {w4 wr : World} {B : Nat} {m sc gg n cg gp k cp s0 : Nat} (h : PO w4 wr B (some ⟨s0, 0, none⟩) m sc gg n cg gp k cp) (i : Nat) (hi : i < m) (x y : Int) :
    PO w4 ((wr.setCell ⟨s0, i * 2, none⟩ (.int .i64 x)).setCell ⟨s0, i * 2 + 1, none⟩ (.int .i64 y)) B (some ⟨s0, 0, none⟩) m sc gg n cg gp k cp := by
  obtain ⟨qs, h1, h2⟩ := h.s
  obtain ⟨xs, g1, g2⟩ := h.g
  obtain ⟨ys, p1, p2⟩ := h.p
  have hg : OwnG wr w4.heap.size s0 sc qs := by unfold OwnG; rw [h1]; exact h2
  have hs := hg.set i (by omega) x y
  have hl : w4.heap.size ≤ s0 := (hg.pts (by intro e; rw [e] at h1; simp at h1; omega)).2.2
  have k1 := grown_set wr ⟨s0, i * 2, none⟩ (.int .i64 x)
  have k2 := grown_set (wr.setCell ⟨s0, i * 2, none⟩ (.int .i64 x)) ⟨s0, i * 2 + 1, none⟩ (.int .i64 y)
  have dg := own_differ g2 h2 (by decide)
  have dp := own_differ p2 h2 (by decide)
  unfold OwnG at hs
  rw [List.length_set, h1] at hs
  exact ⟨(h.bl.setCell (p := ⟨s0, i * 2, none⟩) hl _).setCell (p := ⟨s0, i * 2 + 1, none⟩) hl _, ⟨_, by rw [List.length_set]; exact h1, hs⟩, ⟨xs, g1, (g2.kept k1 dg).kept k2 dg⟩, ⟨ys, p1, (p2.kept k1 dp).kept k2 dp⟩, h.ne⟩
theorem PO.putG {w4 wr : World} {B : Nat} {sp : Option Addr} {m sc gg n cg gp k cp : Nat} (h : PO w4 wr B sp m sc gg n cg gp k cp) (i : Nat) (hi : i < n) (x : Int) :
    PO w4 (wr.setCell ⟨gg, i, none⟩ (.int .i64 x)) B sp m sc gg n cg gp k cp := by
  obtain ⟨qs, h1, h2⟩ := h.s
  obtain ⟨xs, g1, g2⟩ := h.g
  obtain ⟨ys, p1, p2⟩ := h.p
  have hl : w4.heap.size ≤ gg := (g2.lt gg rfl).1
  have k1 := grown_set wr ⟨gg, i, none⟩ (.int .i64 x)
  have ds := own_differ h2 g2 (by decide)
  refine ⟨h.bl.setCell (p := ⟨gg, i, none⟩) hl _, ⟨qs, h1, World.ownsRow.kept h2 k1 ds⟩, ⟨xs.set i x, by rw [List.length_set]; exact g1, own_put g2 i x⟩, ⟨ys, p1, p2.kept k1 (.inr (by simp [Value.ownBlock]; exact fun e => h.ne e.symm))⟩, h.ne⟩
theorem PO.putP {w4 wr : World} {B : Nat} {sp : Option Addr} {m sc gg n cg gp k cp : Nat} (h : PO w4 wr B sp m sc gg n cg gp k cp) (i : Nat) (hi : i < k) (x : Int) :
    PO w4 (wr.setCell ⟨gp, i, none⟩ (.int .i64 x)) B sp m sc gg n cg gp k cp := by
  obtain ⟨qs, h1, h2⟩ := h.s
  obtain ⟨xs, g1, g2⟩ := h.g
  obtain ⟨ys, p1, p2⟩ := h.p
  have hl : w4.heap.size ≤ gp := (p2.lt gp rfl).1
  have k1 := grown_set wr ⟨gp, i, none⟩ (.int .i64 x)
  have ds := own_differ h2 p2 (by decide)
  refine ⟨h.bl.setCell (p := ⟨gp, i, none⟩) hl _, ⟨qs, h1, World.ownsRow.kept h2 k1 ds⟩, ⟨xs, g1, g2.kept k1 (.inr (by simp [Value.ownBlock]; exact h.ne))⟩, ⟨ys.set i x, by rw [List.length_set]; exact p1, own_put p2 i x⟩, h.ne⟩
set_option maxRecDepth 100000 in
set_option maxHeartbeats 4000000 in
theorem JugOwn_any (zs ms : List Int) (v u : Value) (w : World) (hv : SlI w v zs) (hu : SlI w u ms) (h1 : zs.length ≤ 9223372036854775807) (h2 : ms.length ≤ 9223372036854775807) :
    Calls Try.prog 15 #[v, u] w fun e w' => e = .returned (.bool true) ∧ Below w.heap.size w w' := by
  have HT := Lib.hid (tame_any zs v 3 (by omega) w hv h1)
  have hj0 := tameF_jugs zs 3 (by omega)
  have hF := fun (x : Value) (W : World) (hx : SlI W x (tameF zs 3)) (hb : Below w.heap.size w W) => filled_any (tameF zs 3) ms x u W hx (hu.grow hb) hj0 h2
  have hfit0 := filF_fits ms hj0
  generalize tameF zs 3 = ss at *
  generalize filF ss ms = fs at *
  have hn := jugsB_len hj0
  have hfl := (fits_pad hj0 hfit0).2.1
  have HFEW := Lib.hid (fun (L : List Int) (hL : L.length ≤ 4) (x : Value) (W : World) (hx : SlI W x L) => show Calls Try.prog 16 #[x, .int .i64 4] W fun e w' => ∃ s, e = .returned s ∧ SlI w' s L ∧ Below W.heap.size W w' from (few_any L x 4 (by omega) W hx (by omega)).mono fun e w' ⟨s, a1, a2, a3⟩ => ⟨s, a1, by have := sli_own a2; rwa [List.take_of_length_le hL] at this, a3⟩)
  have hres0 : ∃ res, srch (padF ss) glN (ssF false ss.length) 28562 (padF []) = some res := by
    refine srch_ends (padF ss) glN (-1) (ss.length + 1) (.inl rfl) (by omega) _ ?_
    obtain ⟨_, _, _, hall, _⟩ := ss_facts hj0
    refine ⟨rfl, fun i hi => ?_⟩
    have e : (padF []).getD i 0 = 0 := by rw [padF_getD _ _ hi]; simp
    rw [e, padF_getD _ _ hi]
    by_cases h : i < ss.length
    · have := hall i h
      have := jugsB_in hj0 (List.getElem_mem h)
      rw [getD_lt h]; omega
    · rw [List.getD_eq_getElem?_getD, List.getElem?_eq_none (by omega)]; simp
  obtain ⟨res, hres⟩ := hres0
  have HAM := Lib.hid (fun (x : Value) (W : World) (hx : SlI W x ss) => by
    have h := Amounts_ok ss x W hx hj0 res hres
    rw [amounts_mult hj0 hres] at h
    exact h)
  have hml : (multL ss).length = maxF ss / gcdF ss + 1 := multL_len ss
  have hm0 : ∀ h : 0 < (multL ss).length, (multL ss)[0] = 0 := fun h => by rw [multL_get]; simp
  have hml12 : (multL ss).length ≤ 13 := by
    have := (ss_facts hj0).2.1
    have h2 : maxF ss / gcdF ss ≤ maxF ss := Nat.div_le_self _ _
    omega
  have hmp : 0 < (multL ss).length := by rw [hml]; exact Nat.succ_pos _
  have HST := Lib.hid (fun (x y : Value) (W : World) (hx : SlI W x ss) (hy : SlI W y fs) => Steps_ok ss fs x y false W hx (by omega) hy (errA_fits hj0 hfit0))
  have HPO := Lib.hid (fun (x y : Value) (W : World) (hx : SlI W x ss) (hy : SlI W y fs) => Pour_ok ss fs [] x y (.slice none 0 0) W hx hy ⟨none, 0, rfl, Nat.le_refl _, .inl rfl⟩ hj0 hfit0 (by simp))
  simp only [List.takeWhile_nil, List.length_nil, goF] at HPO
  have hLB : (stepsF (padF ss) (padF fs) (ssF false ss.length)).length ≤ 30 := by
    rw [← refL_steps ss fs false hj0 hfit0]
    exact refL_len ss fs false _ _ 0 (by omega) (by omega) (by omega)
  generalize stepsF (padF ss) (padF fs) (ssF false ss.length) = L at *
  have HM0 := Lib.hid (hm0 hmp)
  generalize multL ss = ML at *
  have HF := Lib.hid hF
  clear hj0 hfit0 hF hv hu h1 h2 hres hm0 hml
  have hLn : ∃ m, L.length = m := ⟨_, rfl⟩
  obtain ⟨m, hLm⟩ := hLn
  rw [hLm] at hLB
  have HLM := Lib.hid hLm
  obtain ⟨n, hnn⟩ : ∃ n, ss.length = n := ⟨_, rfl⟩
  rw [hnn] at hn hfl HPO
  have HNN := Lib.hid hnn
  have HFL := Lib.hid hfl
  clear hLm hnn hfl
  go_enter Try.func15, Try.ntmps15
  go_wp2_with fail
  refine HT.out.mono ?_
  rintro e w1 ⟨xv, rfl, hx, hb1⟩
  have HX1 := Lib.hid (sli_own hx)
  have HB1 := Lib.hid hb1
  clear hx hb1 HT
  go_wp2_with fail
  refine (HF.out xv w1 HX1.out HB1.out).mono ?_
  rintro e w2 ⟨fv, rfl, hf, hb2⟩
  have HF2 := Lib.hid (sli_own hf)
  have HX2 := Lib.hid (HX1.out.grow hb2)
  have HB2 := Lib.hid (Below.andThen HB1.out hb2 (Nat.le_refl _))
  clear hf hb2 HF HX1 HB1
  go_wp2_with fail
  refine (HFEW.out ss (by have := HNN.out; omega) xv w2 HX2.out).mono ?_
  rintro e w3 ⟨av, rfl, ha, hb3⟩
  have HA3 := Lib.hid ha
  have HX3 := Lib.hid (HX2.out.grow hb3)
  have HF3 := Lib.hid (HF2.out.grow hb3)
  have HB3 := Lib.hid (Below.andThen HB2.out hb3 (Nat.le_refl _))
  clear ha hb3 HX2 HF2 HB2
  go_wp2_with fail
  refine (HFEW.out fs (by have := HFL.out; omega) fv w3 HF3.out).mono ?_
  rintro e w4 ⟨bv, rfl, hb, hb4⟩
  have HBV := Lib.hid hb
  have HA4 := Lib.hid (HA3.out.grow hb4)
  have HX4 := Lib.hid (HX3.out.grow hb4)
  have HF4 := Lib.hid (HF3.out.grow hb4)
  have HB4 := Lib.hid (Below.andThen HB3.out hb4 (Nat.le_refl _))
  clear hb hb4 HX3 HF3 HB3 HA3
  go_wp2_with fail
  refine (HST.out xv fv w4 HX4.out HF4.out).mono ?_
  rintro e w5 ⟨s, rfl, hs, hb5⟩
  have HS5 := Lib.hid hs
  have HB5 := Lib.hid hb5
  clear hs hb5 HST
  go_wp2_with fail
  refine (HPO.out xv fv w5 (HX4.out.grow HB5.out) (HF4.out.grow HB5.out)).mono ?_
  rintro e w6 ⟨g, rfl, hg, hb6⟩
  obtain ⟨gg, cg, rfl, _⟩ := own_slice hg (by omega)
  have HG6 := Lib.hid hg
  have HS6 := Lib.hid (own_grow HS5.out hb6)
  have HB6 := Lib.hid (Below.andThen HB5.out hb6 (Nat.le_refl _))
  have HBS := Lib.hid HB5.out.size
  clear hg hb6 HPO HB5 HS5
  go_wp2_with fail
  refine (HAM.out xv w6 (HX4.out.grow HB6.out)).mono ?_
  rintro e w7 ⟨p, rfl, hp, hb7⟩
  obtain ⟨gp, cp, rfl, _⟩ := own_slice hp hmp
  obtain ⟨sp, sc, rfl, _⟩ := OwnP.open HS6.out
  have hpo : PO w4 w7 0 sp m sc gg n cg gp ML.length cp := by
    have hl := HLM.out
    refine ⟨Below.andThen HB6.out hb7 (Nat.le_refl _), ⟨L, hl, by rw [← hl]; exact own_grow HS6.out hb7⟩, ⟨fs, HFL.out, owns_mono (own_grow HG6.out hb7) HBS.out⟩, ⟨ML, rfl, owns_mono hp HB6.out.size⟩, ?_⟩
    have h1 := (HG6.out.lt gg rfl).2
    have h2 := (hp.lt gp rfl).1
    intro e
    rw [e] at h1
    exact absurd h1 (by omega)
  have HPOO := Lib.hid hpo
  rw [HLM.out]
  clear hp hb7 hpo HS6 HG6 HB6 HBS
  go_wp2_with fail
  go_loopw [16] (fun iv wr => ∃ i : Nat, i ≤ m ∧ iv = .int .i64 (i : Int) ∧ Hid (PO w4 wr 0 sp m sc gg n cg gp ML.length cp)) (fun iv _ => (m - intOf iv).toNat)
  case atStart => exact ⟨0, by omega, by simp, HPOO⟩
  case round =>
    clear HPOO
    obtain ⟨i, hi', rfl, HQ⟩ := hrel
    have iw : IntKind.i64.wrap ((i : Int) + 1) = ((i + 1 : Nat) : Int) := by rw [i64_of _ (by omega) (by omega)]; omega
    by_cases him : i < m
    · have hd2 : decide ((i : Int) < (m : Int)) = true := decide_eq_true (by omega)
      have hd2n : decide (i < m) = true := decide_eq_true him
      obtain ⟨qs, hql, hq⟩ := HQ.out.s
      obtain ⟨s0, rfl⟩ : ∃ s0, sp = some ⟨s0, 0, none⟩ := by
        obtain ⟨a, c', e, h⟩ := OwnP.open hq
        cases e
        rcases h with ⟨_, _, h⟩ | ⟨g, _, h, h2, _⟩
        · rw [h] at him; exact absurd him (by simp)
        · exact ⟨g, h⟩
      have hog : OwnG wr w4.heap.size s0 sc qs := by unfold OwnG; rw [hql]; exact hq
      have z1 := hog.frozen (i * 2)
      have z2 := hog.frozen (i * 2 + 1)
      have hiq : i < qs.length := by rw [hql]; exact him
      have hpt := (hog.pts (by intro h; rw [h] at hiq; simp at hiq)).1
      have c1 := hpt.x i hiq
      have c2 := hpt.y i hiq
      rw [Nat.zero_add] at c1 c2
      generalize qs[i].1 = px at *
      generalize qs[i].2 = py at *
      clear hq hog hql hpt hiq
      go_wp2_with fail
      go_roundw
      case rel => exact ⟨i + 1, by omega, by simp, Lib.hid (HQ.out.putS i him _ _)⟩
      case measure => simp [intOf]; omega
    · have hd2 : decide ((i : Int) < (m : Int)) = false := decide_eq_false (by omega)
      have hd2n : decide (i < m) = false := decide_eq_false him
      go_wp2_with fail
      go_loopw [17] (fun iv wr => ∃ i : Nat, i ≤ n ∧ iv = .int .i64 (i : Int) ∧ Hid (PO w4 wr 0 sp m sc gg n cg gp ML.length cp)) (fun iv _ => (n - intOf iv).toNat)
      case atStart => exact ⟨0, by omega, by simp, HQ⟩
      case round =>
        clear HQ
        obtain ⟨j, hj', rfl, HQ⟩ := hrel
        have jw : IntKind.i64.wrap ((j : Int) + 1) = ((j + 1 : Nat) : Int) := by rw [i64_of _ (by omega) (by omega)]; omega
        by_cases hjn : j < n
        · have hd3 : decide ((j : Int) < (n : Int)) = true := decide_eq_true (by omega)
          have hd3n : decide (j < n) = true := decide_eq_true hjn
          obtain ⟨xs, _, g2⟩ := HQ.out.g
          obtain ⟨c1, z1⟩ := own_cell g2 j hjn
          generalize xs.getD j 0 = xj at *
          clear g2
          go_wp2_with fail
          go_roundw
          case rel => exact ⟨j + 1, by omega, by simp, Lib.hid (HQ.out.putG j hjn _)⟩
          case measure => simp [intOf]; omega
        · have hd3 : decide ((j : Int) < (n : Int)) = false := decide_eq_false (by omega)
          have hd3n : decide (j < n) = false := decide_eq_false hjn
          go_wp2_with fail
          go_loopw [18] (fun iv wr => ∃ i : Nat, i ≤ ML.length ∧ iv = .int .i64 (i : Int) ∧ Hid (PO w4 wr 0 sp m sc gg n cg gp ML.length cp)) (fun iv _ => (ML.length - intOf iv).toNat)
          case atStart => exact ⟨0, by omega, by simp, HQ⟩
          case round =>
            clear HQ
            obtain ⟨l, hl', rfl, HQ⟩ := hrel
            have lw : IntKind.i64.wrap ((l : Int) + 1) = ((l + 1 : Nat) : Int) := by rw [i64_of _ (by omega) (by omega)]; omega
            by_cases hln : l < ML.length
            · have hd4 : decide ((l : Int) < (ML.length : Int)) = true := decide_eq_true (by omega)
              have hd4n : decide (l < ML.length) = true := decide_eq_true hln
              obtain ⟨xs, _, g2⟩ := HQ.out.p
              obtain ⟨c1, z1⟩ := own_cell g2 l hln
              generalize xs.getD l 0 = xj at *
              clear g2
              go_wp2_with fail
              go_roundw
              case rel => exact ⟨l + 1, by omega, by simp, Lib.hid (HQ.out.putP l hln _)⟩
              case measure => simp [intOf]; omega
            · have hd4 : decide ((l : Int) < (ML.length : Int)) = false := decide_eq_false (by omega)
              have hd4n : decide (l < ML.length) = false := decide_eq_false hln
              have HBL := Lib.hid HQ.out.bl
              clear HQ
              go_wp2_with fail
              refine (HAM.out xv wr (HX4.out.grow HBL.out)).mono ?_
              rintro e w8 ⟨q, rfl, hq, hb8⟩
              obtain ⟨gq, cq, rfl, _⟩ := own_slice hq hmp
              have HB8 := Lib.hid (Below.andThen HBL.out hb8 (Nat.le_refl _))
              have HQ8 := Lib.hid hq
              clear hq hb8 HBL
              have HI1 := Lib.hid (ints_sli ss ss xv av w8 (HX4.out.grow HB8.out) (HA4.out.grow HB8.out) (by have := HNN.out; omega) (by have := HNN.out; omega))
              have HI2 := Lib.hid (fun (W : World) (hb : Below w8.heap.size w8 W) => ints_sli fs fs fv bv W ((HF4.out.grow HB8.out).grow hb) ((HBV.out.grow HB8.out).grow hb) (by have := HFL.out; omega) (by have := HFL.out; omega))
              rw [decide_eq_true rfl] at HI1
              simp only [decide_eq_true] at HI2
              go_wp2_with fail
              refine HI1.out.mono ?_
              rintro e w9 ⟨rfl, hb9⟩
              have HB9 := Lib.hid hb9
              clear hb9 HI1
              go_wp2_with fail
              refine (HI2.out w9 HB9.out).mono ?_
              rintro e w10 ⟨rfl, hb10⟩
              have HB10 := Lib.hid (Below.andThen HB9.out hb10 (Nat.le_refl _))
              clear hb10 HI2
              have hq0 := (own_cell (own_grow HQ8.out HB10.out) 0 hmp).1
              rw [getD_lt hmp, HM0.out] at hq0
              have dl : decide (0 < (ML.length : Int)) = true := decide_eq_true (by omega)
              have dln : decide (0 < ML.length) = true := decide_eq_true hmp
              go_wp2_with fail
              refine (awake_any _).mono ?_
              rintro e w11 ⟨rfl, hb⟩
              have HE := Lib.hid (Below.andThen HB4.out (Below.andThen (Below.andThen HB8.out HB10.out (Nat.le_refl _)) hb (Nat.le_refl _)) (Nat.le_refl _))
              clear hb
              go_wp2_with fail
              go_ret
              exact ⟨rfl, HE.out⟩
end Go.Proofs.Ytlamppplnojpbaa
