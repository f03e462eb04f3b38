import Derived.Test.YtbhlddfjfcmncaaZx
import Derived.Test.YtbhlddfjfcmncaaW
import Derived.Maps.OwnIn
import Derived.Maps.OwnSet
import Derived.RangeFuncNested
import Derived.RangeFuncBound
import Derived.RangeFuncCalls
import Derived.RangeFuncLeaves
import Derived.Shelf.Abstract
import Derived.Shelf.RegionOpen
import Derived.WalkKit
import Derived.OwnWalkIn
import Derived.TacticsInMore
import Derived.LoopNIn
import Derived.LoopIn
import Derived.WalkSpells
import Derived.WalkLawsBesides
import Derived.BigQuiet
import Derived.Deep.QuietTactic
import Derived.Lib.Hide
import Derived.Deep.RegionHeld3
import Derived.StillTailTactics
import Derived.Lib.MakeNoZero
import Derived.Laws.CopyOwn
import Derived.Deep.RegionLaw
import Derived.Deep.LoopGhost
import Derived.Deep.CutBlock
import Derived.Deep.DeepCutAuto
import Derived.Lib.IndexAny
namespace Go.Proofs.Ytbhlddfjfcmncaa
open Go.RowKit Go.Shelf
attribute [local go_sem] Oper.semAt_some
/-- two tides whose common span fits: the form of what they make -/
theorem join_fit {f r g s : ByteArray} (ht : tideB (f, r) = true) (hu : tideB (g, s) = true) (q : Bool → Bool → Bool) (h1 : spanF f g ≤ 60) (h2 : spanR r s ≤ 60) :
    ∃ a b : ByteArray, FormOf (joinY f r g s q) a b ∧ a.size ≤ spanF f g ∧ b.size ≤ spanR r s ∧ combR f r g s q = .tuple #[.agg #[.string a, .string b], .int .i64 0] := by
  obtain ⟨z1, z2, z3⟩ := tideB_size ht
  obtain ⟨y1, y2, y3⟩ := tideB_size hu
  obtain ⟨s1, s2⟩ := spanR_bd z3 z2 y3 y2
  obtain ⟨K, D, hF, e1, _⟩ := joins_made ht hu q
  have hp := join_per f r g s q
  have hK := hF.le_first hp s1
  have hD := Nat.le_of_dvd s1 (hF.dvd hp s1)
  have hO := FormOf.mk' hF (by omega) (by omega)
  refine ⟨_, _, hO, by rw [toS_size, rowF_length]; exact hK, by rw [toS_size, rowR_length]; exact hD, ?_⟩
  unfold combR
  rw [ht, hu, Bool.and_self, if_pos rfl, e1]; unfold rowV; rw [if_pos ⟨by omega, by omega⟩]
theorem Both_v {f r g s a b : ByteArray} (ht : tideB (f, r) = true) (hu : tideB (g, s) = true) (e : combR f r g s (fun a b => a && b) = .tuple #[.agg #[.string a, .string b], .int .i64 0]) :
    ∀ W, Calls Try.prog 25 #[.agg #[.string f, .string r], .agg #[.string g, .string s]] W fun e w' => e = .returned (.tuple #[.agg #[.string a, .string b], .int .i64 0]) ∧ Below W.heap.size W w' := fun W => by
  obtain ⟨z1, z2, z3⟩ := tideB_size ht
  obtain ⟨y1, y2, y3⟩ := tideB_size hu
  have := Both_any f r g s W (size_le _ z1) (size_le _ z2) (size_le _ y1) (size_le _ y2)
  rw [e] at this; exact this
theorem Either_v {f r g s a b : ByteArray} (ht : tideB (f, r) = true) (hu : tideB (g, s) = true) (e : combR f r g s (fun a b => a || b) = .tuple #[.agg #[.string a, .string b], .int .i64 0]) :
    ∀ W, Calls Try.prog 26 #[.agg #[.string f, .string r], .agg #[.string g, .string s]] W fun e w' => e = .returned (.tuple #[.agg #[.string a, .string b], .int .i64 0]) ∧ Below W.heap.size W w' := fun W => by
  obtain ⟨z1, z2, z3⟩ := tideB_size ht
  obtain ⟨y1, y2, y3⟩ := tideB_size hu
  have := Either_any f r g s W (size_le _ z1) (size_le _ z2) (size_le _ y1) (size_le _ y2)
  rw [e] at this; exact this
theorem Not_v {f r a b : ByteArray} (ht : tideB (f, r) = true) (e : combR f r f r (fun a _ => !a) = .tuple #[.agg #[.string a, .string b], .int .i64 0]) :
    ∀ W, Calls Try.prog 27 #[.agg #[.string f, .string r]] W fun e w' => e = .returned (.tuple #[.agg #[.string a, .string b], .int .i64 0]) ∧ Below W.heap.size W w' := fun W => by
  obtain ⟨z1, z2, z3⟩ := tideB_size ht
  have := Not_any f r W (size_le _ z1) (size_le _ z2)
  rw [e] at this; exact this
theorem Form_v {f r : ByteArray} (ht : tideB (f, r) = true) {a b : ByteArray} (hO : FormOf (hasB f r) a b) :
    ∀ W, Calls Try.prog 23 #[.agg #[.string f, .string r]] W fun e w' => e = .returned (.tuple #[.agg #[.string a, .string b], .int .i64 0]) ∧ Below W.heap.size W w' := fun W => by
  obtain ⟨z1, z2, z3⟩ := tideB_size ht
  have := Form_any f r W (size_le _ z1) (size_le _ z2)
  obtain ⟨e1, e2⟩ := (told_form ht).1.unique hO
  rw [ht, if_pos rfl, e1, e2] at this; exact this
theorem join_same {f r g s f' r' g' s' : ByteArray} {q q' : Bool → Bool → Bool} {a b a' b' : ByteArray} (h : FormOf (joinY f r g s q) a b) (h' : FormOf (joinY f' r' g' s' q') a' b') (e : ∀ i, q (hasB f r i) (hasB g s i) = q' (hasB f' r' i) (hasB g' s' i)) : a = a' ∧ b = b' :=
  (h.congr e).unique h'
theorem spanR_small {r s : ByteArray} {m n : Nat} (h1 : 1 ≤ r.size) (hr : r.size ≤ m) (hs : s.size ≤ n) : spanR r s ≤ m * n := Nat.le_trans (spanR_le h1) (Nat.mul_le_mul hr hs)
structure BooleF (F R G S pb qb po qo pn qn pm qm pd qd pf qf : ByteArray) : Prop where
  kb : tideB (pb, qb) = true
  ko : tideB (po, qo) = true
  kn : tideB (pn, qn) = true
  hb : ∀ i, hasB pb qb i = (hasB F R i && hasB G S i)
  ho : ∀ i, hasB po qo i = (hasB F R i || hasB G S i)
  hn : ∀ i, hasB pn qn i = !hasB F R i
  c1 : ∀ W, Calls Try.prog 25 #[.agg #[.string F, .string R], .agg #[.string G, .string S]] W fun e w' => e = .returned (.tuple #[.agg #[.string pb, .string qb], .int .i64 0]) ∧ Below W.heap.size W w'
  c2 : ∀ W, Calls Try.prog 26 #[.agg #[.string F, .string R], .agg #[.string G, .string S]] W fun e w' => e = .returned (.tuple #[.agg #[.string po, .string qo], .int .i64 0]) ∧ Below W.heap.size W w'
  c3 : ∀ W, Calls Try.prog 25 #[.agg #[.string G, .string S], .agg #[.string F, .string R]] W fun e w' => e = .returned (.tuple #[.agg #[.string pb, .string qb], .int .i64 0]) ∧ Below W.heap.size W w'
  c4 : ∀ W, Calls Try.prog 27 #[.agg #[.string F, .string R]] W fun e w' => e = .returned (.tuple #[.agg #[.string pn, .string qn], .int .i64 0]) ∧ Below W.heap.size W w'
  c5 : ∀ W, Calls Try.prog 27 #[.agg #[.string G, .string S]] W fun e w' => e = .returned (.tuple #[.agg #[.string pm, .string qm], .int .i64 0]) ∧ Below W.heap.size W w'
  c6 : ∀ W, Calls Try.prog 26 #[.agg #[.string pn, .string qn], .agg #[.string pm, .string qm]] W fun e w' => e = .returned (.tuple #[.agg #[.string pd, .string qd], .int .i64 0]) ∧ Below W.heap.size W w'
  c7 : ∀ W, Calls Try.prog 27 #[.agg #[.string pb, .string qb]] W fun e w' => e = .returned (.tuple #[.agg #[.string pd, .string qd], .int .i64 0]) ∧ Below W.heap.size W w'
  c8 : ∀ W, Calls Try.prog 27 #[.agg #[.string pn, .string qn]] W fun e w' => e = .returned (.tuple #[.agg #[.string pf, .string qf], .int .i64 0]) ∧ Below W.heap.size W w'
  c9 : ∀ W, Calls Try.prog 23 #[.agg #[.string F, .string R]] W fun e w' => e = .returned (.tuple #[.agg #[.string pf, .string qf], .int .i64 0]) ∧ Below W.heap.size W w'
theorem boole_facts {F R G S : ByteArray} (ht : tideB (F, R) = true) (hu : tideB (G, S) = true) (m1 : F.size ≤ 7) (m2 : R.size ≤ 7) (m3 : G.size ≤ 7) (m4 : S.size ≤ 7) :
    ∃ pb qb po qo pn qn pm qm pd qd pf qf, BooleF F R G S pb qb po qo pn qn pm qm pd qd pf qf := by
  obtain ⟨z1, z2, z3⟩ := tideB_size ht
  obtain ⟨y1, y2, y3⟩ := tideB_size hu
  have sp : spanF F G ≤ 7 := by unfold spanF; omega
  have sp' : spanF G F ≤ 7 := by unfold spanF; omega
  have sr := spanR_small z3 m2 m4
  have sr' := spanR_small y3 m4 m2
  obtain ⟨pb, qb, hb, lb1, lb2, eb⟩ := join_fit ht hu (fun a b => a && b) (by omega) (by omega)
  obtain ⟨po, qo, ho, lo1, lo2, eo⟩ := join_fit ht hu (fun a b => a || b) (by omega) (by omega)
  obtain ⟨pc, qc, hc, _, _, ec⟩ := join_fit hu ht (fun a b => a && b) (by omega) (by omega)
  obtain ⟨pn, qn, hn, ln1, ln2, en⟩ := join_fit ht ht (fun a _ => !a) (by unfold spanF; omega) (by rw [spanR_self z3]; omega)
  obtain ⟨pm, qm, hm, lm1, lm2, em⟩ := join_fit hu hu (fun a _ => !a) (by unfold spanF; omega) (by rw [spanR_self y3]; omega)
  rw [spanR_self z3] at ln2
  rw [spanR_self y3] at lm2
  have ln1' : pn.size ≤ 7 := by unfold spanF at ln1; omega
  have lm1' : pm.size ≤ 7 := by unfold spanF at lm1; omega
  have tn := hn.tide
  have tm := hm.tide
  have tb := hb.tide
  obtain ⟨_, _, n3⟩ := tideB_size tn
  obtain ⟨_, _, mm3⟩ := tideB_size tm
  obtain ⟨_, _, b3⟩ := tideB_size tb
  have srn := spanR_small n3 (show qn.size ≤ 7 by omega) (show qm.size ≤ 7 by omega)
  obtain ⟨pd, qd, hd, _, _, ed⟩ := join_fit tn tm (fun a b => a || b) (by unfold spanF; omega) (by omega)
  obtain ⟨pk, qk, hk, _, _, ek⟩ := join_fit tb tb (fun a _ => !a) (by unfold spanF; omega) (by rw [spanR_self b3]; omega)
  obtain ⟨pf, qf, hf, _, _, ef⟩ := join_fit tn tn (fun a _ => !a) (by unfold spanF; omega) (by rw [spanR_self n3]; omega)
  obtain ⟨rfl, rfl⟩ := join_same hc hb (fun i => Bool.and_comm _ _)
  obtain ⟨rfl, rfl⟩ := join_same hk hd (fun i => by
    show (!hasB pc qc i) = (hasB pn qn i || hasB pm qm i)
    rw [hb.has, hn.has, hm.has]; unfold joinY; cases hasB F R i <;> cases hasB G S i <;> rfl)
  refine ⟨_, _, po, qo, pn, qn, pm, qm, _, _, pf, qf, ⟨tb, ho.tide, tn, fun i => hb.has i, fun i => ho.has i, fun i => hn.has i, Both_v ht hu eb, Either_v ht hu eo, Both_v hu ht ec, Not_v ht en, Not_v hu em, Either_v tn tm ed, Not_v tb ek, Not_v tn ef, Form_v ht ?_⟩⟩
  exact hf.congr fun i => by show (!hasB pn qn i) = hasB F R i; rw [hn.has]; unfold joinY; cases hasB F R i <;> rfl
/-- what two calls in a row have left, whose answers go to two new structs -/
def twoG (W0 : World) (t u : Value) (F R G S : ByteArray) (bs : List Bool) (vs : List Value) (W : World) : Prop :=
  ∃ b0 t0 b1 b2 t1 b3 b4 b5 b6 b7 v0 u0 v1 v2 u1 v3 v4 v5, bs = [b0, t0, b1, b2, t1, b3, b4, b5, b6, b7] ∧ vs = [v0, u0, v1, v2, u1, v3, v4, v5] ∧
    TwoJ W0 t u F R G S b0 b1 b2 b3 b4 b5 b6 b7 v0 v1 v2 v3 v4 v5 W ∧ (t0 = true → u0 = .agg #[.string F, .string R]) ∧ (t1 = true → u1 = .agg #[.string G, .string S])
end Go.Proofs.Ytbhlddfjfcmncaa
