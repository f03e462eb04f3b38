import Derived.Test.YtlamppplnojpbaaJp
import Derived.Laws.AppendOwn
import Derived.Maps.OwnIn
import Derived.Maps.AppendAt
import Derived.RangeFuncNested
import Derived.RangeFuncBound
import Derived.RangeFuncCalls
import Derived.RangeFuncLeaves
import Derived.Shelf.Abstract
import Derived.Shelf.RegionOpen
import Derived.WalkKit
import Derived.WalkMore
import Derived.OwnWalkIn
import Derived.TacticsInMore
import Derived.LoopNIn
import Derived.LoopIn
import Derived.WalkSpells
import Derived.WalkLawsBesides
import Derived.BigQuiet
import Derived.Deep.QuietTactic
import Derived.Lib.Hide
import Derived.Deep.RegionHeld3
import Derived.StillTailTactics
import Derived.Deep.LoopGhost
import Derived.Maps.OwnSet
import Derived.Lib.IndexAny
import Derived.Sort.QuietThIn
import Derived.Sort.QuietTacIn
import Derived.Sort.BigQuietIn
namespace Go.Proofs.Ytlamppplnojpbaa
open Go.RowKit Go.Shelf
attribute [local go_sem] Oper.semAt_some
/-! the way back from a goal -/
def cmOf (A : Sn) (F : List Int) : Cm := (lookA A F).getD c0
def trc : Nat → Sn → Cm → List (Int × Int)
  | 0, _, _ => []
  | n + 1, A, c => (c.sa, c.sb) :: trc n A (cmOf A c.frm)
/-- a way of n steps leads back from here -/
def GoodT : Nat → Sn → Cm → Prop
  | 0, _, c => c.k = 0 ∧ c.frm.length = 4
  | n + 1, A, c => c.k = (n : Int) + 1 ∧ Fok c.frm ∧ GoodT n A (cmOf A c.frm)
theorem GoodT.k : ∀ (n : Nat) {A : Sn} {c : Cm}, GoodT n A c → c.k = (n : Int)
  | 0, _, _, h => by rw [GoodT] at h; simpa using h.1
  | n + 1, _, _, h => by rw [GoodT] at h; rw [h.1]; simp
theorem GoodT.len : ∀ (n : Nat) {A : Sn} {c : Cm}, GoodT n A c → c.frm.length = 4
  | 0, _, _, h => by rw [GoodT] at h; exact h.2
  | n + 1, _, _, h => by rw [GoodT] at h; exact h.2.1.1
theorem trc_len : ∀ (n : Nat) (A : Sn) (c : Cm), (trc n A c).length = n
  | 0, _, _ => rfl
  | n + 1, A, c => by rw [trc, List.length_cons, trc_len n A]
theorem look_cm {W : World} {b n : Nat} {A : Sn} (hs : SeenAt W b n (seenV A)) {q0 q1 q2 q3 : Int} (hF : Fok [q0, q1, q2, q3]) :
    (Instr.lookup 74 (.map (some b)) (.agg #[.int .i64 q0, .int .i64 q1, .int .i64 q2, .int .i64 q3]) false).run Try.prog W = .ok ((cmOf A [q0, q1, q2, q3]).V) W := by
  have h := hs.look1 hF
  rw [show aggI [q0, q1, q2, q3] = .agg #[.int .i64 q0, .int .i64 q1, .int .i64 q2, .int .i64 q3] from rfl] at h
  rw [h]
  unfold seenV cmOf
  cases lookA A [q0, q1, q2, q3] with
  | none => rw [Option.map_none, Option.getD_none, Option.getD_none, c0_V]
  | some c => rfl
def Cm.cs (c : Cm) : List Value := c.frm.map encI ++ [encI c.sa, encI c.sb, encI c.k]
theorem Cm.V_cs (c : Cm) : c.V = .agg c.cs.toArray := rfl
/-- the blocks r and b, and all of the type of the map's elements, lie as they lay -/
def KeepsC (r b : Nat) (W W' : World) : Prop := W.heap.size ≤ W'.heap.size ∧ ∀ g, (g = r ∨ g = b ∨ ∃ cs, W.heap[g]? = some (.cells cs 94 (0, 0))) → W'.heap[g]? = W.heap[g]?
theorem KeepsC.refl (r b : Nat) (W : World) : KeepsC r b W W := ⟨Nat.le_refl _, fun _ _ => rfl⟩
theorem KeepsC.trans {r b : Nat} {A B C : World} (h : KeepsC r b A B) (k : KeepsC r b B C) : KeepsC r b A C :=
  ⟨Nat.le_trans h.1 k.1, fun g hg => (k.2 g (by
    rcases hg with rfl | rfl | ⟨cs, hc⟩
    · exact .inl rfl
    · exact .inr (.inl rfl)
    · exact .inr (.inr ⟨cs, (h.2 g (.inr (.inr ⟨cs, hc⟩))).trans hc⟩))).trans (h.2 g hg)⟩
theorem KeepsC.of_below {r b : Nat} {W W' : World} (h : Below W.heap.size W W') (h1 : r < W.heap.size) (h2 : b < W.heap.size) : KeepsC r b W W' :=
  ⟨h.size, fun g hg => h.block g (by
    rcases hg with rfl | rfl | ⟨cs, hc⟩
    · exact h1
    · exact h2
    · exact (Array.getElem?_eq_some_iff.1 hc).1)⟩
theorem KeepsC.put {r b l : Nat} (h1 : r < l) (h2 : b < l) (W : World) {o : Obj} (o' : Obj) (hl : W.heap[l]? = some o) (ho : o.isCells = false) : KeepsC r b W (W.putObj l o') :=
  ⟨by simp, fun g hg => World.putObj_heap_other (by
    rcases hg with rfl | rfl | ⟨cs, hc⟩
    · omega
    · omega
    · intro e; subst e; rw [hl] at hc; cases hc; cases ho)⟩
theorem KeepsC.row {r b g : Nat} {W W' : World} {vs : List Value} (h : KeepsC r b W W') (hr : Row W g 94 vs) : Row W' g 94 vs :=
  (h.2 g (.inr (.inr ⟨_, hr⟩))).trans hr
theorem KeepsC.rowr {r b : Nat} {W W' : World} {E : TypeId} {vs : List Value} (h : KeepsC r b W W') (hr : Row W r E vs) : Row W' r E vs := (h.2 r (.inl rfl)).trans hr
theorem KeepsC.seen {r b n : Nat} {S : List Int → Option Value} {W W' : World} (h : KeepsC r b W W') (hs : SeenAt W b n S) : SeenAt W' b n S := by
  obtain ⟨D, ⟨es, clock, hb, F, hs, hD⟩, h2⟩ := hs
  exact ⟨D, ⟨es, clock, (h.2 b (.inr (.inl rfl))).trans hb, F, hs, hD⟩, h2⟩
theorem Cm.V4 {c : Cm} {x0 x1 x2 x3 : Int} (h : c.frm = [x0, x1, x2, x3]) : c.V = .agg #[.int .i64 x0, .int .i64 x1, .int .i64 x2, .int .i64 x3, .int .i64 c.sa, .int .i64 c.sb, .int .i64 c.k] := by
  simp [Cm.V, h, encI]
theorem Cm.cs4 {c : Cm} {x0 x1 x2 x3 : Int} (h : c.frm = [x0, x1, x2, x3]) : c.cs = [.int .i64 x0, .int .i64 x1, .int .i64 x2, .int .i64 x3, .int .i64 c.sa, .int .i64 c.sb, .int .i64 c.k] := by
  simp [Cm.cs, h, encI]
set_option maxRecDepth 100000 in
set_option maxHeartbeats 1000000 in
/-- **the steps come one after the other, from the goal on** -/
theorem way1_in (nf l r b : Nat) (A : Sn) (g0 g1 g2 g3 : Int) (ok : Bool) (hgf : Fok [g0, g1, g2, g3]) (n : Nat) (hn : n ≤ 1000000) (hG : GoodT n A (cmOf A [g0, g1, g2, g3])) (J : List (Int × Int) → World → Prop) (Jx : World → Prop)
    (hJ : ∀ pre W W', J pre W → W.grownBy W' none → J pre W')
    (hY : ∀ pre x W, J pre W → pre.length < n → YieldAt Fence.wide (nf - 1) Try.prog l #[encS x] W fun e W' =>
      (e = .returned (.bool true) ∧ J (pre ++ [x]) W' ∧ KeepsC r b W W') ∨ (e = .returned (.bool false) ∧ Jx W'))
    (W : World) (rr : Row W r 89 [.map (some b), .int .i64 g0, .int .i64 g1, .int .i64 g2, .int .i64 g3, .bool ok]) (hs : SeenAt W b A.length (seenV A)) (h0 : J [] W) :
    CallsIn Fence.wide nf Try.prog 71 #[.func (.yield l) #[] #[], .pointer (some ⟨r, 0, none⟩)] W fun e W' => (∃ v, e = .returned v) ∧ (J (trc n A (cmOf A [g0, g1, g2, g3])) W' ∨ Jx W') := by
  refine callsIn_of_wp Try.func71 rfl trivial ?_ rfl
  simp only [Try.ntmps71, List.size_toArray, List.length_cons, List.length_nil, Nat.reduceAdd, Nat.reduceSub, Array.replicate_succ, Array.replicate_zero, List.push_toArray, List.append_toArray, List.nil_append, List.cons_append]
  have HY := Lib.hid hY
  have H0 := Lib.hid h0
  have HJ := Lib.hid hJ
  have HG := Lib.hid hG
  have p0 : W.cell? ⟨r, 0, none⟩ = some (.map (some b)) := rr.cell 0
  have p1 : W.cell? ⟨r, 1, none⟩ = some (.int .i64 g0) := rr.cell 1
  have p2 : W.cell? ⟨r, 2, none⟩ = some (.int .i64 g1) := rr.cell 2
  have p3 : W.cell? ⟨r, 3, none⟩ = some (.int .i64 g2) := rr.cell 3
  have p4 : W.cell? ⟨r, 4, none⟩ = some (.int .i64 g3) := rr.cell 4
  have HRR := Lib.hid rr
  have HS := Lib.hid hs
  generalize hc0 : cmOf A [g0, g1, g2, g3] = c at *
  obtain ⟨x0, x1, x2, x3, hfr⟩ := agg4 c.frm (GoodT.len n HG.out)
  have hlk := look_cm hs hgf
  rw [hc0, Cm.V4 hfr] at hlk
  have HLK := Lib.hid hlk
  have HC0 := Lib.hid hc0
  have HFR := Lib.hid hfr
  have hrl := Lib.hid rr.lt
  have hbl := Lib.hid hs.lt
  clear hY h0 hJ hG rr hs hlk hc0 hfr
  gi_wp2_with fail
  rw [HLK.out, Result.andThen_ok]
  gi_wp2_with fail
  gi_loopw [3] (fun fv wr => ∃ (q i : Nat) (c' : Cm) (pre : List (Int × Int)), i ≤ n ∧ fv = .pointer (some ⟨q, 0, none⟩) ∧ Hid (Row wr q 94 c'.cs ∧ GoodT i A c' ∧ pre ++ trc i A c' = trc n A c ∧ pre.length + i = n ∧ J pre wr ∧ KeepsC r b W wr)) (fun fv wr => match fv with | .pointer (some a) => (match wr.cell? ⟨a.block, 6, none⟩ with | some v => (intOf v).toNat | none => 0) | _ => 0)
  case atStart =>
    have bz := (Below.refl W.heap.size W).alloc (Nat.le_refl _) (.cells #[.int .i64 x0, .int .i64 x1, .int .i64 x2, .int .i64 x3, .int .i64 c.sa, .int .i64 c.sb, .int .i64 c.k] 94)
    exact ⟨_, n, c, [], Nat.le_refl _, rfl, Lib.hid ⟨by rw [Cm.cs4 HFR.out]; exact Row.new _ _ _, HG.out, rfl, by simp, HJ.out _ _ _ H0.out ⟨bz.os, bz.tape, bz.output, bz.size, fun k hk _ => bz.block k hk⟩, KeepsC.of_below bz hrl.out hbl.out⟩⟩
  case round =>
    clear H0 HLK p0 p1 p2 p3 p4
    obtain ⟨q, i, c', pre, hi, rfl, HR⟩ := hrel
    obtain ⟨y0, y1, y2, y3, hfr'⟩ := agg4 c'.frm (GoodT.len i HR.out.2.1)
    have hrq := HR.out.1
    rw [Cm.cs4 hfr'] at hrq
    have hk := GoodT.k i HR.out.2.1
    have a0 : wr.cell? ⟨q, 0, none⟩ = some (.int .i64 y0) := hrq.cell 0
    have a1 : wr.cell? ⟨q, 1, none⟩ = some (.int .i64 y1) := hrq.cell 1
    have a2 : wr.cell? ⟨q, 2, none⟩ = some (.int .i64 y2) := hrq.cell 2
    have a3 : wr.cell? ⟨q, 3, none⟩ = some (.int .i64 y3) := hrq.cell 3
    have a4 : wr.cell? ⟨q, 4, none⟩ = some (.int .i64 c'.sa) := hrq.cell 4
    have a5 : wr.cell? ⟨q, 5, none⟩ = some (.int .i64 c'.sb) := hrq.cell 5
    have a6 : wr.cell? ⟨q, 6, none⟩ = some (.int .i64 c'.k) := hrq.cell 6
    rw [hk] at a6
    have HFR2 := Lib.hid hfr'
    have HRQ := Lib.hid hrq
    have HK := Lib.hid hk
    clear hfr' hrq hk
    cases i with
    | zero =>
      have hd : decide (((0 : Nat) : Int) > 0) = false := by decide
      have HX := Lib.hid (show J (trc n A c) wr by
        have h := HR.out.2.2
        rw [trc, List.append_nil] at h
        rw [← h.1]; exact h.2.2.1)
      gi_wp2_with fail
      refine ⟨(fun f h => by cases h), ?_⟩
      gi_wp2_with fail
      go_end0
      exact ⟨⟨_, rfl⟩, .inl HX.out⟩
    | succ i =>
      have ei : ((i + 1 : Nat) : Int) = (i : Int) + 1 := by omega
      rw [ei] at a6
      have HK2 := Lib.hid (HK.out.trans ei)
      clear ei
      have hd : decide ((i : Int) + 1 > 0) = true := decide_eq_true (by omega)
      obtain ⟨fn, tmps, assign, body, hyy, hRy⟩ := HY.out pre (c'.sa, c'.sb) wr HR.out.2.2.2.2.1 (by have := HR.out.2.2.2.1; omega)
      have hR2 := hRy.mono (R' := fun e W' => ∃ bb, e = .returned (.bool bb) ∧ Hid ((bb = true ∧ J (pre ++ [(c'.sa, c'.sb)]) W' ∧ KeepsC r b wr W') ∨ (bb = false ∧ Jx W'))) (by
        rintro e W' (⟨rfl, h⟩ | ⟨rfl, h⟩)
        · exact ⟨true, rfl, Lib.hid (.inl ⟨rfl, h⟩)⟩
        · exact ⟨false, rfl, Lib.hid (.inr ⟨rfl, h⟩)⟩)
      have HRY := Lib.hid hR2
      clear hRy hR2
      dsimp only [encS] at hyy
      gi_wp2_with fail
      refine ⟨(fun h => by cases h), ?_⟩
      refine HRY.out.mono ?_
      rintro e W3 ⟨bb, rfl, hp⟩
      cases bb
      · have HX := Lib.hid (show Jx W3 by
          rcases hp.out with ⟨h, _⟩ | ⟨_, h⟩
          · cases h
          · exact h)
        clear hp hyy HRY
        gi_wp2_with fail
        go_end0
        exact ⟨⟨_, rfl⟩, .inr HX.out⟩
      · have HX := Lib.hid (show J (pre ++ [(c'.sa, c'.sb)]) W3 ∧ KeepsC r b wr W3 by
          rcases hp.out with ⟨_, h⟩ | ⟨h, _⟩
          · exact h
          · cases h)
        have hk3 := HR.out.2.2.2.2.2.trans HX.out.2
        have hr3 := hk3.rowr HRR.out
        have hs3 := hk3.seen HS.out
        have hq3 := HX.out.2.row HRQ.out
        have fq := HR.out.2.1
        rw [GoodT] at fq
        rw [HFR2.out] at fq
        have hlk := look_cm hs3 fq.2.1
        have hgt := fq.2.2
        generalize hc2 : cmOf A [y0, y1, y2, y3] = c2 at *
        obtain ⟨z0, z1, z2, z3, hfz⟩ := agg4 c2.frm (GoodT.len i hgt)
        rw [Cm.V4 hfz] at hlk
        have ba := (Below.refl W3.heap.size W3).alloc (Nat.le_refl _) (.cells #[.int .i64 y0, .int .i64 y1, .int .i64 y2, .int .i64 y3, .int .i64 c'.sa, .int .i64 c'.sb, .int .i64 c'.k] 94)
        have hr4 := hr3.below ba hr3.lt
        have hs4 := hs3.grow ba
        have hlk4 := look_cm hs4 fq.2.1
        rw [hc2, Cm.V4 hfz] at hlk4
        rw [HK2.out] at hr4 hlk4 ba hs4 hq3
        have HLK4 := Lib.hid hlk4
        have a0 : W3.cell? ⟨q, 0, none⟩ = some (.int .i64 y0) := hq3.cell 0
        have a1 : W3.cell? ⟨q, 1, none⟩ = some (.int .i64 y1) := hq3.cell 1
        have a2 : W3.cell? ⟨q, 2, none⟩ = some (.int .i64 y2) := hq3.cell 2
        have a3 : W3.cell? ⟨q, 3, none⟩ = some (.int .i64 y3) := hq3.cell 3
        have a4 : W3.cell? ⟨q, 4, none⟩ = some (.int .i64 c'.sa) := hq3.cell 4
        have a5 : W3.cell? ⟨q, 5, none⟩ = some (.int .i64 c'.sb) := hq3.cell 5
        have a6 : W3.cell? ⟨q, 6, none⟩ = some (.int .i64 ((i : Int) + 1)) := hq3.cell 6
        have p0 : (W3.alloc (.cells #[.int .i64 y0, .int .i64 y1, .int .i64 y2, .int .i64 y3, .int .i64 c'.sa, .int .i64 c'.sb, .int .i64 ((i : Int) + 1)] 94)).cell? ⟨r, 0, none⟩ = some (.map (some b)) := hr4.cell 0
        have HR4 := Lib.hid hr4
        have HBA := Lib.hid ba
        have HC2 := Lib.hid hc2
        have HGT := Lib.hid hgt
        have HFZ := Lib.hid hfz
        clear hp hyy HRY hk3 hr3 hs3 hq3 fq hlk hgt hc2 hfz ba hr4 hs4 hlk4
        gi_wp2_with fail
        rw [HLK4.out, Result.andThen_ok]
        gi_wp2_with fail
        have bz := (Below.refl W3.heap.size W3).alloc (Nat.le_refl _) (.cells #[.int .i64 z0, .int .i64 z1, .int .i64 z2, .int .i64 z3, .int .i64 c2.sa, .int .i64 c2.sb, .int .i64 c2.k] 94)
        have rz := Row.new W3 94 [.int .i64 z0, .int .i64 z1, .int .i64 z2, .int .i64 z3, .int .i64 c2.sa, .int .i64 c2.sb, .int .i64 c2.k]
        have e6 : (W3.alloc (.cells #[.int .i64 z0, .int .i64 z1, .int .i64 z2, .int .i64 z3, .int .i64 c2.sa, .int .i64 c2.sb, .int .i64 c2.k] 94)).cell? ⟨W3.heap.size, 6, none⟩ = some (.int .i64 c2.k) := rz.cell 6
        have hkw := HR.out.2.2.2.2.2
        have h3 := HR.out.2.2.1
        rw [trc, HFR2.out, HC2.out] at h3
        refine ⟨⟨_, i, c2, pre ++ [(c'.sa, c'.sb)], by omega, rfl, Lib.hid ⟨by rw [Cm.cs4 HFZ.out]; exact rz, HGT.out, by rw [List.append_assoc]; exact h3, by rw [List.length_append, List.length_singleton]; have := HR.out.2.2.2.1; omega, HJ.out _ _ _ HX.out.1 ⟨bz.os, bz.tape, bz.output, bz.size, fun k hk _ => bz.block k hk⟩, (hkw.trans HX.out.2).trans (KeepsC.of_below bz ?_ ?_)⟩⟩, ?_⟩
        · have := HX.out.2.1; have := hkw.1; have := hrl.out; omega
        · have := HX.out.2.1; have := hkw.1; have := hbl.out; omega
        · dsimp only
          rw [e6, show wr.cell? ⟨q, 6, none⟩ = some (.int .i64 c'.k) from HRQ.out.cell 6, HK2.out]
          have := GoodT.k i HGT.out
          simp [intOf, this]
theorem way1_stops (nf r b : Nat) (A : Sn) (g0 g1 g2 g3 : Int) (ok : Bool) (hgf : Fok [g0, g1, g2, g3]) (n : Nat) (hn : n ≤ 1000000) (hG : GoodT n A (cmOf A [g0, g1, g2, g3])) (w : World)
    (rr : Row w r 89 [.map (some b), .int .i64 g0, .int .i64 g1, .int .i64 g2, .int .i64 g3, .bool ok]) (hs : SeenAt w b A.length (seenV A)) :
    SeqStopsK Fence.wide nf Try.prog 71 #[.pointer (some ⟨r, 0, none⟩)] (fun x : Int × Int => #[encS x]) (KeepsC r b) (fun ys => ys = trc n A (cmOf A [g0, g1, g2, g3])) (fun _ => True) n w := fun l J Jx W hW hJ _ hY h0 => by
  refine (way1_in nf l r b A g0 g1 g2 g3 ok hgf n hn hG J (fun W' => ∃ pf, Jx pf W') (fun pre W1 W2 h hg => hJ pre W1 W2 none h hg (fun r e => by cases e)) ?_ W (rr.below hW rr.lt) (hs.kept (row := none) ⟨hW.os, hW.tape, hW.output, hW.size, fun k hk _ => hW.block k hk⟩ (by simp)) h0).mono ?_
  · intro pre x W1 h hl
    obtain ⟨fn, tmps, assign, body, hy, hR⟩ := hY pre x W1 h hl
    refine ⟨fn, tmps, assign, body, hy, hR.mono ?_⟩
    rintro e W' (h | ⟨he, h1⟩)
    · exact .inl h
    · exact .inr ⟨he, _, h1⟩
  · rintro e W' ⟨he, hj | ⟨pf, hj⟩⟩
    · exact ⟨he, .inl ⟨_, rfl, hj⟩⟩
    · exact ⟨he, .inr ⟨_, trivial, hj⟩⟩
end Go.Proofs.Ytlamppplnojpbaa
