import Derived.Test.YtlamppplnojpbaaJm
import Derived.Laws.AppendOwn
import Derived.Maps.OwnIn
import Derived.Maps.AppendAt
import Derived.RangeFuncNested
import Derived.RangeFuncBound
import Derived.RangeFuncCalls
import Derived.RangeFuncLeaves
import Derived.Shelf.Abstract
import Derived.Shelf.RegionOpen
import Derived.WalkKit
import Derived.WalkMore
import Derived.OwnWalkIn
import Derived.TacticsInMore
import Derived.LoopNIn
import Derived.LoopIn
import Derived.WalkSpells
import Derived.WalkLawsBesides
import Derived.BigQuiet
import Derived.Deep.QuietTactic
import Derived.Lib.Hide
import Derived.Deep.RegionHeld3
import Derived.StillTailTactics
import Derived.Deep.LoopGhost
import Derived.Maps.OwnSet
import Derived.Lib.IndexAny
import Derived.Sort.QuietThIn
import Derived.Sort.QuietTacIn
import Derived.Sort.BigQuietIn
namespace Go.Proofs.Ytlamppplnojpbaa
open Go.RowKit Go.Shelf
attribute [local go_sem] Oper.semAt_some
theorem seenV_none {A : Sn} {F : List Int} (h : (lookA A F).isSome = false) : seenV A F = none := by
  unfold seenV
  cases hl : lookA A F with
  | none => rfl
  | some c => rw [hl] at h; cases h
/-- the first range over a function in a code -/
def firstRange : Code → Option Code
  | .seq x y => (firstRange x).orElse fun _ => firstRange y
  | .cond _ x y => (firstRange x).orElse fun _ => firstRange y
  | .loop c | .block _ c | .scope c => firstRange c
  | .rangeFunc g p a b => some (.rangeFunc g p a b)
  | _ => none
/-- what holds in a range over the steps of a filling -/
structure Rd (w W0 : World) (S R H : Nat) (F : List Int) (fd fg : Value) (q : List Int) (cn : Int) (A : Sn) (qs : List (List Int)) (v : Value) (W : World) : Prop where
  b : SrB W w.heap.size S F fd fg
  rR : Row W R 89 [.map (some (w.heap.size + 1 + 1 + 1 + 1)), .int .i64 0, .int .i64 0, .int .i64 0, .int .i64 0, .bool false]
  rQ : Row W (R + 1 + 1) 102 [v]
  rH : Row W H 77 (q.map encI)
  rC : Row W (H + 1) 3 [.int .i64 cn]
  q : QAt W 0 v qs
  ap : ∀ g, v.ownBlock = some g → R + 1 ≤ g ∧ g ≠ R + 1 + 1 ∧ g ≠ H ∧ g ≠ H + 1
  sn : SeenAt W (w.heap.size + 1 + 1 + 1 + 1) A.length (seenV A)
  bw : Below w.heap.size w W
  hR : S < R
  hH : R + 1 + 1 < H
  ok4 : ∀ p ∈ A, p.2.frm.length = 4
  mrk : ∀ D, R < D → W0.heap[D]? = some (.deferred (some [])) → W.heap[D]? = some (.deferred (some []))
theorem wpListIn_append_run {F : Fence} {nF : Nat} {P : Program} {w : World} {ops : Array Oper} {rest : List Oper} {o : Oper} {a : Act} {Q : Exit → Act → World → Prop} (hgd : o.guard = none) (s x : Operand) (t : TypeId) (ho : o.op = .call { callee := .builtin .append, args := #[s, x], argTypes := #[t, t] })
    (v1 v2 v : Value) (w' : World) (hs : a.eval s = v1) (hx : a.eval x = v2) (hr : (Builtin.append_ #[t, t] o.type #[v1, v2]).run P w = .ok v w') (h : wpListIn F nF P ops Q rest (a.put o.dst v) w') : wpListIn F nF P ops Q (o :: rest) a w := by
  refine wpListIn_plain hgd fun K hK => ?_
  unfold Oper.wpIn
  refine ⟨by simp [Oper.about, ho, resolve, Target.leads, Sem.run_pure], ?_⟩
  rw [Oper.semAt_plain F _ _ (by rw [ho]; intro c hc'; cases hc')]
  simp [execOp, ho, resolve, invoke, builtin, hs, hx, hr, Result.andThen]
  exact hK _ _ h
theorem five_set (W : World) (b : Nat) (v1 v2 v3 v4 v5 : Value) : W.grownBy (((((W.setCell ⟨b, 1, none⟩ v1).setCell ⟨b, 2, none⟩ v2).setCell ⟨b, 3, none⟩ v3).setCell ⟨b, 4, none⟩ v4).setCell ⟨b, 5, none⟩ v5) (some b) :=
  ((((one_set _ _ _ _).trans (one_set _ _ _ _)).trans (one_set _ _ _ _)).trans (one_set _ _ _ _)).trans (one_set _ _ _ _)
theorem keeps_below {B : Nat} {W W' : World} (hb : Below W.heap.size W W') : KeepsFrom B W W' := KeepsFrom.of_grownBy (row := none) ⟨hb.os, hb.tape, hb.output, hb.size, fun k hk _ => hb.block k hk⟩ (by simp)
theorem keeps_row {B r : Nat} {W W' : World} (hg : W.grownBy W' (some r)) (hr : r < B) : KeepsFrom B W W' := KeepsFrom.of_grownBy hg (fun j e => by have := Option.some.inj e; omega)
/-- a mark stays where only another block changes -/
theorem mark_kept {W W' : World} {D : Nat} {row : Option Nat} (h : W.heap[D]? = some (.deferred (some []))) (hg : W.grownBy W' row) (hr : ∀ r, row = some r → ∀ o, W.heap[r]? = some o → o.isCells = false → r ≠ D) : W'.heap[D]? = some (.deferred (some [])) := by
  rw [hg.block D (Array.getElem?_eq_some_iff.1 h).1 (fun e => hr D e.symm _ h rfl rfl)]; exact h
theorem mark_row {W W' : World} {D g : Nat} {E : TypeId} {vs : List Value} (h : W.heap[D]? = some (.deferred (some []))) (hg : W.grownBy W' (some g)) (hr : Row W g E vs) : W'.heap[D]? = some (.deferred (some [])) :=
  mark_kept h hg (fun r e o ho hc => by cases e; rw [show W.heap[g]? = _ from hr] at ho; cases ho; cases hc)
/-- what holds where the search has come to a goal -/
structure Rx (w W0 : World) (S R : Nat) (F : List Int) (fd fg : Value) (A : Sn) (g0 g1 g2 g3 : Int) (W : World) : Prop where
  b : SrB W w.heap.size S F fd fg
  rR : Row W R 89 [.map (some (w.heap.size + 1 + 1 + 1 + 1)), .int .i64 g0, .int .i64 g1, .int .i64 g2, .int .i64 g3, .bool true]
  sn : SeenAt W (w.heap.size + 1 + 1 + 1 + 1) A.length (seenV A)
  bw : Below w.heap.size w W
  hR : S < R
  mrk : ∀ D, R < D → W0.heap[D]? = some (.deferred (some [])) → W.heap[D]? = some (.deferred (some []))
theorem lasts_rx (B : Nat) (w W0 : World) (S R : Nat) (F : List Int) (fd fg : Value) (A : Sn) (g0 g1 g2 g3 : Int) (hB : R < B) (hB0 : W0.heap.size ≤ B) : Lasts B (fun W => Rx w W0 S R F fd fg A g0 g1 g2 g3 W) := fun W W' row hi hg hr => by
  have hS := hi.b.hS
  have hR := hi.hR
  have rw' : ∀ (g : Nat) (E : TypeId) (vs : List Value), Row W g E vs → Row W' g E vs := fun g E vs h => lasts_row B g E vs W W' row h hg hr
  exact ⟨⟨rw' _ _ _ hi.b.r0, rw' _ _ _ hi.b.r1, rw' _ _ _ hi.b.r2, rw' _ _ _ hi.b.r3, rw' _ _ _ hi.b.rS, hi.b.hS⟩, rw' _ _ _ hi.rR, lasts_seen B _ _ _ (by omega) W W' row hi.sn hg hr, lasts_below B _ w (by omega) (Nat.le_refl _) W W' row hi.bw hg hr, hi.hR, fun D hD h0 => mark_kept (hi.mrk D hD h0) hg (fun r e _ _ _ => by have := (hr r e).1; have := (Array.getElem?_eq_some_iff.1 h0).1; omega)⟩
theorem Rd.put {w W0 W W' : World} {S R H : Nat} {F : List Int} {fd fg : Value} {q : List Int} {cn : Int} {A : Sn} {qs : List (List Int)} {v : Value} (h : Rd w W0 S R H F fd fg q cn A qs v W) (hg : W.grownBy W' (some (w.heap.size + 1 + 1 + 1 + 1))) (Y : List Int) (c : Cm) (hc : c.frm.length = 4)
    (hs : SeenAt W' (w.heap.size + 1 + 1 + 1 + 1) (A.length + 1) (putS (seenV A) Y c.V)) : Rd w W0 S R H F fd fg q cn ((Y, c) :: A) qs v W' := by
  have hS := h.b.hS
  have hR := h.hR
  have hH := h.hH
  have rk : ∀ (g : Nat) (E : TypeId) (vs : List Value), g ≠ w.heap.size + 1 + 1 + 1 + 1 → Row W g E vs → Row W' g E vs := fun g E vs hne h => h.kept hg (fun e => hne (Option.some.inj e))
  rw [seenV_cons] at hs
  refine ⟨⟨rk _ _ _ (by omega) h.b.r0, rk _ _ _ (by omega) h.b.r1, rk _ _ _ (by omega) h.b.r2, rk _ _ _ (by omega) h.b.r3, rk _ _ _ (by omega) h.b.rS, hS⟩, rk _ _ _ (by omega) h.rR, rk _ _ _ (by omega) h.rQ, rk _ _ _ (by omega) h.rH, rk _ _ _ (by omega) h.rC, h.q.kept hg (fun e => ?_), h.ap, hs, h.bw.grown hg h.bw.size (fun k e => by have := Option.some.inj e; omega), hR, hH, fun p hp => ?_, fun D hD h0 => mark_kept (h.mrk D hD h0) hg (fun r e _ _ _ => by have := Option.some.inj e; omega)⟩
  · have := (h.ap _ e).1; omega
  · rcases List.mem_cons.1 hp with rfl | hp
    · exact hc
    · exact h.ok4 p hp
theorem Rd.push {w W0 W W7 : World} {S R H : Nat} {F : List Int} {fd fg : Value} {q : List Int} {cn : Int} {A : Sn} {qs : List (List Int)} {v v7 : Value} {Y : List Int} (h : Rd w W0 S R H F fd fg q cn A qs v W) (hq : QAt W7 0 v7 (qs ++ [Y])) (hg : W.grownBy W7 v.ownBlock)
    (ho : v7.ownBlock = v.ownBlock ∨ ∃ g, v7.ownBlock = some g ∧ W.heap.size ≤ g) (hHs : H + 1 < W.heap.size) : Rd w W0 S R H F fd fg q cn A (qs ++ [Y]) v7 (W7.setCell ⟨R + 1 + 1, 0, none⟩ v7) := by
  have hS := h.b.hS
  have hR := h.hR
  have hH := h.hH
  have G := one_set W7 (R + 1 + 1) 0 v7
  have rk0 : ∀ (g : Nat) (E : TypeId) (vs : List Value), (g ≤ R ∨ g = R + 1 + 1 ∨ g = H ∨ g = H + 1) → Row W g E vs → Row W7 g E vs := fun g E vs hne hr => hr.kept hg (fun e => by have := h.ap g e.symm; omega)
  have rk : ∀ (g : Nat) (E : TypeId) (vs : List Value), (g ≤ R ∨ g = H ∨ g = H + 1) → Row W g E vs → Row (W7.setCell ⟨R + 1 + 1, 0, none⟩ v7) g E vs := fun g E vs hne hr => (rk0 g E vs (by omega) hr).kept G (fun e => by have := Option.some.inj e; omega)
  have ap7 : ∀ g, v7.ownBlock = some g → R + 1 ≤ g ∧ g ≠ R + 1 + 1 ∧ g ≠ H ∧ g ≠ H + 1 := fun g e => by
    rcases ho with h1 | ⟨g', h1, h2⟩
    · exact h.ap g (h1 ▸ e)
    · rw [h1] at e; have := Option.some.inj e; omega
  have rq := (rk0 _ _ _ (by omega) h.rQ).set 0 v7
  have hap2 : ∀ D r, v.ownBlock = some r → ∀ o, W.heap[r]? = some o → o.isCells = false → r ≠ D := fun D r e o hor hc => by
    obtain ⟨_, g9, o9, c9, cur9, rfl, _, hh9, _⟩ := h.q
    have e2 := Option.some.inj e
    rw [← e2, hh9] at hor; cases hor; cases hc
  have bwg : Below w.heap.size w W7 := h.bw.grown hg h.bw.size (fun k e => by have := h.ap k e; omega)
  exact ⟨⟨rk _ _ _ (by omega) h.b.r0, rk _ _ _ (by omega) h.b.r1, rk _ _ _ (by omega) h.b.r2, rk _ _ _ (by omega) h.b.r3, rk _ _ _ (by omega) h.b.rS, hS⟩, rk _ _ _ (by omega) h.rR, rq, rk _ _ _ (by omega) h.rH, rk _ _ _ (by omega) h.rC,
    hq.kept G (fun e => (ap7 _ e).2.1 rfl), ap7, (h.sn.kept hg (fun e => by have := h.ap _ e.symm; omega)).kept G (fun e => by have := Option.some.inj e; omega), bwg.grown G bwg.size (fun k e => by have := Option.some.inj e; have := h.b.r0.lt; omega), hR, hH, h.ok4, fun D hD h0 => mark_row (mark_kept (h.mrk D hD h0) hg (hap2 D)) G (rk0 _ _ _ (by omega) h.rQ)⟩
theorem look_next {W : World} {b n : Nat} {A : Sn} (hs : SeenAt W b n (seenV A)) {q0 q1 q2 q3 : Int} (hF : Fok [q0, q1, q2, q3]) (hA : ∀ p ∈ A, p.2.frm.length = 4) :
    ∃ x0 x1 x2 x3 x4 x5 x6 : Int, (Instr.lookup 74 (.map (some b)) (.agg #[.int .i64 q0, .int .i64 q1, .int .i64 q2, .int .i64 q3]) true).run Try.prog W = .ok (.tuple #[.agg #[.int .i64 x0, .int .i64 x1, .int .i64 x2, .int .i64 x3, .int .i64 x4, .int .i64 x5, .int .i64 x6], .bool (lookA A [q0, q1, q2, q3]).isSome]) W := by
  have h := hs.look hF
  rw [show aggI [q0, q1, q2, q3] = .agg #[.int .i64 q0, .int .i64 q1, .int .i64 q2, .int .i64 q3] from rfl] at h
  rw [h]
  unfold seenV
  cases hl : lookA A [q0, q1, q2, q3] with
  | none => exact ⟨0, 0, 0, 0, 0, 0, 0, rfl⟩
  | some c =>
    obtain ⟨a, b, c', d, e⟩ := agg4 c.frm (hA _ (lookA_mem _ _ _ hl))
    refine ⟨a, b, c', d, c.sa, c.sb, c.k, ?_⟩
    simp [Cm.V, e, encI]
theorem lasts_rd (B : Nat) (w W0 : World) (S R H : Nat) (F : List Int) (fd fg : Value) (q : List Int) (cn : Int) (A : Sn) (qs : List (List Int)) (v : Value) (hB : H + 1 < B) (hB0 : W0.heap.size ≤ B) : Lasts B (fun W => Rd w W0 S R H F fd fg q cn A qs v W) := fun W W' row hi hg hr => by
  have hS := hi.b.hS
  have hR := hi.hR
  have hH := hi.hH
  have rw' : ∀ (g : Nat) (E : TypeId) (vs : List Value), Row W g E vs → Row W' g E vs := fun g E vs h => lasts_row B g E vs W W' row h hg hr
  exact ⟨⟨rw' _ _ _ hi.b.r0, rw' _ _ _ hi.b.r1, rw' _ _ _ hi.b.r2, rw' _ _ _ hi.b.r3, rw' _ _ _ hi.b.rS, hi.b.hS⟩, rw' _ _ _ hi.rR, rw' _ _ _ hi.rQ, rw' _ _ _ hi.rH, rw' _ _ _ hi.rC, lasts_queue B 0 v qs W W' row hi.q hg hr, hi.ap, lasts_seen B _ _ _ (by omega) W W' row hi.sn hg hr,
    lasts_below B _ w (by omega) (Nat.le_refl _) W W' row hi.bw hg hr, hi.hR, hi.hH, hi.ok4, fun D hD h0 => mark_kept (hi.mrk D hD h0) hg (fun r e _ _ _ => by have := (hr r e).1; have := (Array.getElem?_eq_some_iff.1 h0).1; omega)⟩
set_option maxRecDepth 100000 in
set_option maxHeartbeats 1000000 in
theorem search_range (f0 f1 f2 f3 q0 q1 q2 q3 cn : Int) (gl : List Int → Bool) (G : FuncId) (caps : Array Value) (n : Nat) (p0 p1 p2 p3 ls : Int) (m : Nat) (hn : n ≤ 4) (hls : ls = -1 ∨ ls = 0) (hm : (n : Int) = ls + (m : Int)) (bl bj S R H : Nat) (w : World)
    (u14 u15 u16 u17 u18 u19 u20 u21 u22 u23 u24 u25 u26 u27 u28 u29 u30 u31 u32 u33 u34 u35 u36 u37 u38 u39 u40 u41 u42 u43 u44 u46 u47 u48 u49 u50 u51 u52 u53 u54 u55 u56 u57 u58 u59 u60 u61 u62 u63 u64 u65 u66 u67 u68 u69 u70 u71 u72 u73 u74 : Value) (ds : List Deferred) (Q : Exit → Act → World → Prop) (W : World) (A : Sn) (qs : List (List Int)) (v : Value)
    (rl : Row W bl 3 [.int .i64 ls]) (rj : Row W bj 80 [.int .i64 (n : Int), .int .i64 p0, .int .i64 p1, .int .i64 p2, .int .i64 p3])
    (hd : Rd w W S R H [f0, f1, f2, f3] (.func (.func 54) #[.agg #[.int .i64 (n : Int), .int .i64 p0, .int .i64 p1, .int .i64 p2, .int .i64 p3]] #[]) (.func (.func G) #[] caps) [q0, q1, q2, q3] cn A qs v W) (hHs : H + 1 < W.heap.size) (hln : A.length + 25 ≤ 1000000) (hlq : qs.length ≤ A.length) (hen : ∀ args W, (callFunc G args).run Try.prog W = .ok (.enter G args) W)
    (hgo : ∀ W x0 x1 x2 x3, Below w.heap.size w W → Fok [x0, x1, x2, x3] → Calls Try.prog G (#[.agg #[.int .i64 x0, .int .i64 x1, .int .i64 x2, .int .i64 x3]] ++ caps) W fun e w' => e = .returned (.bool (gl [x0, x1, x2, x3])) ∧ Below W.heap.size W w') (hbl : bl < w.heap.size) (hbj : bj < w.heap.size) (hfq : FitP [p0, p1, p2, p3] [q0, q1, q2, q3])
    (hdone : ∀ (D : Nat) (t : Sn × List (List Int)) (v' : Value) (W' : World), W.heap.size ≤ D → visit [p0, p1, p2, p3] gl [q0, q1, q2, q3] cn (stepsL ls m) (A, qs) = (t, none) →
      Rd w W S R H [f0, f1, f2, f3] (.func (.func 54) #[.agg #[.int .i64 (n : Int), .int .i64 p0, .int .i64 p1, .int .i64 p2, .int .i64 p3]] #[]) (.func (.func G) #[] caps) [q0, q1, q2, q3] cn t.1 t.2 v' W' → W'.heap[D]? = some (.deferred (some [])) →
      Q .normal { tmps := #[.agg #[.int .i64 f0, .int .i64 f1, .int .i64 f2, .int .i64 f3], .func (.func 70) #[] #[.pointer (some ⟨bl, 0, none⟩), .pointer (some ⟨bj, 0, none⟩)], .func (.func 54) #[.agg #[.int .i64 (n : Int), .int .i64 p0, .int .i64 p1, .int .i64 p2, .int .i64 p3]] #[], .func (.func G) #[] caps, .pointer (some ⟨w.heap.size, 0, none⟩), undef, .pointer (some ⟨w.heap.size + 1, 0, none⟩), .pointer (some ⟨w.heap.size + 1 + 1, 0, none⟩), .pointer (some ⟨w.heap.size + 1 + 1 + 1, 0, none⟩), .pointer (some ⟨S, 0, none⟩), .pointer (some ⟨R, 0, none⟩), .pointer (some ⟨R + 1 + 1, 0, none⟩), .pointer (some ⟨H, 0, none⟩), .pointer (some ⟨H + 1, 0, none⟩), u14, u15, u16, u17, u18, u19, u20, u21, u22, u23, u24, u25, u26, u27, u28, u29, u30, u31, u32, u33, u34, u35, u36, u37, u38, u39, u40, u41, u42, u43, u44, .func (.func 70) #[] #[.pointer (some ⟨bl, 0, none⟩), .pointer (some ⟨bj, 0, none⟩)], u46, u47, u48, u49, u50, u51, u52, u53, u54, u55, u56, u57, u58, u59, u60, u61, u62, u63, u64, u65, u66, u67, u68, u69, u70, u71, u72, u73, u74], defers := { target := .collected D, args := #[] } :: ds } W')
    (hstop : ∀ (D : Nat) (t : Sn × List (List Int)) (g0 g1 g2 g3 : Int) (W' : World), W.heap.size ≤ D → visit [p0, p1, p2, p3] gl [q0, q1, q2, q3] cn (stepsL ls m) (A, qs) = (t, some [g0, g1, g2, g3]) →
      Rx w W S R [f0, f1, f2, f3] (.func (.func 54) #[.agg #[.int .i64 (n : Int), .int .i64 p0, .int .i64 p1, .int .i64 p2, .int .i64 p3]] #[]) (.func (.func G) #[] caps) t.1 g0 g1 g2 g3 W' → W'.heap[D]? = some (.deferred (some [])) →
      Q (.exit 0) { tmps := #[.agg #[.int .i64 f0, .int .i64 f1, .int .i64 f2, .int .i64 f3], .func (.func 70) #[] #[.pointer (some ⟨bl, 0, none⟩), .pointer (some ⟨bj, 0, none⟩)], .func (.func 54) #[.agg #[.int .i64 (n : Int), .int .i64 p0, .int .i64 p1, .int .i64 p2, .int .i64 p3]] #[], .func (.func G) #[] caps, .pointer (some ⟨w.heap.size, 0, none⟩), undef, .pointer (some ⟨w.heap.size + 1, 0, none⟩), .pointer (some ⟨w.heap.size + 1 + 1, 0, none⟩), .pointer (some ⟨w.heap.size + 1 + 1 + 1, 0, none⟩), .pointer (some ⟨S, 0, none⟩), .pointer (some ⟨R, 0, none⟩), .pointer (some ⟨R + 1 + 1, 0, none⟩), .pointer (some ⟨H, 0, none⟩), .pointer (some ⟨H + 1, 0, none⟩), u14, u15, u16, u17, u18, u19, u20, u21, u22, u23, u24, u25, u26, u27, u28, u29, u30, u31, u32, u33, u34, u35, u36, u37, u38, u39, u40, u41, u42, u43, u44, .func (.func 70) #[] #[.pointer (some ⟨bl, 0, none⟩), .pointer (some ⟨bj, 0, none⟩)], u46, u47, u48, u49, u50, u51, u52, u53, u54, u55, u56, u57, u58, u59, u60, u61, u62, u63, u64, u65, u66, u67, u68, u69, u70, u71, u72, u73, u74], defers := { target := .collected D, args := #[] } :: ds } W') : ∀ c, Try.f57.body.bind firstRange = some c →
    c.wp Try.prog Q { tmps := #[.agg #[.int .i64 f0, .int .i64 f1, .int .i64 f2, .int .i64 f3], .func (.func 70) #[] #[.pointer (some ⟨bl, 0, none⟩), .pointer (some ⟨bj, 0, none⟩)], .func (.func 54) #[.agg #[.int .i64 (n : Int), .int .i64 p0, .int .i64 p1, .int .i64 p2, .int .i64 p3]] #[], .func (.func G) #[] caps, .pointer (some ⟨w.heap.size, 0, none⟩), undef, .pointer (some ⟨w.heap.size + 1, 0, none⟩), .pointer (some ⟨w.heap.size + 1 + 1, 0, none⟩), .pointer (some ⟨w.heap.size + 1 + 1 + 1, 0, none⟩), .pointer (some ⟨S, 0, none⟩), .pointer (some ⟨R, 0, none⟩), .pointer (some ⟨R + 1 + 1, 0, none⟩), .pointer (some ⟨H, 0, none⟩), .pointer (some ⟨H + 1, 0, none⟩), u14, u15, u16, u17, u18, u19, u20, u21, u22, u23, u24, u25, u26, u27, u28, u29, u30, u31, u32, u33, u34, u35, u36, u37, u38, u39, u40, u41, u42, u43, u44, .func (.func 70) #[] #[.pointer (some ⟨bl, 0, none⟩), .pointer (some ⟨bj, 0, none⟩)], u46, u47, u48, u49, u50, u51, u52, u53, u54, u55, u56, u57, u58, u59, u60, u61, u62, u63, u64, u65, u66, u67, u68, u69, u70, u71, u72, u73, u74], defers := ds } W := by
  intro c hc
  simp only [Try.f57, firstRange, Option.bind_some, Option.orElse_none, Option.orElse_some, Option.some.injEq, Option.orElse] at hc
  subst hc
  dsimp only at hdone hstop ⊢
  refine wpIn_wide.1 (range_steps2 (nf := 4) bl bj n (by omega) hn p0 p1 p2 p3 ls m hls hm rfl rl.lt rj.lt rl rj
    (fun pre W' => ∃ t v', visit [p0, p1, p2, p3] gl [q0, q1, q2, q3] cn pre (A, qs) = (t, none) ∧ Rd w W S R H [f0, f1, f2, f3] (.func (.func 54) #[.agg #[.int .i64 (n : Int), .int .i64 p0, .int .i64 p1, .int .i64 p2, .int .i64 p3]] #[]) (.func (.func G) #[] caps) [q0, q1, q2, q3] cn t.1 t.2 v' W')
    (fun c pre W' => c = .exit 0 ∧ ∃ t g0 g1 g2 g3, visit [p0, p1, p2, p3] gl [q0, q1, q2, q3] cn pre (A, qs) = (t, some [g0, g1, g2, g3]) ∧ Rx w W S R [f0, f1, f2, f3] (.func (.func 54) #[.agg #[.int .i64 (n : Int), .int .i64 p0, .int .i64 p1, .int .i64 p2, .int .i64 p3]] #[]) (.func (.func G) #[] caps) t.1 g0 g1 g2 g3 W') ?hI ?hIx ?h0 (fun x a' W' => ∃ b, a' = { tmps := #[.agg #[.int .i64 f0, .int .i64 f1, .int .i64 f2, .int .i64 f3], .func (.func 70) #[] #[.pointer (some ⟨bl, 0, none⟩), .pointer (some ⟨bj, 0, none⟩)], .func (.func 54) #[.agg #[.int .i64 (n : Int), .int .i64 p0, .int .i64 p1, .int .i64 p2, .int .i64 p3]] #[], .func (.func G) #[] caps, .pointer (some ⟨w.heap.size, 0, none⟩), undef, .pointer (some ⟨w.heap.size + 1, 0, none⟩), .pointer (some ⟨w.heap.size + 1 + 1, 0, none⟩), .pointer (some ⟨w.heap.size + 1 + 1 + 1, 0, none⟩), .pointer (some ⟨S, 0, none⟩), .pointer (some ⟨R, 0, none⟩), .pointer (some ⟨R + 1 + 1, 0, none⟩), .pointer (some ⟨H, 0, none⟩), .pointer (some ⟨H + 1, 0, none⟩), .pointer (some ⟨b, 0, none⟩), u15, u16, u17, u18, u19, u20, u21, u22, u23, u24, u25, u26, u27, u28, u29, u30, u31, u32, u33, u34, u35, u36, u37, u38, u39, u40, u41, u42, u43, u44, .func (.func 70) #[] #[.pointer (some ⟨bl, 0, none⟩), .pointer (some ⟨bj, 0, none⟩)], .agg #[.int .i64 x.1, .int .i64 x.2], u47, u48, u49, u50, u51, u52, u53, u54, u55, u56, u57, u58, u59, u60, u61, u62, u63, u64, u65, u66, u67, u68, u69, u70, u71, u72, u73, u74], defers := [] } ∧ W.heap.size ≤ b ∧ Row W' b 48 [.int .i64 x.1, .int .i64 x.2]) ?hR ?assign ?body ?done ?stop)
  case hI => exact fun pre W1 W2 row ⟨t, v', h1, h2⟩ hg hr => ⟨t, v', h1, lasts_rd _ w W S R H _ _ _ _ _ _ _ _ hHs (Nat.le_refl _) W1 W2 row h2 hg hr⟩
  case hIx => exact fun c pre W1 W2 row ⟨hc, t, g0, g1, g2, g3, h1, h2⟩ hg hr => ⟨hc, t, g0, g1, g2, g3, h1, lasts_rx _ w W S R _ _ _ _ _ _ _ _ (by have := hd.hH; omega) (Nat.le_refl _) W1 W2 row h2 hg hr⟩
  case h0 => exact ⟨(A, qs), v, rfl, hd⟩
  case done =>
    rintro D W' hD ⟨t, v', h1, h2⟩ hK
    exact hdone D t v' W' hD h1 h2 hK
  case hR => exact fun x a' W1 W2 row ⟨b, h1, h2, h3⟩ hg hr => ⟨b, h1, h2, lasts_row _ _ _ _ W1 W2 row h3 hg hr⟩
  case assign =>
    intro l x W1 K hs hK
    have hk := hK _ _ ⟨_, rfl, hs, Row.new W1 48 [.int .i64 x.1, .int .i64 x.2]⟩ ((Below.refl W1.heap.size W1).alloc (Nat.le_refl _) _)
    have HKk := Lib.hid hk
    clear hk hK
    dsimp only [encS]
    simp only [List.setIfInBounds_toArray, List.set_cons_succ, List.set_cons_zero]
    clear hm hdone hstop
    gi_wp2
    exact HKk.out
  case body =>
    rintro l x pre a' W1 hx hpl hs1 ⟨t, v', hv, hr⟩ ⟨b, rfl, hb, h48⟩
    have hxb := mem_step hx
    have htl : t.1.length < maxLen := by
      have h1 := (visit_len _ _ _ _ hv).1
      have h2 : m * m ≤ 5 * 5 := Nat.mul_le_mul (by omega) (by omega)
      unfold maxLen
      dsimp only at h1
      omega
    have ht2 : t.2.length + 1 ≤ 1000000 := by
      have h1 := visit_len _ _ _ _ hv
      have h2 : m * m ≤ 5 * 5 := Nat.mul_le_mul (by omega) (by omega)
      dsimp only at h1
      omega
    have HT2 := Lib.hid ht2
    have HG := Lib.hid hgo
    have HE := Lib.hid hen
    have fa := hfq.after (f := x.1) (t := x.2) (by omega) (by omega) hxb.2.2.2.2
    have hca : Calls Try.prog 54 #[.agg #[.int .i64 (n : Int), .int .i64 p0, .int .i64 p1, .int .i64 p2, .int .i64 p3], .agg #[.int .i64 q0, .int .i64 q1, .int .i64 q2, .int .i64 q3], .agg #[.int .i64 x.1, .int .i64 x.2]] W1 fun e w' =>
        e = .returned (aggI (afterF [p0, p1, p2, p3] [q0, q1, q2, q3] x.1 x.2)) ∧ Below W1.heap.size W1 w' := after_any n [p0, p1, p2, p3] [q0, q1, q2, q3] rfl rfl hfq.2 x.1 x.2 (by omega) (by omega) hxb.2.2.2.2 W1
    obtain ⟨y0, y1, y2, y3, hy⟩ := agg4 _ fa.1
    rw [hy] at fa hca
    have HY := Lib.hid hy
    have HFA := Lib.hid fa
    have HCA := Lib.hid hca
    have HFQ := Lib.hid hfq
    clear ht2 hgo hen hm hdone hstop hd rl rj hxb hpl fa hca hy hfq
    have HP := Lib.hid h48
    have cd : W1.cell? ⟨w.heap.size + 1, 0, none⟩ = some (.func (.func 54) #[.agg #[.int .i64 (n : Int), .int .i64 p0, .int .i64 p1, .int .i64 p2, .int .i64 p3]] #[]) := hr.b.r1.cell 0
    have m0 : W1.cell? ⟨H, 0, none⟩ = some (.int .i64 q0) := hr.rH.cell 0
    have m1 : W1.cell? ⟨H, 1, none⟩ = some (.int .i64 q1) := hr.rH.cell 1
    have m2 : W1.cell? ⟨H, 2, none⟩ = some (.int .i64 q2) := hr.rH.cell 2
    have m3 : W1.cell? ⟨H, 3, none⟩ = some (.int .i64 q3) := hr.rH.cell 3
    have s0 : W1.cell? ⟨b, 0, none⟩ = some (.int .i64 x.1) := h48.cell 0
    have s1 : W1.cell? ⟨b, 1, none⟩ = some (.int .i64 x.2) := h48.cell 1
    have HV := Lib.hid hv
    have HR := Lib.hid hr
    have HX := Lib.hid hx
    clear hv hr hx h48
    gi_wp2_with fail
    refine ⟨trivial, ?_⟩
    refine (CallsIn.inRound l (callsIn_wide.2 HCA.out)).mono ?_
    rintro e W2 ⟨rfl, hb2⟩
    have hr2 := lasts_rd _ w W S R H _ _ _ _ _ _ _ _ hHs (Nat.le_refl _) W1 W2 none HR.out ⟨hb2.os, hb2.tape, hb2.output, hb2.size, fun k hk _ => hb2.block k hk⟩ (fun r e => by cases e)
    have hp2 := HP.out.below hb2 HP.out.lt
    have ba := (Below.refl W2.heap.size W2).alloc (Nat.le_refl _) (.cells #[.int .i64 y0, .int .i64 y1, .int .i64 y2, .int .i64 y3] 77)
    have hr3 := lasts_rd _ w W S R H _ _ _ _ _ _ _ _ hHs (Nat.le_refl _) W2 (W2.alloc (.cells #[.int .i64 y0, .int .i64 y1, .int .i64 y2, .int .i64 y3] 77)) none hr2 ⟨ba.os, ba.tape, ba.output, ba.size, fun k hk _ => ba.block k hk⟩ (fun r e => by cases e)
    have hp3 := hp2.below ba hp2.lt
    have hy3 := Row.new W2 77 [.int .i64 y0, .int .i64 y1, .int .i64 y2, .int .i64 y3]
    have cS : (W2.alloc (.cells #[.int .i64 y0, .int .i64 y1, .int .i64 y2, .int .i64 y3] 77)).cell? ⟨S, 0, none⟩ = some (.map (some (w.heap.size + 1 + 1 + 1 + 1))) := hr3.b.rS.cell 0
    have z0 : (W2.alloc (.cells #[.int .i64 y0, .int .i64 y1, .int .i64 y2, .int .i64 y3] 77)).cell? ⟨W2.heap.size, 0, none⟩ = some (.int .i64 y0) := hy3.cell 0
    have z1 : (W2.alloc (.cells #[.int .i64 y0, .int .i64 y1, .int .i64 y2, .int .i64 y3] 77)).cell? ⟨W2.heap.size, 1, none⟩ = some (.int .i64 y1) := hy3.cell 1
    have z2 : (W2.alloc (.cells #[.int .i64 y0, .int .i64 y1, .int .i64 y2, .int .i64 y3] 77)).cell? ⟨W2.heap.size, 2, none⟩ = some (.int .i64 y2) := hy3.cell 2
    have z3 : (W2.alloc (.cells #[.int .i64 y0, .int .i64 y1, .int .i64 y2, .int .i64 y3] 77)).cell? ⟨W2.heap.size, 3, none⟩ = some (.int .i64 y3) := hy3.cell 3
    obtain ⟨x0, x1, x2, x3, x4, x5, x6, hlk⟩ := look_next hr3.sn HFA.out.fok hr3.ok4
    have bb := (Below.refl (W2.alloc (.cells #[.int .i64 y0, .int .i64 y1, .int .i64 y2, .int .i64 y3] 77)).heap.size (W2.alloc (.cells #[.int .i64 y0, .int .i64 y1, .int .i64 y2, .int .i64 y3] 77))).alloc (Nat.le_refl _) (.cells #[.int .i64 x0, .int .i64 x1, .int .i64 x2, .int .i64 x3, .int .i64 x4, .int .i64 x5, .int .i64 x6] 94)
    have hr4 := lasts_rd _ w W S R H _ _ _ _ _ _ _ _ hHs (Nat.le_refl _) (W2.alloc (.cells #[.int .i64 y0, .int .i64 y1, .int .i64 y2, .int .i64 y3] 77)) ((W2.alloc (.cells #[.int .i64 y0, .int .i64 y1, .int .i64 y2, .int .i64 y3] 77)).alloc (.cells #[.int .i64 x0, .int .i64 x1, .int .i64 x2, .int .i64 x3, .int .i64 x4, .int .i64 x5, .int .i64 x6] 94)) none hr3 ⟨bb.os, bb.tape, bb.output, bb.size, fun k hk _ => bb.block k hk⟩ (fun r e => by cases e)
    have hp4 := hp3.below bb hp3.lt
    have hy4 := hy3.below bb hy3.lt
    have b14 := Below.andThen hb2 (Below.andThen ba bb (Nat.le_refl _)) (Nat.le_refl _)
    have HR4 := Lib.hid hr4
    have HP4 := Lib.hid hp4
    have HY4 := Lib.hid hy4
    have HB4 := Lib.hid b14
    simp only [aggI, List.map_cons, List.map_nil, encI]
    cases hkn : (lookA t.1 [y0, y1, y2, y3]).isSome with
    | true =>
      rw [hkn] at hlk
      have HLK := Lib.hid hlk
      have HKN := Lib.hid hkn
      clear cd m0 m1 m2 m3 s0 s1 hr2 hp2 ba bb hr3 hp3 hy3 hlk hb2 hr4 hp4 hy4 b14 hkn
      gi_wp2_with fail
      rw [HLK.out, Result.andThen_ok]
      gi_wp2_with fail
      refine ⟨KeepsFrom.of_grownBy (row := none) ⟨HB4.out.os, HB4.out.tape, HB4.out.output, HB4.out.size, fun k hk _ => HB4.out.block k hk⟩ (by simp), Keeps2.of_below HB4.out ?_ ?_, t, v', visit_known HV.out (by rw [HY.out]; exact HKN.out), HR4.out⟩
      · have := HR4.out.bw.size; have := HR.out.bw.size; omega
      · have := HR4.out.bw.size; have := HR.out.bw.size; omega
    | false =>
      rw [hkn] at hlk
      have HLK := Lib.hid hlk
      have HKN := Lib.hid hkn
      have c0 : ((W2.alloc (.cells #[.int .i64 y0, .int .i64 y1, .int .i64 y2, .int .i64 y3] 77)).alloc (.cells #[.int .i64 x0, .int .i64 x1, .int .i64 x2, .int .i64 x3, .int .i64 x4, .int .i64 x5, .int .i64 x6] 94)).cell? ⟨S, 0, none⟩ = some (.map (some (w.heap.size + 1 + 1 + 1 + 1))) := hr4.b.rS.cell 0
      have a0 : ((W2.alloc (.cells #[.int .i64 y0, .int .i64 y1, .int .i64 y2, .int .i64 y3] 77)).alloc (.cells #[.int .i64 x0, .int .i64 x1, .int .i64 x2, .int .i64 x3, .int .i64 x4, .int .i64 x5, .int .i64 x6] 94)).cell? ⟨W2.heap.size, 0, none⟩ = some (.int .i64 y0) := hy4.cell 0
      have a1 : ((W2.alloc (.cells #[.int .i64 y0, .int .i64 y1, .int .i64 y2, .int .i64 y3] 77)).alloc (.cells #[.int .i64 x0, .int .i64 x1, .int .i64 x2, .int .i64 x3, .int .i64 x4, .int .i64 x5, .int .i64 x6] 94)).cell? ⟨W2.heap.size, 1, none⟩ = some (.int .i64 y1) := hy4.cell 1
      have a2 : ((W2.alloc (.cells #[.int .i64 y0, .int .i64 y1, .int .i64 y2, .int .i64 y3] 77)).alloc (.cells #[.int .i64 x0, .int .i64 x1, .int .i64 x2, .int .i64 x3, .int .i64 x4, .int .i64 x5, .int .i64 x6] 94)).cell? ⟨W2.heap.size, 2, none⟩ = some (.int .i64 y2) := hy4.cell 2
      have a3 : ((W2.alloc (.cells #[.int .i64 y0, .int .i64 y1, .int .i64 y2, .int .i64 y3] 77)).alloc (.cells #[.int .i64 x0, .int .i64 x1, .int .i64 x2, .int .i64 x3, .int .i64 x4, .int .i64 x5, .int .i64 x6] 94)).cell? ⟨W2.heap.size, 3, none⟩ = some (.int .i64 y3) := hy4.cell 3
      have d0 : ((W2.alloc (.cells #[.int .i64 y0, .int .i64 y1, .int .i64 y2, .int .i64 y3] 77)).alloc (.cells #[.int .i64 x0, .int .i64 x1, .int .i64 x2, .int .i64 x3, .int .i64 x4, .int .i64 x5, .int .i64 x6] 94)).cell? ⟨H, 0, none⟩ = some (.int .i64 q0) := hr4.rH.cell 0
      have d1 : ((W2.alloc (.cells #[.int .i64 y0, .int .i64 y1, .int .i64 y2, .int .i64 y3] 77)).alloc (.cells #[.int .i64 x0, .int .i64 x1, .int .i64 x2, .int .i64 x3, .int .i64 x4, .int .i64 x5, .int .i64 x6] 94)).cell? ⟨H, 1, none⟩ = some (.int .i64 q1) := hr4.rH.cell 1
      have d2 : ((W2.alloc (.cells #[.int .i64 y0, .int .i64 y1, .int .i64 y2, .int .i64 y3] 77)).alloc (.cells #[.int .i64 x0, .int .i64 x1, .int .i64 x2, .int .i64 x3, .int .i64 x4, .int .i64 x5, .int .i64 x6] 94)).cell? ⟨H, 2, none⟩ = some (.int .i64 q2) := hr4.rH.cell 2
      have d3 : ((W2.alloc (.cells #[.int .i64 y0, .int .i64 y1, .int .i64 y2, .int .i64 y3] 77)).alloc (.cells #[.int .i64 x0, .int .i64 x1, .int .i64 x2, .int .i64 x3, .int .i64 x4, .int .i64 x5, .int .i64 x6] 94)).cell? ⟨H, 3, none⟩ = some (.int .i64 q3) := hr4.rH.cell 3
      have e0 : ((W2.alloc (.cells #[.int .i64 y0, .int .i64 y1, .int .i64 y2, .int .i64 y3] 77)).alloc (.cells #[.int .i64 x0, .int .i64 x1, .int .i64 x2, .int .i64 x3, .int .i64 x4, .int .i64 x5, .int .i64 x6] 94)).cell? ⟨b, 0, none⟩ = some (.int .i64 x.1) := hp4.cell 0
      have e1 : ((W2.alloc (.cells #[.int .i64 y0, .int .i64 y1, .int .i64 y2, .int .i64 y3] 77)).alloc (.cells #[.int .i64 x0, .int .i64 x1, .int .i64 x2, .int .i64 x3, .int .i64 x4, .int .i64 x5, .int .i64 x6] 94)).cell? ⟨b, 1, none⟩ = some (.int .i64 x.2) := hp4.cell 1
      have g0 : ((W2.alloc (.cells #[.int .i64 y0, .int .i64 y1, .int .i64 y2, .int .i64 y3] 77)).alloc (.cells #[.int .i64 x0, .int .i64 x1, .int .i64 x2, .int .i64 x3, .int .i64 x4, .int .i64 x5, .int .i64 x6] 94)).cell? ⟨H + 1, 0, none⟩ = some (.int .i64 cn) := hr4.rC.cell 0
      obtain ⟨W5, hput, hs5, hg5⟩ := hr4.sn.put (F := [y0, y1, y2, y3]) HFA.out.fok (⟨[q0, q1, q2, q3], x.1, x.2, cn⟩ : Cm).V htl (seenV_none HKN.out)
      have hr5 := hr4.put hg5 [y0, y1, y2, y3] ⟨[q0, q1, q2, q3], x.1, x.2, cn⟩ rfl hs5
      have hy5 := Row.kept hy4 hg5 (fun e => by have := Option.some.inj e; have := hr2.b.rS.lt; have := hr2.b.hS; omega)
      have HPUT := Lib.hid (show (Instr.mapUpdate 74 (.map (some (w.heap.size + 1 + 1 + 1 + 1))) (.agg #[.int .i64 y0, .int .i64 y1, .int .i64 y2, .int .i64 y3]) (.agg #[.int .i64 q0, .int .i64 q1, .int .i64 q2, .int .i64 q3, .int .i64 x.1, .int .i64 x.2, .int .i64 cn])).run Try.prog _ = .ok () W5 from hput)
      have HR5 := Lib.hid hr5
      have HY5 := Lib.hid hy5
      have HG5 := Lib.hid hg5
      have n0 : W5.cell? ⟨w.heap.size + 1 + 1, 0, none⟩ = some (.func (.func G) #[] caps) := hr5.b.r2.cell 0
      have j0 : W5.cell? ⟨W2.heap.size, 0, none⟩ = some (.int .i64 y0) := hy5.cell 0
      have j1 : W5.cell? ⟨W2.heap.size, 1, none⟩ = some (.int .i64 y1) := hy5.cell 1
      have j2 : W5.cell? ⟨W2.heap.size, 2, none⟩ = some (.int .i64 y2) := hy5.cell 2
      have j3 : W5.cell? ⟨W2.heap.size, 3, none⟩ = some (.int .i64 y3) := hy5.cell 3
      clear cd m0 m1 m2 m3 s0 s1 hr2 hp2 ba bb hr3 hp3 hy3 hlk hb2 hr4 hp4 hy4 b14 hkn hput hs5 hg5 hr5 hy5
      gi_wp2_with fail
      rw [HLK.out, Result.andThen_ok]
      gi_wp2_with fail
      rw [HPUT.out, Result.andThen_ok]
      gi_wp2_with fail
      refine ⟨trivial, ?_⟩
      rw [HE.out, Oper.uponIn_enter]
      refine ⟨fun _ => by omega, (CallsIn.inRound l (callsIn_wide.2 (HG.out W5 y0 y1 y2 y3 HR5.out.bw HFA.out.fok))).mono ?_⟩
      rintro e W6 ⟨rfl, hb6⟩
      have hr6 := lasts_rd _ w W S R H _ _ _ _ _ _ _ _ hHs (Nat.le_refl _) W5 W6 none HR5.out ⟨hb6.os, hb6.tape, hb6.output, hb6.size, fun k hk _ => hb6.block k hk⟩ (fun r e => by cases e)
      have hy6 := HY5.out.below hb6 HY5.out.lt
      have i0 : W6.cell? ⟨W2.heap.size, 0, none⟩ = some (.int .i64 y0) := hy6.cell 0
      have i1 : W6.cell? ⟨W2.heap.size, 1, none⟩ = some (.int .i64 y1) := hy6.cell 1
      have i2 : W6.cell? ⟨W2.heap.size, 2, none⟩ = some (.int .i64 y2) := hy6.cell 2
      have i3 : W6.cell? ⟨W2.heap.size, 3, none⟩ = some (.int .i64 y3) := hy6.cell 3
      have t1 : W6.cell? ⟨R, 1, none⟩ = some (.int .i64 0) := hr6.rR.cell 1
      have t2 : W6.cell? ⟨R, 2, none⟩ = some (.int .i64 0) := hr6.rR.cell 2
      have t3 : W6.cell? ⟨R, 3, none⟩ = some (.int .i64 0) := hr6.rR.cell 3
      have t4 : W6.cell? ⟨R, 4, none⟩ = some (.int .i64 0) := hr6.rR.cell 4
      have t5 : W6.cell? ⟨R, 5, none⟩ = some (.bool false) := hr6.rR.cell 5
      have k1 := frozen_of_row W6 R 1 _ _ hr6.rR
      have k2 := frozen_of_row W6 R 2 _ _ hr6.rR
      have k3 := frozen_of_row W6 R 3 _ _ hr6.rR
      have k4 := frozen_of_row W6 R 4 _ _ hr6.rR
      have k5 := frozen_of_row W6 R 5 _ _ hr6.rR
      have HR6 := Lib.hid hr6
      have HY6 := Lib.hid hy6
      have HB6 := Lib.hid hb6
      clear n0 j0 j1 j2 j3 hr6 hy6 hb6
      cases hgg : gl [y0, y1, y2, y3] with
      | true =>
        have HGG := Lib.hid hgg
        clear hgg
        gi_wp2_with fail
        have hS0 := HR6.out.b.hS
        have hR0 := HR6.out.hR
        have hH0 := HR6.out.hH
        have rr := ((((HR6.out.rR.set 1 (.int .i64 y0)).set 2 (.int .i64 y1)).set 3 (.int .i64 y2)).set 4 (.int .i64 y3)).set 5 (.bool true)
        have G7 := five_set W6 R (.int .i64 y0) (.int .i64 y1) (.int .i64 y2) (.int .i64 y3) (.bool true)
        generalize (((((W6.setCell ⟨R, 1, none⟩ (.int .i64 y0)).setCell ⟨R, 2, none⟩ (.int .i64 y1)).setCell ⟨R, 3, none⟩ (.int .i64 y2)).setCell ⟨R, 4, none⟩ (.int .i64 y3)).setCell ⟨R, 5, none⟩ (.bool true)) = W7 at *
        refine ⟨(((keeps_below HB4.out).trans (keeps_row HG5.out (by omega))).trans (keeps_below HB6.out)).trans (keeps_row G7 (by omega)), rfl, ⟨(([y0, y1, y2, y3], ⟨[q0, q1, q2, q3], x.1, x.2, cn⟩) :: t.1, t.2), y0, y1, y2, y3, ?_, ?_⟩⟩
        · have h := visit_goal (x := x) HV.out (by rw [HY.out]; exact HKN.out) (by rw [HY.out]; exact HGG.out)
          rw [HY.out] at h
          exact h
        · exact ⟨HR6.out.b.kept G7 hR0, rr, HR6.out.sn.kept G7 (fun e => by have := Option.some.inj e; omega), HR6.out.bw.grown G7 HR6.out.bw.size (fun k e => by have := Option.some.inj e; omega), hR0, fun D hD h0 => mark_row (HR6.out.mrk D hD h0) G7 HR6.out.rR⟩
      | false =>
        have HGG := Lib.hid hgg
        have l0 : W6.cell? ⟨R + 1 + 1, 0, none⟩ = some v' := HR6.out.rQ.cell 0
        have b6 := (Below.refl W6.heap.size W6).alloc (Nat.le_refl _) (.cells #[.int .i64 y0, .int .i64 y1, .int .i64 y2, .int .i64 y3] 77)
        have rn := Row.new W6 77 [.int .i64 y0, .int .i64 y1, .int .i64 y2, .int .i64 y3]
        have hr7 := lasts_rd _ w W S R H _ _ _ _ _ _ _ _ hHs (Nat.le_refl _) W6 _ none HR6.out ⟨b6.os, b6.tape, b6.output, b6.size, fun k hk _ => b6.block k hk⟩ (fun r e => by cases e)
        obtain ⟨v7, W7, hap, hq7, hg7, ho7⟩ := hr7.q.push [y0, y1, y2, y3] rfl ⟨W6.heap.size, 0, none⟩ 1 (fun j u hj => by rw [Go.WideShapes.add_plain]; simp only [Nat.zero_add]; rw [Row.cell rn]; exact hj) HT2.out (Nat.zero_le _) 102
        have HAP := Lib.hid hap
        have HR7 := Lib.hid hr7
        have HG7 := Lib.hid hg7
        have HO7 := Lib.hid ho7
        have HB7 := Lib.hid b6
        have hr8 := hr7.push hq7 hg7 ho7 (by rw [size_al]; have := HR6.out.rC.lt; omega)
        have rq7 := Row.kept hr7.rQ hg7 (fun e => (hr7.ap _ e.symm).2.1 rfl)
        have u0 : W7.cell? ⟨R + 1 + 1, 0, none⟩ = some v' := rq7.cell 0
        have u1 := frozen_of_row W7 (R + 1 + 1) 0 _ _ rq7
        have kk : KeepsFrom W.heap.size (W6.alloc (.cells #[.int .i64 y0, .int .i64 y1, .int .i64 y2, .int .i64 y3] 77)) W7 := by
          obtain ⟨_, g9, o9, c9, cur9, rfl, _, hh9, _⟩ := hr7.q
          exact ⟨hg7.size, fun i o hB hi ho => (hg7.block i (Array.getElem?_eq_some_iff.1 hi).1 (fun e => by
            have e2 := Option.some.inj e
            subst e2
            rw [hh9] at hi; cases hi; cases ho)).trans hi⟩
        have HKK := Lib.hid kk
        obtain ⟨_, g7, o7, c7, _, rfl, _⟩ := hq7
        rw [show (t.2 ++ [[y0, y1, y2, y3]]).length = t.2.length + 1 by simp] at hr8
        have HR8 := Lib.hid hr8
        clear hgg t1 t2 t3 t4 t5 k1 k2 k3 k4 k5 b6 rn hr7 hr8 kk rq7 hap hg7 ho7
        gi_wp2_with (gi_at_builtin; refine wpListIn_append_run rfl _ _ 102 rfl _ _ _ _ rfl rfl HAP.out ?_)
        have hS0 := HR6.out.b.hS
        have hR0 := HR6.out.hR
        have hH0 := HR6.out.hH
        refine ⟨((((keeps_below HB4.out).trans (keeps_row HG5.out (by omega))).trans (keeps_below HB6.out)).trans ((keeps_below HB7.out).trans HKK.out)).trans (keeps_row (one_set _ _ _ _) (by omega)), ⟨?_, (HR8.out.bw.block bl hbl).trans (HR.out.bw.block bl hbl).symm, (HR8.out.bw.block bj hbj).trans (HR.out.bw.block bj hbj).symm⟩, ⟨(([y0, y1, y2, y3], ⟨[q0, q1, q2, q3], x.1, x.2, cn⟩) :: t.1, t.2 ++ [[y0, y1, y2, y3]]), _, ?_, HR8.out⟩⟩
        · have e1 := HB4.out.size
          have e2 := HG5.out.size
          have e3 := HB6.out.size
          have e4 := HB7.out.size
          have e5 := HKK.out.size
          have e6 := (one_set W7 (R + 1 + 1) 0 (.slice (some ⟨g7, o7, none⟩) (t.2.length + 1) c7)).size
          omega
        · have h := visit_new (x := x) HV.out (by rw [HY.out]; exact HKN.out) (by rw [HY.out]; exact HGG.out)
          rw [HY.out] at h
          exact h
  case stop =>
    rintro D c pre W' hD hp ⟨rfl, t, g0, g1, g2, g3, h1, h2⟩ hK
    exact wpIn_exit (hstop D t g0 g1 g2 g3 W' hD (visit_pre hp h1) h2 hK)
end Go.Proofs.Ytlamppplnojpbaa
