import Derived.Test.YtbhlddfjfcmncaaI
import Derived.Test.YtbhlddfjfcmncaaShelf
import Derived.RangeFuncNested
import Derived.RangeFuncBound
import Derived.RangeFuncCalls
import Derived.RangeFuncLeaves
import Derived.Shelf.Abstract
import Derived.Shelf.RegionOpen
import Derived.WalkKit
import Derived.OwnWalkIn
import Derived.TacticsInMore
import Derived.LoopNIn
import Derived.LoopIn
import Derived.WalkSpells
import Derived.WalkLawsBesides
import Derived.BigQuiet
import Derived.Deep.QuietTactic
import Derived.Lib.Hide
import Derived.Deep.RegionHeld3
namespace Go.Proofs.Ytbhlddfjfcmncaa
open Go.RowKit Go.Shelf
attribute [local go_sem] Oper.semAt_some
def okOf : Value → Bool | .bool b => b | _ => false

set_option maxRecDepth 100000 in
set_option maxHeartbeats 1000000 in
theorem hours1_run (n l Bt Bf : Nat) (f r : ByteArray) (E : Nat) (z1 : f.size ≤ 60) (z2 : r.size ≤ 60) (z3 : 1 ≤ r.size) (hE : E ≤ 1100000000) (J : Nat → World → Prop) (Jx : World → Prop)
    (hc : ∀ h W, J h W → W.cell? ⟨Bt, 0, none⟩ = some (.string f) ∧ W.cell? ⟨Bt, 1, none⟩ = some (.string r))
    (hst : ∀ h W W', J h W → Below W.heap.size W W' → J h W')
    (hbd : ∀ h W, J h W → h ≤ E)
    (hY : ∀ h k W, J h W → nextO f r h = some k → YieldAt Fence.wide (n - 1) Try.prog l #[.int .i64 (k : Int)] W fun e W' => (e = .returned (.bool true) ∧ J (k + 1) W') ∨ (e = .returned (.bool false) ∧ Jx W'))
    (h0 : Nat) (W : World) (hJ : J h0 W) (hBf : W.cell? ⟨Bf, 0, none⟩ = some (.int .i64 h0)) :
    CallsIn Fence.wide n Try.prog 95 #[.func (.yield l) #[] #[], .pointer (some ⟨Bt, 0, none⟩), .pointer (some ⟨Bf, 0, none⟩)] W fun e W' => (∃ v, e = .returned v) ∧ ((∃ h, nextO f r h = none ∧ J h W') ∨ Jx W') := by
  refine callsIn_of_wp Try.func95 rfl trivial ?_ rfl
  simp only [Try.ntmps95, List.size_toArray, List.length_cons, List.length_nil, Nat.reduceAdd, Nat.reduceSub, Array.replicate_succ, Array.replicate_zero, List.push_toArray, List.append_toArray, List.nil_append, List.cons_append]
  obtain ⟨b0, b1⟩ := hc _ _ hJ
  have HC := Lib.hid hc
  have HST := Lib.hid hst
  have HBD := Lib.hid hbd
  have HY := Lib.hid hY
  have HJ := Lib.hid hJ
  have hh0 := hbd _ _ hJ
  clear hc hst hbd hY hJ
  gi_wp2_with fail
  refine ⟨trivial, (fun h => by cases h), ?_⟩
  refine (callsIn_wide.2 (next_any f r h0 _ z1 z2 z3 (by omega))).mono ?_
  rintro e w1 ⟨rfl, hb1⟩
  have HJ1 := Lib.hid (HST.out _ _ _ HJ.out hb1)
  clear hb1 b0 b1 hBf HJ
  have NV : ∀ o, ∃ (x : Nat) (b : Bool), nextV o = .tuple #[.int .i64 x, .bool b] ∧ (o = none ∧ x = 0 ∧ b = false ∨ o = some x ∧ b = true) := fun o => by
    cases o with
    | none => exact ⟨0, false, rfl, .inl ⟨rfl, rfl, rfl⟩⟩
    | some k => exact ⟨k, true, rfl, .inr ⟨rfl, rfl⟩⟩
  have NV' := Lib.hid NV
  clear NV
  obtain ⟨x0, y0, hv0, hd0⟩ := NV'.out (nextO f r h0)
  have HD0 := Lib.hid hd0
  rw [hv0]
  clear hv0 hd0
  gi_wp2_with fail
  gi_loopw [4, 5] (fun x y wr => ∃ (h k : Nat) (b : Bool), x = .int .i64 k ∧ y = .bool b ∧ Hid (J h wr) ∧ Hid (nextO f r h = none ∧ k = 0 ∧ b = false ∨ nextO f r h = some k ∧ b = true)) (fun x y _ => if okOf y then E + 2 - (intOf x).toNat else 0)
  case atStart => exact ⟨h0, x0, y0, rfl, rfl, HJ1, HD0⟩
  case round =>
    obtain ⟨h, k, b, rfl, rfl, hJ, hd⟩ := hrel
    rcases hd.out with ⟨hn, hk, hb⟩ | ⟨hn, hb⟩
    · subst hk
      subst hb
      have HN := Lib.hid hn
      clear hn hd
      gi_wp2_with fail
      refine ⟨(fun _ h => by cases h), ?_⟩
      gi_wp2_with fail
      go_end0
      exact ⟨⟨_, rfl⟩, .inl ⟨h, HN.out, hJ.out⟩⟩
    · subst hb
      have HN := Lib.hid hn
      clear hd
      obtain ⟨fn, tmps, assign, body, hy, hR⟩ := HY.out h k wr hJ.out hn
      have hk1 : k ≤ 1300000000 := by
        have h1 := (findFrom_ge hn).2
        have h2 := HBD.out _ _ hJ.out
        have h3 : max h f.size ≤ h + 60 := by omega
        omega
      have hk2 := (findFrom_ge hn).1
      have HR := Lib.hid hR
      clear hR hn
      gi_wp2_with fail
      refine ⟨(fun h => by cases h), ?_⟩
      refine HR.out.mono ?_
      rintro e W3 (⟨rfl, hJ3⟩ | ⟨rfl, hJx3⟩)
      · obtain ⟨b0, b1⟩ := HC.out _ _ hJ3
        have hle := HBD.out _ _ hJ3
        have HJ3 := Lib.hid hJ3
        clear hJ3
        obtain ⟨x1, y1, hv1, hd1⟩ := NV'.out (nextO f r (k + 1))
        have HV1 := Lib.hid hv1
        have HD1 := Lib.hid hd1
        clear hv1 hd1 hy
        gi_wp2_with fail
        rw [show (k : Int) + 1 = ((k + 1 : Nat) : Int) by omega]
        refine ⟨trivial, (fun h => by cases h), ?_⟩
        refine (callsIn_wide.2 (next_any f r (k + 1) _ z1 z2 z3 (by omega))).mono ?_
        rintro e w4 ⟨rfl, hb4⟩
        have HJ4 := Lib.hid (HST.out _ _ _ HJ3.out hb4)
        rw [HV1.out]
        clear hb4 b0 b1
        gi_wp2_with fail
        go_roundw
        case rel => exact ⟨k + 1, x1, y1, rfl, rfl, HJ4, HD1⟩
        case measure =>
          rcases HD1.out with ⟨_, _, h3⟩ | ⟨h2, h3⟩
          · subst h3; simp [okOf, intOf]; omega
          · have := (findFrom_ge h2).1
            subst h3; simp [okOf, intOf]; omega
      · have HX := Lib.hid hJx3
        clear hJx3 hy
        gi_wp2_with fail
        go_end0
        exact ⟨⟨_, rfl⟩, .inr HX.out⟩
/-- how a round's body over the hours may be left -/
def roundEnds (B : Nat) (I : Nat → World → Prop) (Ix : Code → World → Prop) (k : Nat) (W : World) : Exit → Act → World → Prop
  | .normal, _, W' => KeepsFrom B W W' ∧ I (k + 1) W'
  | .ret, _, W' => KeepsFrom B W W' ∧ Ix .ret W'
  | .exit id, _, W' => KeepsFrom B W W' ∧ Ix (.exit id) W'
  | _, _, _ => False

/-- a fact on worlds that outlives new blocks, and what happens to blocks from B on that are no cells -/
def Lasts (B : Nat) (I : World → Prop) : Prop :=
  ∀ W W' row, I W → W.grownBy W' row → (∀ r, row = some r → B ≤ r ∧ ∃ o : Obj, W.heap[r]? = some o ∧ o.isCells = false) → I W'
theorem Lasts.put {B : Nat} {I : World → Prop} (h : Lasts B I) {W : World} {l : Nat} {o : Obj} (o' : Obj) (hi : I W) (hB : B ≤ l) (hl : W.heap[l]? = some o) (ho : o.isCells = false) : I (W.putObj l o') :=
  h W _ (some l) hi (grownBy_putObj' W l o') (fun r e => by cases e; exact ⟨hB, o, hl, ho⟩)
theorem Lasts.grow {B : Nat} {I : World → Prop} (h : Lasts B I) {W W' : World} (hi : I W) (hb : Below W.heap.size W W') : I W' :=
  h W W' none hi ⟨hb.os, hb.tape, hb.output, hb.size, fun k hk _ => hb.block k hk⟩ (fun r e => by cases e)
theorem Lasts.and {B : Nat} {I I' : World → Prop} (h : Lasts B I) (h' : Lasts B I') : Lasts B (fun W => I W ∧ I' W) := fun W W' row hi hg hr => ⟨h W W' row hi.1 hg hr, h' W W' row hi.2 hg hr⟩
theorem lasts_pure (B : Nat) (p : Prop) : Lasts B (fun _ => p) := fun _ _ _ hi _ _ => hi
theorem lasts_below (B n₀ : Nat) (w : World) (hB : n₀ ≤ B) (hw : n₀ ≤ w.heap.size) : Lasts B (fun W => Below n₀ w W) := fun _ _ _ hi hg hr =>
  hi.grown hg (Nat.le_trans hw hi.size) (fun k e => Nat.le_trans hB (hr k e).1)
theorem lasts_row (B g : Nat) (E : TypeId) (vs : List Value) : Lasts B (fun W => Row W g E vs) := fun W W' row hi hg hr => by
  show W'.heap[g]? = _
  rw [hg.block g (Row.lt hi) (fun e => by
    obtain ⟨_, o, ho, hc⟩ := hr g e.symm
    rw [show W.heap[g]? = _ from hi] at ho; cases ho; cases hc)]
  exact hi
theorem lasts_cell (B : Nat) (a : Addr) (v : Value) : Lasts B (fun W => W.cell? a = some v) := fun _ _ _ hi hg hr => cell_kept hi hg (fun r e => (hr r e).2)

theorem below_put {B l : Nat} {w W : World} {o : Obj} (h : Below B w W) (hl : B ≤ l) (hw : W.heap[l]? = some o) (o' : Obj) : Below B w (W.putObj l o') :=
  h.grown (row := some l) (grownBy_putObj' W l o') (Nat.le_of_lt (Nat.lt_of_le_of_lt hl (Array.getElem?_eq_some_iff.1 hw).1)) (fun k e => by cases e; exact hl)

theorem enters95 (args : Array Value) (w : World) : (callFunc 95 args).run Try.prog w = .ok (.enter 95 args) w := by kernel_rfl

theorem range_hours {g : Operand} {p : Tmp} {assign body : Code} {Q : Exit → Act → World → Prop} {a : Act} {w : World} (n Bt Bf : Nat) (f r : ByteArray) (E h0 : Nat)
    (hg : a.eval g = .func (.func 95) #[] #[.pointer (some ⟨Bt, 0, none⟩), .pointer (some ⟨Bf, 0, none⟩)])
    (z1 : f.size ≤ 60) (z2 : r.size ≤ 60) (z3 : 1 ≤ r.size) (hE : E ≤ 1100000000)
    (I : Nat → World → Prop) (Ix : Code → World → Prop) (hI : ∀ h, Lasts w.heap.size (I h)) (hIx : ∀ c, Lasts w.heap.size (Ix c))
    (hc : ∀ h W, I h W → W.cell? ⟨Bt, 0, none⟩ = some (.string f) ∧ W.cell? ⟨Bt, 1, none⟩ = some (.string r))
    (hbd : ∀ h W, I h W → h ≤ E) (hBf : w.cell? ⟨Bf, 0, none⟩ = some (.int .i64 h0)) (hi0 : I h0 w) (a₁ : Nat → Act)
    (hassign : ∀ (l k : Nat) (W : World) (K : Act → World → Prop), K (a₁ k) W →
      assign.wpIn (Fence.wide.inRound l) (n - 1 - 1) Try.prog (Exit.then K (fun _ _ _ => False)) { tmps := a.tmps.setIfInBounds p (.int .i64 (k : Int)), defers := [] } W)
    (hbody : ∀ (l h k : Nat) (W : World), I h W → nextO f r h = some k → body.wpIn (Fence.wide.inRound l) (n - 1 - 1) Try.prog (roundEnds w.heap.size I Ix k W) (a₁ k) W)
    (hdone : ∀ (D h : Nat) (W : World), w.heap.size ≤ D → nextO f r h = none → I h W → W.heap[D]? = some (.deferred (some [])) → Q .normal { a with defers := { target := .collected D, args := #[] } :: a.defers } W)
    (hstop : ∀ (D : Nat) (c : Code) (W : World), w.heap.size ≤ D → Ix c W → W.heap[D]? = some (.deferred (some [])) → c.wpIn Fence.wide n Try.prog Q { a with defers := { target := .collected D, args := #[] } :: a.defers } W) :
    (Code.rangeFunc g #[p] assign body).wpIn Fence.wide n Try.prog Q a w := by
  refine wpIn_rangeFunc (fun fn _ => ?_)
  obtain ⟨L, hL⟩ : ∃ L : LoopState → Option Code → Loop, L = fun st pe => { state := st, pending := pe, fn, tmps := a.tmps, params := #[p], assign, body, defers := w.heap.size } := ⟨_, rfl⟩
  obtain ⟨V, hV⟩ : ∃ V, V = (w.alloc (.deferred (some []))).alloc (.loop (L .ready none)) := ⟨_, rfl⟩
  have vl : V.heap[w.heap.size + 1]? = some (.loop (L .ready none)) := by
    have := World.alloc_heap_new (w.alloc (.deferred (some []))) (.loop (L .ready none))
    rw [World.size_alloc] at this; rw [hV]; exact this
  have vd : V.heap[w.heap.size]? = some (.deferred (some [])) := by
    rw [hV]; exact (Below.heap_alloc _ _ _ (by simp)).trans (World.alloc_heap_new w _)
  have wV : Below w.heap.size w V := by rw [hV]; exact ((Below.refl _ _).alloc (Nat.le_refl _) _).alloc (by simp) _
  have iV : I h0 V := (hI h0).grow hi0 wV
  have hrun := run_enterLoop_outer (P := Try.prog) (w := w) fn a.tmps #[p] assign body
  refine ⟨w.heap.size + 1, [{ target := .collected w.heap.size, args := #[] }], V, { target := .fn (.func 95) #[.pointer (some ⟨Bt, 0, none⟩), .pointer (some ⟨Bf, 0, none⟩)], args := #[.func (.yield (w.heap.size + 1)) #[] #[]] }, V, 95,
    #[.func (.yield (w.heap.size + 1)) #[] #[], .pointer (some ⟨Bt, 0, none⟩), .pointer (some ⟨Bf, 0, none⟩)], V, ?_, ?_, (fun _ _ => trivial), ?_, (fun h => by cases h), ?_⟩
  · rw [hV, hL]; exact hrun
  · simp only [resolve, hg]
    simp [go_sem]
  · simp [invoke, go_sem]
  · -- the record and the block for the rounds' deferred calls lie as they lay, beside the caller's own word
    have keep : ∀ {W W' : World} {k : Nat} {o : Obj}, W.heap[k]? = some o → Below W.heap.size W W' → W'.heap[k]? = some o := fun ho hb =>
      (hb.block _ (Array.getElem?_eq_some_iff.1 ho).1).trans ho
    have hcall := hours1_run (n - 1) (w.heap.size + 1) Bt Bf f r E z1 z2 z3 hE
      (fun h W => I h W ∧ W.heap[w.heap.size + 1]? = some (.loop (L .ready none)) ∧ W.heap[w.heap.size]? = some (.deferred (some [])))
      (fun W => ∃ c, Ix c W ∧ W.heap[w.heap.size + 1]? = some (.loop (L .done (some c))) ∧ W.heap[w.heap.size]? = some (.deferred (some [])))
      (fun h W hw => hc h W hw.1) (fun h W W' hw hb => ⟨(hI h).grow hw.1 hb, keep hw.2.1 hb, keep hw.2.2 hb⟩) (fun h W hw => hbd h W hw.1) ?round h0 V ⟨iV, vl, vd⟩
      (below_at wV (block_lt_of_cell hBf) hBf)
    · refine hcall.mono ?_
      rintro e W2 ⟨⟨v, rfl⟩, (⟨h, hn, hi, hl, hk⟩ | ⟨c, hi, hl, hk⟩)⟩
      · have he := run_endLoop (P := Try.prog) hl (by rw [hL]; simp)
        rw [hL] at he
        exact ⟨none, _, he, hdone _ h _ (Nat.le_refl _) hn ((hI h).put _ hi (by omega) hl rfl) ((World.putObj_heap_other (by omega)).trans hk)⟩
      · have he := run_endLoop (P := Try.prog) hl (by rw [hL]; simp)
        rw [hL] at he
        exact ⟨some c, _, he, hstop _ c _ (Nat.le_refl _) ((hIx c).put _ hi (by omega) hl rfl) ((World.putObj_heap_other (by omega)).trans hk)⟩
    case round =>
      rintro h k W ⟨hi, hl, hk⟩ hn
      have hlt : w.heap.size + 1 < W.heap.size := (Array.getElem?_eq_some_iff.1 hl).1
      have hy := run_yield (P := Try.prog) (args := #[.int .i64 (k : Int)]) hl (by rw [hL]; rfl)
      rw [hL] at hy
      have hy2 : (Instr.yield (w.heap.size + 1) #[.int .i64 (k : Int)]).run Try.prog W = .ok (.round (w.heap.size + 1) fn (a.tmps.setIfInBounds p (.int .i64 (k : Int))) assign body) W := by
        rw [hy]; simp
      refine ⟨fn, _, assign, body, hy2, roundIn_of_wpIn trivial (hassign _ k W _ ⟨_, run_beginRound hl (by rw [hL]), ?_⟩)⟩
      have hl2 : (W.putObj (w.heap.size + 1) (.loop { L .ready none with state := .busy })).heap[w.heap.size + 1]? = some (.loop { L .ready none with state := .busy }) := World.putObj_heap_same hlt
      have hk2 : (W.putObj (w.heap.size + 1) (.loop { L .ready none with state := .busy })).heap[w.heap.size]? = some (.deferred (some [])) := (World.putObj_heap_other (by omega)).trans hk
      refine wpIn_mono (hbody _ h k _ ((hI h).put _ hi (by omega) hl rfl) hn) ?_
      have ends : ∀ (jump : Option Code) (W3 : World), KeepsFrom w.heap.size (W.putObj (w.heap.size + 1) (.loop { L .ready none with state := .busy })) W3 →
          ∃ W4 : World, W4 = W3.putObj (w.heap.size + 1) (.loop (L (if jump.isNone then .ready else .done) jump)) ∧ (Instr.endRound (w.heap.size + 1) jump).run Try.prog W3 = .ok (.bool jump.isNone) W4 ∧
          (∃ o : Obj, W3.heap[w.heap.size + 1]? = some o ∧ o.isCells = false) ∧
          W4.heap[w.heap.size + 1]? = some (.loop (L (if jump.isNone then .ready else .done) jump)) ∧ W4.heap[w.heap.size]? = some (.deferred (some [])) := fun jump W3 hk3 => by
        have hl3 := hk3.same _ _ (by omega) hl2 rfl
        have hr := run_endRound (P := Try.prog) jump hl3
        rw [hL] at hr hl3 ⊢
        refine ⟨_, rfl, hr, ⟨_, hl3, rfl⟩, ?_, ?_⟩
        · exact World.putObj_heap_same (Array.getElem?_eq_some_iff.1 hl3).1
        · exact (World.putObj_heap_other (by omega)).trans (hk3.same _ _ (Nat.le_refl _) hk2 rfl)
      rintro e a3 W3 hp
      cases e with
      | normal =>
        obtain ⟨W4, hW4, hr, ⟨o, ho, hoc⟩, hl4, hk4⟩ := ends none W3 hp.1
        exact ⟨_, _, hr, .inl ⟨rfl, by rw [hW4]; exact (hI (k + 1)).put _ hp.2 (by omega) ho hoc, hl4, hk4⟩⟩
      | ret =>
        obtain ⟨W4, hW4, hr, ⟨o, ho, hoc⟩, hl4, hk4⟩ := ends (some .ret) W3 hp.1
        exact ⟨_, _, hr, .inr ⟨rfl, .ret, by rw [hW4]; exact (hIx .ret).put _ hp.2 (by omega) ho hoc, hl4, hk4⟩⟩
      | exit id =>
        obtain ⟨W4, hW4, hr, ⟨o, ho, hoc⟩, hl4, hk4⟩ := ends (some (.exit id)) W3 hp.1
        exact ⟨_, _, hr, .inr ⟨rfl, .exit id, by rw [hW4]; exact (hIx (.exit id)).put _ hp.2 (by omega) ho hoc, hl4, hk4⟩⟩
      | goto t => exact hp.elim
      | panic ch => exact hp.elim
      | outgrown => exact hp.elim
end Go.Proofs.Ytbhlddfjfcmncaa
