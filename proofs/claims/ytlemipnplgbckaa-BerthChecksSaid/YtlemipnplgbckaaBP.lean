import Derived.Test.YtlemipnplgbckaaBO
import Derived.Laws.AppendOwn
import Derived.ChangeKeysEq
import Derived.Maps.RangeWalk
import Derived.Maps.OwnIn
import Derived.Maps.AppendAt
import Derived.RangeFuncNested
import Derived.RangeFuncBound
import Derived.RangeFuncCalls
import Derived.RangeFuncLeaves
import Derived.Shelf.Abstract
import Derived.Shelf.RegionOpen
import Derived.WalkKit
import Derived.WalkMore
import Derived.OwnWalkIn
import Derived.TacticsInMore
import Derived.LoopNIn
import Derived.LoopIn
import Derived.WalkSpells
import Derived.WalkLawsBesides
import Derived.BigQuiet
import Derived.Deep.QuietTactic
import Derived.Lib.Hide
import Derived.Deep.RegionHeld3
import Derived.StillTailTactics
import Derived.Deep.LoopGhost
import Derived.Maps.OwnSet
import Derived.Lib.IndexAny
import Derived.Sort.QuietThIn
import Derived.Sort.QuietTacIn
import Derived.Sort.BigQuietIn
import Derived.Laws.OwnMore
import Derived.DeepKeys4
import Derived.Maps.Views
import Derived.Maps.OwnOps
import Derived.Laws.OwnMore
import Derived.Deep.DeepCutAuto
import Derived.ChangeKeysEq
namespace Go.Proofs.Ytlemipnplgbckaa
open Go.RowKit Go.Shelf
attribute [local go_sem] Oper.semAt_some
theorem yield_any {m m' l : Nat} {P : Program} {args : Array Value} {W : World} {R : Ending → World → Prop} (h : YieldAt Fence.wide m P l args W R) : YieldAt Fence.wide m' P l args W R := by
  obtain ⟨fn, t, s, b, hy, hF, hr⟩ := h
  exact ⟨fn, t, s, b, hy, hF, fun c cs _ => hr c cs (room_wide _)⟩
theorem yield_mono {m l : Nat} {P : Program} {args : Array Value} {W : World} {R R' : Ending → World → Prop} (h : YieldAt Fence.wide m P l args W R) (hr : ∀ e w, R e w → R' e w) : YieldAt Fence.wide m P l args W R' := by
  obtain ⟨fn, t, s, b, hy, hR⟩ := h
  exact ⟨fn, t, s, b, hy, hR.mono hr⟩
theorem calls_any {n n' : Nat} {P : Program} {f : FuncId} {args : Array Value} {W : World} {R : Ending → World → Prop} (h : CallsIn Fence.wide n P f args W R) : CallsIn Fence.wide n' P f args W R :=
  ⟨h.1, fun cs _ => h.2 cs (room_wide _)⟩
/-- what an iterator may have laid: boxes of ints, of pairs, of functions -/
def isIt : Obj → Bool
  | .cells _ T _ => T == 3 || T == 28 || T == 116
  | _ => false
/-- the iterators' boxes from B on lie as they lay -/
def KeepsI (B : Nat) (W W' : World) : Prop := ∀ (k : Nat) (o : Obj), B ≤ k → W.heap[k]? = some o → isIt o = true → W'.heap[k]? = some o
theorem KeepsI.refl (B : Nat) (W : World) : KeepsI B W W := fun _ _ _ h _ => h
theorem KeepsI.trans {B : Nat} {X Y Z : World} (h : KeepsI B X Y) (k : KeepsI B Y Z) : KeepsI B X Z := fun i o hB hi ho => k i o hB (h i o hB hi ho) ho
theorem KeepsI.less {B B' : Nat} {X Y : World} (h : KeepsI B X Y) (hB : B ≤ B') : KeepsI B' X Y := fun i o hi h1 ho => h i o (by omega) h1 ho
theorem KeepsI.of_below {B : Nat} {X Y : World} (h : Below X.heap.size X Y) : KeepsI B X Y := fun i _ _ hi _ => (h.block i (Array.getElem?_eq_some_iff.1 hi).1).trans hi
theorem KeepsI.of_grown {B : Nat} {X Y : World} {row : Option Nat} (hg : X.grownBy Y row) (hr : ∀ r, row = some r → B ≤ r → ∃ o, X.heap[r]? = some o ∧ isIt o = false) : KeepsI B X Y := fun i o hB hi ho =>
  (hg.block i (Array.getElem?_eq_some_iff.1 hi).1 (fun e => by
    obtain ⟨o', h1, h2⟩ := hr i e.symm hB
    rw [hi] at h1; cases h1; rw [ho] at h2; cases h2)).trans hi
theorem KeepsI.put {B l : Nat} {W : World} {o o' : Obj} (hl : W.heap[l]? = some o) (ho : isIt o = false) : KeepsI B W (W.putObj l o') := fun i q _ hi hq => by
  by_cases e : i = l
  · subst e; rw [hl] at hi; cases hi; rw [hq] at ho; cases ho
  · exact (World.putObj_heap_other e).trans hi
theorem KeepsI.row {B b : Nat} {X Y : World} {E : TypeId} {vs : List Value} (h : KeepsI B X Y) (hB : B ≤ b) (hE : (E == 3 || E == 28 || E == 116) = true) (r : Row X b E vs) : Row Y b E vs := h b _ hB r hE
theorem lasts_block {B k : Nat} {o : Obj} (hk : k < B) : Lasts B (fun W => W.heap[k]? = some o) := fun _ _ _ hi hg hr =>
  (hg.block k (Array.getElem?_eq_some_iff.1 hi).1 (fun e => by have := (hr k e.symm).1; omega)).trans hi
theorem kf_below (B : Nat) {X Y : World} (h : Below X.heap.size X Y) : KeepsFrom B X Y := ⟨h.size, fun k _ _ hk _ => (h.block k (Array.getElem?_eq_some_iff.1 hk).1).trans hk⟩
theorem kf_less {B B' : Nat} {X Y : World} (h : KeepsFrom B X Y) (hB : B ≤ B') : KeepsFrom B' X Y := ⟨h.size, fun k o hk => h.same k o (by omega)⟩
theorem kf_put {B l : Nat} (W : World) (o : Obj) (hl : l < B) : KeepsFrom B W (W.putObj l o) := ⟨by simp, fun k _ hk hi _ => (World.putObj_heap_other (by omega)).trans hi⟩
/-- **an iterator that gives the elements of a list, one after the other** -/
def SeqL {α : Type} (g : Nat) (lb : Array Value) (enc : α → Value) (B : Nat) (all : List α) (w : World) : Prop :=
  ∀ (l : Nat) (J Jx : List α → World → Prop) (W : World), Below w.heap.size w W → (∀ s, Lasts W.heap.size (J s)) → (∀ s, Lasts W.heap.size (Jx s)) →
    (∀ pre x W1, pre ++ [x] <+: all → J pre W1 → YieldAt Fence.wide 1 Try.prog l #[enc x] W1 fun e W' =>
      (e = .returned (.bool true) ∧ J (pre ++ [x]) W' ∧ KeepsI B W1 W' ∧ KeepsFrom W.heap.size W1 W') ∨ (e = .returned (.bool false) ∧ Jx (pre ++ [x]) W' ∧ KeepsFrom W.heap.size W1 W')) →
    J [] W →
    CallsIn Fence.wide 1 Try.prog g (#[.func (.yield l) #[] #[]] ++ lb) W fun e W' => (∃ v, e = .returned v) ∧ (J all W' ∨ ∃ pre, pre <+: all ∧ Jx pre W')
/-- how a round's body may be left -/
def endsL {α : Type} (D B : Nat) (I : List α → World → Prop) (Ix : Code → List α → World → Prop) (xs : List α) (W : World) : Exit → Act → World → Prop
  | .normal, _, W' => KeepsFrom D W W' ∧ KeepsI B W W' ∧ I xs W'
  | .ret, _, W' => KeepsFrom D W W' ∧ Ix .ret xs W'
  | .exit id, _, W' => KeepsFrom D W W' ∧ Ix (.exit id) xs W'
  | _, _, _ => False
set_option maxHeartbeats 1000000 in
/-- **a range over such an iterator** -/
theorem range_list {α : Type} {g : Operand} {p0 : Tmp} {assign body : Code} {Q : Exit → Act → World → Prop} {a : Act} {w : World} {n : Nat} {gf : Nat} {lb : Array Value} {enc : α → Value} {B : Nat} {all : List α}
    (hseq : SeqL gf lb enc B all w) (hg : a.eval g = .func (.func gf) #[] lb) (eg : ∀ args w, (callFunc gf args).run Try.prog w = .ok (.enter gf args) w)
    (I : List α → World → Prop) (Ix : Code → List α → World → Prop) (hI : ∀ s, Lasts w.heap.size (I s)) (hIx : ∀ c s, Lasts w.heap.size (Ix c s)) (h0 : I [] w)
    (R : α → Act → World → Prop) (hR : ∀ x a', Lasts w.heap.size (R x a'))
    (hassign : ∀ (l : Nat) (x : α) (W : World) (K : Act → World → Prop), w.heap.size ≤ W.heap.size → (∀ a' W', R x a' W' → Below W.heap.size W W' → K a' W') →
      assign.wpIn (Fence.wide.inRound l) 1 Try.prog (Exit.then K (fun _ _ _ => False)) { tmps := a.tmps.setIfInBounds p0 (enc x), defers := [] } W)
    (hbody : ∀ (l : Nat) (x : α) (pre : List α) (a' : Act) (W : World), pre ++ [x] <+: all → w.heap.size ≤ W.heap.size → I pre W → R x a' W →
      body.wpIn (Fence.wide.inRound l) 1 Try.prog (endsL w.heap.size B I Ix (pre ++ [x]) W) a' W)
    (hdone : ∀ (D : Nat) (W : World), w.heap.size ≤ D → I all W → W.heap[D]? = some (.deferred (some [])) → Q .normal { a with defers := { target := .collected D, args := #[] } :: a.defers } W)
    (hstop : ∀ (D : Nat) (c : Code) (pre : List α) (W : World), w.heap.size ≤ D → pre <+: all → Ix c pre W → W.heap[D]? = some (.deferred (some [])) → c.wpIn Fence.wide n Try.prog Q { a with defers := { target := .collected D, args := #[] } :: a.defers } W) :
    (Code.rangeFunc g #[p0] assign body).wpIn Fence.wide n Try.prog Q a w := by
  refine wpIn_rangeFunc fun fn hfn => ?_
  generalize hD : w.heap.size = D at hI hIx hR hassign hbody hdone hstop
  obtain ⟨lp, hlp⟩ : ∃ lp : LoopState → Option Code → Obj, lp = fun st pe => .loop { state := st, pending := pe, fn, tmps := a.tmps, params := #[p0], assign, body, defers := D } := ⟨_, rfl⟩
  have henter : (Instr.enterLoop fn a.tmps #[p0] assign body Fence.wide.round).run Try.prog w = .ok (D + 1, [{ target := .collected D, args := #[] }]) ((w.alloc (.deferred (some []))).alloc (lp .ready none)) := by
    rw [hlp, ← hD]; exact run_enterLoop_outer _ _ _ _ _
  have bel : Below w.heap.size w ((w.alloc (.deferred (some []))).alloc (lp .ready none)) := ((Below.refl _ w).alloc (Nat.le_refl _) _).alloc (by simp) _
  have hL : ((w.alloc (.deferred (some []))).alloc (lp .ready none)).heap[D + 1]? = some (lp .ready none) := by
    have h := World.alloc_heap_new (w.alloc (.deferred (some []))) (lp .ready none)
    rwa [World.size_alloc, hD] at h
  have hK : ((w.alloc (.deferred (some []))).alloc (lp .ready none)).heap[D]? = some (.deferred (some [])) := by
    rw [← hD]; exact (Below.heap_alloc _ _ _ (by simp)).trans (World.alloc_heap_new w _)
  have hs : ((w.alloc (.deferred (some []))).alloc (lp .ready none)).heap.size = D + 2 := by simp [hD]
  have hi0 : I [] ((w.alloc (.deferred (some []))).alloc (lp .ready none)) := (hI []).grow h0 bel
  generalize (w.alloc (.deferred (some []))).alloc (lp .ready none) = W1 at *
  have up : ∀ {X : World → Prop}, Lasts D X → Lasts W1.heap.size X := fun h W W' row hi hg hr => h W W' row hi hg (fun r e => ⟨by have := (hr r e).1; omega, (hr r e).2⟩)
  refine ⟨D + 1, _, W1, { target := .fn (.func gf) lb, args := #[.func (.yield (D + 1)) #[] #[]] }, W1, gf, _, W1, henter, ?_, ?_, ?_, fun h => by simp [Fence.wide] at h, calls_any ((hseq (D + 1)
    (fun pre W => D + 1 < W.heap.size ∧ I pre W ∧ W.heap[D + 1]? = some (lp .ready none) ∧ W.heap[D]? = some (.deferred (some [])))
    (fun pre W => ∃ c, D + 1 < W.heap.size ∧ Ix c pre W ∧ W.heap[D + 1]? = some (lp .done (some c)) ∧ W.heap[D]? = some (.deferred (some [])))
    W1 bel ?_ ?_ ?_ ⟨by omega, hi0, hL, hK⟩).mono ?_)⟩
  · simp only [resolve, hg]
    simp [go_sem]
  · exact fun _ _ => trivial
  · simp [invoke, go_sem, eg]
  · exact fun s => (lasts_size _ _).and ((up (hI s)).and ((lasts_block (by omega)).and (lasts_block (by omega))))
  · rintro s W W' row ⟨c, h⟩ hg hr
    exact ⟨c, ((lasts_size _ _).and ((up (hIx c s)).and ((lasts_block (by omega)).and (lasts_block (by omega))))) W W' row h hg hr⟩
  · rintro pre x W hpre ⟨hsz, hi, hl, hk⟩
    have hl' := hl
    rw [hlp] at hl'
    have hy := run_yield (P := Try.prog) (args := #[enc x]) hl' rfl
    have ht : (#[p0].zip #[enc x]).foldl (fun (t : Array Value) (x : Tmp × Value) => t.setIfInBounds x.1 x.2) a.tmps = a.tmps.setIfInBounds p0 (enc x) := by simp
    replace hy := hy.trans (congrArg (fun t => Result.ok (Next.round (D + 1) fn t assign body) W) ht)
    refine ⟨fn, _, assign, body, hy, roundIn_of_wpIn hfn ?_⟩
    clear hy ht
    refine hassign _ x W _ (by omega) fun a' V hRx hV => ?_
    replace hl := (hV.block (D + 1) hsz).trans hl
    replace hk := (hV.block D (by omega)).trans hk
    replace hi : I pre V := (hI pre).grow hi hV
    have hkV : KeepsI B W V := KeepsI.of_below hV
    have hsz2 : D + 1 < V.heap.size := by have := hV.size; omega
    have hl2 := hl
    rw [hlp] at hl2
    refine ⟨_, run_beginRound hl2 rfl, ?_⟩
    have hb := hbody (D + 1) x pre a' _ hpre (by simp; omega) ((hI pre).put (lp .busy none) hi (by omega) hl (by rw [hlp]; rfl)) ((hR x a').put (lp .busy none) hRx (by omega) hl (by rw [hlp]; rfl))
    rw [hlp] at hb
    refine wpIn_mono hb ?_
    have h2 : (V.putObj (D + 1) (lp .busy none)).heap[D + 1]? = some (lp .busy none) := World.putObj_heap_same hsz2
    have k2 : (V.putObj (D + 1) (lp .busy none)).heap[D]? = some (.deferred (some [])) := (World.putObj_heap_other (by omega)).trans hk
    have kp2 : KeepsI B V (V.putObj (D + 1) (lp .busy none)) := KeepsI.put hl (by rw [hlp]; rfl)
    have z2 : (V.putObj (D + 1) (lp .busy none)).heap.size = V.heap.size := by simp
    have hVs := hV.size
    have e2 : V.putObj (D + 1) (.loop { state := .busy, pending := none, fn, tmps := a.tmps, params := #[p0], assign, body, defers := D }) = V.putObj (D + 1) (lp .busy none) := by rw [hlp]
    intro e a3 W3 hp
    have kw2 : KeepsFrom W1.heap.size W (V.putObj (D + 1) (lp .busy none)) := (kf_below _ hV).trans (kf_put _ _ (by omega))
    have kw3 : KeepsFrom D (V.putObj (D + 1) (lp .busy none)) W3 → ∀ o, KeepsFrom W1.heap.size W (W3.putObj (D + 1) o) := fun h o => (kw2.trans (kf_less h (by omega))).trans (kf_put _ _ (by omega))
    have fin : ∀ jump : Option Code, KeepsFrom D (V.putObj (D + 1) (lp .busy none)) W3 →
        (Instr.endRound (D + 1) jump).run Try.prog W3 = .ok (.bool jump.isNone) (W3.putObj (D + 1) (lp (if jump.isNone then .ready else .done) jump)) ∧
        W3.heap[D + 1]? = some (lp .busy none) ∧ D + 1 < W3.heap.size ∧ W.heap.size ≤ W3.heap.size ∧
        (W3.putObj (D + 1) (lp (if jump.isNone then .ready else .done) jump)).heap[D + 1]? = some (lp (if jump.isNone then .ready else .done) jump) ∧
        (W3.putObj (D + 1) (lp (if jump.isNone then .ready else .done) jump)).heap[D]? = some (.deferred (some [])) := fun jump h3 => by
      have q := h3.same _ _ (by omega) h2 (by rw [hlp]; rfl)
      have q' := q
      rw [hlp] at q'
      have t := run_endRound (P := Try.prog) jump q'
      have lt : D + 1 < W3.heap.size := (Array.getElem?_eq_some_iff.1 q).1
      refine ⟨by rw [t, hlp], q, lt, by have := h3.size; omega, World.putObj_heap_same lt, (World.putObj_heap_other (by omega)).trans (h3.same _ _ (Nat.le_refl _) k2 rfl)⟩
    cases e with
    | normal =>
      obtain ⟨h3, p3, i3⟩ := hp
      rw [show (V.putObj (D + 1) (.loop { state := .busy, pending := none, fn, tmps := a.tmps, params := #[p0], assign, body, defers := D })) = _ from e2] at h3 p3
      obtain ⟨hr, q, lt, sz, l4, k4⟩ := fin none h3
      exact ⟨_, _, hr, .inl ⟨rfl, ⟨by simpa using lt, (hI _).put _ i3 (by omega) q (by rw [hlp]; rfl), l4, k4⟩, hkV.trans (kp2.trans (p3.trans (KeepsI.put q (by rw [hlp]; rfl)))), kw3 h3 _⟩⟩
    | ret =>
      obtain ⟨h3, i3⟩ := hp
      rw [show (V.putObj (D + 1) (.loop { state := .busy, pending := none, fn, tmps := a.tmps, params := #[p0], assign, body, defers := D })) = _ from e2] at h3
      obtain ⟨hr, q, lt, sz, l4, k4⟩ := fin (some .ret) h3
      exact ⟨_, _, hr, .inr ⟨rfl, ⟨.ret, by simpa using lt, (hIx _ _).put _ i3 (by omega) q (by rw [hlp]; rfl), l4, k4⟩, kw3 h3 _⟩⟩
    | exit id =>
      obtain ⟨h3, i3⟩ := hp
      rw [show (V.putObj (D + 1) (.loop { state := .busy, pending := none, fn, tmps := a.tmps, params := #[p0], assign, body, defers := D })) = _ from e2] at h3
      obtain ⟨hr, q, lt, sz, l4, k4⟩ := fin (some (.exit id)) h3
      exact ⟨_, _, hr, .inr ⟨rfl, ⟨.exit id, by simpa using lt, (hIx _ _).put _ i3 (by omega) q (by rw [hlp]; rfl), l4, k4⟩, kw3 h3 _⟩⟩
    | goto t => exact hp.elim
    | panic ch => exact hp.elim
    | outgrown => exact hp.elim
  · rintro e W2 ⟨⟨v, rfl⟩, ⟨hsz, hi, hl, hk⟩ | ⟨pre, hpre, c, hsz, hi, hl, hk⟩⟩
    · have hl' := hl
      rw [hlp] at hl'
      exact ⟨none, _, run_endLoop hl' (by simp), hdone D _ (Nat.le_refl _) ((hI _).put _ hi (by omega) hl (by rw [hlp]; rfl)) ((World.putObj_heap_other (by omega)).trans hk)⟩
    · have hl' := hl
      rw [hlp] at hl'
      exact ⟨some c, _, run_endLoop hl' (by simp), hstop D c pre _ (Nat.le_refl _) hpre ((hIx c pre).put _ hi (by omega) hl (by rw [hlp]; rfl)) ((World.putObj_heap_other (by omega)).trans hk)⟩
end Go.Proofs.Ytlemipnplgbckaa
