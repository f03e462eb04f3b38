import Derived.Test.YtlamppplnojpbaaJi
import Derived.Laws.AppendOwn
import Derived.Maps.OwnIn
import Derived.Maps.AppendAt
import Derived.RangeFuncNested
import Derived.RangeFuncBound
import Derived.RangeFuncCalls
import Derived.RangeFuncLeaves
import Derived.Shelf.Abstract
import Derived.Shelf.RegionOpen
import Derived.WalkKit
import Derived.WalkMore
import Derived.OwnWalkIn
import Derived.TacticsInMore
import Derived.LoopNIn
import Derived.LoopIn
import Derived.WalkSpells
import Derived.WalkLawsBesides
import Derived.BigQuiet
import Derived.Deep.QuietTactic
import Derived.Lib.Hide
import Derived.Deep.RegionHeld3
import Derived.StillTailTactics
import Derived.Deep.LoopGhost
import Derived.Maps.OwnSet
import Derived.Lib.IndexAny
import Derived.Sort.QuietThIn
import Derived.Sort.QuietTacIn
import Derived.Sort.BigQuietIn
namespace Go.Proofs.Ytlamppplnojpbaa
open Go.RowKit Go.Shelf
attribute [local go_sem] Oper.semAt_some
/-- what stands in memory through the whole search: the start, the two functions, the result's place, the map and its variable -/
structure SrB (W : World) (N S : Nat) (F : List Int) (fd fg : Value) : Prop where
  r0 : Row W N 77 (F.map encI)
  r1 : Row W (N + 1) 86 [fd]
  r2 : Row W (N + 1 + 1) 91 [fg]
  r3 : Row W (N + 1 + 1 + 1) 89 [.map none, .int .i64 0, .int .i64 0, .int .i64 0, .int .i64 0, .bool false]
  rS : Row W S 74 [.map (some (N + 1 + 1 + 1 + 1))]
  hS : N + 1 + 1 + 1 + 1 + 1 ≤ S
theorem SrB.below {W W' : World} {N S B : Nat} {F : List Int} {fd fg : Value} (h : SrB W N S F fd fg) (hb : Below B W W') (hB : S < B) : SrB W' N S F fd fg := by
  have := h.hS
  exact ⟨h.r0.below hb (by omega), h.r1.below hb (by omega), h.r2.below hb (by omega), h.r3.below hb (by omega), h.rS.below hb hB, h.hS⟩
theorem search_start2 (w : World) (f0 f1 f2 f3 : Int) (hF : Fok [f0, f1, f2, f3]) (fd fg : Value) : ∃ V W1 S,
    (Instr.mapUpdate 74 (.map (some (w.heap.size + 1 + 1 + 1 + 1))) (.agg #[.int .i64 f0, .int .i64 f1, .int .i64 f2, .int .i64 f3]) (.agg #[.int .i64 0, .int .i64 0, .int .i64 0, .int .i64 0, .int .i64 0, .int .i64 0, .int .i64 0])).run Try.prog
      (((((w.alloc (.cells #[.int .i64 f0, .int .i64 f1, .int .i64 f2, .int .i64 f3] 77)).alloc (.cells #[fd] 86)).alloc (.cells #[fg] 91)).alloc (.cells #[.map none, .int .i64 0, .int .i64 0, .int .i64 0, .int .i64 0, .bool false] 89)).alloc (.map #[] 0)) = .ok () V ∧
    V.heap.size = S ∧ V.alloc (.cells #[.map (some (w.heap.size + 1 + 1 + 1 + 1))] 74) = W1 ∧ W1.heap.size = S + 1 ∧ SrB W1 w.heap.size S [f0, f1, f2, f3] fd fg ∧
    SeenAt W1 (w.heap.size + 1 + 1 + 1 + 1) 1 (seenV [([f0, f1, f2, f3], c0)]) ∧ Below w.heap.size w W1 := by
  obtain ⟨V, hr, hs, r0, r1, r2, r3, bw, zV⟩ := search_start w f0 f1 f2 f3 hF fd fg
  have hb := (Below.refl V.heap.size V).alloc (Nat.le_refl _) (.cells #[.map (some (w.heap.size + 1 + 1 + 1 + 1))] 74)
  refine ⟨V, _, _, hr, rfl, rfl, size_al _ _, ⟨r0.below hb (by omega), r1.below hb (by omega), r2.below hb (by omega), r3.below hb (by omega), Row.new _ _ _, zV⟩, ?_, Below.andThen bw hb (by omega)⟩
  rw [← seenV_cons, seenV_nil, c0_V]
  exact hs.grow hb
/-- marks of ranges that are over, each with a block of its own from B on -/
def Marks (B : Nat) (ds : List Deferred) (W : World) : Prop := ∃ Ds : List Nat, ds = Ds.map (fun D => { target := .collected D, args := #[] }) ∧ Ds.Nodup ∧ ∀ D ∈ Ds, B ≤ D ∧ W.heap[D]? = some (.deferred (some []))
theorem marks_nil (B : Nat) (W : World) : Marks B [] W := ⟨[], rfl, List.nodup_nil, fun D h => by cases h⟩
theorem Marks.cons {B D : Nat} {ds : List Deferred} {W W' : World} (h : Marks B ds W) (hs : W.heap.size ≤ D) (hB : B ≤ W.heap.size) (hk : ∀ D', B ≤ D' → W.heap[D']? = some (.deferred (some [])) → W'.heap[D']? = some (.deferred (some []))) (hD : W'.heap[D]? = some (.deferred (some []))) :
    Marks B ({ target := .collected D, args := #[] } :: ds) W' := by
  obtain ⟨Ds, rfl, hn, hm⟩ := h
  refine ⟨D :: Ds, rfl, List.nodup_cons.2 ⟨fun h => ?_, hn⟩, fun E hE => ?_⟩
  · have := (Array.getElem?_eq_some_iff.1 (hm D h).2).1
    omega
  · rcases List.mem_cons.1 hE with rfl | hE
    · exact ⟨Nat.le_trans hB hs, hD⟩
    · exact ⟨(hm E hE).1, hk E (hm E hE).1 (hm E hE).2⟩
theorem Marks.keeps {B : Nat} {ds : List Deferred} {W W' : World} (h : Marks B ds W) (hk : ∀ D', B ≤ D' → W.heap[D']? = some (.deferred (some [])) → W'.heap[D']? = some (.deferred (some []))) : Marks B ds W' := by
  obtain ⟨Ds, rfl, hn, hm⟩ := h
  exact ⟨Ds, rfl, hn, fun E hE => ⟨(hm E hE).1, hk E (hm E hE).1 (hm E hE).2⟩⟩
theorem Marks.below {B : Nat} {ds : List Deferred} {W W' : World} (h : Marks B ds W) (hb : Below W.heap.size W W') : Marks B ds W' :=
  h.keeps fun D _ hD => by rw [hb.block D (Array.getElem?_eq_some_iff.1 hD).1]; exact hD
/-- a function leaves by its marks -/
theorem leaves_marks {F : Fence} {n : Nat} {P : Program} {fn : Func} {tmps : Array Value} {R : Ending → World → Prop} {B : Nat} (I : World → Prop) (hI : Lasts B I)
    (hend : ∀ W, I W → LeavesIn F n P fn tmps R [] .returning W) : ∀ (ds : List Deferred) (W : World), Marks B ds W → I W → LeavesInM F n P fn tmps R ds .returning W := by
  rintro ds W ⟨Ds, rfl, hn, hm⟩ hi
  induction Ds generalizing W with
  | nil => exact hend W hi
  | cons D Ds ih =>
    obtain ⟨hnot, hn⟩ := List.nodup_cons.1 hn
    obtain ⟨hB, hD⟩ := hm D List.mem_cons_self
    refine ⟨by simp, .inl ⟨D, _, rfl, run_takeDeferred hD, ?_⟩⟩
    refine ih _ hn (fun E hE => ⟨(hm E (List.mem_cons_of_mem _ hE)).1, ?_⟩) (hI.put _ hi hB hD rfl)
    have hne : E ≠ D := fun e => hnot (by rw [← e]; exact hE)
    rw [World.putObj_heap_other (by first | exact hne | exact hne.symm)]
    exact (hm E (List.mem_cons_of_mem _ hE)).2
end Go.Proofs.Ytlamppplnojpbaa
