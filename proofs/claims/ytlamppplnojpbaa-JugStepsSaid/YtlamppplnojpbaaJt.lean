import Derived.Test.YtlamppplnojpbaaJs
import Derived.Laws.AppendOwn
import Derived.Maps.OwnIn
import Derived.Maps.AppendAt
import Derived.RangeFuncNested
import Derived.RangeFuncBound
import Derived.RangeFuncCalls
import Derived.RangeFuncLeaves
import Derived.Shelf.Abstract
import Derived.Shelf.RegionOpen
import Derived.WalkKit
import Derived.WalkMore
import Derived.OwnWalkIn
import Derived.TacticsInMore
import Derived.LoopNIn
import Derived.LoopIn
import Derived.WalkSpells
import Derived.WalkLawsBesides
import Derived.BigQuiet
import Derived.Deep.QuietTactic
import Derived.Lib.Hide
import Derived.Deep.RegionHeld3
import Derived.StillTailTactics
import Derived.Deep.LoopGhost
import Derived.Maps.OwnSet
import Derived.Lib.IndexAny
import Derived.Sort.QuietThIn
import Derived.Sort.QuietTacIn
import Derived.Sort.BigQuietIn
namespace Go.Proofs.Ytlamppplnojpbaa
open Go.RowKit Go.Shelf
attribute [local go_sem] Oper.semAt_some
set_option maxRecDepth 100000 in
set_option maxHeartbeats 400000 in
theorem reverse_nil (a : Option Addr) (c : Nat) (w : World) : Calls Try.prog 73 #[.slice a 0 c] w fun e w' => (∃ v, e = .returned v) ∧ w' = w := by
  go_enter Try.func73, Try.ntmps73
  go_wp2_with fail
  go_loopw [2, 3] (fun i jv wr => i = .int .i64 0 ∧ jv = .int .i64 (-1) ∧ wr = w) (fun _ _ _ => 0)
  case atStart => exact ⟨rfl, rfl, rfl⟩
  case round =>
    obtain ⟨rfl, rfl, rfl⟩ := hrel
    have hd : decide ((0 : Int) < -1) = false := by decide
    go_wp2_with fail
    go_end0
    exact ⟨⟨_, rfl⟩, rfl⟩
set_option maxRecDepth 100000 in
set_option maxHeartbeats 400000 in
theorem collect_any (r b : Nat) (A : Sn) (g0 g1 g2 g3 : Int) (ok : Bool) (hgf : Fok [g0, g1, g2, g3]) (n : Nat) (hn : n ≤ 1000000) (hG : GoodT n A (cmOf A [g0, g1, g2, g3])) (w : World)
    (rr : Row w r 89 [.map (some b), .int .i64 g0, .int .i64 g1, .int .i64 g2, .int .i64 g3, .bool ok]) (hs : SeenAt w b A.length (seenV A)) :
    Calls Try.prog 72 #[.func (.func 71) #[] #[.pointer (some ⟨r, 0, none⟩)]] w fun e w' => ∃ v, e = .returned v ∧ OwnP w' w.heap.size v (trc n A (cmOf A [g0, g1, g2, g3])) ∧ Below w.heap.size w w' := by
  have H := Lib.hid (appseq_any r b A g0 g1 g2 g3 ok hgf n hn hG w rr hs)
  clear hgf hn hG rr hs
  go_enter Try.func72, Try.ntmps72
  go_wp2_with fail
  refine H.out.mono ?_
  rintro e w1 ⟨v, rfl, ho, hb⟩
  have HO := Lib.hid ho
  have HB := Lib.hid hb
  clear H ho hb
  go_wp2_with fail
  go_ret
  refine ⟨_, rfl, ?_, HB.out⟩
  have h := HO.out
  rw [flatP_flat] at h
  show World.ownsRow _ _ _ _ _ _ _
  rw [trc_len]
  exact h
set_option maxRecDepth 100000 in
set_option maxHeartbeats 400000 in
theorem foundway_any (b : Nat) (A : Sn) (g0 g1 g2 g3 : Int) (ok : Bool) (hgf : Fok [g0, g1, g2, g3]) (n : Nat) (hn : n ≤ 1000000) (hG : ok = true → GoodT n A (cmOf A [g0, g1, g2, g3])) (w : World) (hs : SeenAt w b A.length (seenV A)) :
    Calls Try.prog 59 #[.agg #[.map (some b), .int .i64 g0, .int .i64 g1, .int .i64 g2, .int .i64 g3, .bool ok]] w fun e w' => ∃ v, e = .returned (.tuple #[v, .bool ok]) ∧ OwnP w' w.heap.size v (if ok = true then (trc n A (cmOf A [g0, g1, g2, g3])).reverse else []) ∧ Below w.heap.size w w' := by
  have b0 := (Below.refl w.heap.size w).alloc (Nat.le_refl _) (.cells #[.map (some b), .int .i64 g0, .int .i64 g1, .int .i64 g2, .int .i64 g3, .bool ok] 89)
  have r0 := Row.new w 89 [.map (some b), .int .i64 g0, .int .i64 g1, .int .i64 g2, .int .i64 g3, .bool ok]
  have z0 := size_al w (.cells #[.map (some b), .int .i64 g0, .int .i64 g1, .int .i64 g2, .int .i64 g3, .bool ok] 89)
  have hs0 := hs.grow b0
  have c5 : (w.alloc (.cells #[.map (some b), .int .i64 g0, .int .i64 g1, .int .i64 g2, .int .i64 g3, .bool ok] 89)).cell? ⟨w.heap.size, 5, none⟩ = some (.bool ok) := r0.cell 5
  have B0 := Lib.hid b0
  have R0 := Lib.hid r0
  have Z0 := Lib.hid z0
  have S0 := Lib.hid hs0
  have HG := Lib.hid hG
  clear b0 r0 z0 hs0 hG hs
  cases ok with
  | false =>
    go_enter Try.func59, Try.ntmps59
    go_wp2_with fail
    go_ret2
    exact ⟨_, rfl, World.ownsRow_nil _ _ _ _, B0.out⟩
  | true =>
    go_enter Try.func59, Try.ntmps59
    go_wp2_with fail
    refine (collect_any w.heap.size b A g0 g1 g2 g3 true hgf n hn (HG.out trivial) _ R0.out S0.out).mono ?_
    rintro e w1 ⟨v, rfl, ho, hb⟩
    rw [Z0.out] at ho hb
    have HO := Lib.hid ho
    have HB := Lib.hid hb
    clear ho hb
    go_wp2_with fail
    have hB2 : ∀ w2, Below (w.heap.size + 1) w1 w2 → Below w.heap.size w w2 := fun w2 h => Below.trans B0.out (Below.mono (Below.trans HB.out h) (Nat.le_succ _))
    by_cases h1 : (trc n A (cmOf A [g0, g1, g2, g3])).length = 0
    · have hnil : trc n A (cmOf A [g0, g1, g2, g3]) = [] := List.eq_nil_of_length_eq_zero h1
      obtain ⟨a, c, rfl, _⟩ := OwnP.open HO.out
      rw [h1]
      refine (reverse_nil a c _).mono ?_
      rintro e w2 ⟨⟨_, rfl⟩, rfl⟩
      have HB2 := Lib.hid (hB2 w2 (Below.refl _ _))
      have HN := Lib.hid hnil
      have H1 := Lib.hid h1
      clear hB2 hnil h1
      go_wp2_with fail
      go_ret2
      refine ⟨.slice a 0 c, rfl, ?_, HB2.out⟩
      have h := HO.out
      rw [H1.out, HN.out] at h
      rw [HN.out]
      exact owns_mono h (Nat.le_succ _)
    · rcases HO.out.2 with ⟨_, hn0⟩ | ⟨g, c, cur, hv, hrest⟩
      · exact absurd hn0 h1
      · subst hv
        have hr := reverse_any (trc n A (cmOf A [g0, g1, g2, g3])) g c (w.heap.size + 1) w1 HO.out (by have := HB.out.size; rw [Z0.out] at this; exact this) (by omega) (by rw [trc_len]; omega)
        refine hr.mono ?_
        rintro e w2 ⟨⟨_, rfl⟩, ho2, hb2, _⟩
        have HO2 := Lib.hid ho2
        have HB2 := Lib.hid (hB2 w2 hb2)
        clear ho2 hb2 hrest hr hB2
        go_wp2_with fail
        go_ret2
        refine ⟨.slice (some ⟨g, 0, none⟩) (trc n A (cmOf A [g0, g1, g2, g3])).length c, rfl, ?_, HB2.out⟩
        have h := owns_mono HO2.out (Nat.le_succ _)
        show World.ownsRow _ _ _ _ _ _ _
        rw [List.length_reverse] at h ⊢
        exact h
end Go.Proofs.Ytlamppplnojpbaa
