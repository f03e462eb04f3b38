import Derived.Test.YtbhlddfjfcmncaaZa
import Derived.Test.YtbhlddfjfcmncaaO
import Derived.Maps.OwnIn
import Derived.Maps.OwnSet
import Derived.RangeFuncNested
import Derived.RangeFuncBound
import Derived.RangeFuncCalls
import Derived.RangeFuncLeaves
import Derived.Shelf.Abstract
import Derived.Shelf.RegionOpen
import Derived.WalkKit
import Derived.OwnWalkIn
import Derived.TacticsInMore
import Derived.LoopNIn
import Derived.LoopIn
import Derived.WalkSpells
import Derived.WalkLawsBesides
import Derived.BigQuiet
import Derived.Deep.QuietTactic
import Derived.Lib.Hide
import Derived.Deep.RegionHeld3
import Derived.StillTailTactics
import Derived.Lib.MakeNoZero
import Derived.Laws.CopyOwn
import Derived.Deep.RegionLaw
import Derived.Deep.LoopGhost
import Derived.Deep.CutBlock
import Derived.Deep.DeepCutAuto
import Derived.Lib.IndexAny
namespace Go.Proofs.Ytbhlddfjfcmncaa
open Go.RowKit Go.Shelf
attribute [local go_sem] Oper.semAt_some
theorem results_cell76 {ts : Array Value} {w : World} {b : Nat} {v : Value} (h : ts[6]?.getD undef = .pointer (some ⟨b, 0, none⟩)) (hc : w.cell? ⟨b, 0, none⟩ = some v) :
    (results Try.f76 ts).run Try.prog w = .ok v w := by
  simp [results, Try.results76, go_sem, h, hc]
set_option maxRecDepth 100000 in
set_option maxHeartbeats 1000000 in
theorem nth_in (f r : ByteArray) (fr n k : Nat) (w : World) (z1 : f.size ≤ 60) (z2 : r.size ≤ 60) (z3 : 1 ≤ r.size) (hk : IsNth (hasB f r) fr n k) (hkb : k ≤ 1000000000) :
    CallsIn Fence.wide 9 Try.prog 76 #[.agg #[.string f, .string r], .int .i64 fr, .int .i64 n] w fun e w' => e = .returned (.int .i64 k) ∧ Below w.heap.size w w' := by
  have HKN := Lib.hid hk
  have hk1 := hk.1
  have hnb : n ≤ 1000000000 := by have := hk.2.2; have := cnt_le (hasB f r) fr (k - fr); omega
  clear hk
  refine callsIn_of_wp_marks Try.func76 rfl trivial ?_ rfl
  simp only [Try.ntmps76, List.size_toArray, List.length_cons, List.length_nil, Nat.reduceAdd, Nat.reduceSub, Array.replicate_succ, Array.replicate_zero, List.push_toArray, List.append_toArray, List.nil_append, List.cons_append]
  gi_wp2_with fail
  refine ⟨trivial, ?_⟩
  refine (callsIn_wide.2 (hours_any f r fr _)).mono ?_
  rintro e w4 ⟨rfl, rfl⟩
  obtain ⟨V, hV⟩ : ∃ V, V = ((((w.alloc (.cells #[.string f, .string r] 23)).alloc (.cells #[.int .i64 (n : Int)] 3)).alloc (.cells #[.int .i64 0] 3)).alloc (.cells #[.string f, .string r] 23)).alloc (.cells #[.int .i64 (fr : Int)] 3) := ⟨_, rfl⟩
  have VS : V.heap.size = w.heap.size + 5 := by rw [hV, size_al, size_al, size_al, size_al, size_al]
  have BV : Below w.heap.size w V := by
    rw [hV]; exact (((((Below.refl _ _).alloc (Nat.le_refl _) _).alloc (by rw [size_al]; omega) _).alloc (by rw [size_al, size_al]; omega) _).alloc (by rw [size_al, size_al, size_al]; omega) _).alloc (by rw [size_al, size_al, size_al, size_al]; omega) _
  have vt : V.cell? ⟨w.heap.size + 3, 0, none⟩ = some (.string f) ∧ V.cell? ⟨w.heap.size + 3, 1, none⟩ = some (.string r) := by
    rw [hV]; simp [cell_al]
  have vf : V.cell? ⟨w.heap.size + 4, 0, none⟩ = some (.int .i64 (fr : Int)) := by rw [hV]; simp [cell_al]
  have vn : Row V (w.heap.size + 1) 3 [.int .i64 (n : Int)] := by
    have := Row.new (w.alloc (.cells #[.string f, .string r] 23)) 3 [.int .i64 (n : Int)]
    rw [size_al] at this
    rw [hV]
    exact this.below (B := w.heap.size + 2) ((((Below.refl _ _).alloc (by rw [size_al, size_al]; omega) _).alloc (by rw [size_al, size_al, size_al]; omega) _).alloc (by rw [size_al, size_al, size_al, size_al]; omega) _) (by omega)
  have vr : Row V (w.heap.size + 2) 3 [.int .i64 0] := by
    have := Row.new ((w.alloc (.cells #[.string f, .string r] 23)).alloc (.cells #[.int .i64 (n : Int)] 3)) 3 [.int .i64 0]
    rw [size_al, size_al] at this
    rw [hV]
    exact this.below (B := w.heap.size + 3) (((Below.refl _ _).alloc (by rw [size_al, size_al, size_al]; omega) _).alloc (by rw [size_al, size_al, size_al, size_al]; omega) _) (by omega)
  have F := Lib.hid (And.intro VS (And.intro BV (And.intro vt (And.intro vf (And.intro vn vr)))))
  rw [← hV]
  clear hV VS BV vt vf vn vr
  gi_wp2_with fail
  refine range_hours_slot (q := 7) 9 (w.heap.size + 3) (w.heap.size + 4) f r k fr rfl z1 z2 z3 (by omega)
    (fun h W => (∃ m : Nat, Row W (w.heap.size + 1) 3 [.int .i64 (m : Int)] ∧ (fr ≤ h ∧ h ≤ k ∧ cnt (hasB f r) fr (h - fr) + m = n)) ∧ (Row W (w.heap.size + 2) 3 [.int .i64 0] ∧ ((W.cell? ⟨w.heap.size + 3, 0, none⟩ = some (.string f) ∧ W.cell? ⟨w.heap.size + 3, 1, none⟩ = some (.string r)) ∧ Below w.heap.size w W)))
    (fun c W => Row W (w.heap.size + 2) 3 [.int .i64 (k : Int)] ∧ (Below w.heap.size w W ∧ c = .ret))
    (fun h => ?hI) (fun c => ?hIx) ?hc ?hbd ?hBf ?hi0 ?hassign ?hbody ?hdone ?hstop
  case hI =>
    have := F.out.1
    exact (lasts_ex fun x => (lasts_row _ _ _ _).and (lasts_pure _ _)).and ((lasts_row _ _ _ _).and (((lasts_cell _ _ _).and (lasts_cell _ _ _)).and (lasts_below _ _ _ (by omega) (Nat.le_refl _))))
  case hIx =>
    have := F.out.1
    exact (lasts_row _ _ _ _).and ((lasts_below _ _ _ (by omega) (Nat.le_refl _)).and (lasts_pure _ _))
  case hc => exact fun h W hi => hi.2.2.1
  case hbd => rintro h W ⟨⟨m, _, h1, h2, _⟩, _⟩; exact h2
  case hBf => exact F.out.2.2.2.1
  case hi0 =>
    obtain ⟨VS, BV, vt, vf, vn, vr⟩ := F.out
    exact ⟨⟨n, vn, Nat.le_refl _, hk1, by rw [Nat.sub_self]; show 0 + n = n; omega⟩, vr, vt, BV⟩
  case hassign =>
    intro l k W K hK
    gi_wp2
    exact hK
  case hbody =>
    rintro l h j W ⟨⟨m, hm, h1, h2, h3⟩, hr, ht, hB⟩ hn
    simp only [List.setIfInBounds_toArray, List.set_cons_succ, List.set_cons_zero]
    have hj := findFrom_ge hn
    have hS := findFrom_some hn
    obtain ⟨g1, g2, g3, g4⟩ := HKN.out.next h1 h2 hj.1 hS.1 hS.2
    have VSz := F.out.1
    have cn := hm.cell 0
    have fn := hm.frozen 0
    have cr := hr.cell 0
    have fr' := hr.frozen 0
    simp only [List.getElem?_cons_zero] at cn cr
    have HB := Lib.hid hB
    have HR := Lib.hid hr
    have HM := Lib.hid hm
    have HT := Lib.hid ht
    clear hr hm hB ht hn hS
    by_cases hz : m = 0
    · have ejk := Lib.hid (g2 (by omega))
      have h30 := Lib.hid h3
      clear g1 g2 g3 g4 h3
      subst hz
      gi_wp2_with fail
      refine ⟨(KeepsOthers.setCell _ _ _).from _, ?_, ?_, rfl⟩
      · have := HR.out.set 0 (.int .i64 (j : Int)); rw [ejk.out] at this ⊢; exact this
      · exact below_set HB.out (by omega) 0 _
    · have hz1 : ((m : Int) == 0) = false := beq_eq_false_iff_ne.2 (by omega)
      obtain ⟨g5, g6⟩ := g4 (by omega)
      have hmb : m ≤ 1000000000 := by omega
      have hmp : 1 ≤ m := by omega
      have hm1 : Hid ((m : Int) - 1 = ((m - 1 : Nat) : Int)) := Lib.hid (by omega)
      have H6 := Lib.hid g6
      have H3 := Lib.hid h3
      clear g1 g2 g3 g4 g6 h3
      gi_wp2_with fail
      refine ⟨(KeepsOthers.setCell _ _ _).from _, ⟨m - 1, ?_, by omega, by omega, by have := H6.out; have := H3.out; omega⟩, ?_, ⟨?_, ?_⟩, ?_⟩
      · have := HM.out.set 0 (.int .i64 ((m : Int) - 1)); rw [hm1.out] at this ⊢; exact this
      · exact row_grown HR.out (grownBy_set (grownBy_refl W _) 0 _) (by omega)
      · exact grownBy_cell (grownBy_set (grownBy_refl W _) 0 _) HT.out.1 (by omega)
      · exact grownBy_cell (grownBy_set (grownBy_refl W _) 0 _) HT.out.2 (by omega)
      · exact below_set HB.out (by omega) 0 _
  case hdone =>
    rintro D h W hD hn ⟨⟨m, _, h1, h2, h3⟩, _⟩ _
    have := nextO_none_all z3 hn k h2
    rw [HKN.out.2.1] at this; cases this
  case hstop =>
    rintro D c W hD ⟨hrow, hB, rfl⟩ hK
    have cr := hrow.cell 0
    simp only [List.getElem?_cons_zero] at cr
    have HB := Lib.hid hB
    have HROW := Lib.hid hrow
    have HD := Lib.hid hD
    have HK := Lib.hid hK
    have VSz := F.out.1
    clear hB hD hK hrow
    gi_wp2_with fail
    refine ⟨by simp, .inl ⟨_, _, rfl, run_takeDeferred HK.out, ?_⟩⟩
    have hrow := (lasts_row V.heap.size (w.heap.size + 2) 3 [.int .i64 (k : Int)]).put (l := D) (.deferred none) HROW.out HD.out HK.out rfl
    exact ⟨_, results_cell76 rfl ((hrow.cell 0).trans rfl), rfl, below_put HB.out (by have := HD.out; omega) HK.out _⟩
end Go.Proofs.Ytbhlddfjfcmncaa
